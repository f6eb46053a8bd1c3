/- A volume in new memory, of the program. Conditions: its texts are short. -/
import Derived.Test.YtmmckpjapnkepaaI0
import Derived.Test.YtmmckpjapnkepaaHT2
import Derived.Deep.RegionHeld3
namespace Go.Proofs.Ytmmckpjapnkepaa
open Go.RowKit Go.Sort

set_option maxRecDepth 100000 in
set_option maxHeartbeats 4000000 in
theorem shelfCopy_any (nm0 nm : ByteArray) (a : Option Addr) (cap : Nat) (xs : List ByteArray) (w : World) (hn : nm.size ≤ 1048576) (hl : xs.length ≤ 1000) (hp : 0 < xs.length) (hs : Hid (∀ j, j < xs.length → (xs.getD j ByteArray.empty).size ≤ 1000)) (hx : Hid (TxAt w a xs)) :
    Calls Try.prog 58 #[.agg #[.string nm0, .slice a xs.length cap], .string nm] w fun e w' => ∃ gx c, e = .returned (.agg #[.string nm, .slice (some ⟨gx, 0, none⟩) xs.length c]) ∧ OwnTx w' w.heap.size (.slice (some ⟨gx, 0, none⟩) xs.length c) xs ∧ Below w.heap.size w w' := by
  have HC := Lib.hid (fun W => cloneTx_any nm (by omega) W)
  have HT := Lib.hid (fun W (h : Below w.heap.size w W) => textsCopy_any a cap xs W hl hs (hx.out.below h))
  have hB : Below w.heap.size w ((w.alloc (.cells #[.string nm0, .slice a xs.length cap] 35)).alloc (.cells #[.string ⟨#[]⟩, .slice none 0 0] 35)) := ((Below.refl _ _).alloc (Nat.le_refl _) _).alloc (by simp) _
  have HB := Lib.hid hB
  have KB : Hid (Blk ((w.alloc (.cells #[.string nm0, .slice a xs.length cap] 35)).alloc (.cells #[.string ⟨#[]⟩, .slice none 0 0] 35)) w.heap.size #[.string nm0, .slice a xs.length cap] 35) :=
    (Blk.new w _ _).below ((Below.refl _ (w.alloc (.cells #[.string nm0, .slice a xs.length cap] 35))).alloc (Nat.le_refl _) _) (by simp)
  have KR : Hid (Blk ((w.alloc (.cells #[.string nm0, .slice a xs.length cap] 35)).alloc (.cells #[.string ⟨#[]⟩, .slice none 0 0] 35)) (w.heap.size + 1) #[.string ⟨#[]⟩, .slice none 0 0] 35) := by
    have := Blk.new (w.alloc (.cells #[.string nm0, .slice a xs.length cap] 35)) #[.string ⟨#[]⟩, .slice none 0 0] 35
    simp only [World.size_alloc] at this
    exact this
  have curs0 : w.heap.size + 2 ≤ ((w.alloc (.cells #[.string nm0, .slice a xs.length cap] 35)).alloc (.cells #[.string ⟨#[]⟩, .slice none 0 0] 35)).heap.size := by simp
  have curs := Lib.hid curs0
  clear hB hl curs0
  go_enter Try.func58, Try.ntmps58
  go_wp2_with fail
  generalize (w.alloc (.cells #[.string nm0, .slice a xs.length cap] 35)).alloc (.cells #[.string ⟨#[]⟩, .slice none 0 0] 35) = W0 at HB KB KR curs ⊢
  have cur : Hid (Below w.heap.size w W0.drew) := HB.out.drew
  have curs : Hid (w.heap.size + 2 ≤ W0.drew.heap.size) := curs
  have kb : W0.drew.cell? ⟨w.heap.size, 1, none⟩ = some (.slice a xs.length cap) := KB.out.cell 1
  have kr : Hid (Blk W0.drew (w.heap.size + 1) #[.string ⟨#[]⟩, .slice none 0 0] 35) := KR.out
  clear HB KB KR
  go_region_held3 (fun w' => w'.cell? ⟨w.heap.size, 1, none⟩ = some (.slice a xs.length cap)) (first | go_keep | with_reducible exact kb)
    (first
      | (go_simp; go_at_call 73; (with_reducible refine (HT.out _ cur.out).mono ?_); rintro e wX ⟨vX, rfl, oX, hBX⟩; obtain ⟨gx, cx, rfl, _, _⟩ := World.ownsRow.form oX hp; have r1 := Lib.hid (show OwnTx wX (w.heap.size + 2) (.slice (some ⟨gx, 0, none⟩) xs.length cx) xs from own_mono oX curs.out); have kb : wX.cell? ⟨w.heap.size, 1, none⟩ = some (.slice a xs.length cap) := cell_below hBX kb; have kr : Hid (Blk wX (w.heap.size + 1) #[.string ⟨#[]⟩, .slice none 0 0] 35) := kr.out.below hBX kr.out.lt; have q0 : wX.cell? ⟨w.heap.size + 1, 0, none⟩ = some (.string ⟨#[]⟩) := kr.out.cell 0; have q1 : wX.cell? ⟨w.heap.size + 1, 1, none⟩ = some (.slice none 0 0) := kr.out.cell 1; have f0 := kr.out.frozen 0; have f1 := kr.out.frozen 1; have cur := Lib.hid (below_trans cur.out hBX cur.out.size); have curs := Lib.hid (Nat.le_trans curs.out hBX.size); clear hBX oX)
      | (go_simp; go_at_call 68; (with_reducible refine (HC.out _).mono ?_); rintro e wX ⟨rfl, hBX⟩; (try (have x1 := r1.out; have r1 := Lib.hid (own_below x1 hBX); clear x1)); have kb : wX.cell? ⟨w.heap.size, 1, none⟩ = some (.slice a xs.length cap) := cell_below hBX kb; have kr : Hid (Blk wX (w.heap.size + 1) #[.string ⟨#[]⟩, .slice none 0 0] 35) := kr.out.below hBX kr.out.lt; have q0 : wX.cell? ⟨w.heap.size + 1, 0, none⟩ = some (.string ⟨#[]⟩) := kr.out.cell 0; have q1 : wX.cell? ⟨w.heap.size + 1, 1, none⟩ = some (.slice none 0 0) := kr.out.cell 1; have f0 := kr.out.frozen 0; have f1 := kr.out.frozen 1; have cur := Lib.hid (below_trans cur.out hBX cur.out.size); have curs := Lib.hid (Nat.le_trans curs.out hBX.size); clear hBX))
  all_goals
    go_wp2
    refine bodyPost_ret (v := .agg #[.string nm, .slice (some ⟨gx, 0, none⟩) xs.length cx]) (by simp [results, Try.results58, go_sem, q0, q1]) rfl ⟨gx, cx, rfl, own_mono (own_far (own_far r1.out _ _ _ (by omega)) _ _ _ (by omega)) (by omega), (cur.out.setCell (p := ⟨w.heap.size + 1, 0, none⟩) (by simp) _).setCell (p := ⟨w.heap.size + 1, 1, none⟩) (by simp) _⟩

end Go.Proofs.Ytmmckpjapnkepaa
