/- The drawn arguments of the law of falls: a disk and what comes; nothing old has turned. Conditions: none. -/
import Derived.Test.YtifgoanicbaohaaPCY6
namespace Go.Proofs.Ytifgoanicbaohaa
open Go.ChangeShapes Go.WideShapes Go.ChangeAt Go.RowKit Go.Sort

/-- A DRAWN DISK AND A NUMBER. -/
def DrawnDC (w : World) (e : Ending) (w' : World) : Prop := ∃ (d : DiskD) (v : Value) (x : Int), e = .returned (.tuple #[v, .int .i64 x]) ∧ DiskV w' v d ∧ (-9223372036854775808 ≤ x ∧ x ≤ 9223372036854775807) ∧ Below w.heap.size w w'
theorem wrap_in (x : Int) : -9223372036854775808 ≤ wrap64 x ∧ wrap64 x ≤ 9223372036854775807 := by
  unfold wrap64
  omega

set_option linter.unusedSimpArgs false in
set_option maxRecDepth 100000 in
set_option maxHeartbeats 4000000 in
theorem drawCrash_any (a : Option Addr) (len cap : Nat) (z : List Int) (w : World) (h : IsBytes w a len cap z) :
    Calls Try.prog 6 #[.slice a len cap] w (DrawnDC w) := by
  have B0 := Lib.hid (show Below w.heap.size w (w.alloc (.cells #[.int .i64 0, .slice none 0 0, .slice none 0 0, .slice none 0 0, .slice none 0 0] 27)) from (Below.refl _ _).alloc (Nat.le_refl _) _)
  have H := Lib.hid (h.below B0.out)
  have K := Lib.hid (show Blk (w.alloc (.cells #[.int .i64 0, .slice none 0 0, .slice none 0 0, .slice none 0 0, .slice none 0 0] 27)) w.heap.size zeroC 27 from Blk.new w #[.int .i64 0, .slice none 0 0, .slice none 0 0, .slice none 0 0, .slice none 0 0] 27)
  have hs : w.heap.size < (w.alloc (.cells #[.int .i64 0, .slice none 0 0, .slice none 0 0, .slice none 0 0, .slice none 0 0] 27)).heap.size := by simp
  clear h
  go_enter Try.func6, Try.ntmps6
  go_wp2_with fail
  generalize (w.alloc (.cells #[.int .i64 0, .slice none 0 0, .slice none 0 0, .slice none 0 0, .slice none 0 0] 27)) = W at B0 H K hs ⊢
  refine (l6Open_any a len cap z _ H.out).mono ?_
  rintro e w1 ⟨B, rfl, hR1, hB1⟩
  have hBB := hR1.1
  have K := Lib.hid (K.out.below hB1 K.out.lt)
  have B0 := Lib.hid (below_trans B0.out hB1 B0.out.size)
  have HR := Lib.hid hR1
  have B1 := B0.out.size
  clear hR1 hB1
  go_wp2_with fail
  refine (l71Disk_any _ B 0 _ (by omega) HR.out).mono ?_
  rintro e w2 ⟨d, v, q, rfl, hV, hq, hR2, hg⟩
  have hBl1 := HR.out.lt
  have K := Lib.hid (K.out.grown hg (by omega))
  have B0 := Lib.hid (below_g B0.out hg (by omega) B0.out.size)
  have HV := Lib.hid hV
  have hz1 : w.heap.size ≤ w1.heap.size := B1
  have HR := Lib.hid hR2
  have hBl := hR2.lt
  have hz12 := hg.size
  clear hg hR2
  have hV2 := hV w2 (fun _ _ _ => rfl)
  clear hV
  obtain ⟨_, _, _, _, rfl, ⟨o1, c1, rfl, _⟩, ⟨o2, c2, rfl, _⟩, ⟨o3, c3, rfl, _⟩, ⟨o4, c4, rfl, _⟩⟩ := hV2
  have G2 := Lib.hid (show w2.grownBy w2 (some B) from ⟨rfl, rfl, rfl, Nat.le_refl _, fun _ _ _ => rfl⟩)
  have hBw : w.heap.size ≠ B := by omega
  have hsz2 : w.heap.size ≤ w2.heap.size := B0.out.size
  go_wp2_with fail
  refine (pick_any _ B q 256 _ (by omega) HR.out).mono ?_
  rintro e w3 ⟨v3, rfl, _, _, hR, hg⟩
  have G3 := Lib.hid (G2.out.trans hg)
  have HR3 := Lib.hid hR
  clear hR hg
  go_wp2_with fail
  refine (pick_any _ B (q + 1) 3 _ (by omega) HR3.out).mono ?_
  rintro e w4 ⟨v4, rfl, _, _, hR, hg⟩
  have G4 := Lib.hid (G3.out.trans hg)
  have HR4 := Lib.hid hR
  clear hR hg
  go_wp2_with fail
  refine (pick_any _ B (q + 1 + 1) 16 _ (by omega) HR4.out).mono ?_
  rintro e w5 ⟨v5, rfl, _, _, hR, hg⟩
  have G5 := Lib.hid (G4.out.trans hg)
  clear hR hg
  have K9 := Lib.hid ((K.out.grown G5.out hBw))
  have B9 := Lib.hid (below_g B0.out G5.out (by omega) hsz2)
  have Ag9 : Hid (Agr w1.heap.size w2.heap.size w2 w5) := fun E h1 h2 => G5.out.block E h2 (by simp; omega)
  obtain ⟨x0, x1, x2, x3, x4, t0, t1, t2, t3, t4⟩ := zero5 K9.out
  have HX : Hid (∀ x : Int, DrawnDC w (.returned (.tuple #[.agg #[.int .i64 d.state, .slice o1 d.slots.length c1, .slice o2 d.rings.length c2, .slice o3 d.spoilt.length c3, .slice o4 d.wait.length c4], .int .i64 (wrap64 x)])) (((((w5.setCell ⟨w.heap.size, 0, none⟩ (.int .i64 d.state)).setCell ⟨w.heap.size, 1, none⟩ (.slice o1 d.slots.length c1)).setCell ⟨w.heap.size, 2, none⟩ (.slice o2 d.rings.length c2)).setCell ⟨w.heap.size, 3, none⟩ (.slice o3 d.spoilt.length c3)).setCell ⟨w.heap.size, 4, none⟩ (.slice o4 d.wait.length c4))) := fun x =>
    ⟨d, _, _, rfl, HV.out _ (((((Ag9.out.set (.inl hz1) 0 _).set (.inl hz1) 1 _).set (.inl hz1) 2 _).set (.inl hz1) 3 _).set (.inl hz1) 4 _), wrap_in x, sets_below B9.out (Nat.le_refl _)⟩
  go_wp2
  refine bodyPost_ret (v := .tuple #[.agg #[.int .i64 d.state, .slice o1 d.slots.length c1, .slice o2 d.rings.length c2, .slice o3 d.spoilt.length c3, .slice o4 d.wait.length c4], .int .i64 (wrap64 (wrap64 (v3 * (1 + v4)) - v5 / 15 * 300))]) (by simp [results, Try.results6, go_sem, x0, x1, x2, x3, x4]) rfl (HX.out (wrap64 (v3 * (1 + v4)) - v5 / 15 * 300))

end Go.Proofs.Ytifgoanicbaohaa
