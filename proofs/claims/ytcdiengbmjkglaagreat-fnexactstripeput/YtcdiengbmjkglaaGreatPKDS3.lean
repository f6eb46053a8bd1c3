/- Lists of disks in new memory, of the specification. Conditions: the disks are ok. StripePut of the specification. Conditions: none but the row's own bound on sizes. -/
import Derived.Test.YtcdiengbmjkglaaGreatPKDS2
import Derived.Test.YtcdiengbmjkglaaGreatPKV1
import Derived.Test.YtcdiengbmjkglaaGreatPKDS9
namespace Go.Proofs.YtcdiengbmjkglaaGreat
open Go.RowKit Go.Sort

theorem news_five (W : World) (a b c d e : Value) (t : TypeId) (H : Nat) (hH : W.heap.size = H) : ∀ j u, [a, b, c, d, e][j]? = some u → (W.alloc (.cells #[a, b, c, d, e] t)).cell? ((⟨H, 0, none⟩ : Addr).add j) = some u := by
  subst hH
  exact World.news_of_block (cs := #[a, b, c, d, e]) (t := t) (fr := (0, 0)) (heap_alloc_new W _)
theorem takeDk (ds : List DiskD) (k : Nat) (h : k < ds.length) : ds.take (k + 1) = ds.take k ++ [ds.getD k disk0] := by
  rw [List.take_succ_eq_append_getElem h, List.getD, List.getElem?_eq_getElem h]; rfl
theorem own_block_dk {w : World} {base K : Nat} {e : TypeId} {v : Value} {n : Nat} {xs : List Value} (h : w.ownsRow base e K v n xs) (i : Nat) (hi : v.ownBlock = some i) : ∃ cur, w.heap[i]? = some (.cells cur e (0, 0)) := by
  rcases h.2 with ⟨rfl, _⟩ | ⟨g, cap, cur, rfl, _, hg, _⟩
  · cases hi
  · simp only [Value.ownBlock, Option.some.injEq] at hi
    subst hi
    exact ⟨cur, hg⟩

set_option maxRecDepth 100000 in
set_option maxHeartbeats 4000000 in
theorem l11Copy_any (a : Option Addr) (cap : Nat) (ds : List DiskD) (w : World) (hl : ds.length ≤ 1000) (hf : Hid (AllDk ds)) (hx : Hid (DksAt w a ds)) :
    Calls Tryz.prog 25 #[.slice a ds.length cap] w fun e w' => ∃ g c, e = .returned (.slice (some ⟨g, 0, none⟩) ds.length c) ∧ OwnDks w' w.heap.size (.slice (some ⟨g, 0, none⟩) ds.length c) ds ∧ Below w.heap.size w w' := by
  obtain ⟨i0, hi0, hz0, hz1, hz2⟩ := info_parts infoDk
  have HO0 := Lib.hid (show OwnDks (w.alloc (.cells #[] 50)) w.heap.size (.slice (some ⟨w.heap.size, 0, none⟩) 0 0) [] from
    ⟨[], World.ownsRow_made (e := 50) (size := 5) (base := w.heap.size) w #[] 0 (by simp) (by simp [maxLen]) (by simp), ⟨rfl, fun j hj => by simp at hj⟩, fun i j E hi => by simp at hi⟩)
  have HB0 := Lib.hid (show Below w.heap.size w (w.alloc (.cells #[] 50)) from (Below.refl _ _).alloc (Nat.le_refl _) _)
  go_enter Tryz.func25, Tryz.ntmps25
  go_wp2_with fail
  go_loopw [3, 4] (fun v i wr => ∃ k : Nat, ∃ g c, v = .slice (some ⟨g, 0, none⟩) k c ∧ i = .int .i64 (k : Int) ∧ k ≤ ds.length ∧ Hid (Below w.heap.size w wr ∧ OwnDks wr w.heap.size (.slice (some ⟨g, 0, none⟩) k c) (ds.take k))) (fun _ i _ => ds.length - (intOf i).toNat)
  case atStart => exact ⟨0, _, _, rfl, rfl, by omega, HB0.out, HO0.out⟩
  case round =>
    obtain ⟨k, g, c, rfl, rfl, hk, hI⟩ := hrel
    by_cases hlt : k < ds.length
    · have i0' : (0 : Int) ≤ (k : Int) := by omega
      have i1' : (k : Int) < (ds.length : Int) := by omega
      obtain ⟨hB, ho⟩ := hI.out
      obtain ⟨b, off, a1, n1, c1, a2, n2, c2, a3, n3, c3, a4, n4, c4, rfl, e0, e1, e2, e3, e4, hv⟩ := (hx.out.below hB).at k hlt
      have HC := Lib.hid (l3Copy_ok _ _ _ (hf.out k hlt) hv)
      have HT := Lib.hid (takeDk ds k hlt)
      have hkl : (ds.take k).length = k := by rw [List.length_take]; omega
      have Ho := Lib.hid ho
      have HB := Lib.hid hB
      generalize hg : ds.getD k disk0 = q at e0 HC HT
      clear hg hv ho hB hI
      go_wp2_with fail
      refine HC.out.mono ?_
      rintro e w2 ⟨v2, rfl, ho2, hB2⟩
      have HO2 := Lib.hid ho2
      have HB2 := Lib.hid hB2
      obtain ⟨u1, u2, u3, u4, rfl, ⟨z1, m1, rfl, _⟩, ⟨z2, m2, rfl, _⟩, ⟨z3, m3, rfl, _⟩, ⟨z4, m4, rfl, _⟩⟩ := ho2.reads
      obtain ⟨ys, k1, k2, k3, k4⟩ := Ho.out.rows
      have hB3 : Below w2.heap.size w2 (w2.alloc (.cells #[.int .i64 q.state, .slice z1 q.slots.length m1, .slice z2 q.rings.length m2, .slice z3 q.spoilt.length m3, .slice z4 q.wait.length m4] 50)) := (Below.refl _ _).alloc (Nat.le_refl _) _
      have HB3 := Lib.hid (HB2.out.trans (hB3.mono HB2.out.size))
      have hown := own_below k1 HB3.out
      rw [hkl] at hown
      have hyl : ys.length = k * 5 := hown.1
      have hbt := own_block_dk hown
      have hnews := news_five w2 (.int .i64 q.state) (.slice z1 q.slots.length m1) (.slice z2 q.rings.length m2) (.slice z3 q.spoilt.length m3) (.slice z4 q.wait.length m4) 50 w2.heap.size rfl
      have hbase : w.heap.size ≤ (w2.alloc (.cells #[.int .i64 q.state, .slice z1 q.slots.length m1, .slice z2 q.rings.length m2, .slice z3 q.spoilt.length m3, .slice z4 q.wait.length m4] 50)).heap.size := Nat.le_trans HB.out.size HB3.out.size
      have HX : Hid (∀ g4 cap4 w4, w4.ownsRow w.heap.size 50 5 (.slice (some ⟨g4, 0, none⟩) (k + 1) cap4) (k + 1) (ys ++ [.int .i64 q.state, .slice z1 q.slots.length m1, .slice z2 q.rings.length m2, .slice z3 q.spoilt.length m3, .slice z4 q.wait.length m4]) →
          (w2.alloc (.cells #[.int .i64 q.state, .slice z1 q.slots.length m1, .slice z2 q.rings.length m2, .slice z3 q.spoilt.length m3, .slice z4 q.wait.length m4] 50)).grownBy w4 (Value.slice (some ⟨g, 0, none⟩) k c).ownBlock →
          Below w.heap.size w w4 ∧ OwnDks w4 w.heap.size (.slice (some ⟨g4, 0, none⟩) (k + 1) cap4) (ds.take (k + 1))) := fun g4 cap4 w4 h4 hg4 => by
        refine ⟨(HB.out.trans (HB3.out.mono HB.out.size)).grown hg4 hbase (fun i e => (hown.lt i e).1), ?_⟩
        rw [HT.out]
        exact OwnDks.more (w0 := wr) (base' := wr.heap.size) (k2.below HB3.out) k3 k4 (HO2.out.below hB3) (Nat.le_refl _) HB.out.size rfl (by rw [hkl]; exact h4) hg4 hbt
      clear hB2 ho2 hB3 k1 k2 k3 k4 HB2 HC HT hkl hbt
      go_wp2_with (at_builtin; refine wpList_append_lies _ rfl _ _ 28 rfl w.heap.size 50 i0 _ 5 104 Tryz.underlying28 hi0 hz0 hz1 hz2 rfl (by omega) _ k ys rfl hown ⟨_, 0, none⟩ 1 1 [.int .i64 q.state, .slice z1 q.slots.length m1, .slice z2 q.rings.length m2, .slice z3 q.spoilt.length m3, .slice z4 q.wait.length m4] rfl rfl hnews (by simp [Value.oneCell']) (by omega) (by simp [maxLen]; omega) (by omega) hbase _ rfl ?_; intro g4 cap4 w4 hown4 hgrow4 hat4 hlt4)
      have HX' := HX.out g4 cap4 w4 hown4 hgrow4
      exact ⟨⟨k + 1, _, _, rfl, by go_num, by omega, HX'⟩, by simp [intOf]; omega⟩
    · obtain rfl : k = ds.length := by omega
      go_wp2
      go_ret
      obtain ⟨hB, ho⟩ := hI.out
      rw [List.take_length] at ho
      exact ⟨_, _, rfl, ho, hB⟩

end Go.Proofs.YtcdiengbmjkglaaGreat

namespace Go.Proofs.YtcdiengbmjkglaaGreat
open Go.RowKit Go.Sort

theorem bne_of {a b : Int} {c : Bool} (h : (a == b) = c) : (a != b) = !c := by rw [bne, h]

set_option maxRecDepth 100000 in
set_option maxHeartbeats 4000000 in
theorem specPutS_yes (a pa : Option Addr) (cap pc : Nat) (ds : List DiskD) (p : PtrD) (t : ByteArray) (w : World) (hpl : p.places.length ≤ maxLen) (h : Puts ds p t) (hx : Hid (DksAt w a ds)) (hp : Hid (PlacesAt w pa p.places)) :
    Calls Tryz.prog 7 #[.slice a ds.length cap, .agg #[.int .i64 p.size, .int .i64 p.sum, .slice pa p.places.length pc], .string t] w fun e w' =>
      ∃ g c, e = .returned (.tuple #[.slice (some ⟨g, 0, none⟩) ds.length c, .bool true]) ∧ OwnDks w' w.heap.size (.slice (some ⟨g, 0, none⟩) ds.length c) (putTo ds p.places (stripeL t) (stripeL t).length) ∧ Below w.heap.size w w' := by
  obtain ⟨h1, h9, hlen, hok⟩ := h.told
  have hl4 : ds.length ≤ 4 := by have := h.1.1.1.2; omega
  have hB : Below w.heap.size w (w.alloc (.cells #[.int .i64 p.size, .int .i64 p.sum, .slice pa p.places.length pc] 34)) := (Below.refl _ _).alloc (Nat.le_refl _) _
  have HB := Lib.hid hB
  have HK := Lib.hid (Blk.new w #[.int .i64 p.size, .int .i64 p.sum, .slice pa p.places.length pc] 34)
  have HIs := Lib.hid (fun W (hW : Below w.heap.size w W) => l11Is_any a pa cap pc ds p W (by unfold maxLen; omega) hpl (hx.out.below hW) (hp.out.below hW))
  rw [tt_true h.1] at HIs
  have HM := Lib.hid (fun W => (specSum_any t (by unfold maxLen; omega) W).mono (fun e w' h => (⟨h.1, h.2 ▸ Below.refl _ _⟩ : e = .returned (.int .i64 (sumOf t)) ∧ Below W.heap.size W w')))
  have e1 : (p.size == (t.size : Int)) = true := beq_iff_eq.2 h.2.1.symm
  have e2 : (p.sum == sumOf t) = true := beq_iff_eq.2 h.2.2.symm
  have e1' := bne_of e1
  have e2' := bne_of e2
  have HF := Lib.hid h.1.1.2
  have HD := Lib.hid (fun W (hW : Below w.heap.size w W) => l11Copy_any a cap ds W (by omega) HF (hx.out.below hW))
  have HPt := Lib.hid (fun base g c W hb ho hpp => l11Put_any base g c pc pa ds p t W hb h1 h9 hlen hok HF.out ho hpp)
  generalize putTo ds p.places (stripeL t) (stripeL t).length = es at HPt ⊢
  obtain ⟨z, s, ps⟩ := p
  simp only at hpl hp HIs HK HB HPt e1 e2 e1' e2' ⊢
  clear hB h h1 h9 hlen hok
  go_enter Tryz.func7, Tryz.ntmps7
  go_wp2_with fail
  generalize w.alloc (.cells #[.int .i64 z, .int .i64 s, .slice pa ps.length pc] 34) = W0 at HB HK ⊢
  have hc0 := cell_regrown (show W0.cell? ⟨w.heap.size, 0, none⟩ = some (.int .i64 z) from HK.out.cell 0)
  have hc1 := cell_regrown (show W0.cell? ⟨w.heap.size, 1, none⟩ = some (.int .i64 s) from HK.out.cell 1)
  have hc2 := cell_regrown (show W0.cell? ⟨w.heap.size, 2, none⟩ = some (.slice pa ps.length pc) from HK.out.cell 2)
  refine wp_region_quiet_below (by kernel_rfl) (by kernel_rfl) ?_
  repeat (go_big_quiet_step (first | (go_at_call 22; with_reducible exact Calls.regrown_of (HIs.out _ (HB.out.trans ((below_regrown _ _ _).mono HB.out.size)))) | (go_at_call 23; with_reducible exact Calls.regrown_of (HM.out _))))
  refine wpQuiet_nil ?_
  intro w9 hw9
  have hB9 : Below W0.heap.size W0 w9 := by obtain ⟨p, rfl⟩ := hw9; exact below_regrown _ _ _
  have HK9 := Lib.hid (HK.out.below hB9 HK.out.lt)
  have HB9 := Lib.hid (HB.out.trans (hB9.mono HB.out.size))
  have cur : Hid (Below w.heap.size w w9.drew) := HB9.out.drew
  have Kc : Hid (Blk w9.drew w.heap.size #[.int .i64 z, .int .i64 s, .slice pa ps.length pc] 34) := HK9.out
  have mm : w9.drew.cell? ⟨w.heap.size, 0, none⟩ = some (.int .i64 z) ∧ w9.drew.cell? ⟨w.heap.size, 1, none⟩ = some (.int .i64 s) ∧ w9.drew.cell? ⟨w.heap.size, 2, none⟩ = some (.slice pa ps.length pc) := ⟨Kc.out.cell 0, Kc.out.cell 1, Kc.out.cell 2⟩
  clear hw9 hB9 hc0 hc1 hc2 HIs HM HB HK
  go_wp2_with fail
  go_region_held3 (fun w' => w'.cell? ⟨w.heap.size, 0, none⟩ = some (.int .i64 z) ∧ w'.cell? ⟨w.heap.size, 1, none⟩ = some (.int .i64 s) ∧ w'.cell? ⟨w.heap.size, 2, none⟩ = some (.slice pa ps.length pc)) (first | with_reducible exact mm | go_keep)
    (first
      | (go_at_call 25; refine (HD.out _ cur.out).mono ?_; rintro e w2 ⟨g, c, rfl, ho2, hB2⟩; have HO2 := Lib.hid ho2; have HS2 := Lib.hid hB2.size; have HW2 := Lib.hid (cur.out.trans (hB2.mono cur.out.size)); have KX := Lib.hid (Kc.out.below hB2 Kc.out.lt); have mm := (⟨KX.out.cell 0, KX.out.cell 1, KX.out.cell 2⟩ : w2.cell? ⟨w.heap.size, 0, none⟩ = some (.int .i64 z) ∧ w2.cell? ⟨w.heap.size, 1, none⟩ = some (.int .i64 s) ∧ w2.cell? ⟨w.heap.size, 2, none⟩ = some (.slice pa ps.length pc)); clear ho2 hB2)
      | (go_at_call 24; refine (HPt.out w9.drew.heap.size g c w2 HS2.out HO2.out (show Hid (∀ W, Below w9.drew.heap.size w2 W → PlacesAt W pa ps) from fun W hW => hp.out.below (HW2.out.trans (hW.mono cur.out.size)))).mono ?_; rintro e w3 ⟨rfl, ho3, hB3⟩; have HO3 := Lib.hid ho3; have HB3 := Lib.hid (HW2.out.trans (hB3.mono cur.out.size)); have KY := Lib.hid (KX.out.below hB3 (show w.heap.size < w9.drew.heap.size from Kc.out.lt)); have mm := (⟨KY.out.cell 0, KY.out.cell 1, KY.out.cell 2⟩ : w3.cell? ⟨w.heap.size, 0, none⟩ = some (.int .i64 z) ∧ w3.cell? ⟨w.heap.size, 1, none⟩ = some (.int .i64 s) ∧ w3.cell? ⟨w.heap.size, 2, none⟩ = some (.slice pa ps.length pc)); clear ho3 hB3))
  all_goals
    go_wp2
    go_ret2
    exact ⟨_, _, rfl, OwnDk.mono HO3.out cur.out.size, HB3.out⟩

set_option maxRecDepth 100000 in
set_option maxHeartbeats 4000000 in
theorem specPutS_no (a pa : Option Addr) (cap pc : Nat) (ds : List DiskD) (p : PtrD) (t : ByteArray) (w : World) (hl : ds.length ≤ maxLen) (ht : t.size ≤ maxLen) (hpl : p.places.length ≤ maxLen) (h : ¬Puts ds p t) (hx : Hid (DksAt w a ds)) (hp : Hid (PlacesAt w pa p.places)) :
    Calls Tryz.prog 7 #[.slice a ds.length cap, .agg #[.int .i64 p.size, .int .i64 p.sum, .slice pa p.places.length pc], .string t] w fun e w' =>
      ∃ g, e = .returned (.tuple #[.slice (some ⟨g, 0, none⟩) 0 0, .bool false]) ∧ Below w.heap.size w w' := by
  have hB : Below w.heap.size w (w.alloc (.cells #[.int .i64 p.size, .int .i64 p.sum, .slice pa p.places.length pc] 34)) := (Below.refl _ _).alloc (Nat.le_refl _) _
  have HB := Lib.hid hB
  have HK := Lib.hid (Blk.new w #[.int .i64 p.size, .int .i64 p.sum, .slice pa p.places.length pc] 34)
  have HIs := Lib.hid (fun W (hW : Below w.heap.size w W) => l11Is_any a pa cap pc ds p W hl hpl (hx.out.below hW) (hp.out.below hW))
  have HM := Lib.hid (fun W => (specSum_any t ht W).mono (fun e w' h => (⟨h.1, h.2 ▸ Below.refl _ _⟩ : e = .returned (.int .i64 (sumOf t)) ∧ Below W.heap.size W w')))
  have HH : (CanHold ds p ∧ (p.size == (t.size : Int)) = true ∧ (p.sum == sumOf t) = false) ∨ (CanHold ds p ∧ (p.size == (t.size : Int)) = false) ∨ ¬CanHold ds p := by
    by_cases h1 : CanHold ds p
    · by_cases h2 : p.size = (t.size : Int)
      · exact .inl ⟨h1, beq_iff_eq.2 h2, beq_eq_false_iff_ne.2 (fun h3 => h ⟨h1, h2.symm, h3.symm⟩)⟩
      · exact .inr (.inl ⟨h1, beq_eq_false_iff_ne.2 h2⟩)
    · exact .inr (.inr h1)
  obtain ⟨z, s, ps⟩ := p
  simp only at hpl hp HIs HK HB HH ⊢
  clear hB h
  rcases HH with ⟨h1, e1, e2⟩ | ⟨h1, e1⟩ | h1
  · rw [tt_true h1] at HIs
    have e1' := bne_of e1
    have e2' := bne_of e2
    clear h1
    go_enter Tryz.func7, Tryz.ntmps7
    go_wp2_with fail
    generalize w.alloc (.cells #[.int .i64 z, .int .i64 s, .slice pa ps.length pc] 34) = W0 at HB HK ⊢
    have hc0 := cell_regrown (show W0.cell? ⟨w.heap.size, 0, none⟩ = some (.int .i64 z) from HK.out.cell 0)
    have hc1 := cell_regrown (show W0.cell? ⟨w.heap.size, 1, none⟩ = some (.int .i64 s) from HK.out.cell 1)
    have hc2 := cell_regrown (show W0.cell? ⟨w.heap.size, 2, none⟩ = some (.slice pa ps.length pc) from HK.out.cell 2)
    refine wp_region_quiet_below (by kernel_rfl) (by kernel_rfl) ?_
    repeat (go_big_quiet_step (first | (go_at_call 22; with_reducible exact Calls.regrown_of (HIs.out _ (HB.out.trans ((below_regrown _ _ _).mono HB.out.size)))) | (go_at_call 23; with_reducible exact Calls.regrown_of (HM.out _))))
    refine wpQuiet_nil ?_
    intro w9 hw9
    have hB9 : Below W0.heap.size W0 w9 := by obtain ⟨p, rfl⟩ := hw9; exact below_regrown _ _ _
    have HB9 := Lib.hid (HB.out.trans (hB9.mono HB.out.size))
    clear hw9 hB9 hc0 hc1 hc2 HIs HM HB HK
    go_wp2
    go_ret2
    exact ⟨_, rfl, HB9.out.alloc HB9.out.size _⟩
  · rw [tt_true h1] at HIs
    have e1' := bne_of e1
    clear h1
    go_enter Tryz.func7, Tryz.ntmps7
    go_wp2_with fail
    generalize w.alloc (.cells #[.int .i64 z, .int .i64 s, .slice pa ps.length pc] 34) = W0 at HB HK ⊢
    have hc0 := cell_regrown (show W0.cell? ⟨w.heap.size, 0, none⟩ = some (.int .i64 z) from HK.out.cell 0)
    have hc1 := cell_regrown (show W0.cell? ⟨w.heap.size, 1, none⟩ = some (.int .i64 s) from HK.out.cell 1)
    have hc2 := cell_regrown (show W0.cell? ⟨w.heap.size, 2, none⟩ = some (.slice pa ps.length pc) from HK.out.cell 2)
    refine wp_region_quiet_below (by kernel_rfl) (by kernel_rfl) ?_
    repeat (go_big_quiet_step ((go_at_call 22; with_reducible exact Calls.regrown_of (HIs.out _ (HB.out.trans ((below_regrown _ _ _).mono HB.out.size))))))
    refine wpQuiet_nil ?_
    intro w9 hw9
    have hB9 : Below W0.heap.size W0 w9 := by obtain ⟨p, rfl⟩ := hw9; exact below_regrown _ _ _
    have HB9 := Lib.hid (HB.out.trans (hB9.mono HB.out.size))
    clear hw9 hB9 hc0 hc1 hc2 HIs HM HB HK
    go_wp2
    go_ret2
    exact ⟨_, rfl, HB9.out.alloc HB9.out.size _⟩
  · rw [tt_false h1] at HIs
    clear h1
    go_enter Tryz.func7, Tryz.ntmps7
    go_wp2_with fail
    generalize w.alloc (.cells #[.int .i64 z, .int .i64 s, .slice pa ps.length pc] 34) = W0 at HB HK ⊢
    have hc0 := cell_regrown (show W0.cell? ⟨w.heap.size, 0, none⟩ = some (.int .i64 z) from HK.out.cell 0)
    have hc1 := cell_regrown (show W0.cell? ⟨w.heap.size, 1, none⟩ = some (.int .i64 s) from HK.out.cell 1)
    have hc2 := cell_regrown (show W0.cell? ⟨w.heap.size, 2, none⟩ = some (.slice pa ps.length pc) from HK.out.cell 2)
    refine wp_region_quiet_below (by kernel_rfl) (by kernel_rfl) ?_
    repeat (go_big_quiet_step ((go_at_call 22; with_reducible exact Calls.regrown_of (HIs.out _ (HB.out.trans ((below_regrown _ _ _).mono HB.out.size))))))
    refine wpQuiet_nil ?_
    intro w9 hw9
    have hB9 : Below W0.heap.size W0 w9 := by obtain ⟨p, rfl⟩ := hw9; exact below_regrown _ _ _
    have HB9 := Lib.hid (HB.out.trans (hB9.mono HB.out.size))
    clear hw9 hB9 hc0 hc1 hc2 HIs HM HB HK
    go_wp2
    go_ret2
    exact ⟨_, rfl, HB9.out.alloc HB9.out.size _⟩

end Go.Proofs.YtcdiengbmjkglaaGreat
