/- The exact laws' own helpers for roots: sizes and comparisons. Conditions: none but the row's own bound on sizes. -/
import Derived.Test.YtlonecgmldjdpaaU7
namespace Go.Proofs.Ytlonecgmldjdpaa
open Go.RowKit Go.Sort

/-- LITTLE: so many at most, at every level. -/
def PtSmall (L : Nat) (ps : List PtrD) : Prop := ps.length ≤ L ∧ ∀ j, j < ps.length → (ps.getD j ptr0).places.length ≤ L
def VoSmall (L : Nat) (vs : List VolD) : Prop := vs.length ≤ L ∧ ∀ j, j < vs.length → (vs.getD j vol0).name.size ≤ L ∧ PtSmall L (vs.getD j vol0).blocks
def LeftIf (P : Prop) (left : Nat) (w : World) (e : Ending) (w' : World) : Prop := (e = .returned (.int .i64 (-1)) ∨ ∃ r : Nat, e = .returned (.int .i64 (r : Int)) ∧ r ≤ left ∧ P) ∧ Below w.heap.size w w'

set_option maxRecDepth 100000 in
set_option maxHeartbeats 1000000 in
theorem szPtrS_any (L : Nat) (a : Option Addr) (cap left : Nat) (ps : List PtrD) (w : World) (hl : ps.length ≤ maxLen) (hL : L ≤ 1048576) (hleft : left ≤ L) (hx : Hid (PtrsAt w a ps)) :
    Calls Try.prog 110 #[.slice a ps.length cap, .int .i64 (left : Int)] w (LeftIf (PtSmall L ps) left w) := by
  unfold maxLen at hl
  by_cases h0 : left < ps.length
  · have d0 : decide ((left : Int) - (ps.length : Int) < 0) = true := by simp; omega
    go_enter Try.func110, Try.ntmps110
    go_wp2
    go_ret
    exact ⟨.inl rfl, Below.refl _ _⟩
  · obtain ⟨r0, hr0⟩ : ∃ r0 : Nat, (left : Int) - (ps.length : Int) = (r0 : Int) := ⟨left - ps.length, by omega⟩
    have d0 : decide ((left : Int) - (ps.length : Int) < 0) = false := by simp; omega
    go_enter Try.func110, Try.ntmps110
    go_wp2_with fail
    go_loopw [1, 5] (fun l i wr => ∃ k r : Nat, i = .int .i64 (k : Int) ∧ l = .int .i64 (r : Int) ∧ k ≤ ps.length ∧ r ≤ left ∧ Hid (Below w.heap.size w wr) ∧ Hid (∀ j, j < k → (ps.getD j ptr0).places.length ≤ L)) (fun _ i _ => ps.length - (intOf i).toNat)
    case atStart => exact ⟨0, r0, rfl, by go_num, by omega, by omega, Below.refl _ _, fun j hj => by omega⟩
    case round =>
      obtain ⟨k, r, rfl, rfl, hk, hr, hB, hall⟩ := hrel
      by_cases hlt : k < ps.length
      · obtain ⟨b, off, rfl, hc⟩ := (hx.out.below hB.out).resolve_left (fun e => by subst e; simp at hlt)
        obtain ⟨e0, e1, u, e2, hu⟩ := hc k hlt
        clear hc
        generalize hg : ps.getD k ptr0 = q at e0 e1 hu
        have Hg := Lib.hid hg
        clear hg
        obtain ⟨z, s, qs⟩ := q
        obtain ⟨a1, cap1, rfl, hc1, hm1, hx1⟩ := hu
        simp only at e0 e1 e2 hc1
        clear hx1
        go_wp2_with fail
        refine (szPtr_any z s a1 qs.length cap1 r _ (by omega) (by omega)).mono ?_
        rintro e w1 ⟨he, hB1⟩
        have HB1 := Lib.hid (hB.out.trans (hB1.mono hB.out.size))
        clear hB1
        rcases he with rfl | ⟨r2, rfl, hr2⟩
        · go_wp2
          go_ret
          exact ⟨.inl rfl, HB1.out⟩
        · have d1 : decide ((r2 : Int) < 0) = false := by simp
          have HN : Hid (∀ j, j < k + 1 → (ps.getD j ptr0).places.length ≤ L) := fun j hj => by
            by_cases e : j = k
            · subst e; rw [Hg.out]; show qs.length ≤ L; omega
            · exact hall.out j (by omega)
          go_wp2
          exact ⟨⟨k + 1, r2, by go_num, rfl, by omega, by omega, HB1, HN⟩, by simp [intOf]; omega⟩
      · have HL : Hid (PtSmall L ps) := ⟨by omega, fun j hj => hall.out j (by omega)⟩
        go_wp2
        go_ret
        exact ⟨.inr ⟨r, rfl, hr, HL.out⟩, hB.out⟩

set_option maxRecDepth 100000 in
set_option maxHeartbeats 1000000 in
theorem szVol_any (L : Nat) (nm : ByteArray) (a : Option Addr) (cap left : Nat) (ps : List PtrD) (w : World) (hn : nm.size ≤ maxLen) (hl : ps.length ≤ maxLen) (hL : L ≤ 1048576) (hleft : left ≤ L) (hx : Hid (PtrsAt w a ps)) :
    Calls Try.prog 81 #[.agg #[.string nm, .slice a ps.length cap], .int .i64 (left : Int)] w (LeftIf (nm.size ≤ L ∧ PtSmall L ps) left w) := by
  unfold maxLen at hn
  have hB : Below w.heap.size w (w.alloc (.cells #[.string nm, .slice a ps.length cap] 109)) := (Below.refl _ _).alloc (Nat.le_refl _) _
  have HB := Lib.hid hB
  have HX := Lib.hid (hx.out.below hB)
  clear hB
  by_cases h0 : left < nm.size
  · have d0 : decide ((left : Int) - (nm.size : Int) < 0) = true := by simp; omega
    go_enter Try.func81, Try.ntmps81
    go_wp2
    go_ret
    exact ⟨.inl rfl, HB.out⟩
  · have d0 : decide ((left : Int) - (nm.size : Int) < 0) = false := by simp; omega
    have hle : left - nm.size ≤ left := by omega
    have hnL : nm.size ≤ L := by omega
    have HC := Lib.hid (szPtrS_any L a cap (left - nm.size) ps _ hl hL (by omega) HX)
    rw [show ((left - nm.size : Nat) : Int) = (left : Int) - (nm.size : Int) by omega] at HC
    go_enter Try.func81, Try.ntmps81
    go_wp2_with fail
    refine HC.out.mono ?_
    rintro e w1 ⟨he, hB1⟩
    have HB1 := Lib.hid (HB.out.trans (hB1.mono HB.out.size))
    clear hB1
    rcases he with rfl | ⟨r2, rfl, hr2, hs⟩
    · go_wp2
      go_ret
      exact ⟨.inl rfl, HB1.out⟩
    · have d1 : decide ((r2 : Int) < 0) = false := by simp
      have HS := Lib.hid hs
      clear hs
      go_wp2
      go_ret
      exact ⟨.inr ⟨r2, rfl, by omega, hnL, HS.out⟩, HB1.out⟩

set_option maxRecDepth 100000 in
set_option maxHeartbeats 1000000 in
theorem szVolS_any (L : Nat) (a : Option Addr) (cap left : Nat) (vs : List VolD) (w : World) (hl : vs.length ≤ maxLen) (hnm : Hid (∀ j, j < vs.length → (vs.getD j vol0).name.size ≤ maxLen)) (hL : L ≤ 1048576) (hleft : left ≤ L) (hx : Hid (VolsAt w a vs)) :
    Calls Try.prog 53 #[.slice a vs.length cap, .int .i64 (left : Int)] w (LeftIf (VoSmall L vs) left w) := by
  unfold maxLen at hl
  by_cases h0 : left < vs.length
  · have d0 : decide ((left : Int) - (vs.length : Int) < 0) = true := by simp; omega
    go_enter Try.func53, Try.ntmps53
    go_wp2
    go_ret
    exact ⟨.inl rfl, Below.refl _ _⟩
  · obtain ⟨r0, hr0⟩ : ∃ r0 : Nat, (left : Int) - (vs.length : Int) = (r0 : Int) := ⟨left - vs.length, by omega⟩
    have d0 : decide ((left : Int) - (vs.length : Int) < 0) = false := by simp; omega
    go_enter Try.func53, Try.ntmps53
    go_wp2_with fail
    go_loopw [1, 5] (fun l i wr => ∃ k r : Nat, i = .int .i64 (k : Int) ∧ l = .int .i64 (r : Int) ∧ k ≤ vs.length ∧ r ≤ left ∧ Hid (Below w.heap.size w wr) ∧ Hid (∀ j, j < k → (vs.getD j vol0).name.size ≤ L ∧ PtSmall L (vs.getD j vol0).blocks)) (fun _ i _ => vs.length - (intOf i).toNat)
    case atStart => exact ⟨0, r0, rfl, by go_num, by omega, by omega, Below.refl _ _, fun j hj => by omega⟩
    case round =>
      obtain ⟨k, r, rfl, rfl, hk, hr, hB, hall⟩ := hrel
      by_cases hlt : k < vs.length
      · obtain ⟨b, off, rfl, hc⟩ := (hx.out.below hB.out).resolve_left (fun e => by subst e; simp at hlt)
        obtain ⟨e0, u, e1, hu⟩ := hc k hlt
        have hns := hnm.out k hlt
        clear hc
        generalize hg : vs.getD k vol0 = q at e0 hu hns
        have Hg := Lib.hid hg
        clear hg
        obtain ⟨nm, qs⟩ := q
        obtain ⟨a1, cap1, rfl, hc1, hm1, hx1⟩ := hu
        simp only at e0 e1 hc1 hns hx1
        have HX1 := Lib.hid hx1
        clear hx1
        go_wp2_with fail
        refine (szVol_any L nm a1 cap1 r qs _ hns (by omega) hL (by omega) HX1).mono ?_
        rintro e w1 ⟨he, hB1⟩
        have HB1 := Lib.hid (hB.out.trans (hB1.mono hB.out.size))
        clear hB1
        rcases he with rfl | ⟨r2, rfl, hr2, hs⟩
        · go_wp2
          go_ret
          exact ⟨.inl rfl, HB1.out⟩
        · have d1 : decide ((r2 : Int) < 0) = false := by simp
          have HN : Hid (∀ j, j < k + 1 → (vs.getD j vol0).name.size ≤ L ∧ PtSmall L (vs.getD j vol0).blocks) := fun j hj => by
            by_cases e : j = k
            · subst e; rw [Hg.out]; exact hs
            · exact hall.out j (by omega)
          clear hs
          go_wp2
          exact ⟨⟨k + 1, r2, by go_num, rfl, by omega, by omega, HB1, HN⟩, by simp [intOf]; omega⟩
      · have HL : Hid (VoSmall L vs) := ⟨by omega, fun j hj => hall.out j (by omega)⟩
        go_wp2
        go_ret
        exact ⟨.inr ⟨r, rfl, hr, HL.out⟩, hB.out⟩

set_option maxRecDepth 100000 in
set_option maxHeartbeats 1000000 in
theorem szRoot_any (t : Int) (a : Option Addr) (cap : Nat) (vs : List VolD) (w : World) (hl : vs.length ≤ maxLen) (hnm : Hid (∀ j, j < vs.length → (vs.getD j vol0).name.size ≤ maxLen)) (hx : Hid (VolsAt w a vs)) :
    Calls Try.prog 24 #[.agg #[.int .i64 t, .slice a vs.length cap], .int .i64 1048576] w (LeftIf (VoSmall 1048576 vs) 1048576 w) := by
  have hB : Below w.heap.size w (w.alloc (.cells #[.int .i64 t, .slice a vs.length cap] 52)) := (Below.refl _ _).alloc (Nat.le_refl _) _
  have HB := Lib.hid hB
  have HX := Lib.hid (hx.out.below hB)
  clear hB
  have HC := Lib.hid (szVolS_any 1048576 a cap 1048576 vs _ hl hnm (Nat.le_refl _) (Nat.le_refl _) HX)
  go_enter Try.func24, Try.ntmps24
  go_wp2_with fail
  refine HC.out.mono ?_
  rintro e w1 ⟨he, hB1⟩
  have HB1 := Lib.hid (HB.out.trans (hB1.mono HB.out.size))
  clear hB1
  rcases he with rfl | ⟨r2, rfl, hr2, hs⟩
  · go_wp2
    go_ret
    exact ⟨.inl rfl, HB1.out⟩
  · have d1 : decide ((r2 : Int) < 0) = false := by simp
    have HS := Lib.hid hs
    clear hs
    go_wp2
    go_ret
    exact ⟨.inr ⟨r2, rfl, hr2, HS.out⟩, HB1.out⟩

set_option maxRecDepth 100000 in
set_option maxHeartbeats 1000000 in
theorem eqPtrS_same (a b : Option Addr) (ca cb : Nat) (ps : List PtrD) (w : World) (hl : ps.length ≤ maxLen) (ha : Hid (PtrsAt w a ps)) (hb : Hid (PtrsAt w b ps)) :
    Calls Try.prog 112 #[.slice a ps.length ca, .slice b ps.length cb] w fun e w' => e = .returned (.bool true) ∧ Below w.heap.size w w' := by
  unfold maxLen at hl
  have d0 : ((ps.length : Int) != (ps.length : Int)) = false := by simp
  go_enter Try.func112, Try.ntmps112
  go_wp2_with fail
  go_loopw [5] (fun i wr => ∃ k : Nat, i = .int .i64 (k : Int) ∧ k ≤ ps.length ∧ Hid (Below w.heap.size w wr)) (fun i _ => ps.length - (intOf i).toNat)
  case atStart => exact ⟨0, rfl, by omega, Below.refl _ _⟩
  case round =>
    obtain ⟨k, rfl, hk, hB⟩ := hrel
    by_cases hlt : k < ps.length
    · obtain ⟨b1, o1, rfl, hc1⟩ := (ha.out.below hB.out).resolve_left (fun e => by subst e; simp at hlt)
      obtain ⟨b2, o2, rfl, hc2⟩ := (hb.out.below hB.out).resolve_left (fun e => by subst e; simp at hlt)
      obtain ⟨k0, k1, u1, k2, hu1⟩ := hc1 k hlt
      obtain ⟨m0, m1, u2, m2, hu2⟩ := hc2 k hlt
      clear hc1 hc2
      generalize ps.getD k ptr0 = q at k0 k1 hu1 m0 m1 hu2
      obtain ⟨z, s, qs⟩ := q
      obtain ⟨a1, cap1, rfl, hcl1, hm1, hx1⟩ := hu1
      obtain ⟨a2, cap2, rfl, hcl2, hm2, hx2⟩ := hu2
      simp only at k0 k1 k2 m0 m1 m2 hcl1 hcl2 hx1 hx2
      have HE := Lib.hid (fun w' (hw : Below wr.heap.size wr w') => eqPtr_same z s a1 a2 cap1 cap2 qs w' (by omega) (hx1.below hw) (hx2.below hw))
      have g1 := cell_regrown k0
      have g2 := cell_regrown k1
      have g3 := cell_regrown k2
      have g4 := cell_regrown m0
      have g5 := cell_regrown m1
      have g6 := cell_regrown m2
      clear k0 k1 k2 m0 m1 m2 hx1 hx2
      have i1 : (k : Int) < (ps.length : Int) := by omega
      have i0 : (0 : Int) ≤ (k : Int) := by omega
      go_wp2_with fail
      refine wp_region_quiet_below (by kernel_rfl) (by kernel_rfl) ?_
      repeat (go_big_quiet_step ((go_at_call 122; exact Calls.regrown_of (HE.out _ (below_regrown _ _ _)))))
      refine wpQuiet_nil ?_
      intro w9 hw9
      have HB9 : Hid (Below w.heap.size w w9) := by obtain ⟨p, rfl⟩ := hw9; exact rg_below hB.out _ _
      clear hw9
      go_wp2
      exact ⟨⟨k + 1, by go_num, by omega, HB9⟩, by simp [intOf]; omega⟩
    · go_wp2
      go_ret
      exact ⟨rfl, hB.out⟩

set_option maxRecDepth 100000 in
set_option maxHeartbeats 1000000 in
theorem eqVol_same (nm : ByteArray) (a b : Option Addr) (ca cb : Nat) (ps : List PtrD) (w : World) (hl : ps.length ≤ maxLen) (ha : Hid (PtrsAt w a ps)) (hb : Hid (PtrsAt w b ps)) :
    Calls Try.prog 83 #[.agg #[.string nm, .slice a ps.length ca], .agg #[.string nm, .slice b ps.length cb]] w fun e w' => e = .returned (.bool true) ∧ Below w.heap.size w w' := by
  have hB : Below w.heap.size w ((w.alloc (.cells #[.string nm, .slice a ps.length ca] 34)).alloc (.cells #[.string nm, .slice b ps.length cb] 34)) := ((Below.refl _ _).alloc (Nat.le_refl _) _).alloc (by simp) _
  have HB := Lib.hid hB
  clear hB
  go_enter Try.func83, Try.ntmps83
  go_wp2_with fail
  refine (eqPtrS_same a b ca cb ps _ hl (ha.out.below HB.out) (hb.out.below HB.out)).mono ?_
  rintro e w1 ⟨rfl, hB1⟩
  go_wp2
  go_ret
  exact ⟨rfl, HB.out.trans (hB1.mono HB.out.size)⟩

set_option maxRecDepth 100000 in
set_option maxHeartbeats 1000000 in
theorem eqVolS_same (a b : Option Addr) (ca cb : Nat) (vs : List VolD) (w : World) (hl : vs.length ≤ maxLen) (ha : Hid (VolsAt w a vs)) (hb : Hid (VolsAt w b vs)) :
    Calls Try.prog 56 #[.slice a vs.length ca, .slice b vs.length cb] w fun e w' => e = .returned (.bool true) ∧ Below w.heap.size w w' := by
  unfold maxLen at hl
  have d0 : ((vs.length : Int) != (vs.length : Int)) = false := by simp
  go_enter Try.func56, Try.ntmps56
  go_wp2_with fail
  go_loopw [5] (fun i wr => ∃ k : Nat, i = .int .i64 (k : Int) ∧ k ≤ vs.length ∧ Hid (Below w.heap.size w wr)) (fun i _ => vs.length - (intOf i).toNat)
  case atStart => exact ⟨0, rfl, by omega, Below.refl _ _⟩
  case round =>
    obtain ⟨k, rfl, hk, hB⟩ := hrel
    by_cases hlt : k < vs.length
    · obtain ⟨b1, o1, rfl, hc1⟩ := (ha.out.below hB.out).resolve_left (fun e => by subst e; simp at hlt)
      obtain ⟨b2, o2, rfl, hc2⟩ := (hb.out.below hB.out).resolve_left (fun e => by subst e; simp at hlt)
      obtain ⟨k0, u1, k1, hu1⟩ := hc1 k hlt
      obtain ⟨m0, u2, m1, hu2⟩ := hc2 k hlt
      clear hc1 hc2
      generalize vs.getD k vol0 = q at k0 hu1 m0 hu2
      obtain ⟨nm, qs⟩ := q
      obtain ⟨a1, cap1, rfl, hcl1, hm1, hx1⟩ := hu1
      obtain ⟨a2, cap2, rfl, hcl2, hm2, hx2⟩ := hu2
      simp only at k0 k1 m0 m1 hcl1 hcl2 hx1 hx2
      have HE := Lib.hid (fun w' (hw : Below wr.heap.size wr w') => eqVol_same nm a1 a2 cap1 cap2 qs w' (by omega) (hx1.below hw) (hx2.below hw))
      have g1 := cell_regrown k0
      have g2 := cell_regrown k1
      have g4 := cell_regrown m0
      have g5 := cell_regrown m1
      clear k0 k1 m0 m1 hx1 hx2
      have i1 : (k : Int) < (vs.length : Int) := by omega
      have i0 : (0 : Int) ≤ (k : Int) := by omega
      go_wp2_with fail
      refine wp_region_quiet_below (by kernel_rfl) (by kernel_rfl) ?_
      repeat (go_big_quiet_step ((go_at_call 83; exact Calls.regrown_of (HE.out _ (below_regrown _ _ _)))))
      refine wpQuiet_nil ?_
      intro w9 hw9
      have HB9 : Hid (Below w.heap.size w w9) := by obtain ⟨p, rfl⟩ := hw9; exact rg_below hB.out _ _
      clear hw9
      go_wp2
      exact ⟨⟨k + 1, by go_num, by omega, HB9⟩, by simp [intOf]; omega⟩
    · go_wp2
      go_ret
      exact ⟨rfl, hB.out⟩

set_option maxRecDepth 100000 in
set_option maxHeartbeats 1000000 in
theorem eqRoot_same (t : Int) (a b : Option Addr) (ca cb : Nat) (vs : List VolD) (w : World) (hl : vs.length ≤ maxLen) (ha : Hid (VolsAt w a vs)) (hb : Hid (VolsAt w b vs)) :
    Calls Try.prog 27 #[.agg #[.int .i64 t, .slice a vs.length ca], .agg #[.int .i64 t, .slice b vs.length cb]] w fun e w' => e = .returned (.bool true) ∧ Below w.heap.size w w' := by
  have e1 : (t != t) = false := by simp
  have hB : Below w.heap.size w ((w.alloc (.cells #[.int .i64 t, .slice a vs.length ca] 25)).alloc (.cells #[.int .i64 t, .slice b vs.length cb] 25)) := ((Below.refl _ _).alloc (Nat.le_refl _) _).alloc (by simp) _
  have HB := Lib.hid hB
  clear hB
  go_enter Try.func27, Try.ntmps27
  go_wp2_with fail
  refine (eqVolS_same a b ca cb vs _ hl (ha.out.below HB.out) (hb.out.below HB.out)).mono ?_
  rintro e w1 ⟨rfl, hB1⟩
  go_wp2
  go_ret
  exact ⟨rfl, HB.out.trans (hB1.mono HB.out.size)⟩

end Go.Proofs.Ytlonecgmldjdpaa
