/- SpaceFree of both sides, at all roots. Conditions: none but the row's own bound on sizes. -/
import Derived.Test.YtlonecgmldjdpaaF2
namespace Go.Proofs.Ytlonecgmldjdpaa
open Go.RowKit Go.Sort Go.Lib

theorem all_short {n : Int} {r : RootD} (h : RootOkP n r) : ∀ p ∈ allOf r.vols, p.places.length ≤ 4 := fun p hp => fine_short h.1 (all_fine h p hp)

set_option maxRecDepth 100000 in
set_option maxHeartbeats 2000000 in
theorem implFree_no (n ta tb : Int) (aa ab : Option Addr) (ca cb : Nat) (va vb : List VolD) (w : World) (hla : va.length ≤ ca) (hlb : vb.length ≤ cb) (hna : Hid (∀ j, j < va.length → (va.getD j vol0).name.size ≤ maxLen)) (hnb : Hid (∀ j, j < vb.length → (vb.getD j vol0).name.size ≤ maxLen)) (hxa : Hid (VolsAt w aa va)) (hxb : Hid (VolsAt w ab vb)) (hno : Hid (¬(RootOkP n ⟨ta, va⟩ ∧ RootOkP n ⟨tb, vb⟩))) :
    Calls Try.prog 19 #[.int .i64 n, .agg #[.int .i64 ta, .slice aa va.length ca], .agg #[.int .i64 tb, .slice ab vb.length cb]] w fun e w' => ∃ v, e = .returned v ∧ OwnPl w' w.heap.size v [] ∧ Below w.heap.size w w' := by
  have HRa := Lib.hid (fun w' h => implRoot_any n ⟨ta, va⟩ aa ca w' hla hna h)
  have HRb := Lib.hid (fun w' h => implRoot_any n ⟨tb, vb⟩ ab cb w' hlb hnb h)
  have hB0 : Below w.heap.size w ((w.alloc (.cells #[.int .i64 ta, .slice aa va.length ca] 25)).alloc (.cells #[.int .i64 tb, .slice ab vb.length cb] 25)) := ((Below.refl _ _).alloc (Nat.le_refl _) _).alloc (by simp) _
  have HB0 := Lib.hid hB0
  have Hb0 : Hid (RB ((w.alloc (.cells #[.int .i64 ta, .slice aa va.length ca] 25)).alloc (.cells #[.int .i64 tb, .slice ab vb.length cb] 25)) (w.heap.size + 1) tb (.slice ab vb.length cb)) := ⟨by simp [go_sem], by simp [go_sem]⟩
  clear hB0
  by_cases hoa : RootOkP n ⟨ta, va⟩
  · have hob : ¬RootOkP n ⟨tb, vb⟩ := fun h => hno.out ⟨hoa, h⟩
    rw [tt_true hoa] at HRa
    rw [tt_false hob] at HRb
    clear hoa hob
    go_enter Try.func19, Try.ntmps19
    go_wp2_with fail
    refine (HRa.out _ (hxa.out.below HB0.out)).mono ?_
    rintro e w1 ⟨rfl, hB1⟩
    have HB1 := Lib.hid (HB0.out.trans (hB1.mono HB0.out.size))
    obtain ⟨y0, y1⟩ := Hb0.out.below hB1
    clear hB1
    go_wp2_with fail
    refine (HRb.out _ (hxb.out.below HB1.out)).mono ?_
    rintro e w2 ⟨rfl, hB2⟩
    have HB2 := Lib.hid (HB1.out.trans (hB2.mono HB1.out.size))
    clear hB2 y0 y1
    go_wp2
    go_ret
    exact ⟨_, rfl, ⟨rfl, .inl ⟨rfl, rfl⟩⟩, HB2.out⟩
  · rw [tt_false hoa] at HRa
    clear hoa
    go_enter Try.func19, Try.ntmps19
    go_wp2_with fail
    refine (HRa.out _ (hxa.out.below HB0.out)).mono ?_
    rintro e w1 ⟨rfl, hB1⟩
    have HB1 := Lib.hid (HB0.out.trans (hB1.mono HB0.out.size))
    clear hB1
    go_wp2
    go_ret
    exact ⟨_, rfl, ⟨rfl, .inl ⟨rfl, rfl⟩⟩, HB1.out⟩

theorem own_empty (w : World) (base : Nat) (hb : base ≤ w.heap.size) : (w.alloc (.cells #[] 39)).ownsRow base 39 2 (.slice (some ⟨w.heap.size, 0, none⟩) 0 0) 0 [] :=
  own_mono (World.ownsRow_made (e := 39) (size := 2) w #[] 0 (Nat.le_refl _) (by simp [maxLen]) (by simp)) hb

set_option maxRecDepth 100000 in
set_option maxHeartbeats 2000000 in
theorem specFree_no (n ta tb : Int) (aa ab : Option Addr) (ca cb : Nat) (va vb : List VolD) (w : World) (hla : va.length ≤ maxLen) (hlb : vb.length ≤ maxLen) (hna : Hid (∀ j, j < va.length → (va.getD j vol0).name.size ≤ maxLen)) (hnb : Hid (∀ j, j < vb.length → (vb.getD j vol0).name.size ≤ maxLen)) (hxa : Hid (VolsAt w aa va)) (hxb : Hid (VolsAt w ab vb)) (hno : Hid (¬(RootOkP n ⟨ta, va⟩ ∧ RootOkP n ⟨tb, vb⟩))) :
    Calls Try.prog 20 #[.int .i64 n, .agg #[.int .i64 ta, .slice aa va.length ca], .agg #[.int .i64 tb, .slice ab vb.length cb]] w fun e w' => ∃ v, e = .returned v ∧ OwnPl w' w.heap.size v [] ∧ Below w.heap.size w w' := by
  have HRa := Lib.hid (fun w' h => specRoot_any n ⟨ta, va⟩ aa ca w' hla hna h)
  have HRb := Lib.hid (fun w' h => specRoot_any n ⟨tb, vb⟩ ab cb w' hlb hnb h)
  have hB0 : Below w.heap.size w ((w.alloc (.cells #[.int .i64 ta, .slice aa va.length ca] 25)).alloc (.cells #[.int .i64 tb, .slice ab vb.length cb] 25)) := ((Below.refl _ _).alloc (Nat.le_refl _) _).alloc (by simp) _
  have HB0 := Lib.hid hB0
  have Hb0 : Hid (RB ((w.alloc (.cells #[.int .i64 ta, .slice aa va.length ca] 25)).alloc (.cells #[.int .i64 tb, .slice ab vb.length cb] 25)) (w.heap.size + 1) tb (.slice ab vb.length cb)) := ⟨by simp [go_sem], by simp [go_sem]⟩
  clear hB0
  by_cases hoa : RootOkP n ⟨ta, va⟩
  · have hob : ¬RootOkP n ⟨tb, vb⟩ := fun h => hno.out ⟨hoa, h⟩
    rw [tt_true hoa] at HRa
    rw [tt_false hob] at HRb
    clear hoa hob
    go_enter Try.func20, Try.ntmps20
    go_wp2_with fail
    refine (HRa.out _ (hxa.out.below HB0.out)).mono ?_
    rintro e w1 ⟨rfl, hB1⟩
    have HB1 := Lib.hid (HB0.out.trans (hB1.mono HB0.out.size))
    obtain ⟨y0, y1⟩ := Hb0.out.below hB1
    clear hB1
    go_wp2_with fail
    refine (HRb.out _ (hxb.out.below HB1.out)).mono ?_
    rintro e w2 ⟨rfl, hB2⟩
    have HB2 := Lib.hid (HB1.out.trans (hB2.mono HB1.out.size))
    clear hB2 y0 y1
    go_wp2
    go_ret
    exact ⟨_, rfl, own_empty w2 _ HB2.out.size, HB2.out.alloc HB2.out.size _⟩
  · rw [tt_false hoa] at HRa
    clear hoa
    go_enter Try.func20, Try.ntmps20
    go_wp2_with fail
    refine (HRa.out _ (hxa.out.below HB0.out)).mono ?_
    rintro e w1 ⟨rfl, hB1⟩
    have HB1 := Lib.hid (HB0.out.trans (hB1.mono HB0.out.size))
    clear hB1
    go_wp2
    go_ret
    exact ⟨_, rfl, own_empty w1 _ HB1.out.size, HB1.out.alloc HB1.out.size _⟩

set_option maxRecDepth 100000 in
set_option maxHeartbeats 2000000 in
theorem specFree_ok (nn : Nat) (ta tb : Int) (aa ab : Option Addr) (ca cb : Nat) (va vb : List VolD) (w : World) (hla : va.length ≤ maxLen) (hlb : vb.length ≤ maxLen) (hna : Hid (∀ j, j < va.length → (va.getD j vol0).name.size ≤ maxLen)) (hnb : Hid (∀ j, j < vb.length → (vb.getD j vol0).name.size ≤ maxLen)) (hxa : Hid (VolsAt w aa va)) (hxb : Hid (VolsAt w ab vb)) (hoa : Hid (RootOkP (nn : Int) ⟨ta, va⟩)) (hob : Hid (RootOkP (nn : Int) ⟨tb, vb⟩)) :
    Calls Try.prog 20 #[.int .i64 (nn : Int), .agg #[.int .i64 ta, .slice aa va.length ca], .agg #[.int .i64 tb, .slice ab vb.length cb]] w fun e w' => ∃ v, e = .returned v ∧ OwnPl w' w.heap.size v (pick (FreeP va vb) (gridTo nn)) ∧ Below w.heap.size w w' := by
  have HRa := Lib.hid (fun w' h => specRoot_any (nn : Int) ⟨ta, va⟩ aa ca w' hla hna h)
  have HRb := Lib.hid (fun w' h => specRoot_any (nn : Int) ⟨tb, vb⟩ ab cb w' hlb hnb h)
  rw [tt_true hoa.out] at HRa
  rw [tt_true hob.out] at HRb
  have HL := Lib.hid (fun w' (h : Below w.heap.size w w') => l12Free_any nn ta tb aa ab ca cb va vb w' (by have := hoa.out.1.2; omega)
    (fun d s w'' h2 => l12Used_any ta aa ca va d s w'' hoa.out.2.2.1.threes (all_short hoa.out) (hxa.out.below (h.trans (h2.mono h.size))))
    (fun d s w'' h2 => l12Used_any tb ab cb vb d s w'' hob.out.2.2.1.threes (all_short hob.out) (hxb.out.below (h.trans (h2.mono h.size)))))
  have hB0 : Below w.heap.size w ((w.alloc (.cells #[.int .i64 ta, .slice aa va.length ca] 25)).alloc (.cells #[.int .i64 tb, .slice ab vb.length cb] 25)) := ((Below.refl _ _).alloc (Nat.le_refl _) _).alloc (by simp) _
  have HB0 := Lib.hid hB0
  have Ha0 : Hid (RB ((w.alloc (.cells #[.int .i64 ta, .slice aa va.length ca] 25)).alloc (.cells #[.int .i64 tb, .slice ab vb.length cb] 25)) w.heap.size ta (.slice aa va.length ca)) := ⟨by simp [go_sem], by simp [go_sem]⟩
  have Hb0 : Hid (RB ((w.alloc (.cells #[.int .i64 ta, .slice aa va.length ca] 25)).alloc (.cells #[.int .i64 tb, .slice ab vb.length cb] 25)) (w.heap.size + 1) tb (.slice ab vb.length cb)) := ⟨by simp [go_sem], by simp [go_sem]⟩
  clear hB0
  go_enter Try.func20, Try.ntmps20
  go_wp2_with fail
  refine (HRa.out _ (hxa.out.below HB0.out)).mono ?_
  rintro e w1 ⟨rfl, hB1⟩
  have HB1 := Lib.hid (HB0.out.trans (hB1.mono HB0.out.size))
  have Ha1 := Lib.hid (Ha0.out.below hB1)
  obtain ⟨y0, y1⟩ := Hb0.out.below hB1
  have Hb1 := Lib.hid (And.intro y0 y1)
  clear hB1
  go_wp2_with fail
  refine (HRb.out _ (hxb.out.below HB1.out)).mono ?_
  rintro e w2 ⟨rfl, hB2⟩
  have HB2 := Lib.hid (HB1.out.trans (hB2.mono HB1.out.size))
  obtain ⟨x0, x1⟩ := Ha1.out.below hB2
  obtain ⟨z0, z1⟩ := RB.below Hb1.out hB2
  clear hB2 y0 y1 Ha1 Hb1 Ha0 Hb0
  go_wp2_with fail
  refine (HL.out _ HB2.out).mono ?_
  rintro e w3 ⟨v3, rfl, ho3, hB3⟩
  have HE : Hid (OwnPl w3 w.heap.size v3 (pick (FreeP va vb) (gridTo nn)) ∧ Below w.heap.size w w3) := ⟨own_mono ho3 HB2.out.size, HB2.out.trans (hB3.mono HB2.out.size)⟩
  clear ho3 hB3 x0 x1 z0 z1
  go_wp2
  go_ret
  exact ⟨_, rfl, HE.out⟩

theorem implFree_any (n ta tb : Int) (aa ab : Option Addr) (ca cb : Nat) (va vb : List VolD) (w : World) (hla : va.length ≤ ca) (hlb : vb.length ≤ cb) (hna : Hid (∀ j, j < va.length → (va.getD j vol0).name.size ≤ maxLen)) (hnb : Hid (∀ j, j < vb.length → (vb.getD j vol0).name.size ≤ maxLen)) (hxa : Hid (VolsAt w aa va)) (hxb : Hid (VolsAt w ab vb)) :
    Calls Try.prog 19 #[.int .i64 n, .agg #[.int .i64 ta, .slice aa va.length ca], .agg #[.int .i64 tb, .slice ab vb.length cb]] w fun e w' => ∃ v, e = .returned v ∧ OwnPl w' w.heap.size v (fre n ⟨ta, va⟩ ⟨tb, vb⟩) ∧ Below w.heap.size w w' := by
  by_cases h : RootOkP n ⟨ta, va⟩ ∧ RootOkP n ⟨tb, vb⟩
  · obtain ⟨nn, rfl⟩ := Int.eq_ofNat_of_zero_le (show 0 ≤ n by have := h.1.1.1; omega)
    rw [fre_ok h.1 h.2]
    exact implFree_ok nn ta tb aa ab ca cb va vb w hla hlb hna hnb hxa hxb h.1 h.2
  · rw [fre_no h]
    exact implFree_no n ta tb aa ab ca cb va vb w hla hlb hna hnb hxa hxb h
theorem specFree_any (n ta tb : Int) (aa ab : Option Addr) (ca cb : Nat) (va vb : List VolD) (w : World) (hla : va.length ≤ maxLen) (hlb : vb.length ≤ maxLen) (hna : Hid (∀ j, j < va.length → (va.getD j vol0).name.size ≤ maxLen)) (hnb : Hid (∀ j, j < vb.length → (vb.getD j vol0).name.size ≤ maxLen)) (hxa : Hid (VolsAt w aa va)) (hxb : Hid (VolsAt w ab vb)) :
    Calls Try.prog 20 #[.int .i64 n, .agg #[.int .i64 ta, .slice aa va.length ca], .agg #[.int .i64 tb, .slice ab vb.length cb]] w fun e w' => ∃ v, e = .returned v ∧ OwnPl w' w.heap.size v (fre n ⟨ta, va⟩ ⟨tb, vb⟩) ∧ Below w.heap.size w w' := by
  by_cases h : RootOkP n ⟨ta, va⟩ ∧ RootOkP n ⟨tb, vb⟩
  · obtain ⟨nn, rfl⟩ := Int.eq_ofNat_of_zero_le (show 0 ≤ n by have := h.1.1.1; omega)
    rw [fre_ok h.1 h.2]
    exact specFree_ok nn ta tb aa ab ca cb va vb w hla hlb hna hnb hxa hxb h.1 h.2
  · rw [fre_no h]
    exact specFree_no n ta tb aa ab ca cb va vb w hla hlb hna hnb hxa hxb h

end Go.Proofs.Ytlonecgmldjdpaa
