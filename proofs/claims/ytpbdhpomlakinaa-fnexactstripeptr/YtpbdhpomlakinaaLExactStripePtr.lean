/- 'laws.FnExactStripePtr' returns true at every text and all places: StripePtr of the program answers as StripePtr of the specification, changes no argument, and its answer owns its memory, behind another call too. Conditions: none. -/
import Derived.Test.YtpbdhpomlakinaaK
import Derived.Test.YtpbdhpomlakinaaR1
import Derived.Test.YtpbdhpomlakinaaEQ
namespace Go.Proofs.Ytpbdhpomlakinaa
open Go.ChangeShapes Go.WideShapes Go.ChangeAt Go.RowKit Go.Sort
open Go.ChangeMaps (open_string shut_string)
namespace FnExactStripePtr
set_option linter.unusedVariables false

theorem PB.mkLow {lo hi : Nat} {w w' : World} {g : Nat} {z s : Int} {v : Value} (h : PB w g z s v) (hm : Mk lo hi w w') (hg : g < lo) : PB w' g z s v := (hm.low.block g hg).trans h
theorem PB.mkHigh {lo hi : Nat} {w w' : World} {g : Nat} {z s : Int} {v : Value} (h : PB w g z s v) (hm : Mk lo hi w w') (hg : hi ≤ g) : PB w' g z s v := (hm.high g hg h.lt).trans h

set_option maxRecDepth 100000 in
set_option maxHeartbeats 4000000 in
theorem main (s : ByteArray) (a : Option Addr) (cap : Nat) (ps : List PlD) (w : World) (hs : s.size ≤ 1048576) (hl : ps.length ≤ maxLen) (H0 : Hid (PlacesAt w a ps)) :
    Calls Try.prog 13 #[.string s, .slice a ps.length cap] w fun e w' => e = .returned (.bool true) ∧ Below w.heap.size w w' := by
  have ds : decide ((s.size : Int) ≤ 1048576) = true := by simp; omega
  go_enter Try.func13, Try.ntmps13
  go_wp2_with fail
  refine (szPlaceS_any a ps.length cap 1048576 _ hl (Nat.le_refl _)).mono ?_
  rintro e w1 ⟨he, hB1⟩
  have HB1 := Lib.hid hB1
  clear hB1
  rcases he with rfl | ⟨r, rfl, hr⟩
  · go_wp2
    go_ret
    exact ⟨rfl, HB1.out⟩
  have d0 : decide ((r : Int) < 0) = false := by simp
  have hl2 : ps.length ≤ 1048576 := by omega
  clear hr
  have HT := Lib.hid (fun w' (h : Below w.heap.size w w') => toPlaceS_any a cap ps w' hl2 (H0.out.below h))
  have HI := Lib.hid (fun a' c' w' h => implStripe_any s a' c' ps w' hs hl2 h)
  have HD := Lib.hid (fun a' c' w' h => specStripe_any s a' c' ps w' hs hl2 h)
  have hd := spD_small s ps hl2
  generalize spD s ps = D at HI HD hd
  generalize tt (SpGood s ps) = bb at HI HD
  have ebb : (bb != bb) = false := by simp
  obtain ⟨z, sm, ds'⟩ := D
  simp only at HI HD hd
  clear hs ds
  go_wp2_with fail
  refine (HT.out _ HB1.out).mono ?_
  rintro e w2 ⟨v2, rfl, ho2, hB2⟩
  obtain ⟨a2, c2, rfl, _, _, hp2⟩ := OwnPl.reads ho2
  have HP2 := Lib.hid hp2
  have HB2 := Lib.hid (HB1.out.trans (hB2.mono HB1.out.size))
  clear ho2 hp2 hB2
  go_wp2_with fail
  refine (HD.out _ _ _ HP2).mono ?_
  rintro e w3 ⟨v3, rfl, ho3, hB3⟩
  obtain ⟨a3, c3, rfl, _, _, hp3⟩ := OwnPl.reads ho3
  have HB3 := Lib.hid (HB2.out.trans (hB3.mono HB2.out.size))
  have HBb : Hid (Below w3.heap.size w3 (w3.alloc (.cells #[.int .i64 z, .int .i64 sm, .slice a3 ds'.length c3] 50))) := (Below.refl _ _).alloc (Nat.le_refl _) _
  have HW3 := Lib.hid (hp3.below HBb.out)
  have HQ3 := Lib.hid (PB.new w3 z sm (.slice a3 ds'.length c3))
  have HB3b := Lib.hid (HB3.out.trans (HBb.out.mono HB3.out.size))
  clear ho3 hp3 hB3
  go_wp2_with fail
  generalize hW : w3.alloc (.cells #[.int .i64 z, .int .i64 sm, .slice a3 ds'.length c3] 50) = wb at HW3 HQ3 HB3b ⊢
  have hs3b : wb.heap.size = w3.heap.size + 1 := by rw [← hW]; simp
  have Hs3b := Lib.hid hs3b
  clear hW hs3b HBb
  refine (HT.out _ HB3b.out).mono ?_
  rintro e w4 ⟨v4, rfl, ho4, hB4⟩
  obtain ⟨a4, c4, rfl, hc4, _, hp4⟩ := OwnPl.reads ho4
  have HSh4 := Lib.hid (OwnPl.shape ho4)
  have HP4 := Lib.hid hp4
  have HBx := Lib.hid hB4
  have HQ4 := Lib.hid (HQ3.out.below hB4)
  have HB4 := Lib.hid (HB3b.out.trans (hB4.mono HB3b.out.size))
  clear ho4 hp4 hB4
  go_wp2_with fail
  refine (HI.out _ _ _ HP4).mono ?_
  rintro e w5 ⟨v5, rfl, ho5, hB5⟩
  obtain ⟨a5, c5, rfl, _, _, hp5⟩ := OwnPl.reads ho5
  have hBc : Below w5.heap.size w5 (w5.alloc (.cells #[.int .i64 z, .int .i64 sm, .slice a5 ds'.length c5] 50)) := (Below.refl _ _).alloc (Nat.le_refl _) _
  have hB5c := hB5.trans (hBc.mono hB5.size)
  have HO5 := Lib.hid (OwnPl.below ho5 hBc)
  have Hne : Hid (∀ i, (Value.slice a5 ds'.length c5).ownBlock = some i → w4.heap.size ≤ i ∧ i < w5.heap.size) := fun i e => World.ownsRow.lt ho5 i e
  have HP5 := Lib.hid (hp5.below hBc)
  have HR5 := Lib.hid (PB.new w5 z sm (.slice a5 ds'.length c5))
  have HQ5 := Lib.hid (HQ4.out.below hB5c)
  have HW5 := Lib.hid (HW3.out.below (HBx.out.trans (hB5c.mono HBx.out.size)))
  have HB45 := Lib.hid hB5c
  have HX5 := Lib.hid (HP4.out.below hB5c)
  obtain ⟨k0, k1, k2, _, _, _⟩ := HQ5.out.cells
  obtain ⟨m0, m1, m2, _, _, _⟩ := HR5.out.cells
  have hs45 : w4.heap.size ≤ w5.heap.size := hB5.size
  have Hs45 := Lib.hid hs45
  clear ho5 hp5 hB5 hBc hB5c hs45
  go_wp2_with fail
  generalize w5.alloc (.cells #[.int .i64 z, .int .i64 sm, .slice a5 ds'.length c5] 50) = wc at HO5 HP5 HR5 HQ5 HW5 HB45 HX5 k0 k1 k2 m0 m1 m2 ⊢
  refine (eqPtr_same z sm a5 a3 c5 c3 ds' _ (by unfold maxLen; omega) HP5 HW5).mono ?_
  rintro e w6 ⟨rfl, hB6⟩
  have HO6 := Lib.hid (OwnPl.below HO5.out hB6)
  have HR6 := Lib.hid (HR5.out.below hB6)
  have HQ6 := Lib.hid (HQ5.out.below hB6)
  have HB46 := Lib.hid (HB45.out.trans (hB6.mono HB45.out.size))
  have HX6 := Lib.hid (HX5.out.below hB6)
  have HB6 := Lib.hid (HB4.out.trans (HB46.out.mono HB4.out.size))
  clear hB6 HO5 HR5 HQ5 HB45 HX5 k0 k1 k2 m0 m1 m2 HP5 HW5
  go_wp2_with fail
  refine (HT.out _ HB6.out).mono ?_
  rintro e w7 ⟨v7, rfl, ho7, hB7⟩
  obtain ⟨a7, c7, rfl, _, _, hp7⟩ := OwnPl.reads ho7
  have HP7 := Lib.hid hp7
  have HX7 := Lib.hid (HX6.out.below hB7)
  have HB67 := Lib.hid hB7
  clear ho7 hp7 hB7
  go_wp2_with fail
  refine (eqPlaceS_same a4 a7 c4 c7 ps _ hl HX7 HP7).mono ?_
  rintro e w8 ⟨rfl, hB8⟩
  have HB68 := Lib.hid (HB67.out.trans (hB8.mono HB67.out.size))
  have HB48 := Lib.hid (HB46.out.trans (HB68.out.mono HB46.out.size))
  have HO8 := Lib.hid (OwnPl.below HO6.out HB68.out)
  have HR8 := Lib.hid (HR6.out.below HB68.out)
  have HQ8 := Lib.hid (HQ6.out.below HB68.out)
  have hlo : wb.heap.size ≤ w8.heap.size := by have := HBx.out.size; have := HB48.out.size; omega
  clear hB8 HB67 HX7 HP7 HX6 HO6 HR6 HQ6
  go_wp2_with fail
  refine (markPlaceS_mk wb.heap.size w4.heap.size a4 ps.length c4 1 _ hlo (by omega) (HSh4.out.mk (Mk.of_below HB48.out HBx.out.size))).mono ?_
  rintro e w9 ⟨rfl, hm9⟩
  have d9 : decide (((1 + ps.length * 2 : Nat) : Int) < 0) = false := by simp; omega
  have HO9 : Hid (OwnPl w9 w4.heap.size (.slice a5 ds'.length c5) ds') := hm9.own HO8.out (Nat.le_refl _)
  have HR9 := Lib.hid (PB.mkHigh HR8.out hm9 Hs45.out)
  have HQ9 := Lib.hid (PB.mkLow HQ8.out hm9 (by have := Hs3b.out; omega))
  have HBx9 := Lib.hid ((HBx.out.trans (HB48.out.mono HBx.out.size)).trans hm9.low)
  have HW9 := Lib.hid (HW3.out.below HBx9.out)
  obtain ⟨a', c', hv', _, _, hp9⟩ := OwnPl.reads HO9.out
  cases hv'
  have HP9 := Lib.hid hp9
  obtain ⟨k0, k1, k2, _, _, _⟩ := HQ9.out.cells
  obtain ⟨m0, m1, m2, _, _, _⟩ := HR9.out.cells
  generalize 1 + ps.length * 2 = mm at d9
  clear hm9 hp9 hlo HO8 HR8 HQ8
  go_wp2_with fail
  refine (eqPtr_same z sm a5 a3 c5 c3 ds' _ (by unfold maxLen; omega) HP9 HW9).mono ?_
  rintro e w10 ⟨rfl, hB10⟩
  have HO10 := Lib.hid (OwnPl.below HO9.out hB10)
  have HR10 := Lib.hid (HR9.out.below hB10)
  have HQ10 := Lib.hid (HQ9.out.below hB10)
  have HBx10 := Lib.hid (HBx9.out.trans (hB10.mono HBx9.out.size))
  obtain ⟨n0, n1, n2, _, _, _⟩ := HR10.out.cells
  clear hB10 HO9 HR9 HQ9 k0 k1 k2 m0 m1 m2
  go_wp2_with fail
  refine (markPtr_any w4.heap.size 1 z sm _ ds' _ (by omega) HO10).mono ?_
  rintro e w11 ⟨rfl, hg11, ho11⟩
  obtain ⟨a'', c'', hv'', _, _, hp11⟩ := OwnPl.reads ho11
  rw [mkPl_length] at hv''
  cases hv''
  have HP11 := Lib.hid hp11
  have hB11 : Below w4.heap.size w10 w11 := ⟨hg11.os, hg11.tape, hg11.output, hg11.size, fun k hk => hg11.block k (by have := HR10.out.lt; have := Hs45.out; omega) (fun e => by have := (Hne.out k e.symm).1; omega)⟩
  have HQ11 : Hid (PB w11 w3.heap.size z sm (.slice a3 ds'.length c3)) := (hB11.block w3.heap.size (by have := Hs3b.out; have := HBx.out.size; omega)).trans HQ10.out
  have HR11 : Hid (PB w11 w5.heap.size z sm (.slice a5 ds'.length c5)) := (hg11.block w5.heap.size HR10.out.lt (fun e => by have := (Hne.out _ e.symm).2; omega)).trans HR10.out
  have HBx11 := Lib.hid (HBx10.out.trans (hB11.mono HBx.out.size))
  obtain ⟨k0, k1, k2, _, _, _⟩ := HR11.out.cells
  clear hg11 ho11 hp11 hB11 n0 n1 n2 HQ10 HR10
  have HH := Lib.hid (fun w' h => heldPtr_marks z sm a5 ds'.length c5 1 w' (by omega) h)
  have d1 : decide (((1 + ds'.length * 2 : Nat) : Int) < 0) = false := by simp; omega
  generalize 1 + ds'.length * 2 = m at HH d1
  have d2 : ((m : Int) != (m : Int)) = false := by simp
  go_wp2_with fail
  refine (HH.out _ HP11).mono ?_
  rintro e w12 ⟨rfl, hB12⟩
  have HF12 := Lib.hid hB12
  have HBx12 := Lib.hid (HBx11.out.trans (hB12.mono HBx11.out.size))
  have HBw12 := Lib.hid (HB3b.out.trans (HBx12.out.mono HB3b.out.size))
  have HQ12 := Lib.hid (HQ11.out.below hB12)
  have HR12 := Lib.hid (HR11.out.below hB12)
  clear hB12 k0 k1 k2 HQ11 HR11
  go_wp2_with fail
  refine (HT.out _ HBw12.out).mono ?_
  rintro e w13 ⟨v13, rfl, ho13, hB13⟩
  obtain ⟨a13, c13, rfl, _, _, hp13⟩ := OwnPl.reads ho13
  have HP13 := Lib.hid hp13
  have HF13 := Lib.hid (HF12.out.trans (hB13.mono HF12.out.size))
  have HBx13 := Lib.hid (HBx12.out.trans (hB13.mono HBx12.out.size))
  have HQ13 := Lib.hid (HQ12.out.below hB13)
  have HR13 := Lib.hid (HR12.out.below hB13)
  clear ho13 hp13 hB13 HQ12 HR12
  go_wp2_with fail
  refine (HI.out _ _ _ HP13).mono ?_
  rintro e w14 ⟨v14, rfl, ho14, hB14⟩
  obtain ⟨a14, c14, rfl, _, _, hp14⟩ := OwnPl.reads ho14
  have hBe : Below w14.heap.size w14 (w14.alloc (.cells #[.int .i64 z, .int .i64 sm, .slice a14 ds'.length c14] 50)) := (Below.refl _ _).alloc (Nat.le_refl _) _
  have hB14e := hB14.trans (hBe.mono hB14.size)
  have HP14 := Lib.hid (hp14.below hBe)
  have HF14 := Lib.hid (HF13.out.trans (hB14e.mono HF13.out.size))
  have HBx14 := Lib.hid (HBx13.out.trans (hB14e.mono HBx13.out.size))
  have HW14 := Lib.hid (HW3.out.below HBx14.out)
  obtain ⟨k0, k1, k2, _, _, _⟩ := (HQ13.out.below hB14e).cells
  obtain ⟨m0, m1, m2, _, _, _⟩ := (PB.new w14 z sm (.slice a14 ds'.length c14)).cells
  have HR14 := Lib.hid (HR13.out.below hB14e)
  clear ho14 hp14 hB14 hBe hB14e
  go_wp2_with fail
  generalize w14.alloc (.cells #[.int .i64 z, .int .i64 sm, .slice a14 ds'.length c14] 50) = wd at HP14 HF14 HBx14 HW14 k0 k1 k2 m0 m1 m2 HR14 ⊢
  refine (eqPtr_same z sm a14 a3 c14 c3 ds' _ (by unfold maxLen; omega) HP14 HW14).mono ?_
  rintro e w15 ⟨rfl, hB15⟩
  have HP15 := Lib.hid (HP11.out.below (HF14.out.trans (hB15.mono HF14.out.size)))
  have HBx15 := Lib.hid (HBx14.out.trans (hB15.mono HBx14.out.size))
  obtain ⟨n0, n1, n2, _, _, _⟩ := (HR14.out.below hB15).cells
  clear hB15 k0 k1 k2 m0 m1 m2
  go_wp2_with fail
  refine (HH.out _ HP15).mono ?_
  rintro e w16 ⟨rfl, hB16⟩
  have HE := Lib.hid (HB3b.out.trans ((HBx15.out.trans (hB16.mono HBx15.out.size)).mono HB3b.out.size))
  clear hB16 n0 n1 n2
  go_wp2
  go_ret
  exact ⟨rfl, HE.out⟩

set_option maxRecDepth 100000 in
set_option maxHeartbeats 1000000 in
theorem walk (a0 : ByteArray) (u1 : Value) (x1 : List PlD) (w : World) (w0 : a0.size ≤ maxLen) (w1 : PlacesV w u1 x1) :
    Calls Try.prog 13 #[.string a0, u1] w fun e w' => e = .returned (.bool true) ∧ Below w.heap.size w w' := by
  obtain ⟨a, cap, rfl, h1, h2, h3⟩ := w1
  by_cases h0 : a0.size ≤ 1048576
  · exact main a0 a cap x1 w h0 (by omega) h3
  · clear w0
    go_enter Try.func13, Try.ntmps13
    go_wp2
    go_ret
    exact ⟨rfl, Below.refl _ _⟩

set_option maxRecDepth 100000 in
theorem lifted (os : Os) (started : os.Started) (H : Type) (enc : TypeId × Value → H) :
    ReturnsInHanded {} Try.checked os 13 .any (Rows.fnExactStripePtrSpec.pre6 enc Try.prog Try.f13 Rows.fnExactStripePtrRow.domain false) (Rows.fnExactStripePtrSpec.post enc Try.prog Try.f13 false true false false) := by
  refine returnsInHanded_of_change (C := Try.checked) own started (by kernel_rfl) Try.func13
    (ChangeSpec.witness6 (enc := enc) (C := Try.checked) false ⟨#[], #[.string ByteArray.empty, .slice none 0 0], []⟩ 8 (by kernel_rfl) (by kernel_rfl) (by kernel_rfl) (by kernel_rfl)) ?_
  intro W base args ds gs before hval0 hW hcnd _
  have hval : ∀ (j : Nat) t v, Try.f13.params[j]? = some t → args[j]? = some v → Value.okWide Try.prog W .any base t v := hval0
  have hW' := hW
  obtain ⟨p, q, hA0, hV, rfl, hfz, hnd⟩ := hW
  have hA : DataW.TrodAll enc Try.prog W 0 (fun _ => true) true Try.f13.params.toList args.toList ds p := hA0
  rw [Try.params13] at hA hval
  obtain ⟨v0, vs0, d0, ds0, p0, q0, hargs, rfl, rfl, h0, r0⟩ := trodAll_cons hA
  obtain ⟨v1, vs1, d1, ds1, p1, q1, rfl, rfl, rfl, h1, r1⟩ := trodAll_cons r0
  obtain ⟨rfl, rfl, rfl⟩ := trodAll_nil r1
  obtain rfl : args = #[v0, v1] := by cases args; simp_all
  obtain ⟨rfl, rfl⟩ := trodVars_none hV
  have k0 := h0
  have lt0 : ∀ x ∈ p0, x.block < W.heap.size := by obtain ⟨m, hm⟩ := k0; exact DataW.trod_lt m _ _ _ hm
  obtain ⟨a0, rfl, rfl, e0, w0⟩ := open_string Try.underlying9 (hval 0 9 v0 rfl rfl) h0
  have k1 := h1
  have lt1 : ∀ x ∈ p1, x.block < W.heap.size := by obtain ⟨m, hm⟩ := k1; exact DataW.trod_lt m _ _ _ hm
  obtain ⟨a1, len1, cap1, rfl⟩ := okWide_slice Try.underlying68 (hval 1 68 v1 rfl rfl)
  obtain ⟨x1, w1⟩ : ∃ ps, PlacesV W (.slice a1 len1 cap1) ps := by
    obtain ⟨fuel, hf⟩ := h1
    exact in_places hf
  clear hA0 hval0
  refine (walk a0 (.slice a1 len1 cap1) x1 W w0 w1).mono fun e W' ⟨he, bel⟩ => ?_
  subst he
  exact ⟨_, rfl, _, _, _, [], _, [], hW', trodAll_mk1 (shut_bool Try.underlying4 _), (trodAll_cons_mk (Below.trod laidOut (by kernel_rfl) (of_decide_eq_true (by kernel_rfl)) k0 bel lt0) (trodAll_cons_mk (Below.trod laidOut (by kernel_rfl) (of_decide_eq_true (by kernel_rfl)) k1 bel lt1) trodAll_mk0)), rfl, bel.frame _, fun h => by cases h⟩

theorem over : Rows.fnExactStripePtrRow.holds Try.pinned (OpenSpec.ofChange Rows.fnExactStripePtrSpec) :=
  OpenClaim.holds_of_wide 13 Try.f13 rfl rfl rfl rfl rfl rfl rfl ⟨rfl, rfl, rfl, rfl, rfl⟩ rfl rfl rfl rfl rfl (by kernel_rfl) Try.func13 (by kernel_rfl)
    (of_decide_eq_true (by kernel_rfl)) (by unfold Func.isWrapper; first | (rw [if_pos (by decide +kernel)]; kernel_rfl) | (rw [if_neg (by decide +kernel)]; exact ⟨rfl, rfl⟩))
    (fun os started H enc _ => lifted os started H enc)

end FnExactStripePtr

theorem FnExactStripePtr_holds : Rows.FnExactStripePtrSaid := FnExactStripePtr.over

end Go.Proofs.Ytpbdhpomlakinaa
