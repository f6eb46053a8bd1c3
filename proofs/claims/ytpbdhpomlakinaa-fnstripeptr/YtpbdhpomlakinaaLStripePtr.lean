/- 'laws.FnStripePtr' returns true at every code: of a drawn text and places StripePtr of the program answers as StripePtr of the specification, and a pointer tells how long the text is, its sum and its places, and is ok. Conditions: none. -/
import Derived.Test.YtpbdhpomlakinaaK
import Derived.Test.YtpbdhpomlakinaaDS
import Derived.Test.YtpbdhpomlakinaaP1
import Derived.Test.YtpbdhpomlakinaaPL
import Derived.Test.YtpbdhpomlakinaaEQ
namespace Go.Proofs.Ytpbdhpomlakinaa
open Go.ChangeShapes Go.WideShapes Go.ChangeAt Go.RowKit Go.Sort
namespace FnStripePtr
set_option linter.unusedVariables false

set_option maxRecDepth 100000 in
set_option maxHeartbeats 4000000 in
theorem main (a : Option Addr) (len cap : Nat) (z0 : List Int) (w : World) (h0 : len ≤ 1048576) (H : Hid (IsBytes w a len cap z0)) :
    Calls Try.prog 12 #[.slice a len cap] w fun e w' => e = .returned (.bool true) ∧ Below w.heap.size w w' := by
  have d0 : decide (1048576 < (len : Int)) = false := by simp; omega
  go_enter Try.func12, Try.ntmps12
  go_wp2_with fail
  refine (drawStripe_any a len cap z0 _ H.out).mono ?_
  rintro e w1 ⟨s, ps, v1, rfl, hs9, hv1, hl11, hB1⟩
  obtain ⟨a1, c1, rfl, hcl, hcm, hx1⟩ := hv1
  have HX1 := Lib.hid hx1
  have HB1 := Lib.hid hB1
  clear hx1 hB1 H
  have HI := Lib.hid (fun w' h => implStripe_any s a1 c1 ps w' (by omega) (by omega) h)
  have HD := Lib.hid (fun w' h => specStripe_any s a1 c1 ps w' (by omega) (by omega) h)
  have hd := spD_small s ps (by omega)
  have hm : ps.length ≤ maxLen := by unfold maxLen; omega
  have HSum := Lib.hid (fun w' => implSum_any s w')
  have HOk := Lib.hid (fun a' c' w' h => implPtr_any 4 ⟨(s.size : Int), sumOf s, ps⟩ a' c' w' hm h)
  by_cases hg : SpGood s ps
  · rw [spD_good hg, tt_true hg] at HI HD
    have hok : PtrOkP 4 ⟨(s.size : Int), sumOf s, ps⟩ := ⟨⟨by omega, by omega⟩, hg.2⟩
    rw [tt_true hok] at HOk
    have HDr := Lib.hid (fun a' a2 c' c2 w' h k => lpaPtr_any (s.size : Int) (sumOf s) (s.size : Int) (sumOf s) a' a2 c' c2 ps ps w' hm hm h k)
    rw [tt_true (show Same ⟨(s.size : Int), sumOf s, ps⟩ ⟨(s.size : Int), sumOf s, ps⟩ from rfl)] at HDr
    have HPl := Lib.hid (fun a' a2 c' c2 w' h k => lpaPlaces_any a' a2 c' c2 ps ps w' hm hm h k)
    rw [tt_true (rfl : ps = ps)] at HPl
    clear hd hg hok
    generalize sumOf s = sm at HI HD HSum HOk HDr
    simp only at HI HD HOk
    go_wp2_with fail
    refine (HD.out _ HX1).mono ?_
    rintro e w2 ⟨v2, rfl, ho2, hB2⟩
    obtain ⟨a2, c2, rfl, _, _, hp2⟩ := OwnPl.reads ho2
    have hBb : Below w2.heap.size w2 (w2.alloc (.cells #[.int .i64 (s.size : Int), .int .i64 sm, .slice a2 ps.length c2] 50)) := (Below.refl _ _).alloc (Nat.le_refl _) _
    have hB2b := hB2.trans (hBb.mono hB2.size)
    have HP2 := Lib.hid (hp2.below hBb)
    have HQ2 := Lib.hid (PB.new w2 (s.size : Int) sm (.slice a2 ps.length c2))
    have HX2 := Lib.hid (HX1.out.below hB2b)
    have HB2 := Lib.hid (HB1.out.trans (hB2b.mono HB1.out.size))
    clear ho2 hp2 hB2 hBb hB2b
    go_wp2_with fail
    generalize w2.alloc (.cells #[.int .i64 (s.size : Int), .int .i64 sm, .slice a2 ps.length c2] 50) = wb at HP2 HQ2 HX2 HB2 ⊢
    refine (HI.out _ HX2).mono ?_
    rintro e w3 ⟨v3, rfl, ho3, hB3⟩
    obtain ⟨a3, c3, rfl, _, _, hp3⟩ := OwnPl.reads ho3
    have hBc : Below w3.heap.size w3 (w3.alloc (.cells #[.int .i64 (s.size : Int), .int .i64 sm, .slice a3 ps.length c3] 50)) := (Below.refl _ _).alloc (Nat.le_refl _) _
    have hB3c := hB3.trans (hBc.mono hB3.size)
    have HP3 := Lib.hid (hp3.below hBc)
    have HP23 := Lib.hid (HP2.out.below hB3c)
    have HX3 := Lib.hid (HX2.out.below hB3c)
    have HB3 := Lib.hid (HB2.out.trans (hB3c.mono HB2.out.size))
    have HQ3 := Lib.hid (HQ2.out.below hB3c)
    have HR3 := Lib.hid (PB.new w3 (s.size : Int) sm (.slice a3 ps.length c3))
    obtain ⟨k0, k1, k2, _, _, _⟩ := HQ3.out.cells
    obtain ⟨m0, m1, m2, _, _, _⟩ := HR3.out.cells
    clear ho3 hp3 hB3 hBc hB3c
    go_wp2_with fail
    generalize w3.alloc (.cells #[.int .i64 (s.size : Int), .int .i64 sm, .slice a3 ps.length c3] 50) = wc at HP3 HP23 HX3 HB3 HQ3 HR3 k0 k1 k2 m0 m1 m2 ⊢
    refine (HDr.out a3 a2 c3 c2 _ HP3 HP23).mono ?_
    rintro e w4 ⟨rfl, hB4⟩
    obtain ⟨n0, n1, n2, _, _, _⟩ := (HR3.out.below hB4).cells
    have HP4 := Lib.hid (HP3.out.below hB4)
    have HX4 := Lib.hid (HX3.out.below hB4)
    have HB4 := Lib.hid (HB3.out.trans (hB4.mono HB3.out.size))
    have g0 := cell_regrown n0
    have g1 := cell_regrown n1
    have g2 := cell_regrown n2
    have HPl' := Lib.hid (fun w' (h : Below w4.heap.size w4 w') => HPl.out a3 a1 c3 c1 w' (HP4.out.below h) (HX4.out.below h))
    have HOk' := Lib.hid (fun w' (h : Below w4.heap.size w4 w') => HOk.out a3 c3 w' (HP4.out.below h))
    clear hB4 n0 n1 n2 k0 k1 k2 m0 m1 m2
    have e1 : ((s.size : Int) == (s.size : Int)) = true := by simp
    have e2 : (sm == sm) = true := by simp
    go_wp2_with fail
    refine wp_region_quiet_below (by kernel_rfl) (by kernel_rfl) ?_
    repeat (go_big_quiet_step (first | (go_at_call 40; with_reducible exact Calls.regrown_of (HSum.out _)) | (go_at_call 29; with_reducible exact Calls.regrown_of (HPl'.out _ (below_regrown _ _ _))) | (go_at_call 41; with_reducible exact Calls.regrown_of (HOk'.out _ (below_regrown _ _ _)))))
    refine wpQuiet_nil ?_
    intro w9 hw9
    have HB9 : Hid (Below w.heap.size w w9) := by obtain ⟨p, rfl⟩ := hw9; exact HB4.out.trans ((below_regrown _ _ _).mono HB4.out.size)
    clear hw9
    go_wp2
    go_ret
    exact ⟨rfl, HB9.out⟩
  · rw [spD_bad hg, tt_false hg] at HI HD
    have HDr := Lib.hid (fun a' a2 c' c2 w' h k => lpaPtr_any 0 0 0 0 a' a2 c' c2 [] [] w' (by simp [maxLen]) (by simp [maxLen]) h k)
    rw [tt_true (show Same ⟨0, 0, []⟩ ⟨0, 0, []⟩ from rfl)] at HDr
    clear hd hg HOk HSum
    simp only [ptr0] at HI HD
    go_wp2_with fail
    refine (HD.out _ HX1).mono ?_
    rintro e w2 ⟨v2, rfl, ho2, hB2⟩
    obtain ⟨a2, c2, rfl, _, _, hp2⟩ := OwnPl.reads ho2
    have hBb : Below w2.heap.size w2 (w2.alloc (.cells #[.int .i64 0, .int .i64 0, .slice a2 0 c2] 50)) := (Below.refl _ _).alloc (Nat.le_refl _) _
    have hB2b := hB2.trans (hBb.mono hB2.size)
    have HP2 := Lib.hid (hp2.below hBb)
    have HQ2 := Lib.hid (PB.new w2 0 0 (.slice a2 0 c2))
    have HX2 := Lib.hid (HX1.out.below hB2b)
    have HB2 := Lib.hid (HB1.out.trans (hB2b.mono HB1.out.size))
    clear ho2 hp2 hB2 hBb hB2b
    go_wp2_with fail
    generalize w2.alloc (.cells #[.int .i64 0, .int .i64 0, .slice a2 0 c2] 50) = wb at HP2 HQ2 HX2 HB2 ⊢
    refine (HI.out _ HX2).mono ?_
    rintro e w3 ⟨v3, rfl, ho3, hB3⟩
    obtain ⟨a3, c3, rfl, _, _, hp3⟩ := OwnPl.reads ho3
    have hBc : Below w3.heap.size w3 (w3.alloc (.cells #[.int .i64 0, .int .i64 0, .slice a3 0 c3] 50)) := (Below.refl _ _).alloc (Nat.le_refl _) _
    have hB3c := hB3.trans (hBc.mono hB3.size)
    have HP3 := Lib.hid (hp3.below hBc)
    have HP23 := Lib.hid (HP2.out.below hB3c)
    have HB3 := Lib.hid (HB2.out.trans (hB3c.mono HB2.out.size))
    have HQ3 := Lib.hid (HQ2.out.below hB3c)
    have HR3 := Lib.hid (PB.new w3 0 0 (.slice a3 0 c3))
    obtain ⟨k0, k1, k2, _, _, _⟩ := HQ3.out.cells
    obtain ⟨m0, m1, m2, _, _, _⟩ := HR3.out.cells
    clear ho3 hp3 hB3 hBc hB3c
    go_wp2_with fail
    generalize w3.alloc (.cells #[.int .i64 0, .int .i64 0, .slice a3 0 c3] 50) = wc at HP3 HP23 HB3 HQ3 HR3 k0 k1 k2 m0 m1 m2 ⊢
    refine (HDr.out a3 a2 c3 c2 _ HP3 HP23).mono ?_
    rintro e w4 ⟨rfl, hB4⟩
    obtain ⟨n0, n1, n2, _, _, _⟩ := (HR3.out.below hB4).cells
    obtain ⟨t0, t1, t2, _, _, _⟩ := (HQ3.out.below hB4).cells
    have HP4 := Lib.hid (HP3.out.below hB4)
    have HP24 := Lib.hid (HP23.out.below hB4)
    have HB4 := Lib.hid (HB3.out.trans (hB4.mono HB3.out.size))
    clear hB4 k0 k1 k2 m0 m1 m2
    go_wp2_with fail
    refine (HDr.out a3 a2 c3 c2 _ HP4 HP24).mono ?_
    rintro e w5 ⟨rfl, hB5⟩
    have HB5 := Lib.hid (HB4.out.trans (hB5.mono HB4.out.size))
    clear hB5
    go_wp2
    go_ret
    exact ⟨rfl, HB5.out⟩

set_option maxRecDepth 100000 in
set_option maxHeartbeats 1000000 in
theorem walk (a0 : Option Addr) (len0 cap0 : Nat) (z0 : List Int) (w : World) (w0 : IsBytes w a0 len0 cap0 z0) :
    Calls Try.prog 12 #[.slice a0 len0 cap0] w fun e w' => e = .returned (.bool true) ∧ Below w.heap.size w w' := by
  by_cases h0 : len0 ≤ 1048576
  · exact main a0 len0 cap0 z0 w h0 w0
  · have hm : len0 ≤ maxLen := by have := w0.opened; omega
    have d0 : decide (1048576 < (len0 : Int)) = true := by simp; omega
    clear w0
    go_enter Try.func12, Try.ntmps12
    go_wp2
    go_ret
    exact ⟨rfl, Below.refl _ _⟩

set_option maxRecDepth 100000 in
theorem lifted (os : Os) (started : os.Started) (H : Type) (enc : TypeId × Value → H) :
    ReturnsInHanded {} Try.checked os 12 .any (Rows.fnStripePtrSpec.pre6 enc Try.prog Try.f12 Rows.fnStripePtrRow.domain false) (Rows.fnStripePtrSpec.post enc Try.prog Try.f12 false true false false) := by
  refine returnsInHanded_of_change (C := Try.checked) own started (by kernel_rfl) Try.func12
    (ChangeSpec.witness6 (enc := enc) (C := Try.checked) false ⟨#[], #[.slice none 0 0], []⟩ 8 (by kernel_rfl) (by kernel_rfl) (by kernel_rfl) (by kernel_rfl)) ?_
  intro W base args ds gs before hval0 hW hcnd _
  have hval : ∀ (j : Nat) t v, Try.f12.params[j]? = some t → args[j]? = some v → Value.okWide Try.prog W .any base t v := hval0
  have hW' := hW
  obtain ⟨p, q, hA0, hV, rfl, hfz, hnd⟩ := hW
  have hA : DataW.TrodAll enc Try.prog W 0 (fun _ => true) true Try.f12.params.toList args.toList ds p := hA0
  rw [Try.params12] at hA hval
  obtain ⟨v0, vs0, d0, ds0, p0, q0, hargs, rfl, rfl, h0, r0⟩ := trodAll_cons hA
  obtain ⟨rfl, rfl, rfl⟩ := trodAll_nil r0
  obtain rfl : args = #[v0] := by cases args; simp_all
  obtain ⟨rfl, rfl⟩ := trodVars_none hV
  have k0 := h0
  have lt0 : ∀ x ∈ p0, x.block < W.heap.size := by obtain ⟨m, hm⟩ := k0; exact DataW.trod_lt m _ _ _ hm
  obtain ⟨a0, len0, cap0, rfl⟩ := okWide_slice Try.underlying42 (hval 0 42 v0 rfl rfl)
  obtain ⟨z0, w0⟩ : ∃ zs, IsBytes W a0 len0 cap0 zs := by
    obtain ⟨fuel, hf⟩ := h0
    rcases open_ints Try.underlying42 Try.underlying5 (by kernel_rfl) hf with ⟨hcs, _⟩ | ⟨x, l, c, zs, hcs, _, hl, hm, hz, _, hcell, hwz⟩
    · simp [Value.cells] at hcs
      obtain ⟨rfl, rfl, rfl⟩ := hcs
      exact ⟨[], .inl ⟨rfl, rfl, rfl, rfl⟩⟩
    · simp [Value.cells] at hcs
      obtain ⟨rfl, rfl, rfl⟩ := hcs
      exact ⟨zs, .inr ⟨_, rfl, hl, hm, by simpa using hz, hcell, hwz⟩⟩
  clear hA0 hval0
  refine (walk a0 len0 cap0 z0 W w0).mono fun e W' ⟨he, bel⟩ => ?_
  subst he
  exact ⟨_, rfl, _, _, _, [], _, [], hW', trodAll_mk1 (shut_bool Try.underlying4 _), (trodAll_cons_mk (Below.trod laidOut (by kernel_rfl) (of_decide_eq_true (by kernel_rfl)) k0 bel lt0) trodAll_mk0), rfl, bel.frame _, fun h => by cases h⟩

theorem over : Rows.fnStripePtrRow.holds Try.pinned (OpenSpec.ofChange Rows.fnStripePtrSpec) :=
  OpenClaim.holds_of_wide 12 Try.f12 rfl rfl rfl rfl rfl rfl rfl ⟨rfl, rfl, rfl, rfl, rfl⟩ rfl rfl rfl rfl rfl (by kernel_rfl) Try.func12 (by kernel_rfl)
    (of_decide_eq_true (by kernel_rfl)) (by unfold Func.isWrapper; first | (rw [if_pos (by decide +kernel)]; kernel_rfl) | (rw [if_neg (by decide +kernel)]; exact ⟨rfl, rfl⟩))
    (fun os started H enc _ => lifted os started H enc)

end FnStripePtr

theorem FnStripePtr_holds : Rows.FnStripePtrSaid := FnStripePtr.over

end Go.Proofs.Ytpbdhpomlakinaa
