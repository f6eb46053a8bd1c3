/- 'laws.FnPtrApart' returns true at every code: of a drawn pointer PtrOk of the program answers as PtrOk of the specification, and if it is ok its columns are on disks of their own. Conditions: none. -/
import Derived.Test.YtagfnhgioljfnaaK
import Derived.Test.YtagfnhgioljfnaaD9
import Derived.Test.YtagfnhgioljfnaaP1
namespace Go.Proofs.Ytagfnhgioljfnaa
open Go.ChangeShapes Go.WideShapes Go.ChangeAt Go.RowKit Go.Sort
namespace FnPtrApart
set_option linter.unusedVariables false

set_option maxRecDepth 100000 in
set_option maxHeartbeats 2000000 in
theorem main (a : Option Addr) (len cap : Nat) (z0 : List Int) (w : World) (h0 : len ≤ 1048576) (H : Hid (IsBytes w a len cap z0)) :
    Calls Try.prog 5 #[.slice a len cap] w fun e w' => e = .returned (.bool true) ∧ Below w.heap.size w w' := by
  have d0 : decide (1048576 < (len : Int)) = false := by simp; omega
  go_enter Try.func5, Try.ntmps5
  go_wp2_with fail
  refine (drawPtr_any a len cap z0 _ H.out).mono ?_
  rintro e w1 ⟨n, ⟨z, s, ps⟩, v1, rfl, hv1, hl, hB1⟩
  obtain ⟨a1, c1, rfl, hcl, hcm, hx1⟩ := hv1
  simp only at hl hx1 hcl ⊢
  have HBa : Hid (Below w1.heap.size w1 (w1.alloc (.cells #[.int .i64 z, .int .i64 s, .slice a1 ps.length c1] 30))) := (Below.refl _ _).alloc (Nat.le_refl _) _
  have HB1 := Lib.hid hB1
  have HX1 := Lib.hid (hx1.below HBa.out)
  have hm : ps.length ≤ maxLen := by unfold maxLen; omega
  have k0 : (w1.alloc (.cells #[.int .i64 z, .int .i64 s, .slice a1 ps.length c1] 30)).cell? ⟨w1.heap.size, 0, none⟩ = some (.int .i64 z) := by rw [World.cell?_alloc_mark]; rfl
  have k1 : (w1.alloc (.cells #[.int .i64 z, .int .i64 s, .slice a1 ps.length c1] 30)).cell? ⟨w1.heap.size, 1, none⟩ = some (.int .i64 s) := by rw [World.cell?_alloc_mark]; rfl
  have k2 : (w1.alloc (.cells #[.int .i64 z, .int .i64 s, .slice a1 ps.length c1] 30)).cell? ⟨w1.heap.size, 2, none⟩ = some (.slice a1 ps.length c1) := by rw [World.cell?_alloc_mark]; rfl
  clear hB1 hx1
  go_wp2_with fail
  refine (implPtr_any n ⟨z, s, ps⟩ a1 c1 _ hm HX1).mono ?_
  rintro e w2 ⟨rfl, hB2⟩
  have HX2 := Lib.hid (HX1.out.below hB2)
  have HBw2 := Lib.hid (HB1.out.trans ((HBa.out.trans (hB2.mono HBa.out.size)).mono HB1.out.size))
  have m0 := cell_below hB2 k0
  have m1 := cell_below hB2 k1
  have m2 := cell_below hB2 k2
  clear hB2 k0 k1 k2
  have HS2 := Lib.hid (fun w' h => specPtr_any n ⟨z, s, ps⟩ a1 c1 w' hm h)
  by_cases hok : PtrOkP n ⟨z, s, ps⟩
  · rw [tt_true hok] at HS2 ⊢
    go_wp2_with fail
    refine (HS2.out _ HX2).mono ?_
    rintro e w3 ⟨rfl, hB3⟩
    have HX3 := Lib.hid (HX2.out.below hB3)
    have HBw3 := Lib.hid (HBw2.out.trans (hB3.mono HBw2.out.size))
    have k0 := cell_below hB3 m0
    have k1 := cell_below hB3 m1
    have k2 := cell_below hB3 m2
    clear hB3 m0 m1 m2
    obtain ⟨hp, hf⟩ := hok
    obtain ⟨hn1, hn2⟩ := hp
    by_cases hz : z = 0
    · have dz : ((z : Int) == 0) = true := by simp; omega
      obtain ⟨_, hs0, hps⟩ : Nothing ⟨z, s, ps⟩ := hf.resolve_right (fun h => by have := h.1; simp at this; omega)
      simp only at hs0 hps
      subst hz
      subst hs0
      subst hps
      go_wp2_with fail
      refine (lpaPtr_any 0 0 0 0 a1 none c1 0 [] [] _ (by simp [maxLen]) (by simp [maxLen]) (.inl rfl) (.inl rfl)).mono ?_
      rintro e w4 ⟨rfl, hB4⟩
      rw [tt_true (show Same ⟨0, 0, []⟩ ⟨0, 0, []⟩ from rfl)]
      go_wp2
      go_ret
      exact ⟨rfl, HBw3.out.trans (hB4.mono HBw3.out.size)⟩
    · have dz : ((z : Int) == 0) = false := by simp; omega
      have hT : Told n ⟨z, s, ps⟩ := hf.resolve_left (fun h => hz h.1)
      obtain ⟨hz1, hz2, _, _, hlen, hPO⟩ := hT
      simp only at hz1 hz2 hlen hPO
      have HPO := Lib.hid hPO
      have dl : ((ps.length : Int) == (z + 3 - 1) / 3 + 1) = true := by simp; omega
      have dn : decide ((ps.length : Int) ≤ n) = true := by simp; omega
      have hz9 : z ≤ 9 := by omega
      clear hPO hf hz hlen hz2
      go_wp2_with fail
      go_loopw [6] (fun i wr => ∃ k : Nat, i = .int .i64 (k : Int) ∧ k ≤ ps.length ∧ Hid (Below w3.heap.size w3 wr)) (fun i _ => ps.length - (intOf i).toNat)
      case atStart => exact ⟨0, rfl, by omega, Below.refl _ _⟩
      case round =>
        obtain ⟨k, rfl, hk, hBr⟩ := hrel
        have b0 := cell_below hBr.out k0
        have b2 := cell_below hBr.out k2
        by_cases hlt : k < ps.length
        · obtain ⟨b, off, rfl, hc⟩ := HX3.out.resolve_left (fun e => by subst e; simp at hlt)
          have Hc := Lib.hid hc
          clear hc
          obtain ⟨hkr, hkd⟩ := HPO.out k hlt
          have Hkd := Lib.hid hkd
          clear hkd
          have hkr0 := hkr.1
          have hkr1 := hkr.2.1
          clear hkr
          go_wp2_with fail
          go_loopw [7] (fun i wq => ∃ m : Nat, i = .int .i64 (m : Int) ∧ m ≤ k ∧ Hid (Below w3.heap.size w3 wq)) (fun i _ => k - (intOf i).toNat)
          case atStart => exact ⟨0, rfl, by omega, hBr⟩
          case round =>
            clear b0 b2
            obtain ⟨m, rfl, hm2, hBq⟩ := hrel
            have b2 := cell_below hBq.out k2
            have f1 := cell_below hBq.out (Hc.out k hlt).1
            by_cases hmk : m < k
            · have f2 := cell_below hBq.out (Hc.out m (by omega)).1
              have hne := Hkd.out m hmk
              generalize (ps.getD k pl0).1 = dk at *
              generalize (ps.getD m pl0).1 = dm at *
              have dd : ((dm : Int) == dk) = false := by simp [hne]
              have i1 : (m : Int) < (ps.length : Int) := by omega
              have i0 : (0 : Int) ≤ (m : Int) := by omega
              have i2 : (k : Int) < (ps.length : Int) := by omega
              have i3 : (0 : Int) ≤ (k : Int) := by omega
              clear hne
              go_wp2_with fail
              go_quiet (fail)
              go_wp2
              exact ⟨⟨m + 1, by go_num, by omega, belowN hBq.out _⟩, by simp [intOf]; omega⟩
            · obtain rfl : m = k := by omega
              generalize (ps.getD m pl0).1 = dk at *
              have g1 : decide (dk < 0) = false := by simp; omega
              have g2 : decide (n ≤ dk) = false := by simp; omega
              go_wp2
              exact ⟨⟨m + 1, by go_num, by omega, hBq⟩, by simp [intOf]; omega⟩
        · go_wp2
          go_ret
          exact ⟨rfl, HBw3.out.trans (hBr.out.mono HBw3.out.size)⟩
  · rw [tt_false hok] at HS2 ⊢
    clear hok
    go_wp2_with fail
    refine (HS2.out _ HX2).mono ?_
    rintro e w3 ⟨rfl, hB3⟩
    have HX3 := Lib.hid (HX2.out.below hB3)
    have HBw3 := Lib.hid (HBw2.out.trans (hB3.mono HBw2.out.size))
    have k0 := cell_below hB3 m0
    have k1 := cell_below hB3 m1
    have k2 := cell_below hB3 m2
    clear hB3 m0 m1 m2
    go_wp2_with fail
    refine (HS2.out _ HX3).mono ?_
    rintro e w4 ⟨rfl, hB4⟩
    go_wp2
    go_ret
    exact ⟨rfl, HBw3.out.trans (hB4.mono HBw3.out.size)⟩

set_option maxRecDepth 100000 in
set_option maxHeartbeats 1000000 in
theorem walk (a0 : Option Addr) (len0 cap0 : Nat) (z0 : List Int) (w : World) (w0 : IsBytes w a0 len0 cap0 z0) :
    Calls Try.prog 5 #[.slice a0 len0 cap0] w fun e w' => e = .returned (.bool true) ∧ Below w.heap.size w w' := by
  by_cases h0 : len0 ≤ 1048576
  · exact main a0 len0 cap0 z0 w h0 w0
  · have hm : len0 ≤ maxLen := by have := w0.opened; omega
    have d0 : decide (1048576 < (len0 : Int)) = true := by simp; omega
    clear w0
    go_enter Try.func5, Try.ntmps5
    go_wp2
    go_ret
    exact ⟨rfl, Below.refl _ _⟩

set_option maxRecDepth 100000 in
theorem lifted (os : Os) (started : os.Started) (H : Type) (enc : TypeId × Value → H) :
    ReturnsInHanded {} Try.checked os 5 .any (Rows.fnPtrApartSpec.pre6 enc Try.prog Try.f5 Rows.fnPtrApartRow.domain false) (Rows.fnPtrApartSpec.post enc Try.prog Try.f5 false true false false) := by
  refine returnsInHanded_of_change (C := Try.checked) own started (by kernel_rfl) Try.func5
    (ChangeSpec.witness6 (enc := enc) (C := Try.checked) false ⟨#[], #[.slice none 0 0], []⟩ 8 (by kernel_rfl) (by kernel_rfl) (by kernel_rfl) (by kernel_rfl)) ?_
  intro W base args ds gs before hval0 hW hcnd _
  have hval : ∀ (j : Nat) t v, Try.f5.params[j]? = some t → args[j]? = some v → Value.okWide Try.prog W .any base t v := hval0
  have hW' := hW
  obtain ⟨p, q, hA0, hV, rfl, hfz, hnd⟩ := hW
  have hA : DataW.TrodAll enc Try.prog W 0 (fun _ => true) true Try.f5.params.toList args.toList ds p := hA0
  rw [Try.params5] at hA hval
  obtain ⟨v0, vs0, d0, ds0, p0, q0, hargs, rfl, rfl, h0, r0⟩ := trodAll_cons hA
  obtain ⟨rfl, rfl, rfl⟩ := trodAll_nil r0
  obtain rfl : args = #[v0] := by cases args; simp_all
  obtain ⟨rfl, rfl⟩ := trodVars_none hV
  have k0 := h0
  have lt0 : ∀ x ∈ p0, x.block < W.heap.size := by obtain ⟨m, hm⟩ := k0; exact DataW.trod_lt m _ _ _ hm
  obtain ⟨a0, len0, cap0, rfl⟩ := okWide_slice Try.underlying22 (hval 0 22 v0 rfl rfl)
  obtain ⟨z0, w0⟩ : ∃ zs, IsBytes W a0 len0 cap0 zs := by
    obtain ⟨fuel, hf⟩ := h0
    rcases open_ints Try.underlying22 Try.underlying5 (by kernel_rfl) hf with ⟨hcs, _⟩ | ⟨x, l, c, zs, hcs, _, hl, hm, hz, _, hcell, hwz⟩
    · simp [Value.cells] at hcs
      obtain ⟨rfl, rfl, rfl⟩ := hcs
      exact ⟨[], .inl ⟨rfl, rfl, rfl, rfl⟩⟩
    · simp [Value.cells] at hcs
      obtain ⟨rfl, rfl, rfl⟩ := hcs
      exact ⟨zs, .inr ⟨_, rfl, hl, hm, by simpa using hz, hcell, hwz⟩⟩
  clear hA0 hval0
  refine (walk a0 len0 cap0 z0 W w0).mono fun e W' ⟨he, bel⟩ => ?_
  subst he
  exact ⟨_, rfl, _, _, _, [], _, [], hW', trodAll_mk1 (shut_bool Try.underlying4 _), (trodAll_cons_mk (Below.trod laidOut (by kernel_rfl) (of_decide_eq_true (by kernel_rfl)) k0 bel lt0) trodAll_mk0), rfl, bel.frame _, fun h => by cases h⟩

theorem over : Rows.fnPtrApartRow.holds Try.pinned (OpenSpec.ofChange Rows.fnPtrApartSpec) :=
  OpenClaim.holds_of_wide 5 Try.f5 rfl rfl rfl rfl rfl rfl rfl ⟨rfl, rfl, rfl, rfl, rfl⟩ rfl rfl rfl rfl rfl (by kernel_rfl) Try.func5 (by kernel_rfl)
    (of_decide_eq_true (by kernel_rfl)) (by unfold Func.isWrapper; first | (rw [if_pos (by decide +kernel)]; kernel_rfl) | (rw [if_neg (by decide +kernel)]; exact ⟨rfl, rfl⟩))
    (fun os started H enc _ => lifted os started H enc)

end FnPtrApart

theorem FnPtrApart_holds : Rows.FnPtrApartSaid := FnPtrApart.over

end Go.Proofs.Ytagfnhgioljfnaa
