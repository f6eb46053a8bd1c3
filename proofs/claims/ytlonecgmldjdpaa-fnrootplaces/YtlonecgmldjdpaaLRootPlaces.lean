/- 'laws.FnRootPlaces' returns true at every code: of a drawn root RootPlaces of the program answers as RootPlaces of the specification, and if it is ok these are just the places of its pointers, in order, each once. Conditions: none. -/
import Derived.Test.YtlonecgmldjdpaaZ6
import Derived.Test.YtlonecgmldjdpaaK
import Derived.Test.YtlonecgmldjdpaaDR
import Derived.Test.YtlonecgmldjdpaaPL
import Derived.Test.YtlonecgmldjdpaaMR
namespace Go.Proofs.Ytlonecgmldjdpaa
open Go.ChangeShapes Go.WideShapes Go.ChangeAt Go.RowKit Go.Sort
namespace FnRootPlaces
set_option linter.unusedVariables false

set_option maxRecDepth 100000 in
set_option maxHeartbeats 4000000 in
theorem main (a : Option Addr) (len cap : Nat) (z0 : List Int) (w : World) (h0 : len ≤ 1048576) (H : Hid (IsBytes w a len cap z0)) :
    Calls Try.prog 3 #[.slice a len cap] w fun e w' => e = .returned (.bool true) ∧ Below w.heap.size w w' := by
  have d0 : decide (1048576 < (len : Int)) = false := by simp; omega
  go_enter Try.func3, Try.ntmps3
  go_wp2_with fail
  refine (drawPlaces_any a len cap z0 _ H.out).mono ?_
  rintro e w1 ⟨n, t, a1, c1, vs, rfl, hn, hL, hv5, hB1⟩
  obtain ⟨hV, hnm⟩ := hL.reads
  obtain ⟨a1', c1', e1, hc1, hc2, hX⟩ := hV
  cases e1
  have HN : Hid (∀ j, j < vs.length → (vs.getD j vol0).name.size ≤ maxLen) := fun j hj => Nat.le_trans (hnm j hj) (by simp [maxLen])
  have hBa : Below w1.heap.size w1 (w1.alloc (.cells #[.int .i64 t, .slice a1 vs.length c1] 25)) := (Below.refl _ _).alloc (Nat.le_refl _) _
  have HX1 := Lib.hid (hX.below hBa)
  have HB1 := Lib.hid (hB1.trans (hBa.mono hB1.size))
  have k0 : (w1.alloc (.cells #[.int .i64 t, .slice a1 vs.length c1] 25)).cell? ⟨w1.heap.size, 0, none⟩ = some (.int .i64 t) := by rw [World.cell?_alloc_mark]; rfl
  have k1 : (w1.alloc (.cells #[.int .i64 t, .slice a1 vs.length c1] 25)).cell? ⟨w1.heap.size, 1, none⟩ = some (.slice a1 vs.length c1) := by rw [World.cell?_alloc_mark]; rfl
  have hm : vs.length ≤ maxLen := by simp [maxLen]; omega
  have hP48 := rpl_length n ⟨t, vs⟩
  have HS := Lib.hid (rpl_sorted n ⟨t, vs⟩)
  have HQ := Lib.hid (fun (h : RootOkP n ⟨t, vs⟩) i k m hi hk hm => in_rpl_of h (i := i) (k := k) (m := m) hi hk hm)
  have HI := Lib.hid (fun w' h => implPlaces_any n t a1 c1 vs w' hc1 HN h)
  have HJ := Lib.hid (fun w' h => specPlaces_any n t a1 c1 vs w' hm HN h)
  have HR := Lib.hid (fun w' h => specRoot_any n ⟨t, vs⟩ a1 c1 w' hm HN h)
  simp only at HR
  generalize rpl n ⟨t, vs⟩ = P at HI HJ HS HQ hP48
  clear hL hX hnm hBa hB1 hn
  go_wp2_with fail
  generalize hgD : w1.heap.size = D at k0 k1 ⊢
  generalize w1.alloc (.cells #[.int .i64 t, .slice a1 vs.length c1] 25) = wa at HX1 HB1 k0 k1 ⊢
  refine (HI.out _ HX1).mono ?_
  rintro e w2 ⟨v2, rfl, ho2, hB2⟩
  obtain ⟨a2, c2, rfl, hp2, hq2, hx2⟩ := ho2.reads
  have HX2 := Lib.hid (HX1.out.below hB2)
  have HP2 := Lib.hid hx2
  have HB2 := Lib.hid (HB1.out.trans (hB2.mono HB1.out.size))
  have g0 := cell_below hB2 k0
  have g1 := cell_below hB2 k1
  have hPm : P.length ≤ maxLen := by simp [maxLen]; omega
  clear hB2 k0 k1 hx2 ho2 HX1 HB1 HI hp2 hq2
  go_wp2_with fail
  refine (HJ.out _ HX2).mono ?_
  rintro e w3 ⟨v3, rfl, ho3, hB3⟩
  obtain ⟨a3, c3, rfl, hp3, hq3, hx3⟩ := ho3.reads
  have HX3 := Lib.hid (HX2.out.below hB3)
  have HP3 := Lib.hid (HP2.out.below hB3)
  have HY3 := Lib.hid hx3
  have HB3 := Lib.hid (HB2.out.trans (hB3.mono HB2.out.size))
  have k0 := cell_below hB3 g0
  have k1 := cell_below hB3 g1
  clear hB3 g0 g1 hx3 ho3 HX2 HP2 HB2 hp3 hq3
  go_wp2_with fail
  refine (lpaPlaces_any a2 a3 c2 c3 P P _ hPm hPm HP3 HY3).mono ?_
  rintro e w4 ⟨rfl, hB4⟩
  rw [tt_true (rfl : P = P)]
  have HX4 := Lib.hid (HX3.out.below hB4)
  have HP4 := Lib.hid (HP3.out.below hB4)
  have HB4 := Lib.hid (HB3.out.trans (hB4.mono HB3.out.size))
  have g0 := cell_below hB4 k0
  have g1 := cell_below hB4 k1
  clear hB4 k0 k1 HX3 HP3 HB3 HY3
  by_cases hok : RootOkP n ⟨t, vs⟩
  · rw [tt_true hok] at HR
    have HQ' := Lib.hid (HQ.out hok)
    clear HQ hok
    go_wp2_with fail
    refine (HR.out _ HX4).mono ?_
    rintro e w5 ⟨rfl, hB5⟩
    have HX5 := Lib.hid (HX4.out.below hB5)
    have HP5 := Lib.hid (HP4.out.below hB5)
    have HB5 := Lib.hid (HB4.out.trans (hB5.mono HB4.out.size))
    have k0 := cell_below hB5 g0
    have k1 := cell_below hB5 g1
    have hs5 := HB5.out.size
    clear hB5 g0 g1 HX4 HP4 HB4 HR HJ HN
    go_wp2_with fail
    go_loopw [6] (fun i wr => ∃ k : Nat, i = .int .i64 (k : Int) ∧ k ≤ vs.length ∧ Hid (Below w5.heap.size w5 wr)) (fun i _ => vs.length - (intOf i).toNat)
    case atStart => exact ⟨0, rfl, by omega, Below.refl _ _⟩
    case round =>
      obtain ⟨k, rfl, hk, hBr⟩ := hrel
      have b1 := cell_below hBr.out k1
      have ik : (k : Int) ≤ 5 := by omega
      by_cases hlt : k < vs.length
      · obtain ⟨b, off, rfl, hc⟩ := HX5.out.resolve_left (fun e => by subst e; simp at hlt)
        obtain ⟨_, u, hu, hU⟩ := hc k hlt
        have HQk := Lib.hid (fun m j hm hj => HQ'.out k m j hlt hm hj)
        generalize (vs.getD k vol0).blocks = bs at hU HQk
        obtain ⟨ua, uc, rfl, hu1, hu2, hUa⟩ := hU
        have HU := Lib.hid hUa
        have Hu := Lib.hid hu
        have ik0 : (0 : Int) ≤ (k : Int) := by omega
        have ik1 : (k : Int) < (vs.length : Int) := by omega
        have hbm : bs.length ≤ maxLen := by omega
        have hbm' : (bs.length : Int) ≤ 9223372036854775807 := by simp [maxLen] at hbm; omega
        clear hc hu hUa HX5 HQ'
        have c1 := cell_below hBr.out Hu.out
        go_wp2_with fail
        clear b1 c1
        go_loopw [7] (fun i wq => ∃ m : Nat, i = .int .i64 (m : Int) ∧ m ≤ bs.length ∧ Hid (Below w5.heap.size w5 wq)) (fun i _ => bs.length - (intOf i).toNat)
        case atStart => exact ⟨0, rfl, by omega, hBr⟩
        case round =>
          obtain ⟨m, rfl, hm', hBq⟩ := hrel
          have b1 := cell_below hBq.out k1
          have c1 := cell_below hBq.out Hu.out
          by_cases hmt : m < bs.length
          · obtain ⟨pb, po, rfl, hpc⟩ := HU.out.resolve_left (fun e => by subst e; simp at hmt)
            obtain ⟨_, _, x, hx, hXp⟩ := hpc m hmt
            have HQm := Lib.hid (fun j hj => HQk.out m j hmt hj)
            generalize (bs.getD m ptr0).places = ps at hXp HQm
            obtain ⟨xa, xc, rfl, hx1, hx2, hXa⟩ := hXp
            have HXa := Lib.hid hXa
            have Hx := Lib.hid hx
            have im0 : (0 : Int) ≤ (m : Int) := by omega
            have im1 : (m : Int) < (bs.length : Int) := by omega
            have hpm : ps.length ≤ maxLen := by omega
            have hpm' : (ps.length : Int) ≤ 9223372036854775807 := by simp [maxLen] at hpm; omega
            clear hpc hx hXa HU HQk
            go_wp2_with fail
            clear b1 c1
            go_loopw [8] (fun i wp => ∃ j : Nat, i = .int .i64 (j : Int) ∧ j ≤ ps.length ∧ Hid (Below w5.heap.size w5 wp)) (fun i _ => ps.length - (intOf i).toNat)
            case atStart => exact ⟨0, rfl, by omega, hBq⟩
            case round =>
              obtain ⟨j, rfl, hj', hBp⟩ := hrel
              have b1 := cell_below hBp.out k1
              have c1 := cell_below hBp.out Hu.out
              have x1 := cell_below hBp.out Hx.out
              by_cases hjt : j < ps.length
              · obtain ⟨qb, qo, rfl, hqc⟩ := HXa.out.resolve_left (fun e => by subst e; simp at hjt)
                obtain ⟨y0, y1⟩ := hqc j hjt
                have y0 := cell_below hBp.out y0
                have y1 := cell_below hBp.out y1
                have hin := HQm.out j hjt
                have ij0 : (0 : Int) ≤ (j : Int) := by omega
                have ij1 : (j : Int) < (ps.length : Int) := by omega
                have HL := Lib.hid (fun w' h => lpaIn_any (ps.getD j pl0) a2 c2 P w' hPm h)
                rw [tt_true hin] at HL
                generalize ps.getD j pl0 = pj at y0 y1 HL
                have HPp := Lib.hid (HP5.out.below hBp.out)
                clear hqc hin
                go_wp2_with fail
                refine (HL.out _ HPp).mono ?_
                rintro e w6 ⟨rfl, hB6⟩
                have HB6 := Lib.hid (hBp.out.trans (hB6.mono hBp.out.size))
                clear hB6 b1 c1 x1 y0 y1
                go_wp2
                exact ⟨⟨j + 1, by go_num, by omega, HB6⟩, by simp [intOf]; omega⟩
              · go_wp2
                exact ⟨⟨m + 1, by go_num, by omega, hBp⟩, by simp [intOf]; omega⟩
          · go_wp2
            exact ⟨⟨k + 1, by go_num, by omega, hBq⟩, by simp [intOf]; omega⟩
      · clear HX5
        go_wp2_with fail
        go_loopw [9] (fun i wq => ∃ m : Nat, i = .int .i64 ((m : Int) + 1) ∧ m ≤ P.length ∧ Hid (Below w5.heap.size w5 wq)) (fun i _ => P.length + 1 - (intOf i).toNat)
        case atStart => exact ⟨0, rfl, by omega, hBr⟩
        case round =>
          obtain ⟨m, rfl, hm', hBq⟩ := hrel
          by_cases hmt : m + 1 < P.length
          · obtain ⟨pb, po, rfl, hpc⟩ := (HP5.out.below hBq.out).resolve_left (fun e => by subst e; simp at hmt)
            obtain ⟨y0, y1⟩ := hpc m (by omega)
            obtain ⟨z0, z1⟩ := hpc (m + 1) hmt
            have has := asc_at HS.out hmt
            generalize P.getD m pl0 = p0 at y0 y1 has
            generalize P.getD (m + 1) pl0 = p1 at z0 z1 has
            obtain ⟨d1, s1⟩ := p0
            obtain ⟨d2, s2⟩ := p1
            simp only at y0 y1 z0 z1 has
            have im0 : (0 : Int) ≤ (m : Int) := by omega
            have im1 : (m : Int) + 1 < (P.length : Int) := by omega
            have im2 : (m : Int) < (P.length : Int) := by omega
            have im3 : (0 : Int) ≤ (m : Int) + 1 := by omega
            clear hpc
            rcases has with has | ⟨rfl, has⟩
            · have q1 : decide (d2 < d1) = false := by simp; omega
              have q2 : (d1 == d2) = false := by simp; omega
              clear has
              go_wp2_with fail
              go_quiet (fail)
              go_wp2
              exact ⟨⟨m + 1, by go_num, by omega, belowN hBq.out _⟩, by simp [intOf]; omega⟩
            · have q1 : decide (d1 < d1) = false := by simp
              have q2 : decide (s2 ≤ s1) = false := by simp; omega
              clear has
              go_wp2_with fail
              go_quiet (fail)
              go_wp2
              exact ⟨⟨m + 1, by go_num, by omega, belowN hBq.out _⟩, by simp [intOf]; omega⟩
          · have q1 : decide ((m : Int) + 1 < (P.length : Int)) = false := by simp; omega
            go_wp2
            go_ret
            exact ⟨rfl, HB5.out.trans (hBq.out.mono hs5)⟩
  · rw [tt_false hok] at HR
    clear HQ hok
    go_wp2_with fail
    refine (HR.out _ HX4).mono ?_
    rintro e w5 ⟨rfl, hB5⟩
    have HX5 := Lib.hid (HX4.out.below hB5)
    have HP5 := Lib.hid (HP4.out.below hB5)
    have HB5 := Lib.hid (HB4.out.trans (hB5.mono HB4.out.size))
    have k0 := cell_below hB5 g0
    have k1 := cell_below hB5 g1
    clear hB5 g0 g1 HX4 HP4 HB4 HR HN
    go_wp2_with fail
    refine (HJ.out _ HX5).mono ?_
    rintro e w6 ⟨v6, rfl, ho6, hB6⟩
    obtain ⟨a6, c6, rfl, hp6, hq6, hx6⟩ := ho6.reads
    have HP6 := Lib.hid (HP5.out.below hB6)
    have HY6 := Lib.hid hx6
    have HB6 := Lib.hid (HB5.out.trans (hB6.mono HB5.out.size))
    clear hB6 ho6 hx6
    go_wp2_with fail
    refine (lpaPlaces_any a2 a6 c2 c6 P P _ hPm hPm HP6 HY6).mono ?_
    rintro e w7 ⟨rfl, hB7⟩
    rw [tt_true (rfl : P = P)]
    go_wp2
    go_ret
    exact ⟨rfl, HB6.out.trans (hB7.mono HB6.out.size)⟩

set_option maxRecDepth 100000 in
set_option maxHeartbeats 1000000 in
theorem walk (a0 : Option Addr) (len0 cap0 : Nat) (z0 : List Int) (w : World) (w0 : IsBytes w a0 len0 cap0 z0) :
    Calls Try.prog 3 #[.slice a0 len0 cap0] w fun e w' => e = .returned (.bool true) ∧ Below w.heap.size w w' := by
  by_cases h0 : len0 ≤ 1048576
  · exact main a0 len0 cap0 z0 w h0 w0
  · have hm : len0 ≤ maxLen := by have := w0.opened; omega
    have d0 : decide (1048576 < (len0 : Int)) = true := by simp; omega
    clear w0
    go_enter Try.func3, Try.ntmps3
    go_wp2
    go_ret
    exact ⟨rfl, Below.refl _ _⟩

set_option maxRecDepth 100000 in
theorem lifted (os : Os) (started : os.Started) (H : Type) (enc : TypeId × Value → H) :
    ReturnsInHanded {} Try.checked os 3 .any (Rows.fnRootPlacesSpec.pre6 enc Try.prog Try.f3 Rows.fnRootPlacesRow.domain false) (Rows.fnRootPlacesSpec.post enc Try.prog Try.f3 false true false false) := by
  refine returnsInHanded_of_change (C := Try.checked) own started (by kernel_rfl) Try.func3
    (ChangeSpec.witness6 (enc := enc) (C := Try.checked) false ⟨#[], #[.slice none 0 0], []⟩ 8 (by kernel_rfl) (by kernel_rfl) (by kernel_rfl) (by kernel_rfl)) ?_
  intro W base args ds gs before hval0 hW hcnd _
  have hval : ∀ (j : Nat) t v, Try.f3.params[j]? = some t → args[j]? = some v → Value.okWide Try.prog W .any base t v := hval0
  have hW' := hW
  obtain ⟨p, q, hA0, hV, rfl, hfz, hnd⟩ := hW
  have hA : DataW.TrodAll enc Try.prog W 0 (fun _ => true) true Try.f3.params.toList args.toList ds p := hA0
  rw [Try.params3] at hA hval
  obtain ⟨v0, vs0, d0, ds0, p0, q0, hargs, rfl, rfl, h0, r0⟩ := trodAll_cons hA
  obtain ⟨rfl, rfl, rfl⟩ := trodAll_nil r0
  obtain rfl : args = #[v0] := by cases args; simp_all
  obtain ⟨rfl, rfl⟩ := trodVars_none hV
  have k0 := h0
  have lt0 : ∀ x ∈ p0, x.block < W.heap.size := by obtain ⟨m, hm⟩ := k0; exact DataW.trod_lt m _ _ _ hm
  obtain ⟨a0, len0, cap0, rfl⟩ := okWide_slice Try.underlying22 (hval 0 22 v0 rfl rfl)
  obtain ⟨z0, w0⟩ : ∃ zs, IsBytes W a0 len0 cap0 zs := by
    obtain ⟨fuel, hf⟩ := h0
    rcases open_ints Try.underlying22 Try.underlying5 (by kernel_rfl) hf with ⟨hcs, _⟩ | ⟨x, l, c, zs, hcs, _, hl, hm, hz, _, hcell, hwz⟩
    · simp [Value.cells] at hcs
      obtain ⟨rfl, rfl, rfl⟩ := hcs
      exact ⟨[], .inl ⟨rfl, rfl, rfl, rfl⟩⟩
    · simp [Value.cells] at hcs
      obtain ⟨rfl, rfl, rfl⟩ := hcs
      exact ⟨zs, .inr ⟨_, rfl, hl, hm, by simpa using hz, hcell, hwz⟩⟩
  clear hA0 hval0
  refine (walk a0 len0 cap0 z0 W w0).mono fun e W' ⟨he, bel⟩ => ?_
  subst he
  exact ⟨_, rfl, _, _, _, [], _, [], hW', trodAll_mk1 (shut_bool Try.underlying4 _), (trodAll_cons_mk (Below.trod laidOut (by kernel_rfl) (of_decide_eq_true (by kernel_rfl)) k0 bel lt0) trodAll_mk0), rfl, bel.frame _, fun h => by cases h⟩

theorem over : Rows.fnRootPlacesRow.holds Try.pinned (OpenSpec.ofChange Rows.fnRootPlacesSpec) :=
  OpenClaim.holds_of_wide 3 Try.f3 rfl rfl rfl rfl rfl rfl rfl ⟨rfl, rfl, rfl, rfl, rfl⟩ rfl rfl rfl rfl rfl (by kernel_rfl) Try.func3 (by kernel_rfl)
    (of_decide_eq_true (by kernel_rfl)) (by unfold Func.isWrapper; first | (rw [if_pos (by decide +kernel)]; kernel_rfl) | (rw [if_neg (by decide +kernel)]; exact ⟨rfl, rfl⟩))
    (fun os started H enc _ => lifted os started H enc)

end FnRootPlaces

theorem FnRootPlaces_holds : Rows.FnRootPlacesSaid := FnRootPlaces.over

end Go.Proofs.Ytlonecgmldjdpaa
