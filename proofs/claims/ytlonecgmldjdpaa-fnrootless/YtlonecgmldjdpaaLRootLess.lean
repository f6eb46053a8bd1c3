/- 'laws.FnRootLess' returns true at every pair of codes: of a drawn root RootOk of the program answers as RootOk of the specification, and if it is ok so is it with a volume less, the places of which are among its places, and with an empty volume of that name besides. Conditions: none. -/
import Derived.Test.YtlonecgmldjdpaaZ6
import Derived.Test.YtlonecgmldjdpaaK
import Derived.Test.YtlonecgmldjdpaaDR
import Derived.Test.YtlonecgmldjdpaaPL
import Derived.Test.YtlonecgmldjdpaaML
import Derived.Test.YtlonecgmldjdpaaDY
namespace Go.Proofs.Ytlonecgmldjdpaa
open Go.ChangeShapes Go.WideShapes Go.ChangeAt Go.RowKit Go.Sort
namespace FnRootLess
set_option linter.unusedVariables false
set_option maxRecDepth 100000 in
set_option maxHeartbeats 4000000 in
theorem main (a : Option Addr) (len cap : Nat) (z0 : List Int) (a' : Option Addr) (len' cap' : Nat) (w : World) (h0 : len ≤ 1048576) (h1 : len' ≤ 1048576) (H : Hid (IsBytes w a len cap z0)) :
    Calls Try.prog 4 #[.slice a len cap, .slice a' len' cap'] w fun e w' => e = .returned (.bool true) ∧ Below w.heap.size w w' := by
  have d0 : decide (1048576 < (len : Int)) = false := by simp; omega
  have d1 : decide (1048576 < (len' : Int)) = false := by simp; omega
  go_enter Try.func4, Try.ntmps4
  go_wp2_with fail
  refine (drawRootOk_any a len cap z0 _ H.out).mono ?_
  rintro e w1 ⟨n, t, a1, c1, vs, rfl, hn, hL, hv5, hB1⟩
  obtain ⟨hV, hnm⟩ := hL.reads
  obtain ⟨a1', c1', e1, hc1, hc2, hX⟩ := hV
  cases e1
  have HN : Hid (∀ j, j < vs.length → (vs.getD j vol0).name.size ≤ maxLen) := fun j hj => Nat.le_trans (hnm j hj) (by simp [maxLen])
  have hBa : Below w1.heap.size w1 (w1.alloc (.cells #[.int .i64 t, .slice a1 vs.length c1] 25)) := (Below.refl _ _).alloc (Nat.le_refl _) _
  have HX := Lib.hid (hX.below hBa)
  have HB := Lib.hid (hB1.trans (hBa.mono hB1.size))
  have k0 : (w1.alloc (.cells #[.int .i64 t, .slice a1 vs.length c1] 25)).cell? ⟨w1.heap.size, 0, none⟩ = some (.int .i64 t) := by rw [World.cell?_alloc_mark]; rfl
  have k1 : (w1.alloc (.cells #[.int .i64 t, .slice a1 vs.length c1] 25)).cell? ⟨w1.heap.size, 1, none⟩ = some (.slice a1 vs.length c1) := by rw [World.cell?_alloc_mark]; rfl
  have hm : vs.length ≤ maxLen := by simp [maxLen]; omega
  have HI := Lib.hid (fun w' h => implRoot_any n ⟨t, vs⟩ a1 c1 w' hc1 HN h)
  have HS := Lib.hid (fun w' h => specRoot_any n ⟨t, vs⟩ a1 c1 w' hm HN h)
  simp only at HI HS
  clear hL hX hnm hBa hB1 hn
  go_wp2_with fail
  generalize hgD : w1.heap.size = D at k0 k1 ⊢
  clear hgD
  generalize w1.alloc (.cells #[.int .i64 t, .slice a1 vs.length c1] 25) = wa at HX HB k0 k1 ⊢
  by_cases hok : RootOkP n ⟨t, vs⟩
  · rw [tt_true hok] at HI HS
    refine (HI.out _ HX).mono ?_
    rintro e w2 ⟨rfl, hB⟩
    replace HX := Lib.hid (HX.out.below hB)
    replace k0 := cell_below hB k0
    replace k1 := cell_below hB k1
    replace HB := Lib.hid (HB.out.trans (hB.mono HB.out.size))
    clear hB
    go_wp2_with fail
    refine (HS.out _ HX).mono ?_
    rintro e w3 ⟨rfl, hB⟩
    replace HX := Lib.hid (HX.out.below hB)
    replace k0 := cell_below hB k0
    replace k1 := cell_below hB k1
    replace HB := Lib.hid (HB.out.trans (hB.mono HB.out.size))
    clear hB
    by_cases hv0 : vs.length = 0
    · obtain rfl : vs = [] := List.eq_nil_of_length_eq_zero hv0
      simp only [List.length_nil] at HS k1 ⊢
      clear hv0 HI HN
      go_wp2_with fail
      refine (HS.out _ HX).mono ?_
      rintro e w4 ⟨rfl, hB⟩
      go_wp2
      go_ret
      exact ⟨rfl, HB.out.trans (hB.mono HB.out.size)⟩
    · have hpos : 0 < vs.length := by omega
      have d2 : ((vs.length : Int) == 0) = false := beq_eq_false_iff_ne.2 (by omega)
      obtain ⟨k, hk⟩ : ∃ k, k = len' % vs.length := ⟨_, rfl⟩
      have hkl : k < vs.length := by rw [hk]; exact Nat.mod_lt _ hpos
      have hrem : (len' : Int) % (vs.length : Int) = (k : Int) := by rw [hk]; exact (Int.natCast_emod _ _).symm
      obtain ⟨b, off, rfl, hc⟩ := HX.out.resolve_left (fun e => by subst e; simp at hpos)
      obtain ⟨xs, hxr, hxn⟩ := voRow_of (w := w3) (b := b) (off := off) (vs := vs) (.inr ⟨b, off, rfl, hc⟩)
      obtain ⟨xsA, hxA⟩ : ∃ x, x = xs.take (k * 2) := ⟨_, rfl⟩
      obtain ⟨xsB, hxB⟩ : ∃ x, x = xs.drop ((k + 1) * 2) := ⟨_, rfl⟩
      have hlA : xsA.length = k * 2 := by rw [hxA, List.length_take, hxr.1]; omega
      have hlB : xsB.length = (vs.length - (k + 1)) * 2 := by rw [hxB, List.length_drop, hxr.1]; omega
      have hnA : ∀ j u, xsA[j]? = some u → w3.cell? ((⟨b, off, none⟩ : Addr).add j) = some u := fun j u hu => hxn j u (by rw [hxA, List.getElem?_take] at hu; split at hu; exact hu; cases hu)
      have hnB : ∀ j u, xsB[j]? = some u → w3.cell? ((⟨b, off + (k + 1) * 2, none⟩ : Addr).add j) = some u := fun j u hu => by
        rw [hxB, List.getElem?_drop] at hu
        have := hxn _ u hu
        rw [add_far] at this ⊢
        rw [← Nat.add_assoc] at this
        exact this
      have h1A : ∀ u ∈ xsA, u.oneCell' = true := fun u hu => hxr.oneCell u (by rw [hxA] at hu; exact List.mem_of_mem_take hu)
      have h1B : ∀ u ∈ xsB, u.oneCell' = true := fun u hu => hxr.oneCell u (by rw [hxB] at hu; exact List.mem_of_mem_drop hu)
      have HR1 := Lib.hid (vo_less hxr hkl)
      rw [← hxA, ← hxB] at HR1
      obtain ⟨i0, hi0, hz0, hz1, hz2⟩ := info_parts infoVoD
      have hw11 : IntKind.i64.wrap ((k : Int) + 1) = (k : Int) + 1 := by rw [IntKind.wrap_i64]; omega
      have ik : (k : Int) < (vs.length : Int) := by omega
      have ik1 : (k : Int) + 1 ≤ (vs.length : Int) := by omega
      have ic : (vs.length : Int) ≤ (c1 : Int) := by omega
      have ikc : (k : Int) ≤ (c1 : Int) := by omega
      have kn := (hc k hkl).1
      generalize hnmk : (vs.getD k vol0).name = nm at kn
      have Hnm := Lib.hid hnmk
      have h1C : ∀ u ∈ xsA ++ xsB, u.oneCell' = true := fun u hu => (List.mem_append.1 hu).elim (h1A u) (h1B u)
      have hlC : (xsA ++ xsB).length = (vs.length - 1) * 2 := by rw [List.length_append, hlA, hlB]; omega
      clear hv0 hc hxn hxA hxB hk hnmk
      go_upto_region 8 with (fail)
      simp only [hrem]
      go_cut [9] from 56 to 121 (fun s9 wx => After8 t vs.length (xsA ++ xsB) w3 s9 wx)
      case first =>
        refine wp_region_any (by kernel_rfl) ?_
        refine wpAny_closed (RLJ (fun v0 v1 v2 v3 v4 v5 v6 v7 v8 v9 v10 v11 v12 v13 v14 v15 => { tmps := #[.slice a len cap, .slice a' len' cap', undef, undef, .bool false, .int .i64 n, .pointer (some ⟨D, 0, none⟩), .bool true, .int .i64 (k : Int), v15, undef, undef, undef, undef, .slice a len cap, .int .i64 (len : Int), .bool false, .bool false, .slice a' len' cap', .int .i64 (len' : Int), .bool false, .bool false, .tuple #[.int .i64 n, .agg #[.int .i64 t, .slice (some ⟨b, off, none⟩) vs.length c1]], .slice a len cap, .tuple #[.int .i64 n, .agg #[.int .i64 t, .slice (some ⟨b, off, none⟩) vs.length c1]], .int .i64 n, .agg #[.int .i64 t, .slice (some ⟨b, off, none⟩) vs.length c1], .int .i64 n, .agg #[.int .i64 t, .slice (some ⟨b, off, none⟩) vs.length c1], .bool true, .bool true, .int .i64 n, .agg #[.int .i64 t, .slice (some ⟨b, off, none⟩) vs.length c1], .bool true, .bool false, .bool false, .bool true, .bool false, .bool false, .bool false, .pointer (some ⟨D, 1, none⟩), .slice (some ⟨b, off, none⟩) vs.length c1, .int .i64 (vs.length : Int), .bool false, .bool false, undef, undef, undef, undef, undef, .slice a' len' cap', .int .i64 (len' : Int), .pointer (some ⟨D, 1, none⟩), .slice (some ⟨b, off, none⟩) vs.length c1, .int .i64 (vs.length : Int), .int .i64 (k : Int), v0, v1, v2, v3, v4, v5, v6, v7, v8, v9, v10, v11, v12, v13, v14, undef, undef, undef, undef, undef, undef, undef, undef, undef, undef, undef, undef, undef, undef, undef, undef, undef, undef, undef, undef, undef, undef, undef, undef, undef, undef, undef, undef, undef, undef, undef, undef, undef, undef, undef, undef, undef, undef, undef, undef, undef, undef, undef, undef, undef, undef, undef, undef, undef, undef, undef], defers := [] }) t D b off vs.length c1 k xsA xsB w3) ?_ ?_ _ _ _ _ (by decide) (closed_none _) ?_
        · intro l a wx hJ hC hr
          obtain ⟨hsz, v0, v1, v2, v3, v4, v5, v6, v7, v8, v9, v10, v11, v12, v13, v14, v15, rfl, hP⟩ := hJ
          have h16 : l.getD 16 false = true := by
            rcases ready_nil (by kernel_rfl) hr 16 (by decide) with h | h
            · exact h
            · rw [Array.getD_eq_getD_getElem?, Array.getElem?_eq_getElem (by omega)] at h ⊢
              exact h
          rcases hP with ⟨h, _⟩ | ⟨_, hA⟩
          · exact absurd (h16.symm.trans h) (by decide)
          · try dsimp only
            go_wp2
            go_meet
            exact hA
        · intro l a wx i' hJ hC hi
          obtain ⟨hlt', hnl, _⟩ := ready_spec hi
          obtain ⟨hsz, v0, v1, v2, v3, v4, v5, v6, v7, v8, v9, v10, v11, v12, v13, v14, v15, rfl, hP⟩ := hJ
          have hnl' := gd_not hnl
          have e1_0 : l.getD 1 false = true → l.getD 0 false = true := fun hh => by first | exact dep_of 0 hC hh (show _ = some _ from rfl) rfl rfl | exact dep_of 1 hC hh (show _ = some _ from rfl) rfl rfl | exact dep_of 2 hC hh (show _ = some _ from rfl) rfl rfl
          have e4_3 : l.getD 4 false = true → l.getD 3 false = true := fun hh => by first | exact dep_of 0 hC hh (show _ = some _ from rfl) rfl rfl | exact dep_of 1 hC hh (show _ = some _ from rfl) rfl rfl | exact dep_of 2 hC hh (show _ = some _ from rfl) rfl rfl
          have e6_4 : l.getD 6 false = true → l.getD 4 false = true := fun hh => by first | exact dep_of 0 hC hh (show _ = some _ from rfl) rfl rfl | exact dep_of 1 hC hh (show _ = some _ from rfl) rfl rfl | exact dep_of 2 hC hh (show _ = some _ from rfl) rfl rfl
          have e6_5 : l.getD 6 false = true → l.getD 5 false = true := fun hh => by first | exact dep_of 0 hC hh (show _ = some _ from rfl) rfl rfl | exact dep_of 1 hC hh (show _ = some _ from rfl) rfl rfl | exact dep_of 2 hC hh (show _ = some _ from rfl) rfl rfl
          have e7_2 : l.getD 7 false = true → l.getD 2 false = true := fun hh => by first | exact dep_of 0 hC hh (show _ = some _ from rfl) rfl rfl | exact dep_of 1 hC hh (show _ = some _ from rfl) rfl rfl | exact dep_of 2 hC hh (show _ = some _ from rfl) rfl rfl
          have e7_6 : l.getD 7 false = true → l.getD 6 false = true := fun hh => by first | exact dep_of 0 hC hh (show _ = some _ from rfl) rfl rfl | exact dep_of 1 hC hh (show _ = some _ from rfl) rfl rfl | exact dep_of 2 hC hh (show _ = some _ from rfl) rfl rfl
          have e9_8 : l.getD 9 false = true → l.getD 8 false = true := fun hh => by first | exact dep_of 0 hC hh (show _ = some _ from rfl) rfl rfl | exact dep_of 1 hC hh (show _ = some _ from rfl) rfl rfl | exact dep_of 2 hC hh (show _ = some _ from rfl) rfl rfl
          have e11_10 : l.getD 11 false = true → l.getD 10 false = true := fun hh => by first | exact dep_of 0 hC hh (show _ = some _ from rfl) rfl rfl | exact dep_of 1 hC hh (show _ = some _ from rfl) rfl rfl | exact dep_of 2 hC hh (show _ = some _ from rfl) rfl rfl
          have e12_9 : l.getD 12 false = true → l.getD 9 false = true := fun hh => by first | exact dep_of 0 hC hh (show _ = some _ from rfl) rfl rfl | exact dep_of 1 hC hh (show _ = some _ from rfl) rfl rfl | exact dep_of 2 hC hh (show _ = some _ from rfl) rfl rfl
          have e12_11 : l.getD 12 false = true → l.getD 11 false = true := fun hh => by first | exact dep_of 0 hC hh (show _ = some _ from rfl) rfl rfl | exact dep_of 1 hC hh (show _ = some _ from rfl) rfl rfl | exact dep_of 2 hC hh (show _ = some _ from rfl) rfl rfl
          have e13_7 : l.getD 13 false = true → l.getD 7 false = true := fun hh => by first | exact dep_of 0 hC hh (show _ = some _ from rfl) rfl rfl | exact dep_of 1 hC hh (show _ = some _ from rfl) rfl rfl | exact dep_of 2 hC hh (show _ = some _ from rfl) rfl rfl
          have e13_12 : l.getD 13 false = true → l.getD 12 false = true := fun hh => by first | exact dep_of 0 hC hh (show _ = some _ from rfl) rfl rfl | exact dep_of 1 hC hh (show _ = some _ from rfl) rfl rfl | exact dep_of 2 hC hh (show _ = some _ from rfl) rfl rfl
          have e14_1 : l.getD 14 false = true → l.getD 1 false = true := fun hh => by first | exact dep_of 0 hC hh (show _ = some _ from rfl) rfl rfl | exact dep_of 1 hC hh (show _ = some _ from rfl) rfl rfl | exact dep_of 2 hC hh (show _ = some _ from rfl) rfl rfl
          have e14_13 : l.getD 14 false = true → l.getD 13 false = true := fun hh => by first | exact dep_of 0 hC hh (show _ = some _ from rfl) rfl rfl | exact dep_of 1 hC hh (show _ = some _ from rfl) rfl rfl | exact dep_of 2 hC hh (show _ = some _ from rfl) rfl rfl
          have e16_15 : l.getD 16 false = true → l.getD 15 false = true := fun hh => by first | exact dep_of 0 hC hh (show _ = some _ from rfl) rfl rfl | exact dep_of 1 hC hh (show _ = some _ from rfl) rfl rfl | exact dep_of 2 hC hh (show _ = some _ from rfl) rfl rfl
          have e16_14 : l.getD 16 false = true → l.getD 14 false = true := fun hh => by first | exact dep_of 0 hC hh (show _ = some _ from rfl) rfl rfl | exact dep_of 1 hC hh (show _ = some _ from rfl) rfl rfl | exact dep_of 2 hC hh (show _ = some _ from rfl) rfl rfl
          have hi17 : i' < 17 := hlt'
          rcases hP with ⟨h16, hA⟩ | ⟨h16, _⟩
          · have x0 := cell_below hA.bl k0
            have x1 := cell_below hA.bl k1
            have hi' : i' = 0 ∨ i' = 1 ∨ i' = 2 ∨ i' = 3 ∨ i' = 4 ∨ i' = 5 ∨ i' = 6 ∨ i' = 7 ∨ i' = 8 ∨ i' = 9 ∨ i' = 10 ∨ i' = 11 ∨ i' = 12 ∨ i' = 13 ∨ i' = 14 ∨ i' = 15 ∨ i' = 16 := by omega
            rcases hi' with rfl | rfl | rfl | rfl | rfl | rfl | rfl | rfl | rfl | rfl | rfl | rfl | rfl | rfl | rfl | rfl | rfl
            · refine wpOp_step (show _ = some _ from rfl) ?_
              intro K' hK'
              go_simp
              exact hK' _ _ ⟨by simpa using hsz, _, v1, v2, v3, v4, v5, v6, v7, v8, v9, v10, v11, v12, v13, v14, v15, rfl, .inl ⟨(gd_ne (by decide)).trans h16, hA.op0⟩⟩
            · have d0 : l.getD 0 false = true := by first | exact dep_at 0 hi (show _ = some _ from rfl) rfl rfl | exact dep_at 1 hi (show _ = some _ from rfl) rfl rfl | exact dep_at 2 hi (show _ = some _ from rfl) rfl rfl
              obtain rfl := hA.f0 d0
              refine wpOp_step (show _ = some _ from rfl) ?_
              intro K' hK'
              go_simp
              exact hK' _ _ ⟨by simpa using hsz, _, _, v2, v3, v4, v5, v6, v7, v8, v9, v10, v11, v12, v13, v14, v15, rfl, .inl ⟨(gd_ne (by decide)).trans h16, hA.op1⟩⟩
            · refine wpOp_step (show _ = some _ from rfl) ?_
              intro K' hK'
              go_simp
              exact hK' _ _ ⟨by simpa using hsz, v0, v1, _, v3, v4, v5, v6, v7, v8, v9, v10, v11, v12, v13, v14, v15, rfl, .inl ⟨(gd_ne (by decide)).trans h16, (hA.al (.cells #[] 34)).op2 (World.ownsRow_made (e := 34) (size := 2) wx #[] 0 hA.bl.size (by simp [maxLen]) (by simp))⟩⟩
            · refine wpOp_step (show _ = some _ from rfl) ?_
              intro K' hK'
              go_simp
              exact hK' _ _ ⟨by simpa using hsz, v0, v1, v2, _, v4, v5, v6, v7, v8, v9, v10, v11, v12, v13, v14, v15, rfl, .inl ⟨(gd_ne (by decide)).trans h16, hA.op3⟩⟩
            · have d3 : l.getD 3 false = true := by first | exact dep_at 0 hi (show _ = some _ from rfl) rfl rfl | exact dep_at 1 hi (show _ = some _ from rfl) rfl rfl | exact dep_at 2 hi (show _ = some _ from rfl) rfl rfl
              obtain rfl := hA.f3 d3
              refine wpOp_step (show _ = some _ from rfl) ?_
              intro K' hK'
              go_simp
              exact hK' _ _ ⟨by simpa using hsz, v0, v1, v2, _, _, v5, v6, v7, v8, v9, v10, v11, v12, v13, v14, v15, rfl, .inl ⟨(gd_ne (by decide)).trans h16, hA.op4⟩⟩
            · refine wpOp_step (show _ = some _ from rfl) ?_
              intro K' hK'
              go_simp
              exact hK' _ _ ⟨by simpa using hsz, v0, v1, v2, v3, v4, _, v6, v7, v8, v9, v10, v11, v12, v13, v14, v15, rfl, .inl ⟨(gd_ne (by decide)).trans h16, hA.op5⟩⟩
            · have d4 : l.getD 4 false = true := by first | exact dep_at 0 hi (show _ = some _ from rfl) rfl rfl | exact dep_at 1 hi (show _ = some _ from rfl) rfl rfl | exact dep_at 2 hi (show _ = some _ from rfl) rfl rfl
              have d5 : l.getD 5 false = true := by first | exact dep_at 0 hi (show _ = some _ from rfl) rfl rfl | exact dep_at 1 hi (show _ = some _ from rfl) rfl rfl | exact dep_at 2 hi (show _ = some _ from rfl) rfl rfl
              obtain rfl := hA.f4 d4
              obtain rfl := hA.f5 d5
              refine wpOp_step (show _ = some _ from rfl) ?_
              intro K' hK'
              go_simp
              exact hK' _ _ ⟨by simpa using hsz, v0, v1, v2, v3, _, _, _, v7, v8, v9, v10, v11, v12, v13, v14, v15, rfl, .inl ⟨(gd_ne (by decide)).trans h16, hA.op6⟩⟩
            · have d2 : l.getD 2 false = true := by first | exact dep_at 0 hi (show _ = some _ from rfl) rfl rfl | exact dep_at 1 hi (show _ = some _ from rfl) rfl rfl | exact dep_at 2 hi (show _ = some _ from rfl) rfl rfl
              have d6 : l.getD 6 false = true := by first | exact dep_at 0 hi (show _ = some _ from rfl) rfl rfl | exact dep_at 1 hi (show _ = some _ from rfl) rfl rfl | exact dep_at 2 hi (show _ = some _ from rfl) rfl rfl
              have hn14 : l.getD 14 false = false := by
                cases hx : l.getD 14 false with
                | false => rfl
                | true => exact absurd ((e13_7 (e14_13 hx)).symm.trans hnl') (by decide)
              have hn13 : l.getD 13 false = false := by
                cases hx : l.getD 13 false with
                | false => rfl
                | true => exact absurd ((e13_7 hx).symm.trans hnl') (by decide)
              obtain rfl := hA.f6 d6
              have hr := hA.f2 d2 hnl'
              refine wpOp_step (show _ = some _ from rfl) ?_
              intro K' hK'
              by_cases hz : k = 0
              · obtain ⟨ao, co, rfl, hco⟩ := own_slice hr
                have hxe : xsA = [] := List.eq_nil_of_length_eq_zero (by omega)
                refine step_append_zero (by rfl) _ _ _ (by rfl) 34 i0 Try.underlying23 hi0 ao 0 co (by rfl) hco (some ⟨b, off, none⟩) c1 (by show Value.slice _ k _ = _; rw [hz]) ?_
                exact hK' _ _ ⟨by simpa using hsz, _, _, _, _, _, _, _, _, _, _, _, _, _, _, _, _, rfl, .inl ⟨(gd_ne (by decide)).trans h16, RL.op7 hsz hn13 hn14 h16 hA hr (grown_of (Below.refl _ _) _) (by rw [hz, hxe]; exact hr)⟩⟩
              · refine step_append_lies _ (by rfl) _ _ _ (by rfl) w3.heap.size 34 i0 _ 2 40 Try.underlying23 hi0 hz0 hz1 hz2 rfl (by omega) _ 0 [] (by rfl) hr ⟨b, off, none⟩ k _ xsA (by rfl) (by omega) (newsB hnA hA.bl) h1A (by omega) (by simp [maxLen]; omega) (by omega) hA.bl.size _ rfl ?_
                intro g4 cap4 w9 hown4 hgrow4 hat4 hlt4
                exact hK' _ _ ⟨by simpa using hsz, _, _, _, _, _, _, _, _, _, _, _, _, _, _, _, _, rfl, .inl ⟨(gd_ne (by decide)).trans h16, RL.op7 hsz hn13 hn14 h16 hA hr hgrow4 (by simpa using hown4)⟩⟩
            · refine wpOp_step (show _ = some _ from rfl) ?_
              intro K' hK'
              go_simp
              exact hK' _ _ ⟨by simpa using hsz, v0, v1, v2, v3, v4, v5, v6, v7, _, v9, v10, v11, v12, v13, v14, v15, rfl, .inl ⟨(gd_ne (by decide)).trans h16, hA.op8⟩⟩
            · have d8 : l.getD 8 false = true := by first | exact dep_at 0 hi (show _ = some _ from rfl) rfl rfl | exact dep_at 1 hi (show _ = some _ from rfl) rfl rfl | exact dep_at 2 hi (show _ = some _ from rfl) rfl rfl
              obtain rfl := hA.f8 d8
              refine wpOp_step (show _ = some _ from rfl) ?_
              intro K' hK'
              go_simp
              exact hK' _ _ ⟨by simpa using hsz, v0, v1, v2, v3, v4, v5, v6, v7, _, _, v10, v11, v12, v13, v14, v15, rfl, .inl ⟨(gd_ne (by decide)).trans h16, hA.op9⟩⟩
            · refine wpOp_step (show _ = some _ from rfl) ?_
              intro K' hK'
              go_simp
              exact hK' _ _ ⟨by simpa using hsz, v0, v1, v2, v3, v4, v5, v6, v7, v8, v9, _, v11, v12, v13, v14, v15, rfl, .inl ⟨(gd_ne (by decide)).trans h16, hA.op10⟩⟩
            · have d10 : l.getD 10 false = true := by first | exact dep_at 0 hi (show _ = some _ from rfl) rfl rfl | exact dep_at 1 hi (show _ = some _ from rfl) rfl rfl | exact dep_at 2 hi (show _ = some _ from rfl) rfl rfl
              obtain rfl := hA.f10 d10
              refine wpOp_step (show _ = some _ from rfl) ?_
              intro K' hK'
              go_simp
              try rw [hw11]
              exact hK' _ _ ⟨by simpa using hsz, v0, v1, v2, v3, v4, v5, v6, v7, v8, v9, _, _, v12, v13, v14, v15, rfl, .inl ⟨(gd_ne (by decide)).trans h16, hA.op11⟩⟩
            · have d9 : l.getD 9 false = true := by first | exact dep_at 0 hi (show _ = some _ from rfl) rfl rfl | exact dep_at 1 hi (show _ = some _ from rfl) rfl rfl | exact dep_at 2 hi (show _ = some _ from rfl) rfl rfl
              have d11 : l.getD 11 false = true := by first | exact dep_at 0 hi (show _ = some _ from rfl) rfl rfl | exact dep_at 1 hi (show _ = some _ from rfl) rfl rfl | exact dep_at 2 hi (show _ = some _ from rfl) rfl rfl
              obtain rfl := hA.f9 d9
              obtain rfl := hA.f11 d11
              refine wpOp_step (show _ = some _ from rfl) ?_
              intro K' hK'
              go_simp
              exact hK' _ _ ⟨by simpa using hsz, v0, v1, v2, v3, v4, v5, v6, v7, v8, _, v10, _, _, v13, v14, v15, rfl, .inl ⟨(gd_ne (by decide)).trans h16, hA.op12⟩⟩
            · have d7 : l.getD 7 false = true := by first | exact dep_at 0 hi (show _ = some _ from rfl) rfl rfl | exact dep_at 1 hi (show _ = some _ from rfl) rfl rfl | exact dep_at 2 hi (show _ = some _ from rfl) rfl rfl
              have d12 : l.getD 12 false = true := by first | exact dep_at 0 hi (show _ = some _ from rfl) rfl rfl | exact dep_at 1 hi (show _ = some _ from rfl) rfl rfl | exact dep_at 2 hi (show _ = some _ from rfl) rfl rfl
              have hn14 : l.getD 14 false = false := by
                cases hx : l.getD 14 false with
                | false => rfl
                | true => exact absurd ((e14_13 hx).symm.trans hnl') (by decide)
              obtain rfl := hA.f12 d12
              have hr := hA.f7 d7 hnl'
              refine wpOp_step (show _ = some _ from rfl) ?_
              intro K' hK'
              by_cases hz : (vs.length - (k + 1)) = 0
              · obtain ⟨ao, co, rfl, hco⟩ := own_slice hr
                have hxe : xsB = [] := List.eq_nil_of_length_eq_zero (by omega)
                refine step_append_zero (by rfl) _ _ _ (by rfl) 34 i0 Try.underlying23 hi0 ao k co (by rfl) hco _ (c1 - (k + 1)) (by show Value.slice _ (vs.length - (k + 1)) _ = _; rw [hz]) ?_
                exact hK' _ _ ⟨by simpa using hsz, _, _, _, _, _, _, _, _, _, _, _, _, _, _, _, _, rfl, .inl ⟨(gd_ne (by decide)).trans h16, RL.op13 hsz d7 hn14 h16 hA hr (grown_of (Below.refl _ _) _) (by rw [hxe, List.append_nil, show vs.length - 1 = k by omega]; exact hr)⟩⟩
              · refine step_append_lies _ (by rfl) _ _ _ (by rfl) w3.heap.size 34 i0 _ 2 40 Try.underlying23 hi0 hz0 hz1 hz2 rfl (by omega) _ k xsA (by rfl) hr ⟨b, off + (k + 1) * 2, none⟩ (vs.length - (k + 1)) _ xsB (by show Value.slice (if c1 = k + 1 then _ else _) _ _ = _; rw [if_neg (by omega)]) (by omega) (newsB hnB hA.bl) h1B (by omega) (by simp [maxLen]; omega) (by omega) hA.bl.size _ rfl ?_
                intro g4 cap4 w9 hown4 hgrow4 hat4 hlt4
                exact hK' _ _ ⟨by simpa using hsz, _, _, _, _, _, _, _, _, _, _, _, _, _, _, _, _, rfl, .inl ⟨(gd_ne (by decide)).trans h16, RL.op13 hsz d7 hn14 h16 hA hr hgrow4 (by rw [show vs.length - 1 = k + (vs.length - (k + 1)) by omega]; exact hown4)⟩⟩
            · have d1 : l.getD 1 false = true := by first | exact dep_at 0 hi (show _ = some _ from rfl) rfl rfl | exact dep_at 1 hi (show _ = some _ from rfl) rfl rfl | exact dep_at 2 hi (show _ = some _ from rfl) rfl rfl
              have d13 : l.getD 13 false = true := by first | exact dep_at 0 hi (show _ = some _ from rfl) rfl rfl | exact dep_at 1 hi (show _ = some _ from rfl) rfl rfl | exact dep_at 2 hi (show _ = some _ from rfl) rfl rfl
              have hr := hA.f13 d13
              obtain ⟨ao, co, rfl, _⟩ := own_slice hr
              obtain rfl := hA.f1 d1
              refine wpOp_step (show _ = some _ from rfl) ?_
              intro K' hK'
              go_simp
              exact hK' _ _ ⟨by simpa using hsz, v0, _, v2, v3, v4, v5, v6, v7, v8, v9, v10, v11, v12, _, _, v15, rfl, .inl ⟨(gd_ne (by decide)).trans h16, hA.op14⟩⟩
            · refine wpOp_step (show _ = some _ from rfl) ?_
              intro K' hK'
              go_simp
              exact hK' _ _ ⟨by simpa using hsz, v0, v1, v2, v3, v4, v5, v6, v7, v8, v9, v10, v11, v12, v13, v14, _, rfl, .inl ⟨(gd_ne (by decide)).trans h16, RL.op15 h16 hA.bl.size (hA.al (.cells #[.int .i64 0, .slice none 0 0] 25)) (Bx.new wx _ _)⟩⟩
            · have d15 : l.getD 15 false = true := by first | exact dep_at 0 hi (show _ = some _ from rfl) rfl rfl | exact dep_at 1 hi (show _ = some _ from rfl) rfl rfl | exact dep_at 2 hi (show _ = some _ from rfl) rfl rfl
              have d14 : l.getD 14 false = true := by first | exact dep_at 0 hi (show _ = some _ from rfl) rfl rfl | exact dep_at 1 hi (show _ = some _ from rfl) rfl rfl | exact dep_at 2 hi (show _ = some _ from rfl) rfl rfl
              have d13 := e14_13 d14
              obtain rfl := hA.f14 d14
              have hr := hA.f13 d13
              obtain ⟨g, c0, c1', rfl, hg, hb, _⟩ := hA.f15 d15
              have y0 : wx.cell? ⟨g, 0, none⟩ = some c0 := hb.cell 0
              have y1 : wx.cell? ⟨g, 1, none⟩ = some c1' := hb.cell 1
              have z0 := hb.frozen 0
              have z1 := hb.frozen 1
              have hgs : wx.grownBy ((wx.setCell ⟨g, 0, none⟩ (.int .i64 t)).setCell ⟨g, 1, none⟩ v13) (some g) := (gset _ _ _ _).trans (gset _ _ _ _)
              have hfin : After8 t vs.length (xsA ++ xsB) w3 (.pointer (some ⟨g, 0, none⟩)) ((wx.setCell ⟨g, 0, none⟩ (.int .i64 t)).setCell ⟨g, 1, none⟩ v13) :=
                ⟨g, v13, rfl, hg, (hb.set 0 _).set 1 _, hr.kept hgs (.inr (fun e => bx_vol hb hr e.symm)), growsB hA.bl hgs hA.bl.size (fun i e => by cases e; exact hg)⟩
              obtain ⟨ao, co, rfl, _⟩ := own_slice hr
              refine wpOp_step (show _ = some _ from rfl) ?_
              intro K' hK'
              go_simp
              exact hK' _ _ ⟨by simpa using hsz, _, _, _, _, _, _, _, _, _, _, _, _, _, _, _, _, rfl, .inr ⟨gd_eq (by omega), hfin⟩⟩
          · exfalso
            have h15 := e16_15 h16
            have h14 := e16_14 h16
            have h1 := e14_1 h14
            have h13 := e14_13 h14
            have h7 := e13_7 h13
            have h12 := e13_12 h13
            have h0 := e1_0 h1
            have h2 := e7_2 h7
            have h6 := e7_6 h7
            have h4 := e6_4 h6
            have h5 := e6_5 h6
            have h3 := e4_3 h4
            have h9 := e12_9 h12
            have h11 := e12_11 h12
            have h8 := e9_8 h9
            have h10 := e11_10 h11
            have hi' : i' = 0 ∨ i' = 1 ∨ i' = 2 ∨ i' = 3 ∨ i' = 4 ∨ i' = 5 ∨ i' = 6 ∨ i' = 7 ∨ i' = 8 ∨ i' = 9 ∨ i' = 10 ∨ i' = 11 ∨ i' = 12 ∨ i' = 13 ∨ i' = 14 ∨ i' = 15 ∨ i' = 16 := by omega
            rcases hi' with rfl | rfl | rfl | rfl | rfl | rfl | rfl | rfl | rfl | rfl | rfl | rfl | rfl | rfl | rfl | rfl | rfl
            · exact absurd (h0.symm.trans hnl') (by decide)
            · exact absurd (h1.symm.trans hnl') (by decide)
            · exact absurd (h2.symm.trans hnl') (by decide)
            · exact absurd (h3.symm.trans hnl') (by decide)
            · exact absurd (h4.symm.trans hnl') (by decide)
            · exact absurd (h5.symm.trans hnl') (by decide)
            · exact absurd (h6.symm.trans hnl') (by decide)
            · exact absurd (h7.symm.trans hnl') (by decide)
            · exact absurd (h8.symm.trans hnl') (by decide)
            · exact absurd (h9.symm.trans hnl') (by decide)
            · exact absurd (h10.symm.trans hnl') (by decide)
            · exact absurd (h11.symm.trans hnl') (by decide)
            · exact absurd (h12.symm.trans hnl') (by decide)
            · exact absurd (h13.symm.trans hnl') (by decide)
            · exact absurd (h14.symm.trans hnl') (by decide)
            · exact absurd (h15.symm.trans hnl') (by decide)
            · exact absurd (h16.symm.trans hnl') (by decide)
        · have no : ∀ j {p : Prop}, (Array.replicate 17 false).getD j false = true → p := fun j p h => absurd ((none_done 17 j).symm.trans h) (by decide)
          exact ⟨by simp, _, _, _, _, _, _, _, _, _, _, _, _, _, _, _, _, rfl, .inl ⟨none_done 17 16, ⟨(Below.refl _ _).drew, no 0, no 1, no 2, no 3, no 4, no 5, no 6, no 7, no 8, no 9, no 10, no 11, no 12, no 13, no 14, no 15⟩⟩⟩
      case rest =>
        obtain ⟨wI, eW⟩ : ∃ x, x = wc := ⟨_, rfl⟩
        subst eW
        obtain ⟨gx, ux, rfl, hAf⟩ := hcut
        generalize xsA ++ xsB = xsC at hAf h1C hlC HR1
        clear hnA hnB h1A h1B hlA hlB
        have hown0 := hAf.out.2.2.1
        have hblc := hAf.out.2.2.2
        have k0c := cell_below hblc k0
        have k1c := cell_below hblc k1
        have knc := cell_below hblc kn
        have kxc : wI.cell? ⟨gx, 1, none⟩ = some ux := hAf.out.2.1.cell 1
        have hown := hown0
        have hmk := make3
        have ic0 : (0 : Int) ≤ (k : Int) := by omega
        have ik' : (k : Int) < (vs.length : Int) := by omega
        go_upto_region 9 with (fail)
        go_cut [10] from 71 to 121 (fun s10 wx => After9 t (vs.length - 1) nm xsC wI s10 wx)
        case first =>
          refine wp_region_any (by kernel_rfl) ?_
          refine wpAny_closed (RYJ (fun v0 v1 v2 v3 v4 v5 v6 v7 v8 v9 v10 v11 v12 v13 v14 v15 v16 v17 => { tmps := #[.slice a len cap, .slice a' len' cap', undef, undef, .bool false, .int .i64 n, .pointer (some ⟨D, 0, none⟩), .bool true, .int .i64 (k : Int), .pointer (some ⟨gx, 0, none⟩), v17, undef, undef, undef, .slice a len cap, .int .i64 (len : Int), .bool false, .bool false, .slice a' len' cap', .int .i64 (len' : Int), .bool false, .bool false, .tuple #[.int .i64 n, .agg #[.int .i64 t, .slice (some ⟨b, off, none⟩) vs.length c1]], .slice a len cap, .tuple #[.int .i64 n, .agg #[.int .i64 t, .slice (some ⟨b, off, none⟩) vs.length c1]], .int .i64 n, .agg #[.int .i64 t, .slice (some ⟨b, off, none⟩) vs.length c1], .int .i64 n, .agg #[.int .i64 t, .slice (some ⟨b, off, none⟩) vs.length c1], .bool true, .bool true, .int .i64 n, .agg #[.int .i64 t, .slice (some ⟨b, off, none⟩) vs.length c1], .bool true, .bool false, .bool false, .bool true, .bool false, .bool false, .bool false, .pointer (some ⟨D, 1, none⟩), .slice (some ⟨b, off, none⟩) vs.length c1, .int .i64 (vs.length : Int), .bool false, .bool false, undef, undef, undef, undef, undef, .slice a' len' cap', .int .i64 (len' : Int), .pointer (some ⟨D, 1, none⟩), .slice (some ⟨b, off, none⟩) vs.length c1, .int .i64 (vs.length : Int), .int .i64 (k : Int), u56, u57, u58, u59, u60, u61, u62, u63, u64, u65, u66, u67, u68, u69, u70, v0, v1, v2, v3, v4, v5, v6, v7, v8, v9, v10, v11, v12, v13, v14, v15, v16, u88, u89, u90, u91, u92, u93, u94, u95, u96, u97, u98, u99, u100, u101, u102, u103, u104, u105, u106, u107, u108, u109, u110, u111, u112, u113, u114, u115, u116, u117, u118, u119, u120, u121], defers := [] }) t D gx b off vs.length c1 k (vs.length - 1) nm ux xsC wI) ?_ ?_ _ _ _ _ (by decide) (closed_none _) ?_
          · intro l a wx hJ hC hr
            obtain ⟨hsz, v0, v1, v2, v3, v4, v5, v6, v7, v8, v9, v10, v11, v12, v13, v14, v15, v16, v17, rfl, hP⟩ := hJ
            have h18 : l.getD 18 false = true := by
              rcases ready_nil (by kernel_rfl) hr 18 (by decide) with h | h
              · exact h
              · rw [Array.getD_eq_getD_getElem?, Array.getElem?_eq_getElem (by omega)] at h ⊢
                exact h
            rcases hP with ⟨h, _⟩ | ⟨_, hA⟩
            · exact absurd (h18.symm.trans h) (by decide)
            · try dsimp only
              go_wp2
              go_meet
              exact hA
          · intro l a wx i' hJ hC hi
            obtain ⟨hlt', hnl, _⟩ := ready_spec hi
            obtain ⟨hsz, v0, v1, v2, v3, v4, v5, v6, v7, v8, v9, v10, v11, v12, v13, v14, v15, v16, v17, rfl, hP⟩ := hJ
            have hnl' := gd_not hnl
            have e1_0 : l.getD 1 false = true → l.getD 0 false = true := fun hh => by first | exact dep_of 0 hC hh (show _ = some _ from rfl) rfl rfl | exact dep_of 1 hC hh (show _ = some _ from rfl) rfl rfl | exact dep_of 2 hC hh (show _ = some _ from rfl) rfl rfl
            have e4_3 : l.getD 4 false = true → l.getD 3 false = true := fun hh => by first | exact dep_of 0 hC hh (show _ = some _ from rfl) rfl rfl | exact dep_of 1 hC hh (show _ = some _ from rfl) rfl rfl | exact dep_of 2 hC hh (show _ = some _ from rfl) rfl rfl
            have e5_2 : l.getD 5 false = true → l.getD 2 false = true := fun hh => by first | exact dep_of 0 hC hh (show _ = some _ from rfl) rfl rfl | exact dep_of 1 hC hh (show _ = some _ from rfl) rfl rfl | exact dep_of 2 hC hh (show _ = some _ from rfl) rfl rfl
            have e5_4 : l.getD 5 false = true → l.getD 4 false = true := fun hh => by first | exact dep_of 0 hC hh (show _ = some _ from rfl) rfl rfl | exact dep_of 1 hC hh (show _ = some _ from rfl) rfl rfl | exact dep_of 2 hC hh (show _ = some _ from rfl) rfl rfl
            have e7_6 : l.getD 7 false = true → l.getD 6 false = true := fun hh => by first | exact dep_of 0 hC hh (show _ = some _ from rfl) rfl rfl | exact dep_of 1 hC hh (show _ = some _ from rfl) rfl rfl | exact dep_of 2 hC hh (show _ = some _ from rfl) rfl rfl
            have e9_7 : l.getD 9 false = true → l.getD 7 false = true := fun hh => by first | exact dep_of 0 hC hh (show _ = some _ from rfl) rfl rfl | exact dep_of 1 hC hh (show _ = some _ from rfl) rfl rfl | exact dep_of 2 hC hh (show _ = some _ from rfl) rfl rfl
            have e9_8 : l.getD 9 false = true → l.getD 8 false = true := fun hh => by first | exact dep_of 0 hC hh (show _ = some _ from rfl) rfl rfl | exact dep_of 1 hC hh (show _ = some _ from rfl) rfl rfl | exact dep_of 2 hC hh (show _ = some _ from rfl) rfl rfl
            have e10_9 : l.getD 10 false = true → l.getD 9 false = true := fun hh => by first | exact dep_of 0 hC hh (show _ = some _ from rfl) rfl rfl | exact dep_of 1 hC hh (show _ = some _ from rfl) rfl rfl | exact dep_of 2 hC hh (show _ = some _ from rfl) rfl rfl
            have e11_10 : l.getD 11 false = true → l.getD 10 false = true := fun hh => by first | exact dep_of 0 hC hh (show _ = some _ from rfl) rfl rfl | exact dep_of 1 hC hh (show _ = some _ from rfl) rfl rfl | exact dep_of 2 hC hh (show _ = some _ from rfl) rfl rfl
            have e13_11 : l.getD 13 false = true → l.getD 11 false = true := fun hh => by first | exact dep_of 0 hC hh (show _ = some _ from rfl) rfl rfl | exact dep_of 1 hC hh (show _ = some _ from rfl) rfl rfl | exact dep_of 2 hC hh (show _ = some _ from rfl) rfl rfl
            have e13_12 : l.getD 13 false = true → l.getD 12 false = true := fun hh => by first | exact dep_of 0 hC hh (show _ = some _ from rfl) rfl rfl | exact dep_of 1 hC hh (show _ = some _ from rfl) rfl rfl | exact dep_of 2 hC hh (show _ = some _ from rfl) rfl rfl
            have e14_13 : l.getD 14 false = true → l.getD 13 false = true := fun hh => by first | exact dep_of 0 hC hh (show _ = some _ from rfl) rfl rfl | exact dep_of 1 hC hh (show _ = some _ from rfl) rfl rfl | exact dep_of 2 hC hh (show _ = some _ from rfl) rfl rfl
            have e15_5 : l.getD 15 false = true → l.getD 5 false = true := fun hh => by first | exact dep_of 0 hC hh (show _ = some _ from rfl) rfl rfl | exact dep_of 1 hC hh (show _ = some _ from rfl) rfl rfl | exact dep_of 2 hC hh (show _ = some _ from rfl) rfl rfl
            have e15_14 : l.getD 15 false = true → l.getD 14 false = true := fun hh => by first | exact dep_of 0 hC hh (show _ = some _ from rfl) rfl rfl | exact dep_of 1 hC hh (show _ = some _ from rfl) rfl rfl | exact dep_of 2 hC hh (show _ = some _ from rfl) rfl rfl
            have e16_1 : l.getD 16 false = true → l.getD 1 false = true := fun hh => by first | exact dep_of 0 hC hh (show _ = some _ from rfl) rfl rfl | exact dep_of 1 hC hh (show _ = some _ from rfl) rfl rfl | exact dep_of 2 hC hh (show _ = some _ from rfl) rfl rfl
            have e16_15 : l.getD 16 false = true → l.getD 15 false = true := fun hh => by first | exact dep_of 0 hC hh (show _ = some _ from rfl) rfl rfl | exact dep_of 1 hC hh (show _ = some _ from rfl) rfl rfl | exact dep_of 2 hC hh (show _ = some _ from rfl) rfl rfl
            have e18_17 : l.getD 18 false = true → l.getD 17 false = true := fun hh => by first | exact dep_of 0 hC hh (show _ = some _ from rfl) rfl rfl | exact dep_of 1 hC hh (show _ = some _ from rfl) rfl rfl | exact dep_of 2 hC hh (show _ = some _ from rfl) rfl rfl
            have e18_16 : l.getD 18 false = true → l.getD 16 false = true := fun hh => by first | exact dep_of 0 hC hh (show _ = some _ from rfl) rfl rfl | exact dep_of 1 hC hh (show _ = some _ from rfl) rfl rfl | exact dep_of 2 hC hh (show _ = some _ from rfl) rfl rfl
            have hi19 : i' < 19 := hlt'
            rcases hP with ⟨h18, hA⟩ | ⟨h18, _⟩
            · have x0 := cell_below hA.bl k0c
              have x1 := cell_below hA.bl k1c
              have x2 := cell_below hA.bl kxc
              have x3 := cell_below hA.bl knc
              have hi' : i' = 0 ∨ i' = 1 ∨ i' = 2 ∨ i' = 3 ∨ i' = 4 ∨ i' = 5 ∨ i' = 6 ∨ i' = 7 ∨ i' = 8 ∨ i' = 9 ∨ i' = 10 ∨ i' = 11 ∨ i' = 12 ∨ i' = 13 ∨ i' = 14 ∨ i' = 15 ∨ i' = 16 ∨ i' = 17 ∨ i' = 18 := by omega
              rcases hi' with rfl | rfl | rfl | rfl | rfl | rfl | rfl | rfl | rfl | rfl | rfl | rfl | rfl | rfl | rfl | rfl | rfl | rfl | rfl
              · refine wpOp_step (show _ = some _ from rfl) ?_
                intro K' hK'
                go_simp
                exact hK' _ _ ⟨by simpa using hsz, _, v1, v2, v3, v4, v5, v6, v7, v8, v9, v10, v11, v12, v13, v14, v15, v16, v17, rfl, .inl ⟨(gd_ne (by decide)).trans h18, hA.op0⟩⟩
              · have d0 : l.getD 0 false = true := by first | exact dep_at 0 hi (show _ = some _ from rfl) rfl rfl | exact dep_at 1 hi (show _ = some _ from rfl) rfl rfl | exact dep_at 2 hi (show _ = some _ from rfl) rfl rfl
                obtain rfl := hA.f0 d0
                refine wpOp_step (show _ = some _ from rfl) ?_
                intro K' hK'
                go_simp
                exact hK' _ _ ⟨by simpa using hsz, _, _, v2, v3, v4, v5, v6, v7, v8, v9, v10, v11, v12, v13, v14, v15, v16, v17, rfl, .inl ⟨(gd_ne (by decide)).trans h18, hA.op1⟩⟩
              · refine wpOp_step (show _ = some _ from rfl) ?_
                intro K' hK'
                go_simp
                exact hK' _ _ ⟨by simpa using hsz, v0, v1, _, v3, v4, v5, v6, v7, v8, v9, v10, v11, v12, v13, v14, v15, v16, v17, rfl, .inl ⟨(gd_ne (by decide)).trans h18, (hA.al (.cells #[] 34)).op2 hA.bl.size (Bx.new wx _ _)⟩⟩
              · refine wpOp_step (show _ = some _ from rfl) ?_
                intro K' hK'
                go_simp
                exact hK' _ _ ⟨by simpa using hsz, v0, v1, v2, _, v4, v5, v6, v7, v8, v9, v10, v11, v12, v13, v14, v15, v16, v17, rfl, .inl ⟨(gd_ne (by decide)).trans h18, hA.op3⟩⟩
              · have d3 : l.getD 3 false = true := by first | exact dep_at 0 hi (show _ = some _ from rfl) rfl rfl | exact dep_at 1 hi (show _ = some _ from rfl) rfl rfl | exact dep_at 2 hi (show _ = some _ from rfl) rfl rfl
                obtain rfl := hA.f3 d3
                refine wpOp_step (show _ = some _ from rfl) ?_
                intro K' hK'
                go_simp
                exact hK' _ _ ⟨by simpa using hsz, v0, v1, v2, _, _, v5, v6, v7, v8, v9, v10, v11, v12, v13, v14, v15, v16, v17, rfl, .inl ⟨(gd_ne (by decide)).trans h18, hA.op4⟩⟩
              · have d2 : l.getD 2 false = true := by first | exact dep_at 0 hi (show _ = some _ from rfl) rfl rfl | exact dep_at 1 hi (show _ = some _ from rfl) rfl rfl | exact dep_at 2 hi (show _ = some _ from rfl) rfl rfl
                have d4 : l.getD 4 false = true := by first | exact dep_at 0 hi (show _ = some _ from rfl) rfl rfl | exact dep_at 1 hi (show _ = some _ from rfl) rfl rfl | exact dep_at 2 hi (show _ = some _ from rfl) rfl rfl
                have hn15 : l.getD 15 false = false := by
                  cases hx : l.getD 15 false with
                  | false => rfl
                  | true => exact absurd ((e15_5 hx).symm.trans hnl') (by decide)
                have hn16 : l.getD 16 false = false := by
                  cases hx : l.getD 16 false with
                  | false => rfl
                  | true => exact absurd ((e15_5 (e16_15 hx)).symm.trans hnl') (by decide)
                obtain rfl := hA.f4 d4
                obtain ⟨g2, rfl, hl2, hb2⟩ := hA.f2 d2 hnl'
                refine wpOp_step (show _ = some _ from rfl) ?_
                intro K' hK'
                by_cases hz : vs.length - 1 = 0
                · have hxe : xsC = [] := List.eq_nil_of_length_eq_zero (by omega)
                  obtain ⟨au, cu, hux, hcu⟩ := own_slice hown
                  refine step_append_zero (by rfl) _ _ _ (by rfl) 34 i0 Try.underlying23 hi0 (some ⟨g2, 0, none⟩) 0 0 (by rfl) (Nat.le_refl _) au cu (by show v4 = _; rw [hux, hz]) ?_
                  exact hK' _ _ ⟨by simpa using hsz, _, _, _, _, _, _, _, _, _, _, _, _, _, _, _, _, _, _, rfl, .inl ⟨(gd_ne (by decide)).trans h18, RY.op5 hsz hn15 hn16 hA hb2 hl2 (grown_of (Below.refl _ _) _) (by rw [hz, hxe]; exact own_empty hb2 hl2)⟩⟩
                · obtain ⟨gu, cu, hux, hnC⟩ := own_news hown (by omega)
                  refine step_append_lies _ (by rfl) _ _ _ (by rfl) wI.heap.size 34 i0 _ 2 40 Try.underlying23 hi0 hz0 hz1 hz2 rfl (by omega) _ 0 [] (by rfl) (own_empty hb2 hl2) ⟨gu, 0, none⟩ (vs.length - 1) cu xsC (by show v4 = _; rw [hux]) (by omega) (newsB hnC hA.bl) h1C (by omega) (by simp [maxLen]; omega) (by omega) hA.bl.size _ rfl ?_
                  intro g4 cap4 w9 hown4 hgrow4 hat4 hlt4
                  exact hK' _ _ ⟨by simpa using hsz, _, _, _, _, _, _, _, _, _, _, _, _, _, _, _, _, _, _, rfl, .inl ⟨(gd_ne (by decide)).trans h18, RY.op5 hsz hn15 hn16 hA hb2 hl2 hgrow4 (by simpa using hown4)⟩⟩
              · refine wpOp_step (show _ = some _ from rfl) ?_
                intro K' hK'
                go_simp
                exact hK' _ _ ⟨by simpa using hsz, v0, v1, v2, v3, v4, v5, _, v7, v8, v9, v10, v11, v12, v13, v14, v15, v16, v17, rfl, .inl ⟨(gd_ne (by decide)).trans h18, hA.op6⟩⟩
              · have d6 : l.getD 6 false = true := by first | exact dep_at 0 hi (show _ = some _ from rfl) rfl rfl | exact dep_at 1 hi (show _ = some _ from rfl) rfl rfl | exact dep_at 2 hi (show _ = some _ from rfl) rfl rfl
                obtain rfl := hA.f6 d6
                refine wpOp_step (show _ = some _ from rfl) ?_
                intro K' hK'
                go_simp
                exact hK' _ _ ⟨by simpa using hsz, v0, v1, v2, v3, v4, v5, _, _, v8, v9, v10, v11, v12, v13, v14, v15, v16, v17, rfl, .inl ⟨(gd_ne (by decide)).trans h18, hA.op7⟩⟩
              · refine wpOp_step (show _ = some _ from rfl) ?_
                intro K' hK'
                go_simp
                exact hK' _ _ ⟨by simpa using hsz, v0, v1, v2, v3, v4, v5, v6, v7, _, v9, v10, v11, v12, v13, v14, v15, v16, v17, rfl, .inl ⟨(gd_ne (by decide)).trans h18, hA.op8⟩⟩
              · have d7 : l.getD 7 false = true := by first | exact dep_at 0 hi (show _ = some _ from rfl) rfl rfl | exact dep_at 1 hi (show _ = some _ from rfl) rfl rfl | exact dep_at 2 hi (show _ = some _ from rfl) rfl rfl
                have d8 : l.getD 8 false = true := by first | exact dep_at 0 hi (show _ = some _ from rfl) rfl rfl | exact dep_at 1 hi (show _ = some _ from rfl) rfl rfl | exact dep_at 2 hi (show _ = some _ from rfl) rfl rfl
                obtain rfl := hA.f7 d7
                obtain rfl := hA.f8 d8
                refine wpOp_step (show _ = some _ from rfl) ?_
                intro K' hK'
                go_simp
                exact hK' _ _ ⟨by simpa using hsz, v0, v1, v2, v3, v4, v5, v6, _, _, _, v10, v11, v12, v13, v14, v15, v16, v17, rfl, .inl ⟨(gd_ne (by decide)).trans h18, hA.op9⟩⟩
              · have d9 : l.getD 9 false = true := by first | exact dep_at 0 hi (show _ = some _ from rfl) rfl rfl | exact dep_at 1 hi (show _ = some _ from rfl) rfl rfl | exact dep_at 2 hi (show _ = some _ from rfl) rfl rfl
                obtain rfl := hA.f9 d9
                refine wpOp_step (show _ = some _ from rfl) ?_
                intro K' hK'
                go_simp
                exact hK' _ _ ⟨by simpa using hsz, v0, v1, v2, v3, v4, v5, v6, v7, v8, _, _, v11, v12, v13, v14, v15, v16, v17, rfl, .inl ⟨(gd_ne (by decide)).trans h18, hA.op10⟩⟩
              · have d10 : l.getD 10 false = true := by first | exact dep_at 0 hi (show _ = some _ from rfl) rfl rfl | exact dep_at 1 hi (show _ = some _ from rfl) rfl rfl | exact dep_at 2 hi (show _ = some _ from rfl) rfl rfl
                obtain rfl := hA.f10 d10
                refine wpOp_step (show _ = some _ from rfl) ?_
                intro K' hK'
                go_simp
                exact hK' _ _ ⟨by simpa using hsz, v0, v1, v2, v3, v4, v5, v6, v7, v8, v9, _, _, v12, v13, v14, v15, v16, v17, rfl, .inl ⟨(gd_ne (by decide)).trans h18, hA.op11⟩⟩
              · have hskip := hnl'
                have hn13 : l.getD 13 false = false := by
                  cases hx : l.getD 13 false with
                  | false => rfl
                  | true => exact absurd ((e13_12 hx).symm.trans hnl') (by decide)
                have hn14 : l.getD 14 false = false := by
                  cases hx : l.getD 14 false with
                  | false => rfl
                  | true => exact absurd ((e13_12 (e14_13 hx)).symm.trans hnl') (by decide)
                have hn15 : l.getD 15 false = false := by
                  cases hx : l.getD 15 false with
                  | false => rfl
                  | true => exact absurd ((e13_12 (e14_13 (e15_14 hx))).symm.trans hnl') (by decide)
                refine wpOp_step (show _ = some _ from rfl) ?_
                intro K' hK'
                go_simp
                exact hK' _ _ ⟨by simpa using hsz, v0, v1, v2, v3, v4, v5, v6, v7, v8, v9, v10, v11, _, v13, v14, v15, v16, v17, rfl, .inl ⟨(gd_ne (by decide)).trans h18, RY.op12 hn13 hn14 hn15 (hA.al (.cells zer9 36)) (or_new wx _ hA.bl.size)⟩⟩
              · have d11 : l.getD 11 false = true := by first | exact dep_at 0 hi (show _ = some _ from rfl) rfl rfl | exact dep_at 1 hi (show _ = some _ from rfl) rfl rfl | exact dep_at 2 hi (show _ = some _ from rfl) rfl rfl
                have d12 : l.getD 12 false = true := by first | exact dep_at 0 hi (show _ = some _ from rfl) rfl rfl | exact dep_at 1 hi (show _ = some _ from rfl) rfl rfl | exact dep_at 2 hi (show _ = some _ from rfl) rfl rfl
                obtain rfl := hA.f11 d11
                obtain ⟨gr, rfl, hgr⟩ := hA.f12 d12
                refine wpOp_step (show _ = some _ from rfl) ?_
                intro K' hK'
                go_simp
                exact hK' _ _ ⟨by simpa using hsz, v0, v1, v2, v3, v4, v5, v6, v7, v8, v9, v10, _, _, _, v14, v15, v16, v17, rfl, .inl ⟨(gd_ne (by decide)).trans h18, hA.op13⟩⟩
              · have d13 : l.getD 13 false = true := by first | exact dep_at 0 hi (show _ = some _ from rfl) rfl rfl | exact dep_at 1 hi (show _ = some _ from rfl) rfl rfl | exact dep_at 2 hi (show _ = some _ from rfl) rfl rfl
                obtain ⟨gr, rfl, hgr⟩ := hA.f12 (e13_12 d13)
                obtain rfl := hA.f13 d13
                refine wpOp_step (show _ = some _ from rfl) ?_
                intro K' hK'
                go_simp
                exact hK' _ _ ⟨by simpa using hsz, v0, v1, v2, v3, v4, v5, v6, v7, v8, v9, v10, v11, _, _, _, v15, v16, v17, rfl, .inl ⟨(gd_ne (by decide)).trans h18, (hA.al (.cells #[.string nm, .slice (some ⟨gr, 0, none⟩) 3 3] 34)).op14 (Bx.new wx _ _)⟩⟩
              · have d5 : l.getD 5 false = true := by first | exact dep_at 0 hi (show _ = some _ from rfl) rfl rfl | exact dep_at 1 hi (show _ = some _ from rfl) rfl rfl | exact dep_at 2 hi (show _ = some _ from rfl) rfl rfl
                have d14 : l.getD 14 false = true := by first | exact dep_at 0 hi (show _ = some _ from rfl) rfl rfl | exact dep_at 1 hi (show _ = some _ from rfl) rfl rfl | exact dep_at 2 hi (show _ = some _ from rfl) rfl rfl
                have hn16 : l.getD 16 false = false := by
                  cases hx : l.getD 16 false with
                  | false => rfl
                  | true => exact absurd ((e16_15 hx).symm.trans hnl') (by decide)
                have hr := hA.f5 d5 hnl'
                obtain ⟨gr, rfl, hgr⟩ := hA.f12 (e13_12 (e14_13 d14))
                obtain ⟨gv, rfl, hgv⟩ := hA.f14 d14 hnl'
                refine wpOp_step (show _ = some _ from rfl) ?_
                intro K' hK'
                refine step_append_lies _ (by rfl) _ _ _ (by rfl) wI.heap.size 34 i0 _ 2 40 Try.underlying23 hi0 hz0 hz1 hz2 rfl (by omega) _ (vs.length - 1) xsC (by rfl) hr ⟨gv, 0, none⟩ 1 1 [.string nm, .slice (some ⟨gr, 0, none⟩) 3 3] (by rfl) rfl (World.news_of_block hgv) (by simp [Value.oneCell']) (by omega) (by simp [maxLen]; omega) (by omega) hA.bl.size _ rfl ?_
                intro g4 cap4 w9 hown4 hgrow4 hat4 hlt4
                exact hK' _ _ ⟨by simpa using hsz, _, _, _, _, _, _, _, _, _, _, _, _, _, _, _, _, _, _, rfl, .inl ⟨(gd_ne (by decide)).trans h18, RY.op15 hsz d5 hn16 hA hr hgrow4 hown4⟩⟩
              · have d1 : l.getD 1 false = true := by first | exact dep_at 0 hi (show _ = some _ from rfl) rfl rfl | exact dep_at 1 hi (show _ = some _ from rfl) rfl rfl | exact dep_at 2 hi (show _ = some _ from rfl) rfl rfl
                have d15 : l.getD 15 false = true := by first | exact dep_at 0 hi (show _ = some _ from rfl) rfl rfl | exact dep_at 1 hi (show _ = some _ from rfl) rfl rfl | exact dep_at 2 hi (show _ = some _ from rfl) rfl rfl
                have hr := hA.f15 d15
                obtain ⟨ao, co, rfl, _⟩ := own_slice hr
                obtain rfl := hA.f1 d1
                refine wpOp_step (show _ = some _ from rfl) ?_
                intro K' hK'
                go_simp
                exact hK' _ _ ⟨by simpa using hsz, v0, _, v2, v3, v4, v5, v6, v7, v8, v9, v10, v11, v12, v13, v14, _, _, v17, rfl, .inl ⟨(gd_ne (by decide)).trans h18, hA.op16⟩⟩
              · refine wpOp_step (show _ = some _ from rfl) ?_
                intro K' hK'
                go_simp
                exact hK' _ _ ⟨by simpa using hsz, v0, v1, v2, v3, v4, v5, v6, v7, v8, v9, v10, v11, v12, v13, v14, v15, v16, _, rfl, .inl ⟨(gd_ne (by decide)).trans h18, RY.op17 hA.bl.size (hA.al (.cells #[.int .i64 0, .slice none 0 0] 25)) (Bx.new wx _ _)⟩⟩
              · have d17 : l.getD 17 false = true := by first | exact dep_at 0 hi (show _ = some _ from rfl) rfl rfl | exact dep_at 1 hi (show _ = some _ from rfl) rfl rfl | exact dep_at 2 hi (show _ = some _ from rfl) rfl rfl
                have d16 : l.getD 16 false = true := by first | exact dep_at 0 hi (show _ = some _ from rfl) rfl rfl | exact dep_at 1 hi (show _ = some _ from rfl) rfl rfl | exact dep_at 2 hi (show _ = some _ from rfl) rfl rfl
                have d15 := e16_15 d16
                obtain rfl := hA.f16 d16
                have hr := hA.f15 d15
                obtain ⟨gr, rfl, hgr⟩ := hA.f12 (e13_12 (e14_13 (e15_14 d15)))
                obtain ⟨g, c0, c1', rfl, hg, hb⟩ := hA.f17 d17
                have y0 : wx.cell? ⟨g, 0, none⟩ = some c0 := hb.cell 0
                have y1 : wx.cell? ⟨g, 1, none⟩ = some c1' := hb.cell 1
                have z0 := hb.frozen 0
                have z1 := hb.frozen 1
                have hgs : wx.grownBy ((wx.setCell ⟨g, 0, none⟩ (.int .i64 t)).setCell ⟨g, 1, none⟩ v15) (some g) := (gset _ _ _ _).trans (gset _ _ _ _)
                have hgr2 := or_root hgr hb hgs
                have hfin : After9 t (vs.length - 1) nm xsC wI (.pointer (some ⟨g, 0, none⟩)) ((wx.setCell ⟨g, 0, none⟩ (.int .i64 t)).setCell ⟨g, 1, none⟩ v15) :=
                  ⟨g, v15, _, rfl, hg, (hb.set 0 _).set 1 _, hr.kept hgs (.inr (fun e => bx_vol hb hr e.symm)), (hgr2.typed hgr2.isT.lt).lpt.reads, growsB hA.bl hgs hA.bl.size (fun i e => by cases e; exact hg)⟩
                obtain ⟨ao, co, rfl, _⟩ := own_slice hr
                refine wpOp_step (show _ = some _ from rfl) ?_
                intro K' hK'
                go_simp
                exact hK' _ _ ⟨by simpa using hsz, _, _, _, _, _, _, _, _, _, _, _, _, _, _, _, _, _, _, rfl, .inr ⟨gd_eq (by omega), hfin⟩⟩
            · exfalso
              have h17 := e18_17 h18
              have h16 := e18_16 h18
              have h1 := e16_1 h16
              have h15 := e16_15 h16
              have h5 := e15_5 h15
              have h14 := e15_14 h15
              have h0 := e1_0 h1
              have h2 := e5_2 h5
              have h4 := e5_4 h5
              have h3 := e4_3 h4
              have h13 := e14_13 h14
              have h11 := e13_11 h13
              have h12 := e13_12 h13
              have h10 := e11_10 h11
              have h9 := e10_9 h10
              have h7 := e9_7 h9
              have h8 := e9_8 h9
              have h6 := e7_6 h7
              have hi' : i' = 0 ∨ i' = 1 ∨ i' = 2 ∨ i' = 3 ∨ i' = 4 ∨ i' = 5 ∨ i' = 6 ∨ i' = 7 ∨ i' = 8 ∨ i' = 9 ∨ i' = 10 ∨ i' = 11 ∨ i' = 12 ∨ i' = 13 ∨ i' = 14 ∨ i' = 15 ∨ i' = 16 ∨ i' = 17 ∨ i' = 18 := by omega
              rcases hi' with rfl | rfl | rfl | rfl | rfl | rfl | rfl | rfl | rfl | rfl | rfl | rfl | rfl | rfl | rfl | rfl | rfl | rfl | rfl
              · exact absurd (h0.symm.trans hnl') (by decide)
              · exact absurd (h1.symm.trans hnl') (by decide)
              · exact absurd (h2.symm.trans hnl') (by decide)
              · exact absurd (h3.symm.trans hnl') (by decide)
              · exact absurd (h4.symm.trans hnl') (by decide)
              · exact absurd (h5.symm.trans hnl') (by decide)
              · exact absurd (h6.symm.trans hnl') (by decide)
              · exact absurd (h7.symm.trans hnl') (by decide)
              · exact absurd (h8.symm.trans hnl') (by decide)
              · exact absurd (h9.symm.trans hnl') (by decide)
              · exact absurd (h10.symm.trans hnl') (by decide)
              · exact absurd (h11.symm.trans hnl') (by decide)
              · exact absurd (h12.symm.trans hnl') (by decide)
              · exact absurd (h13.symm.trans hnl') (by decide)
              · exact absurd (h14.symm.trans hnl') (by decide)
              · exact absurd (h15.symm.trans hnl') (by decide)
              · exact absurd (h16.symm.trans hnl') (by decide)
              · exact absurd (h17.symm.trans hnl') (by decide)
              · exact absurd (h18.symm.trans hnl') (by decide)
          · have no : ∀ j {p : Prop}, (Array.replicate 19 false).getD j false = true → p := fun j p h => absurd ((none_done 19 j).symm.trans h) (by decide)
            exact ⟨by simp, _, _, _, _, _, _, _, _, _, _, _, _, _, _, _, _, _, _, rfl, .inl ⟨none_done 19 18, ⟨(Below.refl _ _).drew, no 0, no 1, no 2, no 3, no 4, no 5, no 6, no 7, no 8, no 9, no 10, no 11, no 12, no 13, no 14, no 15, no 16, no 17⟩⟩⟩
        case rest =>
          obtain ⟨gy, uy, vy, rfl, hAy⟩ := hcut
          obtain ⟨_, hbY, hoY, hvY, hbl9⟩ := hAy.out
          have hnI : (vs.take k ++ vs.drop (k + 1)).length = vs.length - 1 := by simp; omega
          have hVx := own_reads hown0 hnI (HR1.out.below hblc)
          have hVy := own_reads (vs := (vs.take k ++ vs.drop (k + 1)) ++ [VolD.mk nm [ptr0, ptr0, ptr0]]) hoY (by rw [List.length_append, hnI]; rfl) (((HR1.out.below hblc).below hbl9).append ⟨rfl, fun j hj => by
            obtain rfl : j = 0 := by simp at hj; exact hj
            exact ⟨rfl, vy, rfl, hvY⟩⟩)
          have hokx := less_ok hok hkl
          have hoky := more_ok hok hkl
          have HLs := Lib.hid (fun q hq => less_in (q := q) hok hkl hq)
          have hmr := more_rpl hok hkl
          rw [Hnm.out] at hoky hmr
          have hnmM : ∀ v ∈ vs, v.name.size ≤ maxLen := fun v hv => by
            obtain ⟨j, hj, rfl⟩ := List.getElem_of_mem hv
            have := HN.out j hj
            rw [getD_el hj] at this
            exact this
          have hnm0 : nm.size ≤ maxLen := by rw [← Hnm.out]; exact HN.out k hkl
          have HNx : Hid (∀ j, j < (vs.take k ++ vs.drop (k + 1)).length → ((vs.take k ++ vs.drop (k + 1)).getD j vol0).name.size ≤ maxLen) := fun j hj => hnmM _ ((less_sub hkl).subset (getD_mem hj))
          have HNy : Hid (∀ j, j < ((vs.take k ++ vs.drop (k + 1)) ++ [VolD.mk nm [ptr0, ptr0, ptr0]]).length → (((vs.take k ++ vs.drop (k + 1)) ++ [VolD.mk nm [ptr0, ptr0, ptr0]]).getD j vol0).name.size ≤ maxLen) := fun j hj => by
            have hmem := getD_mem (d := vol0) hj
            rcases List.mem_append.1 hmem with h | h
            · exact hnmM _ ((less_sub hkl).subset h)
            · rw [List.mem_singleton] at h; rw [h]; exact hnm0
          have HB9 := Lib.hid ((HB.out.trans (hblc.mono HB.out.size)).trans (hbl9.mono (Nat.le_trans HB.out.size hblc.size)))
          have HX9 := Lib.hid ((HX.out.below hblc).below hbl9)
          have x0 : wc.cell? ⟨gx, 0, none⟩ = some (.int .i64 t) := cell_below hbl9 (hAf.out.2.1.cell 0)
          have x1 := cell_below hbl9 kxc
          have y0 : wc.cell? ⟨gy, 0, none⟩ = some (.int .i64 t) := hbY.cell 0
          have y1 : wc.cell? ⟨gy, 1, none⟩ = some uy := hbY.cell 1
          have r0 := cell_below hbl9 k0c
          have r1 := cell_below hbl9 k1c
          obtain ⟨ax, cx, ex, hcx1, hcx2, hXx⟩ := hVx
          obtain ⟨ay, cy, ey, hcy1, hcy2, hXy⟩ := hVy
          have HXx := Lib.hid (hXx.below hbl9)
          have HXy := Lib.hid hXy
          have HPx := Lib.hid (fun w' h => implPlaces_any n t ax cx (vs.take k ++ vs.drop (k + 1)) w' hcx1 HNx h)
          have HPr := Lib.hid (fun w' h => implPlaces_any n t (some ⟨b, off, none⟩) c1 vs w' hc1 HN h)
          have HPy := Lib.hid (fun w' h => implPlaces_any n t ay cy ((vs.take k ++ vs.drop (k + 1)) ++ [VolD.mk nm [ptr0, ptr0, ptr0]]) w' hcy1 HNy h)
          have HOx := Lib.hid (fun w' h => implRoot_any n ⟨t, vs.take k ++ vs.drop (k + 1)⟩ ax cx w' hcx1 HNx h)
          have HOy := Lib.hid (fun w' h => implRoot_any n ⟨t, (vs.take k ++ vs.drop (k + 1)) ++ [VolD.mk nm [ptr0, ptr0, ptr0]]⟩ ay cy w' hcy1 HNy h)
          simp only at HOx HOy
          rw [tt_true hokx] at HOx
          rw [tt_true hoky] at HOy
          rw [hmr] at HPy
          have hA48 := rpl_length n ⟨t, vs.take k ++ vs.drop (k + 1)⟩
          have hB48 := rpl_length n ⟨t, vs⟩
          generalize rpl n ⟨t, vs.take k ++ vs.drop (k + 1)⟩ = LA at HPx HPy HLs hA48
          generalize rpl n ⟨t, vs⟩ = LB at HPr HLs hB48
          subst ex
          subst ey
          generalize (vs.take k ++ vs.drop (k + 1)) ++ [VolD.mk nm [ptr0, ptr0, ptr0]] = yvs at *
          generalize vs.take k ++ vs.drop (k + 1) = xvs at *
          have hAm : LA.length ≤ maxLen := by simp [maxLen]; omega
          have hBm : LB.length ≤ maxLen := by simp [maxLen]; omega
          clear hnI hAf hown0 hown hblc hAy hbY hoY hvY hbl9 hXx hXy hok hokx hoky hmr hnmM hnm0 HR1 HX HB hlC h1C k0 k1 k0c k1c knc kxc kn HI HS
          go_wp2_with fail
          refine (HPx.out _ HXx).mono ?_
          rintro e w5 ⟨v5, rfl, ho, hB⟩
          obtain ⟨a5, c5, rfl, _, _, hx5⟩ := ho.reads
          have HL5 := Lib.hid hx5
          replace HX9 := Lib.hid (HX9.out.below hB)
          replace HXx := Lib.hid (HXx.out.below hB)
          replace HXy := Lib.hid (HXy.out.below hB)
          replace x0 := cell_below hB x0
          replace x1 := cell_below hB x1
          replace y0 := cell_below hB y0
          replace y1 := cell_below hB y1
          replace r0 := cell_below hB r0
          replace r1 := cell_below hB r1
          replace HB9 := Lib.hid (HB9.out.trans (hB.mono HB9.out.size))
          clear hB
          clear hx5 ho
          go_wp2_with fail
          refine (HPr.out _ HX9).mono ?_
          rintro e w6 ⟨v6, rfl, ho, hB⟩
          obtain ⟨a6, c6, rfl, _, _, hx6⟩ := ho.reads
          have HL6 := Lib.hid hx6
          replace HL5 := Lib.hid (HL5.out.below hB)
          replace HX9 := Lib.hid (HX9.out.below hB)
          replace HXx := Lib.hid (HXx.out.below hB)
          replace HXy := Lib.hid (HXy.out.below hB)
          replace x0 := cell_below hB x0
          replace x1 := cell_below hB x1
          replace y0 := cell_below hB y0
          replace y1 := cell_below hB y1
          replace r0 := cell_below hB r0
          replace r1 := cell_below hB r1
          replace HB9 := Lib.hid (HB9.out.trans (hB.mono HB9.out.size))
          clear hB
          clear hx6 ho
          have hs6 := HB9.out.size
          go_wp2_with fail
          go_loopw [13] (fun i wr => ∃ j : Nat, i = .int .i64 (j : Int) ∧ j ≤ LA.length ∧ Hid (Below w6.heap.size w6 wr)) (fun i _ => LA.length - (intOf i).toNat)
          case atStart => exact ⟨0, rfl, by omega, Below.refl _ _⟩
          case round =>
            obtain ⟨j, rfl, hj, hBr⟩ := hrel
            by_cases hjt : j < LA.length
            · obtain ⟨pb, po, rfl, hpc⟩ := (HL5.out.below hBr.out).resolve_left (fun e => by subst e; simp at hjt)
              obtain ⟨p0, p1⟩ := hpc j hjt
              have hin := HLs.out _ ⟨j, hjt, rfl⟩
              have HLi := Lib.hid (fun w' h => lpaIn_any (LA.getD j pl0) a6 c6 LB w' hBm h)
              rw [tt_true hin] at HLi
              generalize LA.getD j pl0 = pj at p0 p1 HLi
              have ij0 : (0 : Int) ≤ (j : Int) := by omega
              have ij1 : (j : Int) < (LA.length : Int) := by omega
              clear hin hpc
              go_wp2_with fail
              refine (HLi.out _ (HL6.out.below hBr.out)).mono ?_
              rintro e w7 ⟨rfl, hB7⟩
              have HB7 := Lib.hid (hBr.out.trans (hB7.mono hBr.out.size))
              clear hB7 p0 p1
              go_wp2
              exact ⟨⟨j + 1, by go_num, by omega, HB7⟩, by simp [intOf]; omega⟩
            · have hB := hBr.out
              replace HL5 := Lib.hid (HL5.out.below hB)
              replace HX9 := Lib.hid (HX9.out.below hB)
              replace HXx := Lib.hid (HXx.out.below hB)
              replace HXy := Lib.hid (HXy.out.below hB)
              replace x0 := cell_below hB x0
              replace x1 := cell_below hB x1
              replace y0 := cell_below hB y0
              replace y1 := cell_below hB y1
              replace r0 := cell_below hB r0
              replace r1 := cell_below hB r1
              replace HB9 := Lib.hid (HB9.out.trans (hB.mono HB9.out.size))
              clear hB
              go_wp2_with fail
              refine (HOx.out _ HXx).mono ?_
              rintro e w7 ⟨rfl, hB⟩
              replace HL5 := Lib.hid (HL5.out.below hB)
              replace HX9 := Lib.hid (HX9.out.below hB)
              replace HXx := Lib.hid (HXx.out.below hB)
              replace HXy := Lib.hid (HXy.out.below hB)
              replace x0 := cell_below hB x0
              replace x1 := cell_below hB x1
              replace y0 := cell_below hB y0
              replace y1 := cell_below hB y1
              replace r0 := cell_below hB r0
              replace r1 := cell_below hB r1
              replace HB9 := Lib.hid (HB9.out.trans (hB.mono HB9.out.size))
              clear hB
              go_wp2_with fail
              refine (HOy.out _ HXy).mono ?_
              rintro e w8 ⟨rfl, hB⟩
              replace HL5 := Lib.hid (HL5.out.below hB)
              replace HX9 := Lib.hid (HX9.out.below hB)
              replace HXx := Lib.hid (HXx.out.below hB)
              replace HXy := Lib.hid (HXy.out.below hB)
              replace x0 := cell_below hB x0
              replace x1 := cell_below hB x1
              replace y0 := cell_below hB y0
              replace y1 := cell_below hB y1
              replace r0 := cell_below hB r0
              replace r1 := cell_below hB r1
              replace HB9 := Lib.hid (HB9.out.trans (hB.mono HB9.out.size))
              clear hB
              go_wp2_with fail
              refine (HPy.out _ HXy).mono ?_
              rintro e w9 ⟨v9, rfl, ho, hB⟩
              obtain ⟨a9, c9, rfl, _, _, hx9⟩ := ho.reads
              have HL9 := Lib.hid hx9
              replace HL5 := Lib.hid (HL5.out.below hB)
              replace HX9 := Lib.hid (HX9.out.below hB)
              replace HXx := Lib.hid (HXx.out.below hB)
              replace HXy := Lib.hid (HXy.out.below hB)
              replace x0 := cell_below hB x0
              replace x1 := cell_below hB x1
              replace y0 := cell_below hB y0
              replace y1 := cell_below hB y1
              replace r0 := cell_below hB r0
              replace r1 := cell_below hB r1
              replace HB9 := Lib.hid (HB9.out.trans (hB.mono HB9.out.size))
              clear hB
              clear hx9 ho
              go_wp2_with fail
              refine (lpaPlaces_any a9 a5 c9 c5 LA LA _ hAm hAm HL9 HL5).mono ?_
              rintro e w10 ⟨rfl, hB⟩
              rw [tt_true (rfl : LA = LA)]
              go_wp2
              go_ret
              exact ⟨rfl, HB9.out.trans (hB.mono HB9.out.size)⟩
  · rw [tt_false hok] at HI HS
    clear hok
    refine (HI.out _ HX).mono ?_
    rintro e w2 ⟨rfl, hB⟩
    replace HX := Lib.hid (HX.out.below hB)
    replace k0 := cell_below hB k0
    replace k1 := cell_below hB k1
    replace HB := Lib.hid (HB.out.trans (hB.mono HB.out.size))
    clear hB
    go_wp2_with fail
    refine (HS.out _ HX).mono ?_
    rintro e w3 ⟨rfl, hB⟩
    replace HX := Lib.hid (HX.out.below hB)
    replace k0 := cell_below hB k0
    replace k1 := cell_below hB k1
    replace HB := Lib.hid (HB.out.trans (hB.mono HB.out.size))
    clear hB
    go_wp2_with fail
    refine (HS.out _ HX).mono ?_
    rintro e w4 ⟨rfl, hB⟩
    go_wp2
    go_ret
    exact ⟨rfl, HB.out.trans (hB.mono HB.out.size)⟩

set_option maxRecDepth 100000 in
set_option maxHeartbeats 1000000 in
theorem walk (a0 : Option Addr) (len0 cap0 : Nat) (z0 : List Int) (a1 : Option Addr) (len1 cap1 : Nat) (z1 : List Int) (w : World) (w0 : IsBytes w a0 len0 cap0 z0) (w1 : IsBytes w a1 len1 cap1 z1) :
    Calls Try.prog 4 #[.slice a0 len0 cap0, .slice a1 len1 cap1] w fun e w' => e = .returned (.bool true) ∧ Below w.heap.size w w' := by
  have hm : len0 ≤ maxLen := by have := w0.opened; omega
  have hm1 : len1 ≤ maxLen := by have := w1.opened; omega
  by_cases h0 : len0 ≤ 1048576
  · by_cases h1 : len1 ≤ 1048576
    · exact main a0 len0 cap0 z0 a1 len1 cap1 w h0 h1 w0
    · have d0 : decide (1048576 < (len0 : Int)) = false := by simp; omega
      have d1 : decide (1048576 < (len1 : Int)) = true := by simp; omega
      clear w0 w1
      go_enter Try.func4, Try.ntmps4
      go_wp2
      go_ret
      exact ⟨rfl, Below.refl _ _⟩
  · have d0 : decide (1048576 < (len0 : Int)) = true := by simp; omega
    clear w0 w1
    go_enter Try.func4, Try.ntmps4
    go_wp2
    go_ret
    exact ⟨rfl, Below.refl _ _⟩

set_option maxRecDepth 100000 in
theorem lifted (os : Os) (started : os.Started) (H : Type) (enc : TypeId × Value → H) :
    ReturnsInHanded {} Try.checked os 4 .any (Rows.fnRootLessSpec.pre6 enc Try.prog Try.f4 Rows.fnRootLessRow.domain false) (Rows.fnRootLessSpec.post enc Try.prog Try.f4 false true false false) := by
  refine returnsInHanded_of_change (C := Try.checked) own started (by kernel_rfl) Try.func4
    (ChangeSpec.witness6 (enc := enc) (C := Try.checked) false ⟨#[], #[.slice none 0 0, .slice none 0 0], []⟩ 8 (by kernel_rfl) (by kernel_rfl) (by kernel_rfl) (by kernel_rfl)) ?_
  intro W base args ds gs before hval0 hW hcnd _
  have hval : ∀ (j : Nat) t v, Try.f4.params[j]? = some t → args[j]? = some v → Value.okWide Try.prog W .any base t v := hval0
  have hW' := hW
  obtain ⟨p, q, hA0, hV, rfl, hfz, hnd⟩ := hW
  have hA : DataW.TrodAll enc Try.prog W 0 (fun _ => true) true Try.f4.params.toList args.toList ds p := hA0
  rw [Try.params4] at hA hval
  obtain ⟨v0, vs0, d0, ds0, p0, q0, hargs, rfl, rfl, h0, r0⟩ := trodAll_cons hA
  obtain ⟨v1, vs1, d1, ds1, p1, q1, rfl, rfl, rfl, h1, r1⟩ := trodAll_cons r0
  obtain ⟨rfl, rfl, rfl⟩ := trodAll_nil r1
  obtain rfl : args = #[v0, v1] := by cases args; simp_all
  obtain ⟨rfl, rfl⟩ := trodVars_none hV
  have k0 := h0
  have lt0 : ∀ x ∈ p0, x.block < W.heap.size := by obtain ⟨m, hm⟩ := k0; exact DataW.trod_lt m _ _ _ hm
  obtain ⟨a0, len0, cap0, rfl⟩ := okWide_slice Try.underlying22 (hval 0 22 v0 rfl rfl)
  obtain ⟨z0, w0⟩ : ∃ zs, IsBytes W a0 len0 cap0 zs := by
    obtain ⟨fuel, hf⟩ := h0
    rcases open_ints Try.underlying22 Try.underlying5 (by kernel_rfl) hf with ⟨hcs, _⟩ | ⟨x, l, c, zs, hcs, _, hl, hm, hz, _, hcell, hwz⟩
    · simp [Value.cells] at hcs
      obtain ⟨rfl, rfl, rfl⟩ := hcs
      exact ⟨[], .inl ⟨rfl, rfl, rfl, rfl⟩⟩
    · simp [Value.cells] at hcs
      obtain ⟨rfl, rfl, rfl⟩ := hcs
      exact ⟨zs, .inr ⟨_, rfl, hl, hm, by simpa using hz, hcell, hwz⟩⟩
  have k1 := h1
  have lt1 : ∀ x ∈ p1, x.block < W.heap.size := by obtain ⟨m, hm⟩ := k1; exact DataW.trod_lt m _ _ _ hm
  obtain ⟨a1, len1, cap1, rfl⟩ := okWide_slice Try.underlying22 (hval 1 22 v1 rfl rfl)
  obtain ⟨z1, w1⟩ : ∃ zs, IsBytes W a1 len1 cap1 zs := by
    obtain ⟨fuel, hf⟩ := h1
    rcases open_ints Try.underlying22 Try.underlying5 (by kernel_rfl) hf with ⟨hcs, _⟩ | ⟨x, l, c, zs, hcs, _, hl, hm, hz, _, hcell, hwz⟩
    · simp [Value.cells] at hcs
      obtain ⟨rfl, rfl, rfl⟩ := hcs
      exact ⟨[], .inl ⟨rfl, rfl, rfl, rfl⟩⟩
    · simp [Value.cells] at hcs
      obtain ⟨rfl, rfl, rfl⟩ := hcs
      exact ⟨zs, .inr ⟨_, rfl, hl, hm, by simpa using hz, hcell, hwz⟩⟩
  clear hA0 hval0
  refine (walk a0 len0 cap0 z0 a1 len1 cap1 z1 W w0 w1).mono fun e W' ⟨he, bel⟩ => ?_
  subst he
  exact ⟨_, rfl, _, _, _, [], _, [], hW', trodAll_mk1 (shut_bool Try.underlying4 _), (trodAll_cons_mk (Below.trod laidOut (by kernel_rfl) (of_decide_eq_true (by kernel_rfl)) k0 bel lt0) (trodAll_cons_mk (Below.trod laidOut (by kernel_rfl) (of_decide_eq_true (by kernel_rfl)) k1 bel lt1) trodAll_mk0)), rfl, bel.frame _, fun h => by cases h⟩

theorem over : Rows.fnRootLessRow.holds Try.pinned (OpenSpec.ofChange Rows.fnRootLessSpec) :=
  OpenClaim.holds_of_wide 4 Try.f4 rfl rfl rfl rfl rfl rfl rfl ⟨rfl, rfl, rfl, rfl, rfl⟩ rfl rfl rfl rfl rfl (by kernel_rfl) Try.func4 (by kernel_rfl)
    (of_decide_eq_true (by kernel_rfl)) (by unfold Func.isWrapper; first | (rw [if_pos (by decide +kernel)]; kernel_rfl) | (rw [if_neg (by decide +kernel)]; exact ⟨rfl, rfl⟩))
    (fun os started H enc _ => lifted os started H enc)

end FnRootLess

theorem FnRootLess_holds : Rows.FnRootLessSaid := FnRootLess.over

end Go.Proofs.Ytlonecgmldjdpaa
