/- 'laws.FnRootStrict' returns true at every code: a drawn text, some of them spoilt, is read by the program as by the specification, and what is read is ok and is written back as that very text. Conditions: the listed variables are as the card says. -/
import Derived.Test.YtliadobopideaaaGreatDoorPSRS4
import Derived.Test.YtliadobopideaaaGreatDoorPSP2
namespace Go.Proofs.YtliadobopideaaaGreatDoor
open Go.ChangeShapes Go.WideShapes Go.ChangeAt Go.RowKit Go.Sort

noncomputable def rdS (n : Int) (s : ByteArray) : RootD := if tt (ReadsAs n s) = true then rootL s.data.toList else ⟨0, []⟩
theorem rdS_yes {n : Int} {s : ByteArray} (h : ReadsAs n s) : rdS n s = rootL s.data.toList := by unfold rdS; rw [if_pos (tt_true h)]
theorem rdS_no {n : Int} {s : ByteArray} (h : ¬ReadsAs n s) : rdS n s = ⟨0, []⟩ := by unfold rdS; rw [if_neg (by rw [tt_false h]; decide)]
theorem spec_strict (n : Int) (s : ByteArray) (w : World) :
    Calls Tryz.prog 14 #[.int .i64 n, .string s] w fun e w' => ∃ a c, e = .returned (.tuple #[.agg #[.int .i64 (rdS n s).txg, .slice a (rdS n s).vols.length c], .bool (tt (ReadsAs n s))]) ∧ VolsAt w' a (rdS n s).vols ∧ Below w.heap.size w w' := by
  refine (specRead_any n s w).mono ?_
  rintro e w' ⟨h, hB⟩
  rcases h with ⟨h, v, rfl, hv⟩ | ⟨h, rfl⟩
  · rw [rdS_yes h, tt_true h]
    obtain ⟨a, c, rfl, _, _, hat⟩ := hv.reads
    exact ⟨a, c, rfl, hat, hB⟩
  · rw [rdS_no h, tt_false h]
    exact ⟨none, 0, rfl, .inl rfl, hB⟩
theorem impl_strict (n : Int) (s : ByteArray) (A : Addr) (w : World) (hE : EnvB w A) (hT : Tab w) :
    Calls Tryz.prog 10 #[.int .i64 n, .string s] w fun e w' => ∃ a c, e = .returned (.tuple #[.agg #[.int .i64 (rdS n s).txg, .slice a (rdS n s).vols.length c], .bool (tt (ReadsAs n s))]) ∧ (rdS n s).vols.length ≤ c ∧ VolsAt w' a (rdS n s).vols ∧ Below w.heap.size w w' := by
  refine (implRead_any n s A w hE hT).mono ?_
  rintro e w' ⟨h, hB⟩
  rcases h with ⟨h, v, xs, lo, rfl, hv, _⟩ | ⟨h, rfl⟩
  · rw [rdS_yes h, tt_true h]
    obtain ⟨a, c, rfl, hc, _, hat⟩ := hv.own.reads
    exact ⟨a, c, rfl, hc, hat, hB⟩
  · rw [rdS_no h, tt_false h]
    exact ⟨none, 0, rfl, Nat.le_refl _, .inl rfl, hB⟩
theorem name_small {n : Int} {r : RootD} (h : RootOkP n r) : ∀ j, j < r.vols.length → (r.vols.getD j vol0).name.size ≤ maxLen := fun j hj => Nat.le_trans (h.small.2.2 j hj).1 (by simp [maxLen])

namespace FnRootStrict
set_option linter.unusedVariables false

set_option maxRecDepth 100000 in
set_option maxHeartbeats 8000000 in
theorem main (a : Option Addr) (len cap : Nat) (z0 : List Int) (w : World) (A : Addr) (h0 : len ≤ 1048576) (H : Hid (IsBytes w a len cap z0)) (HE : Hid (EnvB w A)) (HTab : Hid (Tab w)) :
    Calls Tryz.prog 4 #[.slice a len cap] w fun e w' => e = .returned (.bool true) ∧ Below w.heap.size w w' := by
  have d0 : decide (1048576 < (len : Int)) = false := decide_eq_false (by omega)
  go_enter Tryz.func4, Tryz.ntmps4
  go_wp2_with fail
  refine (drawRead_any a len cap z0 _ H.out).mono ?_
  rintro e w1 ⟨n, s, rfl, hB1⟩
  have HB := Lib.hid hB1
  have HS := Lib.hid (fun W => spec_strict n s W)
  have HI := Lib.hid (fun W hE hT => impl_strict n s A W hE hT)
  clear hB1 d0
  by_cases hr : ReadsAs n s
  · have hok : RootOkP n (rdS n s) := by rw [rdS_yes hr]; exact hr.2.1
    have hT9 : rootT n (rdS n s) = s := by rw [rootT_ok hok, rdS_yes hr]; exact hr.2.2
    rw [tt_true hr] at HS HI
    generalize rdS n s = r at HS HI hok hT9
    obtain ⟨t, vs⟩ := r
    simp only at HS HI
    have hv4 : vs.length ≤ 4 := hok.small.2.1
    have hma : vs.length ≤ maxLen := by simp [maxLen]; omega
    have HNa := Lib.hid (name_small hok)
    have HL := Lib.hid (fun aa ab ca cb W h h' => lpaRoot_any t t aa ab ca cb vs vs W hma hma h h')
    have HK := Lib.hid (fun a c W (hc : vs.length ≤ c) h => implRoot_any n ⟨t, vs⟩ a c W hc HNa.out h)
    have HX := Lib.hid (fun a c W (hc : vs.length ≤ c) h hT => implText_any n ⟨t, vs⟩ a c W hc HNa.out h hT)
    rw [tt_true rfl] at HL
    rw [tt_true hok] at HK
    rw [hT9] at HX
    simp only at HK HX
    clear hok hT9 hr hv4 hma HNa
    have t1 : (s.toList == s.toList) = true := beq_self_eq_true _
    go_wp2_with fail
    refine (HS.out _).mono ?_
    rintro e w2 ⟨a1, c1, rfl, hx1, hB2⟩
    have hal : Below w2.heap.size w2 (w2.alloc (.cells #[.int .i64 t, .slice a1 vs.length c1] 25)) := (Below.refl _ _).alloc (Nat.le_refl _) _
    have k0 : (w2.alloc (.cells #[.int .i64 t, .slice a1 vs.length c1] 25)).cell? ⟨w2.heap.size, 0, none⟩ = some (.int .i64 t) := by rw [World.cell?_alloc_mark]; rfl
    have k1 : (w2.alloc (.cells #[.int .i64 t, .slice a1 vs.length c1] 25)).cell? ⟨w2.heap.size, 1, none⟩ = some (.slice a1 vs.length c1) := by rw [World.cell?_alloc_mark]; rfl
    have HX1 := Lib.hid (hx1.below hal)
    replace HB := Lib.hid (HB.out.trans ((below_trans hB2 hal hB2.size).mono HB.out.size))
    clear hx1 hB2 hal
    go_wp2_with fail
    generalize w2.alloc (.cells #[.int .i64 t, .slice a1 vs.length c1] 25) = w3 at k0 k1 HX1 HB ⊢
    generalize w2.heap.size = D5 at k0 k1 ⊢
    refine (HI.out _ (HE.out.below HB.out) (HTab.out.below HB.out)).mono ?_
    rintro e w4 ⟨a2, c2, rfl, hc2, hx2, hB4⟩
    have hal : Below w4.heap.size w4 (w4.alloc (.cells #[.int .i64 t, .slice a2 vs.length c2] 25)) := (Below.refl _ _).alloc (Nat.le_refl _) _
    have q0 : (w4.alloc (.cells #[.int .i64 t, .slice a2 vs.length c2] 25)).cell? ⟨w4.heap.size, 0, none⟩ = some (.int .i64 t) := by rw [World.cell?_alloc_mark]; rfl
    have q1 : (w4.alloc (.cells #[.int .i64 t, .slice a2 vs.length c2] 25)).cell? ⟨w4.heap.size, 1, none⟩ = some (.slice a2 vs.length c2) := by rw [World.cell?_alloc_mark]; rfl
    have HX2 := Lib.hid (hx2.below hal)
    have hB := below_trans hB4 hal hB4.size
    replace k0 := cell_below hB k0
    replace k1 := cell_below hB k1
    replace HX1 := Lib.hid (HX1.out.below hB)
    replace HB := Lib.hid (HB.out.trans (hB.mono HB.out.size))
    clear hB hB4 hx2 hal
    go_wp2_with fail
    generalize w4.alloc (.cells #[.int .i64 t, .slice a2 vs.length c2] 25) = w5 at k0 k1 q0 q1 HX1 HX2 HB ⊢
    generalize w4.heap.size = D7 at q0 q1 ⊢
    refine (HL.out a2 a1 c2 c1 _ HX2 HX1).mono ?_
    rintro e w7 ⟨rfl, hB⟩
    replace HX1 := Lib.hid (HX1.out.below hB)
    replace HX2 := Lib.hid (HX2.out.below hB)
    replace k0 := cell_below hB k0
    replace k1 := cell_below hB k1
    replace q0 := cell_below hB q0
    replace q1 := cell_below hB q1
    replace HB := Lib.hid (HB.out.trans (hB.mono HB.out.size))
    clear hB
    go_wp2_with fail
    refine (HK.out a2 c2 _ hc2 HX2).mono ?_
    rintro e w8 ⟨rfl, hB⟩
    replace HX1 := Lib.hid (HX1.out.below hB)
    replace HX2 := Lib.hid (HX2.out.below hB)
    replace k0 := cell_below hB k0
    replace k1 := cell_below hB k1
    replace q0 := cell_below hB q0
    replace q1 := cell_below hB q1
    replace HB := Lib.hid (HB.out.trans (hB.mono HB.out.size))
    clear hB
    go_wp2_with fail
    refine (HX.out a2 c2 _ hc2 HX2 (HTab.out.below HB.out)).mono ?_
    rintro e w9 ⟨rfl, hB⟩
    replace HX1 := Lib.hid (HX1.out.below hB)
    replace HX2 := Lib.hid (HX2.out.below hB)
    replace k0 := cell_below hB k0
    replace k1 := cell_below hB k1
    replace q0 := cell_below hB q0
    replace q1 := cell_below hB q1
    replace HB := Lib.hid (HB.out.trans (hB.mono HB.out.size))
    clear hB
    go_wp2
    go_ret
    exact ⟨rfl, HB.out⟩
  · rw [tt_false hr, rdS_no hr] at HS HI
    simp only at HS HI
    have hma : ([] : List VolD).length ≤ maxLen := by simp
    have HL := Lib.hid (fun aa ab ca cb W h h' => lpaRoot_any 0 0 aa ab ca cb [] [] W hma hma h h')
    rw [tt_true rfl] at HL
    generalize hvs : ([] : List VolD) = vs at HS HI HL
    clear hvs hr hma
    go_wp2_with fail
    refine (HS.out _).mono ?_
    rintro e w2 ⟨a1, c1, rfl, hx1, hB2⟩
    have hal : Below w2.heap.size w2 (w2.alloc (.cells #[.int .i64 0, .slice a1 vs.length c1] 25)) := (Below.refl _ _).alloc (Nat.le_refl _) _
    have k0 : (w2.alloc (.cells #[.int .i64 0, .slice a1 vs.length c1] 25)).cell? ⟨w2.heap.size, 0, none⟩ = some (.int .i64 0) := by rw [World.cell?_alloc_mark]; rfl
    have k1 : (w2.alloc (.cells #[.int .i64 0, .slice a1 vs.length c1] 25)).cell? ⟨w2.heap.size, 1, none⟩ = some (.slice a1 vs.length c1) := by rw [World.cell?_alloc_mark]; rfl
    have HX1 := Lib.hid (hx1.below hal)
    replace HB := Lib.hid (HB.out.trans ((below_trans hB2 hal hB2.size).mono HB.out.size))
    clear hx1 hB2 hal
    go_wp2_with fail
    generalize w2.alloc (.cells #[.int .i64 0, .slice a1 vs.length c1] 25) = w3 at k0 k1 HX1 HB ⊢
    generalize w2.heap.size = D5 at k0 k1 ⊢
    refine (HI.out _ (HE.out.below HB.out) (HTab.out.below HB.out)).mono ?_
    rintro e w4 ⟨a2, c2, rfl, hc2, hx2, hB4⟩
    have hal : Below w4.heap.size w4 (w4.alloc (.cells #[.int .i64 0, .slice a2 vs.length c2] 25)) := (Below.refl _ _).alloc (Nat.le_refl _) _
    have q0 : (w4.alloc (.cells #[.int .i64 0, .slice a2 vs.length c2] 25)).cell? ⟨w4.heap.size, 0, none⟩ = some (.int .i64 0) := by rw [World.cell?_alloc_mark]; rfl
    have q1 : (w4.alloc (.cells #[.int .i64 0, .slice a2 vs.length c2] 25)).cell? ⟨w4.heap.size, 1, none⟩ = some (.slice a2 vs.length c2) := by rw [World.cell?_alloc_mark]; rfl
    have HX2 := Lib.hid (hx2.below hal)
    have hB := below_trans hB4 hal hB4.size
    replace k0 := cell_below hB k0
    replace k1 := cell_below hB k1
    replace HX1 := Lib.hid (HX1.out.below hB)
    replace HB := Lib.hid (HB.out.trans (hB.mono HB.out.size))
    clear hB hB4 hx2 hal
    go_wp2_with fail
    generalize w4.alloc (.cells #[.int .i64 0, .slice a2 vs.length c2] 25) = w5 at k0 k1 q0 q1 HX1 HX2 HB ⊢
    generalize w4.heap.size = D7 at q0 q1 ⊢
    refine (HL.out a2 a1 c2 c1 _ HX2 HX1).mono ?_
    rintro e w7 ⟨rfl, hB⟩
    replace HX1 := Lib.hid (HX1.out.below hB)
    replace HX2 := Lib.hid (HX2.out.below hB)
    replace k0 := cell_below hB k0
    replace k1 := cell_below hB k1
    replace q0 := cell_below hB q0
    replace q1 := cell_below hB q1
    replace HB := Lib.hid (HB.out.trans (hB.mono HB.out.size))
    clear hB
    go_wp2_with fail
    refine (HL.out a2 a1 c2 c1 _ HX2 HX1).mono ?_
    rintro e w8 ⟨rfl, hB⟩
    replace HX1 := Lib.hid (HX1.out.below hB)
    replace HX2 := Lib.hid (HX2.out.below hB)
    replace k0 := cell_below hB k0
    replace k1 := cell_below hB k1
    replace q0 := cell_below hB q0
    replace q1 := cell_below hB q1
    replace HB := Lib.hid (HB.out.trans (hB.mono HB.out.size))
    clear hB
    go_wp2
    go_ret
    exact ⟨rfl, HB.out⟩

set_option maxRecDepth 100000 in
set_option maxHeartbeats 1000000 in
theorem walk (a0 : Option Addr) (len0 cap0 : Nat) (z0 : List Int) (w : World) (w0 : IsBytes w a0 len0 cap0 z0) (A : Addr) (hE : EnvB w A) (hT : Tab w) :
    Calls Tryz.prog 4 #[.slice a0 len0 cap0] w fun e w' => e = .returned (.bool true) ∧ Below w.heap.size w w' := by
  have hm : len0 ≤ maxLen := by have := w0.opened; omega
  by_cases h0 : len0 ≤ 1048576
  · exact main a0 len0 cap0 z0 w A h0 w0 hE hT
  · have d0 : decide (1048576 < (len0 : Int)) = true := decide_eq_true (by omega)
    clear w0 hT hE
    go_enter Tryz.func4, Tryz.ntmps4
    go_wp2
    go_ret
    exact ⟨rfl, Below.refl _ _⟩

set_option maxRecDepth 100000 in
theorem lifted (os : Os) (started : os.Started) (H : Type) (enc : TypeId × Value → H) :
    ReturnsInHanded {} Tryz.checked os 4 .any (fun w args => (Rows.fnRootStrictSpec.pre enc Tryz.prog Tryz.f4 [] false w args ∧ laidMetH Tryz.prog tables w) ∧ sizedMet enc Tryz.prog Tryz.f4 (OpenSpec.ofChange Rows.fnRootStrictSpec) false w args)
      (Rows.fnRootStrictSpec.post enc Tryz.prog Tryz.f4 false true false false) := by
  refine handed_shaped (C := Tryz.checked) own started (by kernel_rfl) Tryz.func4
    (ChangeSpec.witness_shaped (enc := enc) (C := Tryz.checked) (os := os) (X := fun w _ => laidMetH Tryz.prog tables w) false (World.laidAll Tryz.prog os tables) #[.slice none 0 0] 8 (World.laidAll_os _ _ _) (World.shaped_of_ZipB (by kernel_rfl) (by kernel_rfl)) (by kernel_rfl) (by kernel_rfl) (by kernel_rfl) (door_met os _)) ?_
  intro W base args ds gs before hval0 hW hLaid hSh
  have hL := tables_plain hLaid
  have hm : ∃ m, W.cell? ⟨2, 0, none⟩ = some (.int .i64 m) := maxLen_any hSh
  obtain ⟨A, hEnv⟩ := env_of_laid hL hm
  have hTab := tab_of_laid hL
  have hval : ∀ (j : Nat) t v, Tryz.f4.params[j]? = some t → args[j]? = some v → Value.okWide Tryz.prog W .any base t v := hval0
  have hW' := hW
  obtain ⟨p, q, hA0, hV, rfl, hfz, hnd⟩ := hW
  have hA : DataW.TrodAll enc Tryz.prog W 0 (fun _ => true) true Tryz.f4.params.toList args.toList ds p := hA0
  rw [Tryz.params4] at hA hval
  obtain ⟨v0, vs0, d0, ds0, p0, q0, hargs, rfl, rfl, h0, r0⟩ := trodAll_cons hA
  obtain ⟨rfl, rfl, rfl⟩ := trodAll_nil r0
  obtain rfl : args = #[v0] := by cases args; simp_all
  have hV1 : DataW.TrodVars enc Tryz.prog W (fun _ => true) ["loop.example/paling/impl.errNone"] gs q := hV
  obtain ⟨g1, rfl⟩ : ∃ g1, gs = [g1] := one_var hV1
  have k0 := h0
  have lt0 : ∀ x ∈ p0, x.block < W.heap.size := by obtain ⟨m, hm⟩ := k0; exact DataW.trod_lt m _ _ _ hm
  obtain ⟨a0, len0, cap0, rfl⟩ := okWide_slice Tryz.underlying22 (hval 0 22 v0 rfl rfl)
  obtain ⟨z0, w0⟩ : ∃ zs, IsBytes W a0 len0 cap0 zs := by
    obtain ⟨fuel, hf⟩ := h0
    rcases open_ints Tryz.underlying22 Tryz.underlying5 (by kernel_rfl) hf with ⟨hcs, _⟩ | ⟨x, l, c, zs, hcs, _, hl, hm, hz, _, hcell, hwz⟩
    · simp [Value.cells] at hcs
      obtain ⟨rfl, rfl, rfl⟩ := hcs
      exact ⟨[], .inl ⟨rfl, rfl, rfl, rfl⟩⟩
    · simp [Value.cells] at hcs
      obtain ⟨rfl, rfl, rfl⟩ := hcs
      exact ⟨zs, .inr ⟨_, rfl, hl, hm, by simpa using hz, hcell, hwz⟩⟩
  clear hA0 hval0
  refine (walk a0 len0 cap0 z0 W w0 A hEnv hTab).mono fun e W' ⟨he, bel⟩ => ?_
  subst he
  exact ⟨_, rfl, _, _, _, [], _, _, hW', trodAll_mk1 (shut_bool Tryz.underlying4 _), (trodAll_cons_mk (Below.trod laidOut (by kernel_rfl) (of_decide_eq_true (by kernel_rfl)) k0 bel lt0) trodAll_mk0), (bel.trodVars laidOut (by kernel_rfl) hV1), bel.frame _, fun h => by cases h⟩

theorem over : Rows.fnRootStrictRow.holds Tryz.pinned (OpenSpec.ofChange Rows.fnRootStrictSpec) :=
  OpenClaim.holds_of_wide 4 Tryz.f4 rfl rfl rfl rfl rfl rfl rfl ⟨rfl, rfl, rfl, rfl, rfl⟩ rfl rfl rfl rfl rfl (by kernel_rfl) Tryz.func4 (by kernel_rfl)
    (of_decide_eq_true (by kernel_rfl)) (by unfold Func.isWrapper; first | (rw [if_pos (by decide +kernel)]; kernel_rfl) | (rw [if_neg (by decide +kernel)]; exact ⟨rfl, rfl⟩))
    (fun os started H enc _ => lifted os started H enc)

theorem card : Claim7.holds Tryz.pinned (.plain (OpenSpec.ofChange Rows.fnRootStrictSpec)) Rows.fnRootStrictCard :=
  Claim7.holds_tied_plain_at .later [] [.data, .data, .data, .data, .sentinel, .sentinel, .sentinel, .pinned] true Rows.fnRootStrictCard.stood.harness true
    over (fun _ h => by cases h) (by kernel_rfl) (fun _ h => by cases h) fnRootStrict_row_tie rfl ⟨rfl, rfl⟩ (by kernel_rfl) rfl
    (fun f fn hf hfn => by
      obtain rfl : f = 4 := Option.some.inj ((show Tryz.prog.funcNamed Rows.fnRootStrictRow.func = some 4 by kernel_rfl).symm.trans hf) |>.symm
      obtain rfl : fn = Tryz.f4 := (Option.some.inj (Tryz.func4.symm.trans hfn)).symm
      exact ⟨by kernel_rfl, fun j t ht => by
        rw [Tryz.params4] at ht
        have hm : t ∈ [22] := by simpa using Array.mem_of_getElem? ht
        have hall : ([22].all fun u => !Tryz.prog.wantsStandIn u) = true := by kernel_rfl
        exact (show Tryz.prog.wantsStandIn t = false by simpa using List.all_eq_true.1 hall t hm)⟩)
    (by kernel_rfl)

end FnRootStrict

theorem FnRootStrict_holds : Rows.FnRootStrictCardSaid := FnRootStrict.card

end Go.Proofs.YtliadobopideaaaGreatDoor
