/- 'laws.FnRootBack' returns true at every code: a drawn root that is ok is read back from its text, which is not too long. Conditions: the listed variables are as the card says. -/
import Derived.Test.YtliadobopideaaaGreatDoorPKP2
import Derived.Test.YtliadobopideaaaGreatDoorPKLF
namespace Go.Proofs.YtliadobopideaaaGreatDoor
open Go.ChangeShapes Go.WideShapes Go.ChangeAt Go.RowKit Go.Sort

theorem reads_full {n : Int} {r : RootD} (h : RootOkP n r) : ReadsAs n (fullT r) ∧ rootL (fullT r).data.toList = r := by
  have e := rootL_back h
  exact ⟨⟨full_short h, by rw [e]; exact h, by rw [e]⟩, e⟩
theorem read_back {n : Int} {r : RootD} (h : RootOkP n r) (A : Addr) (w : World) (hE : EnvB w A) (hT : Tab w) :
    Calls Tryz.prog 10 #[.int .i64 n, .string (fullT r)] w fun e w' => ∃ a c, e = .returned (.tuple #[.agg #[.int .i64 r.txg, .slice a r.vols.length c], .bool true]) ∧ VolsAt w' a r.vols ∧ Below w.heap.size w w' := by
  obtain ⟨h1, h2⟩ := reads_full h
  refine (implRead_any n (fullT r) A w hE hT).mono ?_
  rintro e w' ⟨h3, hB⟩
  rcases h3 with ⟨_, v, xs, lo, rfl, hv, _⟩ | ⟨h4, _⟩
  · rw [h2] at hv ⊢
    obtain ⟨a, c, rfl, _, _, hat⟩ := hv.own.reads
    exact ⟨a, c, rfl, hat, hB⟩
  · exact absurd h1 h4

namespace FnRootBack
set_option linter.unusedVariables false

set_option maxRecDepth 100000 in
set_option maxHeartbeats 8000000 in
theorem main (a : Option Addr) (len cap : Nat) (z0 : List Int) (w : World) (A : Addr) (h0 : len ≤ 1048576) (H : Hid (IsBytes w a len cap z0)) (HE : Hid (EnvB w A)) (HTab : Hid (Tab w)) :
    Calls Tryz.prog 3 #[.slice a len cap] w fun e w' => e = .returned (.bool true) ∧ Below w.heap.size w w' := by
  have d0 : decide (1048576 < (len : Int)) = false := decide_eq_false (by omega)
  go_enter Tryz.func3, Tryz.ntmps3
  go_wp2_with fail
  refine (drawText_any a len cap z0 _ H.out).mono ?_
  rintro e w1 ⟨n, ta, aa, ca, va, rfl, hn, hLa, hva, hB1⟩
  obtain ⟨hVa, hnma⟩ := hLa.reads
  obtain ⟨_, _, ea, hca1, hca2, hXa⟩ := hVa
  cases ea
  have HNa : Hid (∀ j, j < va.length → (va.getD j vol0).name.size ≤ maxLen) := fun j hj => Nat.le_trans (hnma j hj) (by simp [maxLen])
  have hma : va.length ≤ maxLen := by simp [maxLen]; omega
  have hBa : Below w1.heap.size w1 (w1.alloc (.cells #[.int .i64 ta, .slice aa va.length ca] 25)) := (Below.refl _ _).alloc (Nat.le_refl _) _
  have HXa := Lib.hid (hXa.below hBa)
  have HB := Lib.hid (hB1.trans (hBa.mono hB1.size))
  have k0 : (w1.alloc (.cells #[.int .i64 ta, .slice aa va.length ca] 25)).cell? ⟨w1.heap.size, 0, none⟩ = some (.int .i64 ta) := by rw [World.cell?_alloc_mark]; rfl
  have k1 : (w1.alloc (.cells #[.int .i64 ta, .slice aa va.length ca] 25)).cell? ⟨w1.heap.size, 1, none⟩ = some (.slice aa va.length ca) := by rw [World.cell?_alloc_mark]; rfl
  clear hLa hXa hnma hBa hB1 hn
  have HIa := Lib.hid (fun w' h hT => implText_any n ⟨ta, va⟩ aa ca w' hca1 HNa h hT)
  have HSa := Lib.hid (fun w' h => specText_any n ⟨ta, va⟩ aa ca w' hma HNa h)
  simp only at HIa HSa
  go_wp2_with fail
  generalize w1.alloc (.cells #[.int .i64 ta, .slice aa va.length ca] 25) = wa at HXa HB k0 k1 ⊢
  generalize w1.heap.size = D at k0 k1 ⊢
  by_cases hoka : RootOkP n ⟨ta, va⟩
  · rw [rootT_ok hoka] at HIa HSa
    have ne1 := full_ne ⟨ta, va⟩
    have hshort := full_short hoka
    have HR := Lib.hid (fun W hE hT => read_back hoka A W hE hT)
    have HK := Lib.hid (fun W h => implRoot_any n ⟨ta, va⟩ aa ca W hca1 HNa h)
    have HL := Lib.hid (fun ab cb W h h' => lpaRoot_any ta ta ab aa cb ca va va W hma hma h h')
    rw [tt_true hoka] at HK
    rw [tt_true rfl] at HL
    simp only at HR HK
    generalize fullT ⟨ta, va⟩ = T at HIa HSa HR ne1 hshort
    clear hoka
    refine (HIa.out _ HXa (HTab.out.below HB.out)).mono ?_
    rintro e w3 ⟨rfl, hB⟩
    replace HXa := Lib.hid (HXa.out.below hB)
    replace k0 := cell_below hB k0
    replace k1 := cell_below hB k1
    replace HB := Lib.hid (HB.out.trans (hB.mono HB.out.size))
    clear hB
    have t1 : (T.toList == T.toList) = true := beq_self_eq_true _
    go_wp2_with fail
    refine (HSa.out _ HXa).mono ?_
    rintro e w4 ⟨rfl, hB⟩
    replace HXa := Lib.hid (HXa.out.below hB)
    replace k0 := cell_below hB k0
    replace k1 := cell_below hB k1
    replace HB := Lib.hid (HB.out.trans (hB.mono HB.out.size))
    clear hB
    go_wp2_with fail
    refine (HR.out _ (HE.out.below HB.out) (HTab.out.below HB.out)).mono ?_
    rintro e w5 ⟨ax, cx, rfl, hax, hB⟩
    have hal : Below w5.heap.size w5 (w5.alloc (.cells #[.int .i64 ta, .slice ax va.length cx] 25)) := (Below.refl _ _).alloc (Nat.le_refl _) _
    have q0 : (w5.alloc (.cells #[.int .i64 ta, .slice ax va.length cx] 25)).cell? ⟨w5.heap.size, 0, none⟩ = some (.int .i64 ta) := by rw [World.cell?_alloc_mark]; rfl
    have q1 : (w5.alloc (.cells #[.int .i64 ta, .slice ax va.length cx] 25)).cell? ⟨w5.heap.size, 1, none⟩ = some (.slice ax va.length cx) := by rw [World.cell?_alloc_mark]; rfl
    have HAX := Lib.hid (hax.below hal)
    replace hB := below_trans hB hal hB.size
    replace HXa := Lib.hid (HXa.out.below hB)
    replace k0 := cell_below hB k0
    replace k1 := cell_below hB k1
    replace HB := Lib.hid (HB.out.trans (hB.mono HB.out.size))
    clear hB
    clear hax hal
    have hlen : decide ((T.size : Int) ≤ 700) = true := decide_eq_true (by omega)
    have hlenN : decide (T.size ≤ 700) = true := decide_eq_true (by omega)
    go_wp2_with fail
    generalize w5.alloc (.cells #[.int .i64 ta, .slice ax va.length cx] 25) = w6 at HXa HAX HB k0 k1 q0 q1 ⊢
    generalize w5.heap.size = E at q0 q1 ⊢
    refine (HL.out ax cx _ HAX HXa).mono ?_
    rintro e w7 ⟨rfl, hB⟩
    replace HXa := Lib.hid (HXa.out.below hB)
    replace k0 := cell_below hB k0
    replace k1 := cell_below hB k1
    replace HB := Lib.hid (HB.out.trans (hB.mono HB.out.size))
    clear hB
    go_wp2_with fail
    refine (HK.out _ HXa).mono ?_
    rintro e w8 ⟨rfl, hB⟩
    replace HXa := Lib.hid (HXa.out.below hB)
    replace k0 := cell_below hB k0
    replace k1 := cell_below hB k1
    replace HB := Lib.hid (HB.out.trans (hB.mono HB.out.size))
    clear hB
    go_wp2
    go_ret
    exact ⟨rfl, HB.out⟩
  · rw [rootT_no hoka] at HIa HSa
    clear hoka
    refine (HIa.out _ HXa (HTab.out.below HB.out)).mono ?_
    rintro e w3 ⟨rfl, hB⟩
    replace HXa := Lib.hid (HXa.out.below hB)
    replace k0 := cell_below hB k0
    replace k1 := cell_below hB k1
    replace HB := Lib.hid (HB.out.trans (hB.mono HB.out.size))
    clear hB
    go_wp2_with fail
    refine (HSa.out _ HXa).mono ?_
    rintro e w4 ⟨rfl, hB⟩
    replace HXa := Lib.hid (HXa.out.below hB)
    replace k0 := cell_below hB k0
    replace k1 := cell_below hB k1
    replace HB := Lib.hid (HB.out.trans (hB.mono HB.out.size))
    clear hB
    go_wp2_with fail
    refine (HSa.out _ HXa).mono ?_
    rintro e w5 ⟨rfl, hB⟩
    replace HXa := Lib.hid (HXa.out.below hB)
    replace k0 := cell_below hB k0
    replace k1 := cell_below hB k1
    replace HB := Lib.hid (HB.out.trans (hB.mono HB.out.size))
    clear hB
    go_wp2
    go_ret
    exact ⟨rfl, HB.out⟩

set_option maxRecDepth 100000 in
set_option maxHeartbeats 1000000 in
theorem walk (a0 : Option Addr) (len0 cap0 : Nat) (z0 : List Int) (w : World) (w0 : IsBytes w a0 len0 cap0 z0) (A : Addr) (hE : EnvB w A) (hT : Tab w) :
    Calls Tryz.prog 3 #[.slice a0 len0 cap0] w fun e w' => e = .returned (.bool true) ∧ Below w.heap.size w w' := by
  have hm : len0 ≤ maxLen := by have := w0.opened; omega
  by_cases h0 : len0 ≤ 1048576
  · exact main a0 len0 cap0 z0 w A h0 w0 hE hT
  · have d0 : decide (1048576 < (len0 : Int)) = true := decide_eq_true (by omega)
    clear w0 hT hE
    go_enter Tryz.func3, Tryz.ntmps3
    go_wp2
    go_ret
    exact ⟨rfl, Below.refl _ _⟩

set_option maxRecDepth 100000 in
theorem lifted (os : Os) (started : os.Started) (H : Type) (enc : TypeId × Value → H) :
    ReturnsInHanded {} Tryz.checked os 3 .any (fun w args => (Rows.fnRootBackSpec.pre enc Tryz.prog Tryz.f3 [] false w args ∧ laidMetH Tryz.prog tables w) ∧ sizedMet enc Tryz.prog Tryz.f3 (OpenSpec.ofChange Rows.fnRootBackSpec) false w args)
      (Rows.fnRootBackSpec.post enc Tryz.prog Tryz.f3 false true false false) := by
  refine handed_shaped (C := Tryz.checked) own started (by kernel_rfl) Tryz.func3
    (ChangeSpec.witness_shaped (enc := enc) (C := Tryz.checked) (os := os) (X := fun w _ => laidMetH Tryz.prog tables w) false (World.laidAll Tryz.prog os tables) #[.slice none 0 0] 8 (World.laidAll_os _ _ _) (World.shaped_of_ZipB (by kernel_rfl) (by kernel_rfl)) (by kernel_rfl) (by kernel_rfl) (by kernel_rfl) (door_met os _)) ?_
  intro W base args ds gs before hval0 hW hLaid hSh
  have hL := tables_plain hLaid
  have hm : ∃ m, W.cell? ⟨2, 0, none⟩ = some (.int .i64 m) := maxLen_any hSh
  obtain ⟨A, hEnv⟩ := env_of_laid hL hm
  have hTab := tab_of_laid hL
  have hval : ∀ (j : Nat) t v, Tryz.f3.params[j]? = some t → args[j]? = some v → Value.okWide Tryz.prog W .any base t v := hval0
  have hW' := hW
  obtain ⟨p, q, hA0, hV, rfl, hfz, hnd⟩ := hW
  have hA : DataW.TrodAll enc Tryz.prog W 0 (fun _ => true) true Tryz.f3.params.toList args.toList ds p := hA0
  rw [Tryz.params3] at hA hval
  obtain ⟨v0, vs0, d0, ds0, p0, q0, hargs, rfl, rfl, h0, r0⟩ := trodAll_cons hA
  obtain ⟨rfl, rfl, rfl⟩ := trodAll_nil r0
  obtain rfl : args = #[v0] := by cases args; simp_all
  have hV1 : DataW.TrodVars enc Tryz.prog W (fun _ => true) ["loop.example/paling/impl.errNone"] gs q := hV
  obtain ⟨g1, rfl⟩ : ∃ g1, gs = [g1] := one_var hV1
  have k0 := h0
  have lt0 : ∀ x ∈ p0, x.block < W.heap.size := by obtain ⟨m, hm⟩ := k0; exact DataW.trod_lt m _ _ _ hm
  obtain ⟨a0, len0, cap0, rfl⟩ := okWide_slice Tryz.underlying22 (hval 0 22 v0 rfl rfl)
  obtain ⟨z0, w0⟩ : ∃ zs, IsBytes W a0 len0 cap0 zs := by
    obtain ⟨fuel, hf⟩ := h0
    rcases open_ints Tryz.underlying22 Tryz.underlying5 (by kernel_rfl) hf with ⟨hcs, _⟩ | ⟨x, l, c, zs, hcs, _, hl, hm, hz, _, hcell, hwz⟩
    · simp [Value.cells] at hcs
      obtain ⟨rfl, rfl, rfl⟩ := hcs
      exact ⟨[], .inl ⟨rfl, rfl, rfl, rfl⟩⟩
    · simp [Value.cells] at hcs
      obtain ⟨rfl, rfl, rfl⟩ := hcs
      exact ⟨zs, .inr ⟨_, rfl, hl, hm, by simpa using hz, hcell, hwz⟩⟩
  clear hA0 hval0
  refine (walk a0 len0 cap0 z0 W w0 A hEnv hTab).mono fun e W' ⟨he, bel⟩ => ?_
  subst he
  exact ⟨_, rfl, _, _, _, [], _, _, hW', trodAll_mk1 (shut_bool Tryz.underlying4 _), (trodAll_cons_mk (Below.trod laidOut (by kernel_rfl) (of_decide_eq_true (by kernel_rfl)) k0 bel lt0) trodAll_mk0), (bel.trodVars laidOut (by kernel_rfl) hV1), bel.frame _, fun h => by cases h⟩

theorem over : Rows.fnRootBackRow.holds Tryz.pinned (OpenSpec.ofChange Rows.fnRootBackSpec) :=
  OpenClaim.holds_of_wide 3 Tryz.f3 rfl rfl rfl rfl rfl rfl rfl ⟨rfl, rfl, rfl, rfl, rfl⟩ rfl rfl rfl rfl rfl (by kernel_rfl) Tryz.func3 (by kernel_rfl)
    (of_decide_eq_true (by kernel_rfl)) (by unfold Func.isWrapper; first | (rw [if_pos (by decide +kernel)]; kernel_rfl) | (rw [if_neg (by decide +kernel)]; exact ⟨rfl, rfl⟩))
    (fun os started H enc _ => lifted os started H enc)

theorem card : Claim7.holds Tryz.pinned (.plain (OpenSpec.ofChange Rows.fnRootBackSpec)) Rows.fnRootBackCard :=
  Claim7.holds_tied_plain_at .later [] [.data, .data, .data, .data, .sentinel, .sentinel, .sentinel, .pinned] true Rows.fnRootBackCard.stood.harness true
    over (fun _ h => by cases h) (by kernel_rfl) (fun _ h => by cases h) fnRootBack_row_tie rfl ⟨rfl, rfl⟩ (by kernel_rfl) rfl
    (fun f fn hf hfn => by
      obtain rfl : f = 3 := Option.some.inj ((show Tryz.prog.funcNamed Rows.fnRootBackRow.func = some 3 by kernel_rfl).symm.trans hf) |>.symm
      obtain rfl : fn = Tryz.f3 := (Option.some.inj (Tryz.func3.symm.trans hfn)).symm
      exact ⟨by kernel_rfl, fun j t ht => by
        rw [Tryz.params3] at ht
        have hm : t ∈ [22] := by simpa using Array.mem_of_getElem? ht
        have hall : ([22].all fun u => !Tryz.prog.wantsStandIn u) = true := by kernel_rfl
        exact (show Tryz.prog.wantsStandIn t = false by simpa using List.all_eq_true.1 hall t hm)⟩)
    (by kernel_rfl)

end FnRootBack

theorem FnRootBack_holds : Rows.FnRootBackCardSaid := FnRootBack.card

end Go.Proofs.YtliadobopideaaaGreatDoor
