/- 'laws.FnExactRootRead' returns true at every number and text: RootRead of the program answers as that of the specification, and its answer owns its memory. Conditions: the listed variables are as the card says. -/
import Derived.Test.YtliadobopideaaaGreatDoorPKRY
import Derived.Test.YtliadobopideaaaGreatDoorPKLF
namespace Go.Proofs.YtliadobopideaaaGreatDoor
open Go.ChangeShapes Go.WideShapes Go.ChangeAt Go.RowKit Go.Sort
open Go.ChangeMaps (open_string)
namespace FnExactRootRead
set_option linter.unusedVariables false

set_option maxRecDepth 100000 in
set_option maxHeartbeats 8000000 in
theorem main (n : Int) (s : ByteArray) (w : World) (A : Addr) (hs : s.size ≤ 1048576) (HE : Hid (EnvB w A)) (HTab : Hid (Tab w)) :
    Calls Tryz.prog 6 #[.int .i64 n, .string s] w fun e w' => e = .returned (.bool true) ∧ Below w.heap.size w w' := by
  have d0 : decide (1048576 < (s.size : Int)) = false := decide_eq_false (by omega)
  obtain ⟨hv4, hvn⟩ := rdR_small n s
  have HS := Lib.hid (fun W => spec_both n s W)
  have HI := Lib.hid (fun W hE hT => impl_both n s A W hE hT)
  generalize rdR n s = r at hv4 hvn HS HI
  generalize tt (ReadsAs n s) = b at HS HI
  obtain ⟨t, vs⟩ := r
  simp only at hv4 hvn HS HI
  have hk4 : 1 + vs.length * (7 + 4 * 6) ≤ 10000000 := by omega
  have HMR := Lib.hid (fun base hi a c xs lo W h1 h2 h3 => markRootR_any base 1 4 hi t a c vs xs lo W (by decide) hvn hk4 h1 h2 h3)
  have HHR := Lib.hid (fun a c W h => heldRootR_any 1 4 t a c vs W (by decide) hvn hk4 h)
  have HEQ := Lib.hid (fun a a' ca cb W h h' => eqRoot_same t a a' ca cb vs W (by unfold maxLen; omega) h h')
  have hpe : ∀ k : Nat, decide ((k : Int) < 0) = false := fun k => decide_eq_false (by omega)
  have hpe1 := hpe (voAt 1 vs vs.length)
  have hne1 : (((voAt 1 vs vs.length : Nat) : Int) != ((voAt 1 vs vs.length : Nat) : Int)) = false := by simp
  have hbb : (b != b) = false := by simp
  generalize voAt 1 vs vs.length = PE at HMR HHR hpe1 hne1
  clear hpe hvn hk4 hs
  have c1 : ((1 : Nat) : Int) = 1 := rfl
  rw [c1] at HMR HHR
  go_enter Tryz.func6, Tryz.ntmps6
  go_wp2_with fail
  refine (HS.out _).mono ?_
  rintro e w1 ⟨a1, ca1, rfl, hx1, hB1⟩
  have hal : Below w1.heap.size w1 (w1.alloc (.cells #[.int .i64 t, .slice a1 vs.length ca1] 25)) := (Below.refl _ _).alloc (Nat.le_refl _) _
  have K5 := Lib.hid (Blk.new w1 #[.int .i64 t, .slice a1 vs.length ca1] 25)
  have HX1 := Lib.hid (hx1.below hal)
  have HB := Lib.hid (hB1.trans (hal.mono hB1.size))
  clear hx1 hB1 hal
  go_upto_region 4 with (fail)
  generalize w1.alloc (.cells #[.int .i64 t, .slice a1 vs.length ca1] 25) = w2 at K5 HX1 HB ⊢
  generalize w1.heap.size = D5 at K5 ⊢
  have hE2 := HE.out.below HB.out
  have hT2 := HTab.out.below HB.out
  go_wp2_with fail
  refine (HI.out _ hE2 hT2).mono ?_
  rintro e w3 ⟨a2, ca2, xs, lo, rfl, hY, hB3⟩
  have hal : Below w3.heap.size w3 (w3.alloc (.cells #[.int .i64 t, .slice a2 vs.length ca2] 25)) := (Below.refl _ _).alloc (Nat.le_refl _) _
  have K7 := Lib.hid (Blk.new w3 #[.int .i64 t, .slice a2 vs.length ca2] 25)
  have hh : Hid (∀ x, (Value.slice a2 vs.length ca2).ownBlock = some x → x < w3.heap.size) := fun x hx => (hY.row.lt x hx).2
  have hlo : Hid (lo vs.length ≤ w3.heap.size) := hY.high
  have HY := Lib.hid (hY.below hal)
  have hD5 : D5 < w2.heap.size := K5.out.lt
  have h23 : w2.heap.size ≤ w3.heap.size := hB3.size
  have H24 := Lib.hid (below_trans hB3 hal hB3.size)
  have K5 := Lib.hid (K5.out.below H24.out hD5)
  clear hY hB3 hal
  go_upto_region 5 with (fail)
  generalize w3.alloc (.cells #[.int .i64 t, .slice a2 vs.length ca2] 25) = w4 at K5 K7 HY H24 ⊢
  generalize hD7 : w3.heap.size = D7 at K7 hh hlo h23 ⊢
  have HX1' := Lib.hid (HX1.out.below H24.out)
  obtain ⟨_, _, ev, _, _, hx2⟩ := HY.out.own.reads
  cases ev
  have HX2 := Lib.hid hx2
  clear hx2 hD7
  have p0 : w4.cell? ⟨D5, 0, none⟩ = some (.int .i64 t) := K5.out.cell 0
  have p1 : w4.cell? ⟨D5, 1, none⟩ = some (.slice a1 vs.length ca1) := K5.out.cell 1
  have q0 : w4.cell? ⟨D7, 0, none⟩ = some (.int .i64 t) := K7.out.cell 0
  have q1 : w4.cell? ⟨D7, 1, none⟩ = some (.slice a2 vs.length ca2) := K7.out.cell 1
  go_wp2_with fail
  refine (HEQ.out _ _ _ _ _ HX2 HX1').mono ?_
  rintro e w5 ⟨rfl, hB5⟩
  have H25 := Lib.hid (below_trans H24.out hB5 H24.out.size)
  have HY := Lib.hid (HY.out.below hB5)
  have K5 := Lib.hid (K5.out.below hB5 K5.out.lt)
  have K7 := Lib.hid (K7.out.below hB5 K7.out.lt)
  clear hB5 HX2 HX1' p0 p1 q0 q1 H24
  have q0 : w5.cell? ⟨D7, 0, none⟩ = some (.int .i64 t) := K7.out.cell 0
  have q1 : w5.cell? ⟨D7, 1, none⟩ = some (.slice a2 vs.length ca2) := K7.out.cell 1
  go_wp2_with fail
  refine (HMR.out w2.heap.size D7 a2 ca2 xs lo _ HY.out hh.out hlo.out).mono ?_
  rintro e w6 ⟨rfl, hF, hvm⟩
  have hb6 := hF.below H25.out.size (fun x hx => hx.1)
  have H26 := Lib.hid (H25.out.trans hb6)
  have K5 := Lib.hid (K5.out.below hb6 hD5)
  have K7 := Lib.hid (show Blk w6 D7 #[.int .i64 t, .slice a2 vs.length ca2] 25 from (hF.block D7 K7.out.lt (fun hx => Nat.lt_irrefl _ hx.2)).trans K7.out)
  have HVM := Lib.hid hvm
  clear hF hvm hb6 q0 q1 HY H25
  have q0 : w6.cell? ⟨D7, 0, none⟩ = some (.int .i64 t) := K7.out.cell 0
  have q1 : w6.cell? ⟨D7, 1, none⟩ = some (.slice a2 vs.length ca2) := K7.out.cell 1
  go_wp2_with fail
  refine (HHR.out a2 ca2 _ HVM).mono ?_
  rintro e w7 ⟨rfl, hB7⟩
  have H27 := Lib.hid (below_trans H26.out hB7 H26.out.size)
  have K5 := Lib.hid (K5.out.below hB7 K5.out.lt)
  have K7 := Lib.hid (K7.out.below hB7 K7.out.lt)
  have HVM := Lib.hid (HVM.out.below hB7)
  clear hB7 q0 q1 H26
  go_wp2_with fail
  refine (HI.out _ (hE2.below H27.out) (hT2.below H27.out)).mono ?_
  rintro e w8 ⟨a3, ca3, xs3, lo3, rfl, hY3, hB8⟩
  have hal : Below w8.heap.size w8 (w8.alloc (.cells #[.int .i64 t, .slice a3 vs.length ca3] 25)) := (Below.refl _ _).alloc (Nat.le_refl _) _
  have hB8 := below_trans hB8 hal hB8.size
  have K11 := Lib.hid (Blk.new w8 #[.int .i64 t, .slice a3 vs.length ca3] 25)
  have H28 := Lib.hid (below_trans H27.out hB8 H27.out.size)
  have K5 := Lib.hid (K5.out.below hB8 K5.out.lt)
  have K7 := Lib.hid (K7.out.below hB8 K7.out.lt)
  have HVM := Lib.hid (HVM.out.below hB8)
  obtain ⟨_, _, ev, _, _, hx3⟩ := (hY3.below hal).own.reads
  cases ev
  have HX3 := Lib.hid hx3
  clear hB8 hal hY3 hx3 H27
  go_upto_region 16 with (fail)
  generalize w8.alloc (.cells #[.int .i64 t, .slice a3 vs.length ca3] 25) = w9 at K5 K7 K11 HVM HX3 H28 ⊢
  generalize w8.heap.size = D11 at K11 ⊢
  have HX19 := Lib.hid (HX1.out.below H28.out)
  have p0 : w9.cell? ⟨D5, 0, none⟩ = some (.int .i64 t) := K5.out.cell 0
  have p1 : w9.cell? ⟨D5, 1, none⟩ = some (.slice a1 vs.length ca1) := K5.out.cell 1
  have r0 : w9.cell? ⟨D11, 0, none⟩ = some (.int .i64 t) := K11.out.cell 0
  have r1 : w9.cell? ⟨D11, 1, none⟩ = some (.slice a3 vs.length ca3) := K11.out.cell 1
  go_wp2_with fail
  refine (HEQ.out _ _ _ _ _ HX3 HX19).mono ?_
  rintro e w10 ⟨rfl, hB10⟩
  have K7 := Lib.hid (K7.out.below hB10 K7.out.lt)
  have HVM := Lib.hid (HVM.out.below hB10)
  have H210 := Lib.hid (below_trans H28.out hB10 H28.out.size)
  clear hB10 p0 p1 r0 r1 HX3 HX19 H28 K5 K11
  have q0 : w10.cell? ⟨D7, 0, none⟩ = some (.int .i64 t) := K7.out.cell 0
  have q1 : w10.cell? ⟨D7, 1, none⟩ = some (.slice a2 vs.length ca2) := K7.out.cell 1
  go_wp2_with fail
  refine (HHR.out a2 ca2 _ HVM).mono ?_
  rintro e w11 ⟨rfl, hB11⟩
  have HBZ := Lib.hid (HB.out.trans ((below_trans H210.out hB11 H210.out.size).mono HB.out.size))
  clear hB11
  go_wp2
  go_ret
  exact ⟨rfl, HBZ.out⟩

set_option maxRecDepth 100000 in
set_option maxHeartbeats 1000000 in
theorem walk (a0 : Int) (a1 : ByteArray) (w : World) (w0 : (Lit.int .i64 a0).wf = true) (w1 : a1.size ≤ maxLen) (A : Addr) (hE : EnvB w A) (hT : Tab w) :
    Calls Tryz.prog 6 #[.int .i64 a0, .string a1] w fun e w' => e = .returned (.bool true) ∧ Below w.heap.size w w' := by
  by_cases h0 : a1.size ≤ 1048576
  · exact main a0 a1 w A h0 hE hT
  · have d0 : decide (1048576 < (a1.size : Int)) = true := decide_eq_true (by omega)
    clear w0 w1 hT hE
    go_enter Tryz.func6, Tryz.ntmps6
    go_wp2
    go_ret
    exact ⟨rfl, Below.refl _ _⟩

set_option maxRecDepth 100000 in
theorem lifted (os : Os) (started : os.Started) (H : Type) (enc : TypeId × Value → H) :
    ReturnsInHanded {} Tryz.checked os 6 .any (fun w args => (Rows.fnExactRootReadSpec.pre enc Tryz.prog Tryz.f6 [] false w args ∧ laidMetH Tryz.prog tables w) ∧ sizedMet enc Tryz.prog Tryz.f6 (OpenSpec.ofChange Rows.fnExactRootReadSpec) false w args)
      (Rows.fnExactRootReadSpec.post enc Tryz.prog Tryz.f6 false true false false) := by
  refine handed_shaped (C := Tryz.checked) own started (by kernel_rfl) Tryz.func6
    (ChangeSpec.witness_shaped (enc := enc) (C := Tryz.checked) (os := os) (X := fun w _ => laidMetH Tryz.prog tables w) false (World.laidAll Tryz.prog os tables) #[.int .i64 0, .string ByteArray.empty] 8 (World.laidAll_os _ _ _) (World.shaped_of_ZipB (by kernel_rfl) (by kernel_rfl)) (by kernel_rfl) (by kernel_rfl) (by kernel_rfl) (door_met os _)) ?_
  intro W base args ds gs before hval0 hW hLaid hSh
  have hL := tables_plain hLaid
  have hm : ∃ m, W.cell? ⟨2, 0, none⟩ = some (.int .i64 m) := maxLen_any hSh
  obtain ⟨A, hEnv⟩ := env_of_laid hL hm
  have hTab := tab_of_laid hL
  have hval : ∀ (j : Nat) t v, Tryz.f6.params[j]? = some t → args[j]? = some v → Value.okWide Tryz.prog W .any base t v := hval0
  have hW' := hW
  obtain ⟨p, q, hA0, hV, rfl, hfz, hnd⟩ := hW
  have hA : DataW.TrodAll enc Tryz.prog W 0 (fun _ => true) true Tryz.f6.params.toList args.toList ds p := hA0
  rw [Tryz.params6] at hA hval
  obtain ⟨v0, vs0, d0, ds0, p0, q0, hargs, rfl, rfl, h0, r0⟩ := trodAll_cons hA
  obtain ⟨v1, vs1, d1, ds1, p1, q1, rfl, rfl, rfl, h1, r1⟩ := trodAll_cons r0
  obtain ⟨rfl, rfl, rfl⟩ := trodAll_nil r1
  obtain rfl : args = #[v0, v1] := by cases args; simp_all
  have hV1 : DataW.TrodVars enc Tryz.prog W (fun _ => true) ["loop.example/paling/impl.errNone"] gs q := hV
  obtain ⟨g1, rfl⟩ : ∃ g1, gs = [g1] := one_var hV1
  have k0 := h0
  have lt0 : ∀ x ∈ p0, x.block < W.heap.size := by obtain ⟨m, hm⟩ := k0; exact DataW.trod_lt m _ _ _ hm
  obtain ⟨a0, rfl, rfl, e0, w0⟩ := open_int Tryz.underlying3 (hval 0 3 v0 rfl rfl) h0
  have k1 := h1
  have lt1 : ∀ x ∈ p1, x.block < W.heap.size := by obtain ⟨m, hm⟩ := k1; exact DataW.trod_lt m _ _ _ hm
  obtain ⟨a1, rfl, rfl, e1, w1⟩ := open_string Tryz.underlying9 (hval 1 9 v1 rfl rfl) h1
  clear hA0 hval0
  refine (walk a0 a1 W w0 w1 A hEnv hTab).mono fun e W' ⟨he, bel⟩ => ?_
  subst he
  exact ⟨_, rfl, _, _, _, [], _, _, hW', trodAll_mk1 (shut_bool Tryz.underlying4 _), (trodAll_cons_mk (Below.trod laidOut (by kernel_rfl) (of_decide_eq_true (by kernel_rfl)) k0 bel lt0) (trodAll_cons_mk (Below.trod laidOut (by kernel_rfl) (of_decide_eq_true (by kernel_rfl)) k1 bel lt1) trodAll_mk0)), (bel.trodVars laidOut (by kernel_rfl) hV1), bel.frame _, fun h => by cases h⟩

theorem over : Rows.fnExactRootReadRow.holds Tryz.pinned (OpenSpec.ofChange Rows.fnExactRootReadSpec) :=
  OpenClaim.holds_of_wide 6 Tryz.f6 rfl rfl rfl rfl rfl rfl rfl ⟨rfl, rfl, rfl, rfl, rfl⟩ rfl rfl rfl rfl rfl (by kernel_rfl) Tryz.func6 (by kernel_rfl)
    (of_decide_eq_true (by kernel_rfl)) (by unfold Func.isWrapper; first | (rw [if_pos (by decide +kernel)]; kernel_rfl) | (rw [if_neg (by decide +kernel)]; exact ⟨rfl, rfl⟩))
    (fun os started H enc _ => lifted os started H enc)

theorem card : Claim7.holds Tryz.pinned (.plain (OpenSpec.ofChange Rows.fnExactRootReadSpec)) Rows.fnExactRootReadCard :=
  Claim7.holds_tied_plain_at .later [] [.data, .data, .data, .data, .sentinel, .sentinel, .sentinel, .pinned] true Rows.fnExactRootReadCard.stood.harness true
    over (fun _ h => by cases h) (by kernel_rfl) (fun _ h => by cases h) fnExactRootRead_row_tie rfl ⟨rfl, rfl⟩ (by kernel_rfl) rfl
    (fun f fn hf hfn => by
      obtain rfl : f = 6 := Option.some.inj ((show Tryz.prog.funcNamed Rows.fnExactRootReadRow.func = some 6 by kernel_rfl).symm.trans hf) |>.symm
      obtain rfl : fn = Tryz.f6 := (Option.some.inj (Tryz.func6.symm.trans hfn)).symm
      exact ⟨by kernel_rfl, fun j t ht => by
        rw [Tryz.params6] at ht
        have hm : t ∈ [3, 9] := by simpa using Array.mem_of_getElem? ht
        have hall : ([3, 9].all fun u => !Tryz.prog.wantsStandIn u) = true := by kernel_rfl
        exact (show Tryz.prog.wantsStandIn t = false by simpa using List.all_eq_true.1 hall t hm)⟩)
    (by kernel_rfl)

end FnExactRootRead

theorem FnExactRootRead_holds : Rows.FnExactRootReadCardSaid := FnExactRootRead.card

end Go.Proofs.YtliadobopideaaaGreatDoor
