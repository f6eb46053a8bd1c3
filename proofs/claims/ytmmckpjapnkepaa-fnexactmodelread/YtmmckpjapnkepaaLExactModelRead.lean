/- 'laws.FnExactModelRead' returns true at every model: ModelRead of the program answers as ModelRead of the specification, and changes no argument. Conditions: none. -/
import Derived.Test.YtmmckpjapnkepaaK
import Derived.Test.YtmmckpjapnkepaaI8
import Derived.Test.YtmmckpjapnkepaaIB
namespace Go.Proofs.Ytmmckpjapnkepaa
open Go.ChangeShapes Go.WideShapes Go.ChangeAt Go.RowKit Go.Sort
open Go.ChangeMaps (open_string)
namespace FnExactModelRead
set_option linter.unusedVariables false

set_option maxRecDepth 100000 in
set_option maxHeartbeats 4000000 in
theorem walk (a : Option Addr) (c : Nat) (ss : List ShD) (nm : ByteArray) (b : Int) (w : World) (hx : Hid (ShAt w a ss)) (hb : MdBd ss) (hn : nm.size ≤ maxLen) (_hz : (Lit.int .i64 b).wf = true) :
    Calls Try.prog 11 #[.agg #[.slice a ss.length c], .string nm, .int .i64 b] w fun e w' => e = .returned (.bool true) ∧ Below w.heap.size w w' := by
  have Hb := Lib.hid hb
  clear hb
  have HB0 : Hid (Below w.heap.size w (w.alloc (.cells #[.slice a ss.length c] 46))) := (Below.refl _ _).alloc (Nat.le_refl _) _
  have K0 := Lib.hid (Blk.new w #[.slice a ss.length c] 46)
  unfold maxLen at hn
  by_cases hbig : 1048576 < nm.size
  · have dn : decide (1048576 < (nm.size : Int)) = true := by simp; omega
    clear hn hbig
    go_enter Try.func11, Try.ntmps11
    go_wp2
    go_ret
    exact ⟨rfl, HB0.out⟩
  have dn : decide (1048576 < (nm.size : Int)) = false := by simp; omega
  have hn2 : nm.size ≤ maxLen := by unfold maxLen; omega
  have Hn2 := Lib.hid hn2
  clear hn hn2 hbig
  go_enter Try.func11, Try.ntmps11
  go_wp2_with fail
  generalize w.alloc (.cells #[.slice a ss.length c] 46) = w0 at HB0 K0 ⊢
  refine (szModel_any a c 1048576 ss _ Hb.out (Nat.le_refl _) (hx.out.below HB0.out)).mono ?_
  rintro e w1 ⟨he, hB1⟩
  have HB1 := Lib.hid (below_trans HB0.out hB1 HB0.out.size)
  have K1 := Lib.hid (K0.out.below hB1 K0.out.lt)
  have p0 : w1.cell? ⟨w.heap.size, 0, none⟩ = some (.slice a ss.length c) := K1.out.cell 0
  clear hB1
  rcases he with rfl | ⟨r, rfl, hr, hsm⟩
  · go_wp2
    go_ret
    exact ⟨rfl, HB1.out⟩
  · have d0 : decide ((r : Int) < 0) = false := by simp
    have HS := Lib.hid hsm
    clear hr hsm
    go_wp2_with fail
    refine (toModel_any a c ss _ HS (hx.out.below HB1.out)).mono ?_
    rintro e w2 ⟨b2, c2, rfl, ho2, hB2⟩
    have HV2 := Lib.hid ho2.reads.at
    have K2 := Lib.hid (K1.out.below hB2 K1.out.lt)
    have HB2 := Lib.hid (below_trans HB1.out hB2 HB1.out.size)
    clear ho2 hB2 p0
    go_wp2_with fail
    refine (specMdRead_any b2 c2 ss nm b _ HS.out HV2).mono ?_
    rintro e w3 ⟨rfl, hB3⟩
    have K3 := Lib.hid (K2.out.below hB3 K2.out.lt)
    have HB3 := Lib.hid (below_trans HB2.out hB3 HB2.out.size)
    have p0 : w3.cell? ⟨w.heap.size, 0, none⟩ = some (.slice a ss.length c) := K3.out.cell 0
    clear hB3
    go_wp2_with fail
    refine (toModel_any a c ss _ HS (hx.out.below HB3.out)).mono ?_
    rintro e w4 ⟨b4, c4, rfl, ho4, hB4⟩
    have HV4 := Lib.hid ho4.reads.at
    have K4 := Lib.hid (K3.out.below hB4 K3.out.lt)
    have HB4 := Lib.hid (below_trans HB3.out hB4 HB3.out.size)
    have HBb : Hid (Below w4.heap.size w4 (w4.alloc (.cells #[.slice b4 ss.length c4] 25))) := (Below.refl _ _).alloc (Nat.le_refl _) _
    have Kb := Lib.hid (Blk.new w4 #[.slice b4 ss.length c4] 25)
    clear ho4 hB4 p0
    go_wp2_with fail
    refine (implMdRead_any b4 c4 ss nm b _ HS.out Hn2.out (HV4.out.below HBb.out)).mono ?_
    rintro e w5 ⟨rfl, hB5⟩
    have hB45 : Below w4.heap.size w4 w5 := below_trans HBb.out hB5 HBb.out.size
    have K5 := Lib.hid (K4.out.below hB45 K4.out.lt)
    have Kb5 := Lib.hid (Kb.out.below hB5 Kb.out.lt)
    have HB5 := Lib.hid (below_trans HB4.out hB45 HB4.out.size)
    have HV5 := Lib.hid (HV4.out.below hB45)
    have p0 : w5.cell? ⟨w.heap.size, 0, none⟩ = some (.slice a ss.length c) := K5.out.cell 0
    have q0 : w5.cell? ⟨w4.heap.size, 0, none⟩ = some (.slice b4 ss.length c4) := Kb5.out.cell 0
    clear hB5 hB45
    generalize readTo ss nm b = tx
    generalize readCode ss nm b = cz
    have e1' : (tx.toList != tx.toList) = false := by simp
    have e2' : (cz != cz) = false := by simp
    have HBd : Hid (Below w.heap.size w w5.drew) := HB5.out.drew
    have HVd : Hid (ShAt w5.drew b4 ss) := HV5.out.below ((Below.refl _ _).drew)
    go_wp2_with fail
    go_region_held3 (fun w' => w'.cell? ⟨w.heap.size, 0, none⟩ = some (.slice a ss.length c) ∧ w'.cell? ⟨w4.heap.size, 0, none⟩ = some (.slice b4 ss.length c4)) (first | go_keep | exact hc7 | exact hc6)
      (first
        | (go_at_call 28; refine (toModel_any a c ss _ HS (hx.out.below HBd.out)).mono ?_; rintro e w6 ⟨b6, c6, rfl, ho6, hB6⟩; have HV6 := Lib.hid ho6.reads.at; have HV56 := Lib.hid (HVd.out.below hB6); have HB6 := Lib.hid (below_trans HBd.out hB6 HBd.out.size); have hc6 := (⟨cell_below hB6 p0, cell_below hB6 q0⟩ : w6.cell? ⟨w.heap.size, 0, none⟩ = some (.slice a ss.length c) ∧ w6.cell? ⟨w4.heap.size, 0, none⟩ = some (.slice b4 ss.length c4)); clear ho6 hB6)
        | (go_at_call 29; refine (eqModel_same _ _ _ _ ss _ HS.out HV56 HV6).mono ?_; rintro e w7 ⟨rfl, hB7⟩; have hc7 := (⟨cell_below hB7 hc6.1, cell_below hB7 hc6.2⟩ : w7.cell? ⟨w.heap.size, 0, none⟩ = some (.slice a ss.length c) ∧ w7.cell? ⟨w4.heap.size, 0, none⟩ = some (.slice b4 ss.length c4)); have HB7 := Lib.hid (below_trans HB6.out hB7 HB6.out.size); clear hB7))
    all_goals
      go_wp2
      go_ret
      exact ⟨rfl, HB7.out⟩

set_option maxRecDepth 100000 in
theorem lifted (os : Os) (started : os.Started) (H : Type) (enc : TypeId × Value → H) :
    ReturnsInHanded {} Try.checked os 11 .any (Rows.fnExactModelReadSpec.pre6 enc Try.prog Try.f11 Rows.fnExactModelReadRow.domain false) (Rows.fnExactModelReadSpec.post enc Try.prog Try.f11 false true false false) := by
  refine returnsInHanded_of_change (C := Try.checked) own started (by kernel_rfl) Try.func11
    (ChangeSpec.witness6 (enc := enc) (C := Try.checked) false ⟨#[], #[.agg #[.slice none 0 0], .string ByteArray.empty, .int .i64 0], []⟩ 8 (by kernel_rfl) (by kernel_rfl) (by kernel_rfl) (by kernel_rfl)) ?_
  intro W base args ds gs before hval0 hW hcnd _
  have hval : ∀ (j : Nat) t v, Try.f11.params[j]? = some t → args[j]? = some v → Value.okWide Try.prog W .any base t v := hval0
  have hW' := hW
  obtain ⟨p, q, hA0, hV, rfl, hfz, hnd⟩ := hW
  have hA : DataW.TrodAll enc Try.prog W 0 (fun _ => true) true Try.f11.params.toList args.toList ds p := hA0
  rw [Try.params11] at hA hval
  obtain ⟨v0, vs0, d0, ds0, p0, q0, hargs, rfl, rfl, h0, r0⟩ := trodAll_cons hA
  obtain ⟨v1, vs1, d1, ds1, p1, q1, rfl, rfl, rfl, h1, r1⟩ := trodAll_cons r0
  obtain ⟨v2, vs2, d2, ds2, p2, q2, rfl, rfl, rfl, h2, r2⟩ := trodAll_cons r1
  obtain ⟨rfl, rfl, rfl⟩ := trodAll_nil r2
  obtain rfl : args = #[v0, v1, v2] := by cases args; simp_all
  obtain ⟨rfl, rfl⟩ := trodVars_none hV
  have k0 := h0
  have lt0 : ∀ x ∈ p0, x.block < W.heap.size := by obtain ⟨m, hm⟩ := k0; exact DataW.trod_lt m _ _ _ hm
  obtain ⟨x0, a0, c0, rfl, w0, wn0⟩ := in_model (hval 0 46 v0 rfl rfl) h0
  have k1 := h1
  have lt1 : ∀ x ∈ p1, x.block < W.heap.size := by obtain ⟨m, hm⟩ := k1; exact DataW.trod_lt m _ _ _ hm
  obtain ⟨a1, rfl, rfl, e1, w1⟩ := open_string Try.underlying9 (hval 1 9 v1 rfl rfl) h1
  have k2 := h2
  have lt2 : ∀ x ∈ p2, x.block < W.heap.size := by obtain ⟨m, hm⟩ := k2; exact DataW.trod_lt m _ _ _ hm
  obtain ⟨a2, rfl, rfl, e2, w2⟩ := open_int Try.underlying3 (hval 2 3 v2 rfl rfl) h2
  clear hA0 hval0
  refine (walk a0 c0 x0 a1 a2 W w0 wn0 w1 w2).mono fun e W' ⟨he, bel⟩ => ?_
  subst he
  exact ⟨_, rfl, _, _, _, [], _, [], hW', trodAll_mk1 (shut_bool Try.underlying4 _), (trodAll_cons_mk (Below.trod laidOut (by kernel_rfl) (of_decide_eq_true (by kernel_rfl)) k0 bel lt0) (trodAll_cons_mk (Below.trod laidOut (by kernel_rfl) (of_decide_eq_true (by kernel_rfl)) k1 bel lt1) (trodAll_cons_mk (Below.trod laidOut (by kernel_rfl) (of_decide_eq_true (by kernel_rfl)) k2 bel lt2) trodAll_mk0))), rfl, bel.frame _, fun h => by cases h⟩

theorem over : Rows.fnExactModelReadRow.holds Try.pinned (OpenSpec.ofChange Rows.fnExactModelReadSpec) :=
  OpenClaim.holds_of_wide 11 Try.f11 rfl rfl rfl rfl rfl rfl rfl ⟨rfl, rfl, rfl, rfl, rfl⟩ rfl rfl rfl rfl rfl (by kernel_rfl) Try.func11 (by kernel_rfl)
    (of_decide_eq_true (by kernel_rfl)) (by unfold Func.isWrapper; first | (rw [if_pos (by decide +kernel)]; kernel_rfl) | (rw [if_neg (by decide +kernel)]; exact ⟨rfl, rfl⟩))
    (fun os started H enc _ => lifted os started H enc)

end FnExactModelRead

theorem FnExactModelRead_holds : Rows.FnExactModelReadSaid := FnExactModelRead.over

end Go.Proofs.Ytmmckpjapnkepaa
