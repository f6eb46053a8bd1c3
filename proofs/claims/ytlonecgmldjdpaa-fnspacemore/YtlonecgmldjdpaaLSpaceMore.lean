/- 'laws.FnSpaceMore' returns true at every code: of two drawn roots SpaceFree of the program answers as SpaceFree of the specification, and if both are ok what is free is free of the first alone, and of none; of none all places are free, and of the first all that it does not use. Conditions: none. -/
import Derived.Test.YtlonecgmldjdpaaF3
import Derived.Test.YtlonecgmldjdpaaK
import Derived.Test.YtlonecgmldjdpaaDR
import Derived.Test.YtlonecgmldjdpaaPL
import Derived.Test.YtlonecgmldjdpaaMS
import Derived.Test.YtlonecgmldjdpaaRG
namespace Go.Proofs.Ytlonecgmldjdpaa
open Go.ChangeShapes Go.WideShapes Go.ChangeAt Go.RowKit Go.Sort
namespace FnSpaceMore
set_option linter.unusedVariables false

set_option maxRecDepth 100000 in
set_option maxHeartbeats 4000000 in
theorem main (a : Option Addr) (len cap : Nat) (z0 : List Int) (w : World) (h0 : len ≤ 1048576) (H : Hid (IsBytes w a len cap z0)) :
    Calls Try.prog 7 #[.slice a len cap] w fun e w' => e = .returned (.bool true) ∧ Below w.heap.size w w' := by
  have d0 : decide (1048576 < (len : Int)) = false := by simp; omega
  go_enter Try.func7, Try.ntmps7
  go_wp2_with fail
  refine (drawFree_any a len cap z0 _ H.out).mono ?_
  rintro e w1 ⟨n, ta, tb, aa, ab, ca, cb, va, vb, rfl, hn, hLa, hLb, hva, hvb, hB1⟩
  obtain ⟨hVa, hnma⟩ := hLa.reads
  obtain ⟨_, _, ea, hca1, hca2, hXa⟩ := hVa
  cases ea
  have HNa : Hid (∀ j, j < va.length → (va.getD j vol0).name.size ≤ maxLen) := fun j hj => Nat.le_trans (hnma j hj) (by simp [maxLen])
  have hma : va.length ≤ maxLen := by simp [maxLen]; omega
  obtain ⟨hVb, hnmb⟩ := hLb.reads
  obtain ⟨_, _, eb, hcb1, hcb2, hXb⟩ := hVb
  cases eb
  have HNb : Hid (∀ j, j < vb.length → (vb.getD j vol0).name.size ≤ maxLen) := fun j hj => Nat.le_trans (hnmb j hj) (by simp [maxLen])
  have hmb : vb.length ≤ maxLen := by simp [maxLen]; omega
  have hBa : Below w1.heap.size w1 ((w1.alloc (.cells #[.int .i64 ta, .slice aa va.length ca] 25)).alloc (.cells #[.int .i64 tb, .slice ab vb.length cb] 25)) := ((Below.refl _ _).alloc (Nat.le_refl _) _).alloc (by simp) _
  have HXa := Lib.hid (hXa.below hBa)
  have HXb := Lib.hid (hXb.below hBa)
  have HB := Lib.hid (hB1.trans (hBa.mono hB1.size))
  have k0 : ((w1.alloc (.cells #[.int .i64 ta, .slice aa va.length ca] 25)).alloc (.cells #[.int .i64 tb, .slice ab vb.length cb] 25)).cell? ⟨w1.heap.size, 0, none⟩ = some (.int .i64 ta) := cell_below ((Below.refl _ _).alloc (Nat.le_refl _) _) ((Bx.new w1 #[.int .i64 ta, .slice aa va.length ca] 25).cell 0)
  have k1 : ((w1.alloc (.cells #[.int .i64 ta, .slice aa va.length ca] 25)).alloc (.cells #[.int .i64 tb, .slice ab vb.length cb] 25)).cell? ⟨w1.heap.size, 1, none⟩ = some (.slice aa va.length ca) := cell_below ((Below.refl _ _).alloc (Nat.le_refl _) _) ((Bx.new w1 #[.int .i64 ta, .slice aa va.length ca] 25).cell 1)
  have k2 : ((w1.alloc (.cells #[.int .i64 ta, .slice aa va.length ca] 25)).alloc (.cells #[.int .i64 tb, .slice ab vb.length cb] 25)).cell? ⟨w1.heap.size + 1, 0, none⟩ = some (.int .i64 tb) := by
    have h := (Bx.new (w1.alloc (.cells #[.int .i64 ta, .slice aa va.length ca] 25)) #[.int .i64 tb, .slice ab vb.length cb] 25).cell 0
    simp only [World.size_alloc] at h
    exact h
  have k3 : ((w1.alloc (.cells #[.int .i64 ta, .slice aa va.length ca] 25)).alloc (.cells #[.int .i64 tb, .slice ab vb.length cb] 25)).cell? ⟨w1.heap.size + 1, 1, none⟩ = some (.slice ab vb.length cb) := by
    have h := (Bx.new (w1.alloc (.cells #[.int .i64 ta, .slice aa va.length ca] 25)) #[.int .i64 tb, .slice ab vb.length cb] 25).cell 1
    simp only [World.size_alloc] at h
    exact h
  have HI := Lib.hid (fun w' ha hb => implFree_any n ta tb aa ab ca cb va vb w' hca1 hcb1 HNa HNb ha hb)
  have HJ := Lib.hid (fun w' ha hb => specFree_any n ta tb aa ab ca cb va vb w' hma hmb HNa HNb ha hb)
  have HRa := Lib.hid (fun w' h => specRoot_any n ⟨ta, va⟩ aa ca w' hma HNa h)
  have HRb := Lib.hid (fun w' h => specRoot_any n ⟨tb, vb⟩ ab cb w' hmb HNb h)
  simp only at HRa HRb
  have hP48 := fre_length n ⟨ta, va⟩ ⟨tb, vb⟩
  have hn3 := hn.1
  have hn4 := hn.2
  have HA := Lib.hid (fun w' h => implPlaces_any n ta aa ca va w' hca1 HNa h)
  have hA48 := rpl_length n ⟨ta, va⟩
  have hQ := all_length hn
  have HLen := Lib.hid (fun (h : RootOkP n ⟨ta, va⟩) => one_length h)
  have HOne := Lib.hid (fun (h : RootOkP n ⟨ta, va⟩) (k : RootOkP n ⟨tb, vb⟩) q hq => fre_one h k (q := q) hq)
  have HAll := Lib.hid (fun (h : RootOkP n ⟨ta, va⟩) (k : RootOkP n ⟨tb, vb⟩) q hq => fre_all h k (q := q) hq)
  have HF0 : Hid (∀ w', Calls Try.prog 19 #[.int .i64 n, .agg #[.int .i64 0, .slice none 0 0], .agg #[.int .i64 0, .slice none 0 0]] w' fun e w'' => ∃ v, e = .returned v ∧ OwnPl w'' w'.heap.size v (fre n ⟨0, []⟩ ⟨0, []⟩) ∧ Below w'.heap.size w' w'') := fun w' => implFree_any n 0 0 none none 0 0 [] [] w' (by simp) (by simp) (fun j hj => by simp at hj) (fun j hj => by simp at hj) (.inl rfl) (.inl rfl)
  have HF1 : Hid (∀ w', Hid (VolsAt w' aa va) → Calls Try.prog 19 #[.int .i64 n, .agg #[.int .i64 ta, .slice aa va.length ca], .agg #[.int .i64 0, .slice none 0 0]] w' fun e w'' => ∃ v, e = .returned v ∧ OwnPl w'' w'.heap.size v (fre n ⟨ta, va⟩ ⟨0, []⟩) ∧ Below w'.heap.size w' w'') := fun w' h => implFree_any n ta 0 aa none ca 0 va [] w' hca1 (by simp) HNa (fun j hj => by simp at hj) h (.inl rfl)
  have hQ48 := fre_length n ⟨0, []⟩ ⟨0, []⟩
  have hO48 := fre_length n ⟨ta, va⟩ ⟨0, []⟩
  generalize fre n ⟨ta, va⟩ ⟨tb, vb⟩ = P at HI HJ HOne HAll hP48
  generalize fre n ⟨ta, va⟩ ⟨0, []⟩ = O at HF1 HLen HOne hO48
  generalize fre n ⟨0, []⟩ ⟨0, []⟩ = Q at HF0 HLen HAll hQ hQ48
  generalize rpl n ⟨ta, va⟩ = A at HA HLen hA48
  have hQm : Q.length ≤ maxLen := by simp [maxLen]; omega
  have hOm : O.length ≤ maxLen := by simp [maxLen]; omega
  have hAm : A.length ≤ maxLen := by simp [maxLen]; omega
  clear hLa hLb hXa hXb hnma hnmb hBa hB1
  go_wp2_with fail
  generalize hgD : w1.heap.size = D at k0 k1 k2 k3 ⊢
  clear hgD
  generalize ((w1.alloc (.cells #[.int .i64 ta, .slice aa va.length ca] 25)).alloc (.cells #[.int .i64 tb, .slice ab vb.length cb] 25)) = wa at HXa HXb HB k0 k1 k2 k3 ⊢
  have hPm : P.length ≤ maxLen := by simp [maxLen]; omega
  refine (HI.out _ HXa HXb).mono ?_
  rintro e w2 ⟨v2, rfl, ho, hB⟩
  obtain ⟨a2, c2, rfl, _, _, hx⟩ := ho.reads
  replace HXa := Lib.hid (HXa.out.below hB)
  replace HXb := Lib.hid (HXb.out.below hB)
  replace k0 := cell_below hB k0
  replace k1 := cell_below hB k1
  replace k2 := cell_below hB k2
  replace k3 := cell_below hB k3
  replace HB := Lib.hid (HB.out.trans (hB.mono HB.out.size))
  have HP2 := Lib.hid hx
  clear hB hx ho HI
  go_wp2_with fail
  refine (HJ.out _ HXa HXb).mono ?_
  rintro e w3 ⟨v3, rfl, ho, hB⟩
  obtain ⟨a3, c3, rfl, _, _, hx⟩ := ho.reads
  replace HXa := Lib.hid (HXa.out.below hB)
  replace HXb := Lib.hid (HXb.out.below hB)
  replace HP2 := Lib.hid (HP2.out.below hB)
  replace k0 := cell_below hB k0
  replace k1 := cell_below hB k1
  replace k2 := cell_below hB k2
  replace k3 := cell_below hB k3
  replace HB := Lib.hid (HB.out.trans (hB.mono HB.out.size))
  have HP3 := Lib.hid hx
  clear hB hx ho
  go_wp2_with fail
  refine (lpaPlaces_any a2 a3 c2 c3 P P _ hPm hPm HP2 HP3).mono ?_
  rintro e w4 ⟨rfl, hB⟩
  replace HXa := Lib.hid (HXa.out.below hB)
  replace HXb := Lib.hid (HXb.out.below hB)
  replace HP2 := Lib.hid (HP2.out.below hB)
  replace HP3 := Lib.hid (HP3.out.below hB)
  replace k0 := cell_below hB k0
  replace k1 := cell_below hB k1
  replace k2 := cell_below hB k2
  replace k3 := cell_below hB k3
  replace HB := Lib.hid (HB.out.trans (hB.mono HB.out.size))
  clear hB
  rw [tt_true (rfl : P = P)]
  clear HP3
  by_cases hoka : RootOkP n ⟨ta, va⟩
  · rw [tt_true hoka] at HRa
    go_wp2_with fail
    refine (HRa.out _ HXa).mono ?_
    rintro e w5 ⟨rfl, hB⟩
    replace HXa := Lib.hid (HXa.out.below hB)
    replace HXb := Lib.hid (HXb.out.below hB)
    replace HP2 := Lib.hid (HP2.out.below hB)
    replace k0 := cell_below hB k0
    replace k1 := cell_below hB k1
    replace k2 := cell_below hB k2
    replace k3 := cell_below hB k3
    replace HB := Lib.hid (HB.out.trans (hB.mono HB.out.size))
    clear hB
    by_cases hokb : RootOkP n ⟨tb, vb⟩
    · rw [tt_true hokb] at HRb
      go_wp2_with fail
      refine (HRb.out _ HXb).mono ?_
      rintro e w6 ⟨rfl, hB⟩
      replace HXa := Lib.hid (HXa.out.below hB)
      replace HXb := Lib.hid (HXb.out.below hB)
      replace HP2 := Lib.hid (HP2.out.below hB)
      replace k0 := cell_below hB k0
      replace k1 := cell_below hB k1
      replace k2 := cell_below hB k2
      replace k3 := cell_below hB k3
      replace HB := Lib.hid (HB.out.trans (hB.mono HB.out.size))
      clear hB
      have HO1 := Lib.hid (fun q hq => HOne.out hoka hokb q hq)
      have HO2 := Lib.hid (fun q hq => HAll.out hoka hokb q hq)
      have hlen := HLen.out hoka
      clear HOne HAll HLen hoka hokb HRa HRb HJ
      go_wp2_with fail
      refine (HF0.out _).mono ?_
      rintro e w7 ⟨v4, rfl, ho, hB⟩
      obtain ⟨a4, c4, rfl, _, _, hx⟩ := ho.reads
      replace HXa := Lib.hid (HXa.out.below hB)
      replace HXb := Lib.hid (HXb.out.below hB)
      replace HP2 := Lib.hid (HP2.out.below hB)
      replace k0 := cell_below hB k0
      replace k1 := cell_below hB k1
      replace k2 := cell_below hB k2
      replace k3 := cell_below hB k3
      replace HB := Lib.hid (HB.out.trans (hB.mono HB.out.size))
      have HP4 := Lib.hid hx
      clear hB hx ho
      go_wp2_with fail
      refine (HF1.out _ HXa).mono ?_
      rintro e w8 ⟨v5, rfl, ho, hB⟩
      obtain ⟨a5, c5, rfl, _, _, hx⟩ := ho.reads
      replace HXa := Lib.hid (HXa.out.below hB)
      replace HXb := Lib.hid (HXb.out.below hB)
      replace HP2 := Lib.hid (HP2.out.below hB)
      replace HP4 := Lib.hid (HP4.out.below hB)
      replace k0 := cell_below hB k0
      replace k1 := cell_below hB k1
      replace k2 := cell_below hB k2
      replace k3 := cell_below hB k3
      replace HB := Lib.hid (HB.out.trans (hB.mono HB.out.size))
      have HP5 := Lib.hid hx
      clear hB hx ho
      have hs8 := HB.out.size
      clear HF0 HF1
      go_wp2_with fail
      go_loopw [9] (fun i wr => ∃ d : Nat, i = .int .i64 (d : Int) ∧ d ≤ P.length ∧ Hid (Below w8.heap.size w8 wr)) (fun i _ => P.length - (intOf i).toNat)
      case atStart => exact ⟨0, rfl, by omega, Below.refl _ _⟩
      case round =>
        obtain ⟨d, rfl, hd, hBr⟩ := hrel
        by_cases hlt : d < P.length
        · obtain ⟨b, off, rfl, hc⟩ := (HP2.out.below hBr.out).resolve_left (fun e => by subst e; simp at hlt)
          obtain ⟨y0, y1⟩ := hc d hlt
          have hin : PlIn (P.getD d pl0) P := ⟨d, hlt, rfl⟩
          have h1 := HO1.out _ hin
          have h2 := HO2.out _ hin
          have id0 : (0 : Int) ≤ (d : Int) := by omega
          have id1 : (d : Int) < (P.length : Int) := by omega
          have HL5 := Lib.hid (fun w' h => lpaIn_any (P.getD d pl0) a5 c5 O w' hOm h)
          have HL4 := Lib.hid (fun w' h => lpaIn_any (P.getD d pl0) a4 c4 Q w' hQm h)
          rw [tt_true h1] at HL5
          rw [tt_true h2] at HL4
          generalize P.getD d pl0 = pd at y0 y1 HL4 HL5
          clear hc hin h1 h2
          go_wp2_with fail
          refine (HL5.out _ (HP5.out.below hBr.out)).mono ?_
          rintro e w9 ⟨rfl, hB9⟩
          have HB9 := Lib.hid (hBr.out.trans (hB9.mono hBr.out.size))
          replace y0 := cell_below hB9 y0
          replace y1 := cell_below hB9 y1
          clear hB9
          go_wp2_with fail
          refine (HL4.out _ (HP4.out.below HB9.out)).mono ?_
          rintro e w10 ⟨rfl, hB10⟩
          have HB10 := Lib.hid (HB9.out.trans (hB10.mono HB9.out.size))
          clear hB10
          go_wp2
          exact ⟨⟨d + 1, by go_num, by omega, HB10⟩, by simp [intOf]; omega⟩
        · replace HXa := Lib.hid (HXa.out.below hBr.out)
          replace k0 := cell_below hBr.out k0
          replace k1 := cell_below hBr.out k1
          replace HB := Lib.hid (HB.out.trans (hBr.out.mono hs8))
          have q1 : ((Q.length : Int) == n * 12) = true := by simp; omega
          have q2 : ((O.length : Int) + (A.length : Int) == (Q.length : Int)) = true := by simp; omega
          clear hQ HXb HP4 HP5 HP2 k2 k3
          go_wp2_with fail
          refine (HA.out _ HXa).mono ?_
          rintro e w9 ⟨v9, rfl, ho, hB⟩
          obtain ⟨a9, c9, rfl, _, _, hx⟩ := ho.reads
          go_wp2
          go_ret
          exact ⟨rfl, HB.out.trans (hB.mono HB.out.size)⟩
    · rw [tt_false hokb] at HRb
      go_wp2_with fail
      refine (HRb.out _ HXb).mono ?_
      rintro e w6 ⟨rfl, hB⟩
      replace HXa := Lib.hid (HXa.out.below hB)
      replace HXb := Lib.hid (HXb.out.below hB)
      replace HP2 := Lib.hid (HP2.out.below hB)
      replace k0 := cell_below hB k0
      replace k1 := cell_below hB k1
      replace k2 := cell_below hB k2
      replace k3 := cell_below hB k3
      replace HB := Lib.hid (HB.out.trans (hB.mono HB.out.size))
      clear hB
      go_wp2_with fail
      refine (HJ.out _ HXa HXb).mono ?_
      rintro e w71 ⟨v8, rfl, ho, hB⟩
      obtain ⟨a8, c8, rfl, _, _, hx⟩ := ho.reads
      replace HXa := Lib.hid (HXa.out.below hB)
      replace HXb := Lib.hid (HXb.out.below hB)
      replace HP2 := Lib.hid (HP2.out.below hB)
      replace k0 := cell_below hB k0
      replace k1 := cell_below hB k1
      replace k2 := cell_below hB k2
      replace k3 := cell_below hB k3
      replace HB := Lib.hid (HB.out.trans (hB.mono HB.out.size))
      have HP8 := Lib.hid hx
      clear hB hx ho
      go_wp2_with fail
      refine (lpaPlaces_any a2 a8 c2 c8 P P _ hPm hPm HP2 HP8).mono ?_
      rintro e w72 ⟨rfl, hB⟩
      rw [tt_true (rfl : P = P)]
      go_wp2
      go_ret
      exact ⟨rfl, HB.out.trans (hB.mono HB.out.size)⟩
  · rw [tt_false hoka] at HRa
    go_wp2_with fail
    refine (HRa.out _ HXa).mono ?_
    rintro e w5 ⟨rfl, hB⟩
    replace HXa := Lib.hid (HXa.out.below hB)
    replace HXb := Lib.hid (HXb.out.below hB)
    replace HP2 := Lib.hid (HP2.out.below hB)
    replace k0 := cell_below hB k0
    replace k1 := cell_below hB k1
    replace k2 := cell_below hB k2
    replace k3 := cell_below hB k3
    replace HB := Lib.hid (HB.out.trans (hB.mono HB.out.size))
    clear hB
    go_wp2_with fail
    refine (HJ.out _ HXa HXb).mono ?_
    rintro e w71 ⟨v8, rfl, ho, hB⟩
    obtain ⟨a8, c8, rfl, _, _, hx⟩ := ho.reads
    replace HXa := Lib.hid (HXa.out.below hB)
    replace HXb := Lib.hid (HXb.out.below hB)
    replace HP2 := Lib.hid (HP2.out.below hB)
    replace k0 := cell_below hB k0
    replace k1 := cell_below hB k1
    replace k2 := cell_below hB k2
    replace k3 := cell_below hB k3
    replace HB := Lib.hid (HB.out.trans (hB.mono HB.out.size))
    have HP8 := Lib.hid hx
    clear hB hx ho
    go_wp2_with fail
    refine (lpaPlaces_any a2 a8 c2 c8 P P _ hPm hPm HP2 HP8).mono ?_
    rintro e w72 ⟨rfl, hB⟩
    rw [tt_true (rfl : P = P)]
    go_wp2
    go_ret
    exact ⟨rfl, HB.out.trans (hB.mono HB.out.size)⟩

set_option maxRecDepth 100000 in
set_option maxHeartbeats 1000000 in
theorem walk (a0 : Option Addr) (len0 cap0 : Nat) (z0 : List Int) (w : World) (w0 : IsBytes w a0 len0 cap0 z0) :
    Calls Try.prog 7 #[.slice a0 len0 cap0] w fun e w' => e = .returned (.bool true) ∧ Below w.heap.size w w' := by
  by_cases h0 : len0 ≤ 1048576
  · exact main a0 len0 cap0 z0 w h0 w0
  · have hm : len0 ≤ maxLen := by have := w0.opened; omega
    have d0 : decide (1048576 < (len0 : Int)) = true := by simp; omega
    clear w0
    go_enter Try.func7, Try.ntmps7
    go_wp2
    go_ret
    exact ⟨rfl, Below.refl _ _⟩

set_option maxRecDepth 100000 in
theorem lifted (os : Os) (started : os.Started) (H : Type) (enc : TypeId × Value → H) :
    ReturnsInHanded {} Try.checked os 7 .any (Rows.fnSpaceMoreSpec.pre6 enc Try.prog Try.f7 Rows.fnSpaceMoreRow.domain false) (Rows.fnSpaceMoreSpec.post enc Try.prog Try.f7 false true false false) := by
  refine returnsInHanded_of_change (C := Try.checked) own started (by kernel_rfl) Try.func7
    (ChangeSpec.witness6 (enc := enc) (C := Try.checked) false ⟨#[], #[.slice none 0 0], []⟩ 8 (by kernel_rfl) (by kernel_rfl) (by kernel_rfl) (by kernel_rfl)) ?_
  intro W base args ds gs before hval0 hW hcnd _
  have hval : ∀ (j : Nat) t v, Try.f7.params[j]? = some t → args[j]? = some v → Value.okWide Try.prog W .any base t v := hval0
  have hW' := hW
  obtain ⟨p, q, hA0, hV, rfl, hfz, hnd⟩ := hW
  have hA : DataW.TrodAll enc Try.prog W 0 (fun _ => true) true Try.f7.params.toList args.toList ds p := hA0
  rw [Try.params7] at hA hval
  obtain ⟨v0, vs0, d0, ds0, p0, q0, hargs, rfl, rfl, h0, r0⟩ := trodAll_cons hA
  obtain ⟨rfl, rfl, rfl⟩ := trodAll_nil r0
  obtain rfl : args = #[v0] := by cases args; simp_all
  obtain ⟨rfl, rfl⟩ := trodVars_none hV
  have k0 := h0
  have lt0 : ∀ x ∈ p0, x.block < W.heap.size := by obtain ⟨m, hm⟩ := k0; exact DataW.trod_lt m _ _ _ hm
  obtain ⟨a0, len0, cap0, rfl⟩ := okWide_slice Try.underlying22 (hval 0 22 v0 rfl rfl)
  obtain ⟨z0, w0⟩ : ∃ zs, IsBytes W a0 len0 cap0 zs := by
    obtain ⟨fuel, hf⟩ := h0
    rcases open_ints Try.underlying22 Try.underlying5 (by kernel_rfl) hf with ⟨hcs, _⟩ | ⟨x, l, c, zs, hcs, _, hl, hm, hz, _, hcell, hwz⟩
    · simp [Value.cells] at hcs
      obtain ⟨rfl, rfl, rfl⟩ := hcs
      exact ⟨[], .inl ⟨rfl, rfl, rfl, rfl⟩⟩
    · simp [Value.cells] at hcs
      obtain ⟨rfl, rfl, rfl⟩ := hcs
      exact ⟨zs, .inr ⟨_, rfl, hl, hm, by simpa using hz, hcell, hwz⟩⟩
  clear hA0 hval0
  refine (walk a0 len0 cap0 z0 W w0).mono fun e W' ⟨he, bel⟩ => ?_
  subst he
  exact ⟨_, rfl, _, _, _, [], _, [], hW', trodAll_mk1 (shut_bool Try.underlying4 _), (trodAll_cons_mk (Below.trod laidOut (by kernel_rfl) (of_decide_eq_true (by kernel_rfl)) k0 bel lt0) trodAll_mk0), rfl, bel.frame _, fun h => by cases h⟩

theorem over : Rows.fnSpaceMoreRow.holds Try.pinned (OpenSpec.ofChange Rows.fnSpaceMoreSpec) :=
  OpenClaim.holds_of_wide 7 Try.f7 rfl rfl rfl rfl rfl rfl rfl ⟨rfl, rfl, rfl, rfl, rfl⟩ rfl rfl rfl rfl rfl (by kernel_rfl) Try.func7 (by kernel_rfl)
    (of_decide_eq_true (by kernel_rfl)) (by unfold Func.isWrapper; first | (rw [if_pos (by decide +kernel)]; kernel_rfl) | (rw [if_neg (by decide +kernel)]; exact ⟨rfl, rfl⟩))
    (fun os started H enc _ => lifted os started H enc)

end FnSpaceMore

theorem FnSpaceMore_holds : Rows.FnSpaceMoreSaid := FnSpaceMore.over

end Go.Proofs.Ytlonecgmldjdpaa
