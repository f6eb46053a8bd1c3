/- 'laws.FnSpaceFree' returns true at every code: of two drawn roots SpaceFree of the program answers as SpaceFree of the specification, and if both are ok a place is free just if none of both uses it, whichever is first. Conditions: none. -/
import Derived.Test.YtlonecgmldjdpaaF3
import Derived.Test.YtlonecgmldjdpaaK
import Derived.Test.YtlonecgmldjdpaaDR
import Derived.Test.YtlonecgmldjdpaaPL
import Derived.Test.YtlonecgmldjdpaaMS
import Derived.Test.YtlonecgmldjdpaaRG
namespace Go.Proofs.Ytlonecgmldjdpaa
open Go.ChangeShapes Go.WideShapes Go.ChangeAt Go.RowKit Go.Sort
namespace FnSpaceFree
set_option linter.unusedVariables false

set_option maxRecDepth 100000 in
set_option maxHeartbeats 4000000 in
theorem main (a : Option Addr) (len cap : Nat) (z0 : List Int) (w : World) (h0 : len ≤ 1048576) (H : Hid (IsBytes w a len cap z0)) :
    Calls Try.prog 5 #[.slice a len cap] w fun e w' => e = .returned (.bool true) ∧ Below w.heap.size w w' := by
  have d0 : decide (1048576 < (len : Int)) = false := by simp; omega
  go_enter Try.func5, Try.ntmps5
  go_wp2_with fail
  refine (drawFree_any a len cap z0 _ H.out).mono ?_
  rintro e w1 ⟨n, ta, tb, aa, ab, ca, cb, va, vb, rfl, hn, hLa, hLb, hva, hvb, hB1⟩
  obtain ⟨hVa, hnma⟩ := hLa.reads
  obtain ⟨_, _, ea, hca1, hca2, hXa⟩ := hVa
  cases ea
  have HNa : Hid (∀ j, j < va.length → (va.getD j vol0).name.size ≤ maxLen) := fun j hj => Nat.le_trans (hnma j hj) (by simp [maxLen])
  have hma : va.length ≤ maxLen := by simp [maxLen]; omega
  obtain ⟨hVb, hnmb⟩ := hLb.reads
  obtain ⟨_, _, eb, hcb1, hcb2, hXb⟩ := hVb
  cases eb
  have HNb : Hid (∀ j, j < vb.length → (vb.getD j vol0).name.size ≤ maxLen) := fun j hj => Nat.le_trans (hnmb j hj) (by simp [maxLen])
  have hmb : vb.length ≤ maxLen := by simp [maxLen]; omega
  have hBa : Below w1.heap.size w1 ((w1.alloc (.cells #[.int .i64 ta, .slice aa va.length ca] 25)).alloc (.cells #[.int .i64 tb, .slice ab vb.length cb] 25)) := ((Below.refl _ _).alloc (Nat.le_refl _) _).alloc (by simp) _
  have HXa := Lib.hid (hXa.below hBa)
  have HXb := Lib.hid (hXb.below hBa)
  have HB := Lib.hid (hB1.trans (hBa.mono hB1.size))
  have k0 : ((w1.alloc (.cells #[.int .i64 ta, .slice aa va.length ca] 25)).alloc (.cells #[.int .i64 tb, .slice ab vb.length cb] 25)).cell? ⟨w1.heap.size, 0, none⟩ = some (.int .i64 ta) := cell_below ((Below.refl _ _).alloc (Nat.le_refl _) _) ((Bx.new w1 #[.int .i64 ta, .slice aa va.length ca] 25).cell 0)
  have k1 : ((w1.alloc (.cells #[.int .i64 ta, .slice aa va.length ca] 25)).alloc (.cells #[.int .i64 tb, .slice ab vb.length cb] 25)).cell? ⟨w1.heap.size, 1, none⟩ = some (.slice aa va.length ca) := cell_below ((Below.refl _ _).alloc (Nat.le_refl _) _) ((Bx.new w1 #[.int .i64 ta, .slice aa va.length ca] 25).cell 1)
  have k2 : ((w1.alloc (.cells #[.int .i64 ta, .slice aa va.length ca] 25)).alloc (.cells #[.int .i64 tb, .slice ab vb.length cb] 25)).cell? ⟨w1.heap.size + 1, 0, none⟩ = some (.int .i64 tb) := by
    have h := (Bx.new (w1.alloc (.cells #[.int .i64 ta, .slice aa va.length ca] 25)) #[.int .i64 tb, .slice ab vb.length cb] 25).cell 0
    simp only [World.size_alloc] at h
    exact h
  have k3 : ((w1.alloc (.cells #[.int .i64 ta, .slice aa va.length ca] 25)).alloc (.cells #[.int .i64 tb, .slice ab vb.length cb] 25)).cell? ⟨w1.heap.size + 1, 1, none⟩ = some (.slice ab vb.length cb) := by
    have h := (Bx.new (w1.alloc (.cells #[.int .i64 ta, .slice aa va.length ca] 25)) #[.int .i64 tb, .slice ab vb.length cb] 25).cell 1
    simp only [World.size_alloc] at h
    exact h
  have HI := Lib.hid (fun w' ha hb => implFree_any n ta tb aa ab ca cb va vb w' hca1 hcb1 HNa HNb ha hb)
  have HJ := Lib.hid (fun w' ha hb => specFree_any n ta tb aa ab ca cb va vb w' hma hmb HNa HNb ha hb)
  have HRa := Lib.hid (fun w' h => specRoot_any n ⟨ta, va⟩ aa ca w' hma HNa h)
  have HRb := Lib.hid (fun w' h => specRoot_any n ⟨tb, vb⟩ ab cb w' hmb HNb h)
  simp only at HRa HRb
  have hP48 := fre_length n ⟨ta, va⟩ ⟨tb, vb⟩
  have hn3 := hn.1
  have hn4 := hn.2
  have HA := Lib.hid (fun w' h => implPlaces_any n ta aa ca va w' hca1 HNa h)
  have hA48 := rpl_length n ⟨ta, va⟩
  have HC := Lib.hid (fun (h : RootOkP n ⟨ta, va⟩) (k : RootOkP n ⟨tb, vb⟩) d s hd hs => free_cases h k (d := d) (s := s) hd hs)
  have HBp := Lib.hid (fun w' h => implPlaces_any n tb ab cb vb w' hcb1 HNb h)
  have hB48 := rpl_length n ⟨tb, vb⟩
  have HK := Lib.hid (fun w' hb ha => implFree_any n tb ta ab aa cb ca vb va w' hcb1 hca1 HNb HNa hb ha)
  rw [fre_comm n ⟨tb, vb⟩ ⟨ta, va⟩] at HK
  generalize fre n ⟨ta, va⟩ ⟨tb, vb⟩ = P at HI HJ HC HK hP48
  generalize rpl n ⟨ta, va⟩ = A at HA HC hA48
  generalize rpl n ⟨tb, vb⟩ = B at HBp HC hB48
  have hAm : A.length ≤ maxLen := by simp [maxLen]; omega
  have hBm : B.length ≤ maxLen := by simp [maxLen]; omega
  clear hLa hLb hXa hXb hnma hnmb hBa hB1
  go_wp2_with fail
  generalize hgD : w1.heap.size = D at k0 k1 k2 k3 ⊢
  clear hgD
  generalize ((w1.alloc (.cells #[.int .i64 ta, .slice aa va.length ca] 25)).alloc (.cells #[.int .i64 tb, .slice ab vb.length cb] 25)) = wa at HXa HXb HB k0 k1 k2 k3 ⊢
  have hPm : P.length ≤ maxLen := by simp [maxLen]; omega
  refine (HI.out _ HXa HXb).mono ?_
  rintro e w2 ⟨v2, rfl, ho, hB⟩
  obtain ⟨a2, c2, rfl, _, _, hx⟩ := ho.reads
  replace HXa := Lib.hid (HXa.out.below hB)
  replace HXb := Lib.hid (HXb.out.below hB)
  replace k0 := cell_below hB k0
  replace k1 := cell_below hB k1
  replace k2 := cell_below hB k2
  replace k3 := cell_below hB k3
  replace HB := Lib.hid (HB.out.trans (hB.mono HB.out.size))
  have HP2 := Lib.hid hx
  clear hB hx ho HI
  go_wp2_with fail
  refine (HJ.out _ HXa HXb).mono ?_
  rintro e w3 ⟨v3, rfl, ho, hB⟩
  obtain ⟨a3, c3, rfl, _, _, hx⟩ := ho.reads
  replace HXa := Lib.hid (HXa.out.below hB)
  replace HXb := Lib.hid (HXb.out.below hB)
  replace HP2 := Lib.hid (HP2.out.below hB)
  replace k0 := cell_below hB k0
  replace k1 := cell_below hB k1
  replace k2 := cell_below hB k2
  replace k3 := cell_below hB k3
  replace HB := Lib.hid (HB.out.trans (hB.mono HB.out.size))
  have HP3 := Lib.hid hx
  clear hB hx ho
  go_wp2_with fail
  refine (lpaPlaces_any a2 a3 c2 c3 P P _ hPm hPm HP2 HP3).mono ?_
  rintro e w4 ⟨rfl, hB⟩
  replace HXa := Lib.hid (HXa.out.below hB)
  replace HXb := Lib.hid (HXb.out.below hB)
  replace HP2 := Lib.hid (HP2.out.below hB)
  replace HP3 := Lib.hid (HP3.out.below hB)
  replace k0 := cell_below hB k0
  replace k1 := cell_below hB k1
  replace k2 := cell_below hB k2
  replace k3 := cell_below hB k3
  replace HB := Lib.hid (HB.out.trans (hB.mono HB.out.size))
  clear hB
  rw [tt_true (rfl : P = P)]
  clear HP3
  by_cases hoka : RootOkP n ⟨ta, va⟩
  · rw [tt_true hoka] at HRa
    go_wp2_with fail
    refine (HRa.out _ HXa).mono ?_
    rintro e w5 ⟨rfl, hB⟩
    replace HXa := Lib.hid (HXa.out.below hB)
    replace HXb := Lib.hid (HXb.out.below hB)
    replace HP2 := Lib.hid (HP2.out.below hB)
    replace k0 := cell_below hB k0
    replace k1 := cell_below hB k1
    replace k2 := cell_below hB k2
    replace k3 := cell_below hB k3
    replace HB := Lib.hid (HB.out.trans (hB.mono HB.out.size))
    clear hB
    by_cases hokb : RootOkP n ⟨tb, vb⟩
    · rw [tt_true hokb] at HRb
      go_wp2_with fail
      refine (HRb.out _ HXb).mono ?_
      rintro e w6 ⟨rfl, hB⟩
      replace HXa := Lib.hid (HXa.out.below hB)
      replace HXb := Lib.hid (HXb.out.below hB)
      replace HP2 := Lib.hid (HP2.out.below hB)
      replace k0 := cell_below hB k0
      replace k1 := cell_below hB k1
      replace k2 := cell_below hB k2
      replace k3 := cell_below hB k3
      replace HB := Lib.hid (HB.out.trans (hB.mono HB.out.size))
      clear hB
      have HC1 := Lib.hid (HC.out hoka hokb)
      clear HC hoka hokb HRa HRb HJ
      go_wp2_with fail
      refine (HA.out _ HXa).mono ?_
      rintro e w7 ⟨v4, rfl, ho, hB⟩
      obtain ⟨a4, c4, rfl, _, _, hx⟩ := ho.reads
      replace HXa := Lib.hid (HXa.out.below hB)
      replace HXb := Lib.hid (HXb.out.below hB)
      replace HP2 := Lib.hid (HP2.out.below hB)
      replace k0 := cell_below hB k0
      replace k1 := cell_below hB k1
      replace k2 := cell_below hB k2
      replace k3 := cell_below hB k3
      replace HB := Lib.hid (HB.out.trans (hB.mono HB.out.size))
      have HP4 := Lib.hid hx
      clear hB hx ho
      go_wp2_with fail
      refine (HBp.out _ HXb).mono ?_
      rintro e w8 ⟨v5, rfl, ho, hB⟩
      obtain ⟨a5, c5, rfl, _, _, hx⟩ := ho.reads
      replace HXa := Lib.hid (HXa.out.below hB)
      replace HXb := Lib.hid (HXb.out.below hB)
      replace HP2 := Lib.hid (HP2.out.below hB)
      replace HP4 := Lib.hid (HP4.out.below hB)
      replace k0 := cell_below hB k0
      replace k1 := cell_below hB k1
      replace k2 := cell_below hB k2
      replace k3 := cell_below hB k3
      replace HB := Lib.hid (HB.out.trans (hB.mono HB.out.size))
      have HP5 := Lib.hid hx
      clear hB hx ho
      have hs8 := HB.out.size
      clear HA HBp
      go_wp2_with fail
      go_loopw [9] (fun i wr => ∃ d : Nat, i = .int .i64 (d : Int) ∧ (d : Int) ≤ n ∧ Hid (Below w8.heap.size w8 wr)) (fun i _ => (n - intOf i).toNat)
      case atStart => exact ⟨0, rfl, by omega, Below.refl _ _⟩
      case round =>
        obtain ⟨d, rfl, hd, hBr⟩ := hrel
        by_cases hlt : (d : Int) < n
        · have q0 : decide ((d : Int) < n) = true := by simpa using hlt
          go_wp2_with fail
          go_loopw [10] (fun i wq => ∃ s : Nat, i = .int .i64 (s : Int) ∧ s ≤ 12 ∧ Hid (Below w8.heap.size w8 wq)) (fun i _ => 12 - (intOf i).toNat)
          case atStart => exact ⟨0, rfl, by omega, hBr⟩
          case round =>
            obtain ⟨s, rfl, hs, hBq⟩ := hrel
            by_cases hst : s < 12
            · have hBc : Below wr.heap.size wr (wr.alloc (.cells #[.int .i64 (d : Int), .int .i64 (s : Int)] 39)) := (Below.refl _ _).alloc (Nat.le_refl _) _
              have HBc := Lib.hid (hBq.out.trans (hBc.mono hBq.out.size))
              have e0 : (wr.alloc (.cells #[.int .i64 (d : Int), .int .i64 (s : Int)] 39)).cell? ⟨wr.heap.size, 0, none⟩ = some (.int .i64 (d : Int)) := (Bx.new wr _ _).cell 0
              have e1 : (wr.alloc (.cells #[.int .i64 (d : Int), .int .i64 (s : Int)] 39)).cell? ⟨wr.heap.size, 1, none⟩ = some (.int .i64 (s : Int)) := (Bx.new wr _ _).cell 1
              have t0 := cell_regrown e0
              have t1 := cell_regrown e1
              have hcs := HC1.out d s hlt hst
              have HL2 : Hid (∀ w', Below (wr.alloc (.cells #[.int .i64 (d : Int), .int .i64 (s : Int)] 39)).heap.size (wr.alloc (.cells #[.int .i64 (d : Int), .int .i64 (s : Int)] 39)) w' → Calls Try.prog 15 #[.slice a2 P.length c2, .agg #[.int .i64 (d : Int), .int .i64 (s : Int)]] w' fun e w'' => e = .returned (.bool (tt (PlIn ((d : Int), (s : Int)) P))) ∧ Below w'.heap.size w' w'') := fun w' hw => lpaIn_any ((d : Int), (s : Int)) a2 c2 P w' hPm ((HP2.out.below HBc.out).below hw)
              have HL4 : Hid (∀ w', Below (wr.alloc (.cells #[.int .i64 (d : Int), .int .i64 (s : Int)] 39)).heap.size (wr.alloc (.cells #[.int .i64 (d : Int), .int .i64 (s : Int)] 39)) w' → Calls Try.prog 15 #[.slice a4 A.length c4, .agg #[.int .i64 (d : Int), .int .i64 (s : Int)]] w' fun e w'' => e = .returned (.bool (tt (PlIn ((d : Int), (s : Int)) A))) ∧ Below w'.heap.size w' w'') := fun w' hw => lpaIn_any ((d : Int), (s : Int)) a4 c4 A w' hAm ((HP4.out.below HBc.out).below hw)
              have HL5 : Hid (∀ w', Below (wr.alloc (.cells #[.int .i64 (d : Int), .int .i64 (s : Int)] 39)).heap.size (wr.alloc (.cells #[.int .i64 (d : Int), .int .i64 (s : Int)] 39)) w' → Calls Try.prog 15 #[.slice a5 B.length c5, .agg #[.int .i64 (d : Int), .int .i64 (s : Int)]] w' fun e w'' => e = .returned (.bool (tt (PlIn ((d : Int), (s : Int)) B))) ∧ Below w'.heap.size w' w'') := fun w' hw => lpaIn_any ((d : Int), (s : Int)) a5 c5 B w' hBm ((HP5.out.below HBc.out).below hw)
              clear e0 e1 hBc
              generalize hW : wr.alloc (.cells #[.int .i64 (d : Int), .int .i64 (s : Int)] 39) = W at HBc t0 t1 HL2 HL4 HL5
              generalize hD2 : wr.heap.size = D2 at t0 t1
              rcases hcs with ⟨h1, h2⟩ | ⟨h1, h2, h3⟩ | ⟨h1, h2, h3⟩
              · rw [tt_false h2] at HL2
                rw [tt_true h1] at HL4
                go_wp2_with fail
                try simp only [hW, hD2]
                refine wp_region_quiet_below (by kernel_rfl) (by kernel_rfl) ?_
                repeat (go_big_quiet_step (first | (go_at_call 15; with_reducible exact Calls.regrown_of (HL2.out _ (below_regrown _ _ _))) | (go_at_call 15; with_reducible exact Calls.regrown_of (HL4.out _ (below_regrown _ _ _))) | (go_at_call 15; with_reducible exact Calls.regrown_of (HL5.out _ (below_regrown _ _ _)))))
                refine wpQuiet_nil ?_
                intro w9 hw9
                have HB9 : Hid (Below w8.heap.size w8 w9) := by obtain ⟨p, rfl⟩ := hw9; exact rg_below HBc.out _ _
                clear hw9
                go_wp2
                exact ⟨⟨s + 1, by go_num, by omega, HB9⟩, by simp [intOf]; omega⟩
              · rw [tt_false h3] at HL2
                rw [tt_false h1] at HL4
                rw [tt_true h2] at HL5
                go_wp2_with fail
                try simp only [hW, hD2]
                refine wp_region_quiet_below (by kernel_rfl) (by kernel_rfl) ?_
                repeat (go_big_quiet_step (first | (go_at_call 15; with_reducible exact Calls.regrown_of (HL2.out _ (below_regrown _ _ _))) | (go_at_call 15; with_reducible exact Calls.regrown_of (HL4.out _ (below_regrown _ _ _))) | (go_at_call 15; with_reducible exact Calls.regrown_of (HL5.out _ (below_regrown _ _ _)))))
                refine wpQuiet_nil ?_
                intro w9 hw9
                have HB9 : Hid (Below w8.heap.size w8 w9) := by obtain ⟨p, rfl⟩ := hw9; exact rg_below HBc.out _ _
                clear hw9
                go_wp2
                exact ⟨⟨s + 1, by go_num, by omega, HB9⟩, by simp [intOf]; omega⟩
              · rw [tt_true h3] at HL2
                rw [tt_false h1] at HL4
                rw [tt_false h2] at HL5
                go_wp2_with fail
                try simp only [hW, hD2]
                refine wp_region_quiet_below (by kernel_rfl) (by kernel_rfl) ?_
                repeat (go_big_quiet_step (first | (go_at_call 15; with_reducible exact Calls.regrown_of (HL2.out _ (below_regrown _ _ _))) | (go_at_call 15; with_reducible exact Calls.regrown_of (HL4.out _ (below_regrown _ _ _))) | (go_at_call 15; with_reducible exact Calls.regrown_of (HL5.out _ (below_regrown _ _ _)))))
                refine wpQuiet_nil ?_
                intro w9 hw9
                have HB9 : Hid (Below w8.heap.size w8 w9) := by obtain ⟨p, rfl⟩ := hw9; exact rg_below HBc.out _ _
                clear hw9
                go_wp2
                exact ⟨⟨s + 1, by go_num, by omega, HB9⟩, by simp [intOf]; omega⟩
            · go_wp2
              exact ⟨⟨d + 1, by go_num, by omega, hBq⟩, by simp [intOf]; omega⟩
        · have q0 : decide ((d : Int) < n) = false := by simpa using hlt
          replace HXa := Lib.hid (HXa.out.below hBr.out)
          replace HXb := Lib.hid (HXb.out.below hBr.out)
          replace HP2 := Lib.hid (HP2.out.below hBr.out)
          replace k0 := cell_below hBr.out k0
          replace k1 := cell_below hBr.out k1
          replace k2 := cell_below hBr.out k2
          replace k3 := cell_below hBr.out k3
          replace HB := Lib.hid (HB.out.trans (hBr.out.mono hs8))
          go_wp2_with fail
          refine (HK.out _ HXb HXa).mono ?_
          rintro e w10 ⟨v6, rfl, ho, hB⟩
          obtain ⟨a6, c6, rfl, _, _, hx⟩ := ho.reads
          replace HXa := Lib.hid (HXa.out.below hB)
          replace HXb := Lib.hid (HXb.out.below hB)
          replace HP2 := Lib.hid (HP2.out.below hB)
          replace k0 := cell_below hB k0
          replace k1 := cell_below hB k1
          replace k2 := cell_below hB k2
          replace k3 := cell_below hB k3
          replace HB := Lib.hid (HB.out.trans (hB.mono HB.out.size))
          have HP6 := Lib.hid hx
          clear hB hx ho
          go_wp2_with fail
          refine (lpaPlaces_any a2 a6 c2 c6 P P _ hPm hPm HP2 HP6).mono ?_
          rintro e w11 ⟨rfl, hB⟩
          rw [tt_true (rfl : P = P)]
          go_wp2
          go_ret
          exact ⟨rfl, HB.out.trans (hB.mono HB.out.size)⟩
    · rw [tt_false hokb] at HRb
      go_wp2_with fail
      refine (HRb.out _ HXb).mono ?_
      rintro e w6 ⟨rfl, hB⟩
      replace HXa := Lib.hid (HXa.out.below hB)
      replace HXb := Lib.hid (HXb.out.below hB)
      replace HP2 := Lib.hid (HP2.out.below hB)
      replace k0 := cell_below hB k0
      replace k1 := cell_below hB k1
      replace k2 := cell_below hB k2
      replace k3 := cell_below hB k3
      replace HB := Lib.hid (HB.out.trans (hB.mono HB.out.size))
      clear hB
      go_wp2_with fail
      refine (HJ.out _ HXa HXb).mono ?_
      rintro e w71 ⟨v8, rfl, ho, hB⟩
      obtain ⟨a8, c8, rfl, _, _, hx⟩ := ho.reads
      replace HXa := Lib.hid (HXa.out.below hB)
      replace HXb := Lib.hid (HXb.out.below hB)
      replace HP2 := Lib.hid (HP2.out.below hB)
      replace k0 := cell_below hB k0
      replace k1 := cell_below hB k1
      replace k2 := cell_below hB k2
      replace k3 := cell_below hB k3
      replace HB := Lib.hid (HB.out.trans (hB.mono HB.out.size))
      have HP8 := Lib.hid hx
      clear hB hx ho
      go_wp2_with fail
      refine (lpaPlaces_any a2 a8 c2 c8 P P _ hPm hPm HP2 HP8).mono ?_
      rintro e w72 ⟨rfl, hB⟩
      rw [tt_true (rfl : P = P)]
      go_wp2
      go_ret
      exact ⟨rfl, HB.out.trans (hB.mono HB.out.size)⟩
  · rw [tt_false hoka] at HRa
    go_wp2_with fail
    refine (HRa.out _ HXa).mono ?_
    rintro e w5 ⟨rfl, hB⟩
    replace HXa := Lib.hid (HXa.out.below hB)
    replace HXb := Lib.hid (HXb.out.below hB)
    replace HP2 := Lib.hid (HP2.out.below hB)
    replace k0 := cell_below hB k0
    replace k1 := cell_below hB k1
    replace k2 := cell_below hB k2
    replace k3 := cell_below hB k3
    replace HB := Lib.hid (HB.out.trans (hB.mono HB.out.size))
    clear hB
    go_wp2_with fail
    refine (HJ.out _ HXa HXb).mono ?_
    rintro e w71 ⟨v8, rfl, ho, hB⟩
    obtain ⟨a8, c8, rfl, _, _, hx⟩ := ho.reads
    replace HXa := Lib.hid (HXa.out.below hB)
    replace HXb := Lib.hid (HXb.out.below hB)
    replace HP2 := Lib.hid (HP2.out.below hB)
    replace k0 := cell_below hB k0
    replace k1 := cell_below hB k1
    replace k2 := cell_below hB k2
    replace k3 := cell_below hB k3
    replace HB := Lib.hid (HB.out.trans (hB.mono HB.out.size))
    have HP8 := Lib.hid hx
    clear hB hx ho
    go_wp2_with fail
    refine (lpaPlaces_any a2 a8 c2 c8 P P _ hPm hPm HP2 HP8).mono ?_
    rintro e w72 ⟨rfl, hB⟩
    rw [tt_true (rfl : P = P)]
    go_wp2
    go_ret
    exact ⟨rfl, HB.out.trans (hB.mono HB.out.size)⟩

set_option maxRecDepth 100000 in
set_option maxHeartbeats 1000000 in
theorem walk (a0 : Option Addr) (len0 cap0 : Nat) (z0 : List Int) (w : World) (w0 : IsBytes w a0 len0 cap0 z0) :
    Calls Try.prog 5 #[.slice a0 len0 cap0] w fun e w' => e = .returned (.bool true) ∧ Below w.heap.size w w' := by
  by_cases h0 : len0 ≤ 1048576
  · exact main a0 len0 cap0 z0 w h0 w0
  · have hm : len0 ≤ maxLen := by have := w0.opened; omega
    have d0 : decide (1048576 < (len0 : Int)) = true := by simp; omega
    clear w0
    go_enter Try.func5, Try.ntmps5
    go_wp2
    go_ret
    exact ⟨rfl, Below.refl _ _⟩

set_option maxRecDepth 100000 in
theorem lifted (os : Os) (started : os.Started) (H : Type) (enc : TypeId × Value → H) :
    ReturnsInHanded {} Try.checked os 5 .any (Rows.fnSpaceFreeSpec.pre6 enc Try.prog Try.f5 Rows.fnSpaceFreeRow.domain false) (Rows.fnSpaceFreeSpec.post enc Try.prog Try.f5 false true false false) := by
  refine returnsInHanded_of_change (C := Try.checked) own started (by kernel_rfl) Try.func5
    (ChangeSpec.witness6 (enc := enc) (C := Try.checked) false ⟨#[], #[.slice none 0 0], []⟩ 8 (by kernel_rfl) (by kernel_rfl) (by kernel_rfl) (by kernel_rfl)) ?_
  intro W base args ds gs before hval0 hW hcnd _
  have hval : ∀ (j : Nat) t v, Try.f5.params[j]? = some t → args[j]? = some v → Value.okWide Try.prog W .any base t v := hval0
  have hW' := hW
  obtain ⟨p, q, hA0, hV, rfl, hfz, hnd⟩ := hW
  have hA : DataW.TrodAll enc Try.prog W 0 (fun _ => true) true Try.f5.params.toList args.toList ds p := hA0
  rw [Try.params5] at hA hval
  obtain ⟨v0, vs0, d0, ds0, p0, q0, hargs, rfl, rfl, h0, r0⟩ := trodAll_cons hA
  obtain ⟨rfl, rfl, rfl⟩ := trodAll_nil r0
  obtain rfl : args = #[v0] := by cases args; simp_all
  obtain ⟨rfl, rfl⟩ := trodVars_none hV
  have k0 := h0
  have lt0 : ∀ x ∈ p0, x.block < W.heap.size := by obtain ⟨m, hm⟩ := k0; exact DataW.trod_lt m _ _ _ hm
  obtain ⟨a0, len0, cap0, rfl⟩ := okWide_slice Try.underlying22 (hval 0 22 v0 rfl rfl)
  obtain ⟨z0, w0⟩ : ∃ zs, IsBytes W a0 len0 cap0 zs := by
    obtain ⟨fuel, hf⟩ := h0
    rcases open_ints Try.underlying22 Try.underlying5 (by kernel_rfl) hf with ⟨hcs, _⟩ | ⟨x, l, c, zs, hcs, _, hl, hm, hz, _, hcell, hwz⟩
    · simp [Value.cells] at hcs
      obtain ⟨rfl, rfl, rfl⟩ := hcs
      exact ⟨[], .inl ⟨rfl, rfl, rfl, rfl⟩⟩
    · simp [Value.cells] at hcs
      obtain ⟨rfl, rfl, rfl⟩ := hcs
      exact ⟨zs, .inr ⟨_, rfl, hl, hm, by simpa using hz, hcell, hwz⟩⟩
  clear hA0 hval0
  refine (walk a0 len0 cap0 z0 W w0).mono fun e W' ⟨he, bel⟩ => ?_
  subst he
  exact ⟨_, rfl, _, _, _, [], _, [], hW', trodAll_mk1 (shut_bool Try.underlying4 _), (trodAll_cons_mk (Below.trod laidOut (by kernel_rfl) (of_decide_eq_true (by kernel_rfl)) k0 bel lt0) trodAll_mk0), rfl, bel.frame _, fun h => by cases h⟩

theorem over : Rows.fnSpaceFreeRow.holds Try.pinned (OpenSpec.ofChange Rows.fnSpaceFreeSpec) :=
  OpenClaim.holds_of_wide 5 Try.f5 rfl rfl rfl rfl rfl rfl rfl ⟨rfl, rfl, rfl, rfl, rfl⟩ rfl rfl rfl rfl rfl (by kernel_rfl) Try.func5 (by kernel_rfl)
    (of_decide_eq_true (by kernel_rfl)) (by unfold Func.isWrapper; first | (rw [if_pos (by decide +kernel)]; kernel_rfl) | (rw [if_neg (by decide +kernel)]; exact ⟨rfl, rfl⟩))
    (fun os started H enc _ => lifted os started H enc)

end FnSpaceFree

theorem FnSpaceFree_holds : Rows.FnSpaceFreeSaid := FnSpaceFree.over

end Go.Proofs.Ytlonecgmldjdpaa
