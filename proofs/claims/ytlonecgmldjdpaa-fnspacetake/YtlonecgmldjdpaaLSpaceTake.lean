/- 'laws.FnSpaceTake' returns true at every code: of two drawn roots and a number SpaceTake of the program answers as SpaceTake of the specification, and if the roots are ok, and there are so many disks, what is taken was free, each on a disk of its own, and none is taken only if too few disks have a free place. Conditions: none. -/
import Derived.Test.YtlonecgmldjdpaaFT
import Derived.Test.YtlonecgmldjdpaaK
import Derived.Test.YtlonecgmldjdpaaDTR
import Derived.Test.YtlonecgmldjdpaaPL
import Derived.Test.YtlonecgmldjdpaaMT
import Derived.Test.YtlonecgmldjdpaaRG
namespace Go.Proofs.Ytlonecgmldjdpaa
open Go.ChangeShapes Go.WideShapes Go.ChangeAt Go.RowKit Go.Sort
namespace FnSpaceTake
set_option linter.unusedVariables false

set_option maxRecDepth 100000 in
set_option maxHeartbeats 4000000 in
theorem main (a : Option Addr) (len cap : Nat) (z0 : List Int) (w : World) (h0 : len ≤ 1048576) (H : Hid (IsBytes w a len cap z0)) :
    Calls Try.prog 6 #[.slice a len cap] w fun e w' => e = .returned (.bool true) ∧ Below w.heap.size w w' := by
  have d0 : decide (1048576 < (len : Int)) = false := by simp; omega
  go_enter Try.func6, Try.ntmps6
  go_wp2_with fail
  refine (drawTake_any a len cap z0 _ H.out).mono ?_
  rintro e w1 ⟨n, ta, tb, kk, aa, ab, ca, cb, va, vb, rfl, hn, hLa, hLb, hva, hvb, hk1, hk2, hB1⟩
  obtain ⟨hVa, hnma⟩ := hLa.reads
  obtain ⟨_, _, ea, hca1, hca2, hXa⟩ := hVa
  cases ea
  have HNa : Hid (∀ j, j < va.length → (va.getD j vol0).name.size ≤ maxLen) := fun j hj => Nat.le_trans (hnma j hj) (by simp [maxLen])
  have hma : va.length ≤ maxLen := by simp [maxLen]; omega
  obtain ⟨hVb, hnmb⟩ := hLb.reads
  obtain ⟨_, _, eb, hcb1, hcb2, hXb⟩ := hVb
  cases eb
  have HNb : Hid (∀ j, j < vb.length → (vb.getD j vol0).name.size ≤ maxLen) := fun j hj => Nat.le_trans (hnmb j hj) (by simp [maxLen])
  have hmb : vb.length ≤ maxLen := by simp [maxLen]; omega
  have hBa : Below w1.heap.size w1 ((w1.alloc (.cells #[.int .i64 ta, .slice aa va.length ca] 25)).alloc (.cells #[.int .i64 tb, .slice ab vb.length cb] 25)) := ((Below.refl _ _).alloc (Nat.le_refl _) _).alloc (by simp) _
  have HXa := Lib.hid (hXa.below hBa)
  have HXb := Lib.hid (hXb.below hBa)
  have HB := Lib.hid (hB1.trans (hBa.mono hB1.size))
  have k0 : ((w1.alloc (.cells #[.int .i64 ta, .slice aa va.length ca] 25)).alloc (.cells #[.int .i64 tb, .slice ab vb.length cb] 25)).cell? ⟨w1.heap.size, 0, none⟩ = some (.int .i64 ta) := cell_below ((Below.refl _ _).alloc (Nat.le_refl _) _) ((Bx.new w1 #[.int .i64 ta, .slice aa va.length ca] 25).cell 0)
  have k1 : ((w1.alloc (.cells #[.int .i64 ta, .slice aa va.length ca] 25)).alloc (.cells #[.int .i64 tb, .slice ab vb.length cb] 25)).cell? ⟨w1.heap.size, 1, none⟩ = some (.slice aa va.length ca) := cell_below ((Below.refl _ _).alloc (Nat.le_refl _) _) ((Bx.new w1 #[.int .i64 ta, .slice aa va.length ca] 25).cell 1)
  have k2 : ((w1.alloc (.cells #[.int .i64 ta, .slice aa va.length ca] 25)).alloc (.cells #[.int .i64 tb, .slice ab vb.length cb] 25)).cell? ⟨w1.heap.size + 1, 0, none⟩ = some (.int .i64 tb) := by
    have h := (Bx.new (w1.alloc (.cells #[.int .i64 ta, .slice aa va.length ca] 25)) #[.int .i64 tb, .slice ab vb.length cb] 25).cell 0
    simp only [World.size_alloc] at h
    exact h
  have k3 : ((w1.alloc (.cells #[.int .i64 ta, .slice aa va.length ca] 25)).alloc (.cells #[.int .i64 tb, .slice ab vb.length cb] 25)).cell? ⟨w1.heap.size + 1, 1, none⟩ = some (.slice ab vb.length cb) := by
    have h := (Bx.new (w1.alloc (.cells #[.int .i64 ta, .slice aa va.length ca] 25)) #[.int .i64 tb, .slice ab vb.length cb] 25).cell 1
    simp only [World.size_alloc] at h
    exact h
  have HS := Lib.hid (fun w' ha hb => specTake_any n ta tb kk aa ab ca cb va vb w' hma hmb HNa HNb ha hb)
  have HI := Lib.hid (fun w' ha hb => implTake_any n ta tb kk aa ab ca cb va vb w' hca1 hcb1 HNa HNb ha hb)
  have HF := Lib.hid (fun w' ha hb => implFree_any n ta tb aa ab ca cb va vb w' hca1 hcb1 HNa HNb ha hb)
  have HRa := Lib.hid (fun w' h => specRoot_any n ⟨ta, va⟩ aa ca w' hma HNa h)
  have HRb := Lib.hid (fun w' h => specRoot_any n ⟨tb, vb⟩ ab cb w' hmb HNb h)
  simp only at HRa HRb
  have hP48 := fre_length n ⟨ta, va⟩ ⟨tb, vb⟩
  have hT48 := tak_length n ⟨ta, va⟩ ⟨tb, vb⟩ kk
  have hn3 := hn.1
  have hn4 := hn.2
  have HSo := Lib.hid (fun (h : 1 ≤ kk ∧ kk ≤ n) acc hk => tak_some (ra := ⟨ta, va⟩) (rb := ⟨tb, vb⟩) (acc := acc) h hk)
  have HNo := Lib.hid (fun (h : 1 ≤ kk ∧ kk ≤ n) hk => tak_none (ra := ⟨ta, va⟩) (rb := ⟨tb, vb⟩) h hk)
  have HPs := Lib.hid (fre_sorted n ⟨ta, va⟩ ⟨tb, vb⟩)
  have HPr := Lib.hid (fre_range n ⟨ta, va⟩ ⟨tb, vb⟩)
  generalize tak n ⟨ta, va⟩ ⟨tb, vb⟩ kk = T at HS HI hT48 HSo HNo
  generalize takB n ⟨ta, va⟩ ⟨tb, vb⟩ kk = bb at HS HI HSo HNo
  generalize fre n ⟨ta, va⟩ ⟨tb, vb⟩ = P at HF hP48 HSo HNo HPs HPr
  have hTm : T.length ≤ maxLen := by simp [maxLen]; omega
  have hPm : P.length ≤ maxLen := by simp [maxLen]; omega
  have ebb : (bb != bb) = false := by simp
  have ebb2 : (bb == bb) = true := by simp
  clear hLa hLb hXa hXb hnma hnmb hBa hB1
  go_wp2_with fail
  generalize hgD : w1.heap.size = D at k0 k1 k2 k3 ⊢
  clear hgD
  generalize ((w1.alloc (.cells #[.int .i64 ta, .slice aa va.length ca] 25)).alloc (.cells #[.int .i64 tb, .slice ab vb.length cb] 25)) = wa at HXa HXb HB k0 k1 k2 k3 ⊢
  refine (HS.out _ HXa HXb).mono ?_
  rintro e w2 ⟨v2, rfl, ho, hB⟩
  obtain ⟨a2, c2, rfl, _, _, hx⟩ := ho.reads
  replace HXa := Lib.hid (HXa.out.below hB)
  replace HXb := Lib.hid (HXb.out.below hB)
  replace k0 := cell_below hB k0
  replace k1 := cell_below hB k1
  replace k2 := cell_below hB k2
  replace k3 := cell_below hB k3
  replace HB := Lib.hid (HB.out.trans (hB.mono HB.out.size))
  have HP2 := Lib.hid hx
  clear hB hx ho HS
  go_wp2_with fail
  refine (HI.out _ HXa HXb).mono ?_
  rintro e w3 ⟨v3, rfl, ho, hB⟩
  obtain ⟨a3, c3, rfl, _, _, hx⟩ := ho.reads
  replace HXa := Lib.hid (HXa.out.below hB)
  replace HXb := Lib.hid (HXb.out.below hB)
  replace HP2 := Lib.hid (HP2.out.below hB)
  replace k0 := cell_below hB k0
  replace k1 := cell_below hB k1
  replace k2 := cell_below hB k2
  replace k3 := cell_below hB k3
  replace HB := Lib.hid (HB.out.trans (hB.mono HB.out.size))
  have HP3 := Lib.hid hx
  clear hB hx ho
  clear HI
  go_wp2_with fail
  refine (lpaPlaces_any a3 a2 c3 c2 T T _ hTm hTm HP3 HP2).mono ?_
  rintro e w4 ⟨rfl, hB⟩
  replace HXa := Lib.hid (HXa.out.below hB)
  replace HXb := Lib.hid (HXb.out.below hB)
  replace HP2 := Lib.hid (HP2.out.below hB)
  replace HP3 := Lib.hid (HP3.out.below hB)
  replace k0 := cell_below hB k0
  replace k1 := cell_below hB k1
  replace k2 := cell_below hB k2
  replace k3 := cell_below hB k3
  replace HB := Lib.hid (HB.out.trans (hB.mono HB.out.size))
  clear hB
  rw [tt_true (rfl : T = T)]
  by_cases hoka : RootOkP n ⟨ta, va⟩
  · rw [tt_true hoka] at HRa
    go_wp2_with fail
    refine (HRa.out _ HXa).mono ?_
    rintro e w5 ⟨rfl, hB⟩
    replace HXa := Lib.hid (HXa.out.below hB)
    replace HXb := Lib.hid (HXb.out.below hB)
    replace HP2 := Lib.hid (HP2.out.below hB)
    replace HP3 := Lib.hid (HP3.out.below hB)
    replace k0 := cell_below hB k0
    replace k1 := cell_below hB k1
    replace k2 := cell_below hB k2
    replace k3 := cell_below hB k3
    replace HB := Lib.hid (HB.out.trans (hB.mono HB.out.size))
    clear hB
    clear hoka
    by_cases hokb : RootOkP n ⟨tb, vb⟩
    · rw [tt_true hokb] at HRb
      go_wp2_with fail
      refine (HRb.out _ HXb).mono ?_
      rintro e w6 ⟨rfl, hB⟩
      replace HXa := Lib.hid (HXa.out.below hB)
      replace HXb := Lib.hid (HXb.out.below hB)
      replace HP2 := Lib.hid (HP2.out.below hB)
      replace HP3 := Lib.hid (HP3.out.below hB)
      replace k0 := cell_below hB k0
      replace k1 := cell_below hB k1
      replace k2 := cell_below hB k2
      replace k3 := cell_below hB k3
      replace HB := Lib.hid (HB.out.trans (hB.mono HB.out.size))
      clear hB
      clear hokb
      by_cases h1 : kk < 1
      · have q1 : decide (kk < 1) = true := by simp [h1]
        go_wp2_with fail
        refine (lpaPlaces_any a3 a2 c3 c2 T T _ hTm hTm HP3 HP2).mono ?_
        rintro e w7 ⟨rfl, hB⟩
        rw [tt_true (rfl : T = T)]
        go_wp2
        go_ret
        exact ⟨rfl, HB.out.trans (hB.mono HB.out.size)⟩
      · have q1 : decide (kk < 1) = false := by simp; omega
        by_cases h2 : n < kk
        · have q2 : decide (n < kk) = true := by simp [h2]
          go_wp2_with fail
          refine (lpaPlaces_any a3 a2 c3 c2 T T _ hTm hTm HP3 HP2).mono ?_
          rintro e w7 ⟨rfl, hB⟩
          rw [tt_true (rfl : T = T)]
          go_wp2
          go_ret
          exact ⟨rfl, HB.out.trans (hB.mono HB.out.size)⟩
        · have q2 : decide (n < kk) = false := by simp; omega
          obtain ⟨nn, rfl⟩ := Int.eq_ofNat_of_zero_le (show 0 ≤ n by omega)
          obtain ⟨cc, rfl⟩ := Int.eq_ofNat_of_zero_le (show 0 ≤ kk by omega)
          have HPr2 : Hid (∀ q ∈ P, 0 ≤ q.1 ∧ q.1 < (nn : Int)) := fun q hq => (HPr.out q hq).1
          have hin : 1 ≤ (cc : Int) ∧ (cc : Int) ≤ (nn : Int) := ⟨by omega, by omega⟩
          have HSo1 := Lib.hid (HSo.out hin)
          have HNo1 := Lib.hid (HNo.out hin)
          simp only [Int.toNat_natCast] at HSo1 HNo1
          have hcn : cc ≤ nn := by omega
          have hnn4 : nn ≤ 4 := by omega
          clear HSo HNo HPr hin HRa HRb
          go_wp2_with fail
          refine (HF.out _ HXa HXb).mono ?_
          rintro e w7 ⟨v4, rfl, ho, hB⟩
          obtain ⟨a4, c4, rfl, _, _, hx⟩ := ho.reads
          replace HXa := Lib.hid (HXa.out.below hB)
          replace HXb := Lib.hid (HXb.out.below hB)
          replace HP2 := Lib.hid (HP2.out.below hB)
          replace HP3 := Lib.hid (HP3.out.below hB)
          replace k0 := cell_below hB k0
          replace k1 := cell_below hB k1
          replace k2 := cell_below hB k2
          replace k3 := cell_below hB k3
          replace HB := Lib.hid (HB.out.trans (hB.mono HB.out.size))
          have HP4 := Lib.hid hx
          clear hB hx ho
          clear HF
          have hd4 := dks_le P nn
          go_wp2_with fail
          go_loopw [12, 13] (fun c d wr => ∃ k : Nat, d = .int .i64 (k : Int) ∧ c = .int .i64 (dks P k : Int) ∧ k ≤ nn ∧ Hid (Below w7.heap.size w7 wr)) (fun _ d _ => nn - (intOf d).toNat)
          case atStart => exact ⟨0, rfl, rfl, by omega, Below.refl _ _⟩
          case round =>
            obtain ⟨k, rfl, rfl, hk, hBr⟩ := hrel
            have hdk := dks_le P k
            by_cases hkn : k < nn
            · have HDs := Lib.hid (dks_succ P k)
              have ik : (k : Int) < (nn : Int) := by omega
              generalize dks P k = ck at HDs hdk
              go_wp2_with fail
              go_loopw [14, 15] (fun h i wq => ∃ m : Nat, i = .int .i64 (m : Int) ∧ h = .bool (tt (Has (P.take m) (k : Int))) ∧ m ≤ P.length ∧ Hid (Below w7.heap.size w7 wq)) (fun _ i _ => P.length - (intOf i).toNat)
              case atStart => exact ⟨0, rfl, by rw [List.take_zero, tt_false (has_nil _)], by omega, hBr⟩
              case round =>
                obtain ⟨m, rfl, rfl, hm, hBq⟩ := hrel
                by_cases hmt : m < P.length
                · obtain ⟨pb, po, rfl, hpc⟩ := (HP4.out.below hBq.out).resolve_left (fun e => by subst e; simp at hmt)
                  obtain ⟨y0, y1⟩ := hpc m hmt
                  have HTs := Lib.hid (tt_congr (has_take_succ hmt (k : Int)))
                  have HTn := Lib.hid (fun h => has_take_succ hmt (k : Int) |>.2 (.inr h))
                  generalize P.getD m pl0 = pm at y0 y1 HTs HTn
                  have im0 : (0 : Int) ≤ (m : Int) := by omega
                  have im1 : (m : Int) < (P.length : Int) := by omega
                  clear hpc
                  by_cases hh : Has (P.take m) (k : Int)
                  · have HV : Hid (Value.bool true = .bool (tt (Has (P.take (m + 1)) (k : Int)))) := by
                      show _ = _
                      rw [HTs.out, tt_true (.inl hh)]
                    rw [tt_true hh]
                    clear hh HTs HTn
                    go_wp2
                    exact ⟨⟨m + 1, by go_num, HV.out, by omega, hBq⟩, by simp [intOf]; omega⟩
                  · by_cases he : pm.1 = (k : Int)
                    · have q3 : (pm.1 == (k : Int)) = true := by simp [he]
                      have HV : Hid (Value.bool true = .bool (tt (Has (P.take (m + 1)) (k : Int)))) := by
                        show _ = _
                        rw [HTs.out, tt_true (.inr he)]
                      rw [tt_false hh]
                      clear hh HTs HTn he
                      go_wp2
                      exact ⟨⟨m + 1, by go_num, HV.out, by omega, hBq⟩, by simp [intOf]; omega⟩
                    · have q3 : (pm.1 == (k : Int)) = false := by simp [he]
                      have HV : Hid (Value.bool false = .bool (tt (Has (P.take (m + 1)) (k : Int)))) := by
                        show _ = _
                        rw [HTs.out, tt_false (fun x => x.elim hh he)]
                      rw [tt_false hh]
                      clear hh HTs HTn he
                      go_wp2
                      exact ⟨⟨m + 1, by go_num, HV.out, by omega, hBq⟩, by simp [intOf]; omega⟩
                · obtain rfl : m = P.length := by omega
                  have hd1 := HDs.out
                  rw [← tt_congr (has_take_all P (k : Int))] at hd1
                  by_cases hh : Has (P.take P.length) (k : Int)
                  · rw [tt_true hh] at hd1 ⊢
                    have HV : Hid (Value.int .i64 ((ck : Int) + 1) = .int .i64 (dks P (k + 1) : Int)) := by
                      show _ = _
                      rw [hd1]
                      simp
                    clear hd1 HDs hh
                    go_wp2
                    exact ⟨⟨k + 1, by go_num, HV.out, by omega, hBq⟩, by simp [intOf]; omega⟩
                  · rw [tt_false hh] at hd1 ⊢
                    have HV : Hid (Value.int .i64 ((ck : Int)) = .int .i64 (dks P (k + 1) : Int)) := by
                      show _ = _
                      rw [hd1]
                      simp
                    clear hd1 HDs hh
                    go_wp2
                    exact ⟨⟨k + 1, by go_num, HV.out, by omega, hBq⟩, by simp [intOf]; omega⟩
            · obtain rfl : k = nn := by omega
              have hs7 := HB.out.size
              cases hK : tks P cc with
              | none =>
                obtain ⟨rfl, rfl⟩ := HNo1.out hK
                have hfew := few_disks HPs.out HPr2.out hK
                have q4 : decide ((dks P k : Int) < (cc : Int)) = true := by simp; omega
                have q4n : decide (dks P k < cc) = true := by simp; omega
                generalize dks P k = ck at q4 q4n hdk ⊢
                clear hfew hK HNo1 HSo1
                go_wp2
                go_ret
                exact ⟨rfl, HB.out.trans (hBr.out.mono hs7)⟩
              | some acc =>
                obtain ⟨e1, rfl⟩ := HSo1.out acc hK
                subst e1
                have hTk := taken_of HPr2.out hK
                have hTl := tks_length hK
                have hTL := hTk.left
                have HTk := Lib.hid hTk
                have q5 : decide ((cc : Int) ≤ (dks P k : Int)) = true := by simp; omega
                have q5n : decide (cc ≤ dks P k) = true := by simp; omega
                have HTl := Lib.hid hTl
                generalize dks P k = ck at q5 q5n hdk ⊢
                clear hTk hTL hTl hK HNo1 HSo1 hd4
                go_wp2_with fail
                go_loopw [16] (fun i wr => ∃ j : Nat, i = .int .i64 (j : Int) ∧ j ≤ T.length ∧ Hid (Below w7.heap.size w7 wr)) (fun i _ => T.length - (intOf i).toNat)
                case atStart => exact ⟨0, rfl, by omega, hBr⟩
                case round =>
                  obtain ⟨j, rfl, hj, hBq⟩ := hrel
                  by_cases hjt : j < T.length
                  · have HX3 := Lib.hid ((HP3.out.resolve_left (fun e => by subst e; simp at hjt)))
                    obtain ⟨pb, po, rfl, hpc⟩ := HX3.out
                    have Hpc := Lib.hid hpc
                    have ij0 : (0 : Int) ≤ (j : Int) := by omega
                    have ij1 : (j : Int) < (T.length : Int) := by omega
                    clear hpc HX3
                    go_wp2_with fail
                    go_loopw [17] (fun i wp => ∃ m : Nat, i = .int .i64 (m : Int) ∧ m ≤ j ∧ Hid (Below w7.heap.size w7 wp)) (fun i _ => j - (intOf i).toNat)
                    case atStart => exact ⟨0, rfl, by omega, hBq⟩
                    case round =>
                      obtain ⟨m, rfl, hm, hBp⟩ := hrel
                      have y0 := cell_below hBp.out (Hpc.out j hjt).1
                      have y1 := cell_below hBp.out (Hpc.out j hjt).2
                      by_cases hmj : m < j
                      · have z0 := cell_below hBp.out (Hpc.out m (by omega)).1
                        have hne := HTk.out.own j m hmj hjt
                        generalize T.getD j pl0 = pj at y0 y1 hne
                        generalize T.getD m pl0 = pm at z0 hne
                        have q7 : (pm.1 == pj.1) = false := by simpa using hne
                        have im0 : (0 : Int) ≤ (m : Int) := by omega
                        have im1 : (m : Int) < (T.length : Int) := by omega
                        clear hne
                        go_wp2_with fail
                        go_quiet (fail)
                        go_wp2
                        exact ⟨⟨m + 1, by go_num, by omega, belowN hBp.out _⟩, by simp [intOf]; omega⟩
                      · obtain rfl : m = j := by omega
                        have hin := (plIn_mem _ _).2 (HTk.out.free _ (getD_mem' hjt))
                        have HL := Lib.hid (fun w' h => lpaIn_any (T.getD m pl0) a4 c4 P w' hPm h)
                        rw [tt_true hin] at HL
                        generalize T.getD m pl0 = pj at y0 y1 HL
                        clear hin
                        go_wp2_with fail
                        refine (HL.out _ (HP4.out.below hBp.out)).mono ?_
                        rintro e w9 ⟨rfl, hB9⟩
                        have HB9 := Lib.hid (hBp.out.trans (hB9.mono hBp.out.size))
                        clear hB9 y0 y1
                        go_wp2
                        exact ⟨⟨m + 1, by go_num, by omega, HB9⟩, by simp [intOf]; omega⟩
                  · have q6 : ((T.length : Int) == (cc : Int)) = true := by have := HTl.out; simp; omega
                    go_wp2
                    go_ret
                    exact ⟨rfl, HB.out.trans (hBq.out.mono hs7)⟩
    · rw [tt_false hokb] at HRb
      go_wp2_with fail
      refine (HRb.out _ HXb).mono ?_
      rintro e w6 ⟨rfl, hB⟩
      replace HXa := Lib.hid (HXa.out.below hB)
      replace HXb := Lib.hid (HXb.out.below hB)
      replace HP2 := Lib.hid (HP2.out.below hB)
      replace HP3 := Lib.hid (HP3.out.below hB)
      replace k0 := cell_below hB k0
      replace k1 := cell_below hB k1
      replace k2 := cell_below hB k2
      replace k3 := cell_below hB k3
      replace HB := Lib.hid (HB.out.trans (hB.mono HB.out.size))
      clear hB
      clear hokb
      go_wp2_with fail
      refine (lpaPlaces_any a3 a2 c3 c2 T T _ hTm hTm HP3 HP2).mono ?_
      rintro e w7 ⟨rfl, hB⟩
      rw [tt_true (rfl : T = T)]
      go_wp2
      go_ret
      exact ⟨rfl, HB.out.trans (hB.mono HB.out.size)⟩
  · rw [tt_false hoka] at HRa
    go_wp2_with fail
    refine (HRa.out _ HXa).mono ?_
    rintro e w5 ⟨rfl, hB⟩
    replace HXa := Lib.hid (HXa.out.below hB)
    replace HXb := Lib.hid (HXb.out.below hB)
    replace HP2 := Lib.hid (HP2.out.below hB)
    replace HP3 := Lib.hid (HP3.out.below hB)
    replace k0 := cell_below hB k0
    replace k1 := cell_below hB k1
    replace k2 := cell_below hB k2
    replace k3 := cell_below hB k3
    replace HB := Lib.hid (HB.out.trans (hB.mono HB.out.size))
    clear hB
    clear hoka
    go_wp2_with fail
    refine (lpaPlaces_any a3 a2 c3 c2 T T _ hTm hTm HP3 HP2).mono ?_
    rintro e w7 ⟨rfl, hB⟩
    rw [tt_true (rfl : T = T)]
    go_wp2
    go_ret
    exact ⟨rfl, HB.out.trans (hB.mono HB.out.size)⟩

set_option maxRecDepth 100000 in
set_option maxHeartbeats 1000000 in
theorem walk (a0 : Option Addr) (len0 cap0 : Nat) (z0 : List Int) (w : World) (w0 : IsBytes w a0 len0 cap0 z0) :
    Calls Try.prog 6 #[.slice a0 len0 cap0] w fun e w' => e = .returned (.bool true) ∧ Below w.heap.size w w' := by
  by_cases h0 : len0 ≤ 1048576
  · exact main a0 len0 cap0 z0 w h0 w0
  · have hm : len0 ≤ maxLen := by have := w0.opened; omega
    have d0 : decide (1048576 < (len0 : Int)) = true := by simp; omega
    clear w0
    go_enter Try.func6, Try.ntmps6
    go_wp2
    go_ret
    exact ⟨rfl, Below.refl _ _⟩

set_option maxRecDepth 100000 in
theorem lifted (os : Os) (started : os.Started) (H : Type) (enc : TypeId × Value → H) :
    ReturnsInHanded {} Try.checked os 6 .any (Rows.fnSpaceTakeSpec.pre6 enc Try.prog Try.f6 Rows.fnSpaceTakeRow.domain false) (Rows.fnSpaceTakeSpec.post enc Try.prog Try.f6 false true false false) := by
  refine returnsInHanded_of_change (C := Try.checked) own started (by kernel_rfl) Try.func6
    (ChangeSpec.witness6 (enc := enc) (C := Try.checked) false ⟨#[], #[.slice none 0 0], []⟩ 8 (by kernel_rfl) (by kernel_rfl) (by kernel_rfl) (by kernel_rfl)) ?_
  intro W base args ds gs before hval0 hW hcnd _
  have hval : ∀ (j : Nat) t v, Try.f6.params[j]? = some t → args[j]? = some v → Value.okWide Try.prog W .any base t v := hval0
  have hW' := hW
  obtain ⟨p, q, hA0, hV, rfl, hfz, hnd⟩ := hW
  have hA : DataW.TrodAll enc Try.prog W 0 (fun _ => true) true Try.f6.params.toList args.toList ds p := hA0
  rw [Try.params6] at hA hval
  obtain ⟨v0, vs0, d0, ds0, p0, q0, hargs, rfl, rfl, h0, r0⟩ := trodAll_cons hA
  obtain ⟨rfl, rfl, rfl⟩ := trodAll_nil r0
  obtain rfl : args = #[v0] := by cases args; simp_all
  obtain ⟨rfl, rfl⟩ := trodVars_none hV
  have k0 := h0
  have lt0 : ∀ x ∈ p0, x.block < W.heap.size := by obtain ⟨m, hm⟩ := k0; exact DataW.trod_lt m _ _ _ hm
  obtain ⟨a0, len0, cap0, rfl⟩ := okWide_slice Try.underlying22 (hval 0 22 v0 rfl rfl)
  obtain ⟨z0, w0⟩ : ∃ zs, IsBytes W a0 len0 cap0 zs := by
    obtain ⟨fuel, hf⟩ := h0
    rcases open_ints Try.underlying22 Try.underlying5 (by kernel_rfl) hf with ⟨hcs, _⟩ | ⟨x, l, c, zs, hcs, _, hl, hm, hz, _, hcell, hwz⟩
    · simp [Value.cells] at hcs
      obtain ⟨rfl, rfl, rfl⟩ := hcs
      exact ⟨[], .inl ⟨rfl, rfl, rfl, rfl⟩⟩
    · simp [Value.cells] at hcs
      obtain ⟨rfl, rfl, rfl⟩ := hcs
      exact ⟨zs, .inr ⟨_, rfl, hl, hm, by simpa using hz, hcell, hwz⟩⟩
  clear hA0 hval0
  refine (walk a0 len0 cap0 z0 W w0).mono fun e W' ⟨he, bel⟩ => ?_
  subst he
  exact ⟨_, rfl, _, _, _, [], _, [], hW', trodAll_mk1 (shut_bool Try.underlying4 _), (trodAll_cons_mk (Below.trod laidOut (by kernel_rfl) (of_decide_eq_true (by kernel_rfl)) k0 bel lt0) trodAll_mk0), rfl, bel.frame _, fun h => by cases h⟩

theorem over : Rows.fnSpaceTakeRow.holds Try.pinned (OpenSpec.ofChange Rows.fnSpaceTakeSpec) :=
  OpenClaim.holds_of_wide 6 Try.f6 rfl rfl rfl rfl rfl rfl rfl ⟨rfl, rfl, rfl, rfl, rfl⟩ rfl rfl rfl rfl rfl (by kernel_rfl) Try.func6 (by kernel_rfl)
    (of_decide_eq_true (by kernel_rfl)) (by unfold Func.isWrapper; first | (rw [if_pos (by decide +kernel)]; kernel_rfl) | (rw [if_neg (by decide +kernel)]; exact ⟨rfl, rfl⟩))
    (fun os started H enc _ => lifted os started H enc)

end FnSpaceTake

theorem FnSpaceTake_holds : Rows.FnSpaceTakeSaid := FnSpaceTake.over

end Go.Proofs.Ytlonecgmldjdpaa
