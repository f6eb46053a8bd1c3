/- DiskOk of the program and of the specification. Conditions: none but the row's own bound on sizes. -/
import Derived.Test.YtcdiengbmjkglaaGreatPKGT5
import Derived.Shelf.Abstract
namespace Go.Proofs.YtcdiengbmjkglaaGreat
open Go.RowKit Go.Sort Go.Shelf

/-- SLOTS ARE OK. -/
def SlotFine (s : ByteArray) (b : Bool) : Prop := (s.size = 0 ∧ b = false) ∨ s.size = 3
def SlotsFine (xs : List ByteArray) (bs : List Bool) : Prop := ∀ j, j < xs.length → SlotFine (xs.getD j ByteArray.empty) (bs.getD j false)
def HasAll (d : DiskD) : Prop := d.slots.length = 12 ∧ d.rings.length = 2 ∧ d.spoilt.length = 12 ∧ d.wait.length ≤ 40
def HasNone (d : DiskD) : Prop := AllTx Empty0 d.slots ∧ AllTx Empty0 d.rings ∧ d.wait.length = 0
/-- **DiskOk**, as the document has it. -/
def DiskFine (d : DiskD) : Prop := StateOk d.state ∧ HasAll d ∧ SlotsFine d.slots d.spoilt ∧ AllTx Ring7 d.rings ∧ AllPu PutOk d.wait ∧ (d.state = 1 → HasNone d)

set_option maxHeartbeats 1000000 in
theorem hasAll_any (st : Int) (a1 a2 a3 a4 : Option Addr) (c1 c2 c3 c4 : Nat) (xs ys : List ByteArray) (bs : List Bool) (ps : List PutD) (w : World) :
    Calls Tryz.prog 116 #[.agg #[.int .i64 st, .slice a1 xs.length c1, .slice a2 ys.length c2, .slice a3 bs.length c3, .slice a4 ps.length c4]] w fun e w' => e = .returned (.bool (tt (HasAll ⟨st, xs, ys, bs, ps⟩))) ∧ Below w.heap.size w w' := by
  have hB : Below w.heap.size w (w.alloc (.cells #[.int .i64 st, .slice a1 xs.length c1, .slice a2 ys.length c2, .slice a3 bs.length c3, .slice a4 ps.length c4] 50)) := (Below.refl _ _).alloc (Nat.le_refl _) _
  have HB := Lib.hid hB
  clear hB
  by_cases h1 : xs.length = 12
  · have d1 : ((xs.length : Int) == 12) = true := by simp; omega
    by_cases h2 : ys.length = 2
    · have d2 : ((ys.length : Int) == 2) = true := by simp; omega
      by_cases h3 : bs.length = 12
      · have d3 : ((bs.length : Int) == 12) = true := by simp; omega
        have H0 : decide ((ps.length : Int) ≤ 40) = tt (HasAll ⟨st, xs, ys, bs, ps⟩) := by
          by_cases h4 : ps.length ≤ 40
          · rw [tt_true (show HasAll ⟨st, xs, ys, bs, ps⟩ from ⟨h1, h2, h3, h4⟩)]; simp; omega
          · rw [tt_false (show ¬HasAll ⟨st, xs, ys, bs, ps⟩ from fun h => h4 h.2.2.2)]; simp; omega
        have H := Lib.hid H0
        clear H0 h1 h2 h3
        go_enter Tryz.func116, Tryz.ntmps116
        go_wp2
        go_ret
        exact ⟨ret_bool' H.out, HB.out⟩
      · have d3 : ((bs.length : Int) == 12) = false := by simp; omega
        rw [tt_false (show ¬HasAll ⟨st, xs, ys, bs, ps⟩ from fun h => h3 h.2.2.1)]
        clear h1 h2 h3
        go_enter Tryz.func116, Tryz.ntmps116
        go_wp2
        go_ret
        exact ⟨rfl, HB.out⟩
    · have d2 : ((ys.length : Int) == 2) = false := by simp; omega
      rw [tt_false (show ¬HasAll ⟨st, xs, ys, bs, ps⟩ from fun h => h2 h.2.1)]
      clear h1 h2
      go_enter Tryz.func116, Tryz.ntmps116
      go_wp2
      go_ret
      exact ⟨rfl, HB.out⟩
  · have d1 : ((xs.length : Int) == 12) = false := by simp; omega
    rw [tt_false (show ¬HasAll ⟨st, xs, ys, bs, ps⟩ from fun h => h1 h.1)]
    clear h1
    go_enter Tryz.func116, Tryz.ntmps116
    go_wp2
    go_ret
    exact ⟨rfl, HB.out⟩

theorem isEmptyP : Hid (∀ s W, Calls Tryz.prog 55 #[.string s] W fun e w' => e = .returned (.bool (tt (Empty0 s))) ∧ W = w') := isEmpty_any
theorem isRingP : Hid (∀ s W, Calls Tryz.prog 119 #[.string s] W fun e w' => e = .returned (.bool (tt (Ring7 s))) ∧ W = w') := isRingText_any

set_option maxHeartbeats 1000000 in
theorem hasNothing_any (st : Int) (a1 a2 a3 a4 : Option Addr) (c1 c2 c3 c4 : Nat) (xs ys : List ByteArray) (bs : List Bool) (ps : List PutD) (w : World) (h1 : xs.length ≤ maxLen) (h2 : ys.length ≤ maxLen) (x1 : Hid (TxAt w a1 xs)) (x2 : Hid (TxAt w a2 ys)) :
    Calls Tryz.prog 121 #[.agg #[.int .i64 st, .slice a1 xs.length c1, .slice a2 ys.length c2, .slice a3 bs.length c3, .slice a4 ps.length c4]] w fun e w' => e = .returned (.bool (tt (HasNone ⟨st, xs, ys, bs, ps⟩))) ∧ Below w.heap.size w w' := by
  have hB : Below w.heap.size w (w.alloc (.cells #[.int .i64 st, .slice a1 xs.length c1, .slice a2 ys.length c2, .slice a3 bs.length c3, .slice a4 ps.length c4] 50)) := (Below.refl _ _).alloc (Nat.le_refl _) _
  have HB := Lib.hid hB
  have X1 := Lib.hid (allTx_any 55 Empty0 a1 c1 xs _ (enters_of Tryz.func55 (by kernel_rfl) rfl) isEmptyP h1 (x1.out.below hB))
  have X2 := Lib.hid (allTx_any 55 Empty0 a2 c2 ys _ (enters_of Tryz.func55 (by kernel_rfl) rfl) isEmptyP h2 (x2.out.below hB))
  clear hB
  by_cases k1 : AllTx Empty0 xs
  · rw [tt_true k1] at X1
    by_cases k2 : AllTx Empty0 ys
    · rw [tt_true k2] at X2
      have H0 : ((ps.length : Int) == 0) = tt (HasNone ⟨st, xs, ys, bs, ps⟩) := by
        by_cases h4 : ps.length = 0
        · rw [tt_true (show HasNone ⟨st, xs, ys, bs, ps⟩ from ⟨k1, k2, h4⟩)]; exact beq_iff_eq.2 (by omega)
        · rw [tt_false (show ¬HasNone ⟨st, xs, ys, bs, ps⟩ from fun h => h4 h.2.2)]; exact beq_eq_false_iff_ne.2 (by omega)
      have H := Lib.hid H0
      clear H0 k1 k2 h1 h2
      go_enter Tryz.func121, Tryz.ntmps121
      go_wp2_with fail
      refine X1.out.mono ?_
      rintro e w1 ⟨rfl, rfl⟩
      go_wp2_with fail
      refine X2.out.mono ?_
      rintro e w1 ⟨rfl, rfl⟩
      go_wp2
      go_ret
      exact ⟨ret_bool' H.out, HB.out⟩
    · rw [tt_false k2] at X2
      rw [tt_false (show ¬HasNone ⟨st, xs, ys, bs, ps⟩ from fun h => k2 h.2.1)]
      clear k1 k2 h1 h2
      go_enter Tryz.func121, Tryz.ntmps121
      go_wp2_with fail
      refine X1.out.mono ?_
      rintro e w1 ⟨rfl, rfl⟩
      go_wp2_with fail
      refine X2.out.mono ?_
      rintro e w1 ⟨rfl, rfl⟩
      go_wp2
      go_ret
      exact ⟨rfl, HB.out⟩
  · rw [tt_false k1] at X1
    rw [tt_false (show ¬HasNone ⟨st, xs, ys, bs, ps⟩ from fun h => k1 h.1)]
    clear k1 h1 h2
    go_enter Tryz.func121, Tryz.ntmps121
    go_wp2_with fail
    refine X1.out.mono ?_
    rintro e w1 ⟨rfl, rfl⟩
    go_wp2
    go_ret
    exact ⟨rfl, HB.out⟩

set_option maxRecDepth 100000 in
set_option maxHeartbeats 1000000 in
theorem areSlots_any (a1 a3 : Option Addr) (c1 c3 : Nat) (xs : List ByteArray) (bs : List Bool) (w : World) (hl : xs.length ≤ maxLen) (hb : Hid (xs.length = bs.length)) (x1 : Hid (TxAt w a1 xs)) (x3 : Hid (BoAt w a3 bs)) :
    Calls Tryz.prog 117 #[.slice a1 xs.length c1, .slice a3 bs.length c3] w fun e w' => e = .returned (.bool (tt (SlotsFine xs bs))) ∧ w = w' := by
  unfold maxLen at hl
  go_enter Tryz.func117, Tryz.ntmps117
  go_wp2_with fail
  go_loopw [9] (fun i wr => ∃ k : Nat, i = .int .i64 (k : Int) ∧ k ≤ xs.length ∧ w = wr ∧ Hid (∀ j, j < k → SlotFine (xs.getD j ByteArray.empty) (bs.getD j false))) (fun i _ => xs.length - (intOf i).toNat)
  case atStart => exact ⟨0, rfl, by omega, rfl, fun j hj => by omega⟩
  case round =>
    obtain ⟨k, rfl, hk, rfl, hall⟩ := hrel
    by_cases hlt : k < xs.length
    · have hlt' : k < bs.length := by rw [← hb.out]; exact hlt
      obtain ⟨b, off, rfl, hc⟩ := x1.out.resolve_left (fun e => by subst e; simp at hlt)
      obtain ⟨b', off', rfl, hc'⟩ := x3.out.resolve_left (fun e => by subst e; simp at hlt')
      have hck := hc k hlt
      have hck' := hc' k hlt'
      clear hc hc'
      generalize hg : xs.getD k ByteArray.empty = q at hck
      generalize hg' : bs.getD k false = t at hck'
      have Hg := Lib.hid hg
      have Hg' := Lib.hid hg'
      clear hg hg'
      have HE := Lib.hid (fun W => isEmpty_any q W)
      have HC := Lib.hid (fun W => isColumn_any q W)
      have HN := Lib.hid (show SlotFine q t → ∀ j, j < k + 1 → SlotFine (xs.getD j ByteArray.empty) (bs.getD j false) from fun h j hj => by
        by_cases e : j = k
        · subst e; rw [Hg.out, Hg'.out]; exact h
        · exact hall.out j (by omega))
      have HF := Lib.hid (show ¬SlotFine q t → tt (SlotsFine xs bs) = false from fun h => tt_false (fun k' => h (by rw [← Hg.out, ← Hg'.out]; exact k' k hlt)))
      by_cases he : Empty0 q
      · rw [tt_true he] at HE
        cases t
        · have HN' := Lib.hid (HN.out (.inl ⟨he, rfl⟩))
          clear he
          go_wp2_with fail
          refine (HE.out _).mono ?_
          rintro e w2 ⟨rfl, rfl⟩
          go_wp2_with fail
          refine (HE.out _).mono ?_
          rintro e w2 ⟨rfl, rfl⟩
          go_wp2
          go_roundw
          case rel => exact ⟨k + 1, by go_num, by omega, trivial, HN'⟩
          case measure => simp [intOf]; omega
        · have HF' := Lib.hid (HF.out (fun h => h.elim (fun k => by cases k.2) (fun k => by unfold Empty0 at he; omega)))
          clear he
          go_wp2_with fail
          refine (HE.out _).mono ?_
          rintro e w2 ⟨rfl, rfl⟩
          go_wp2
          go_ret
          exact ⟨ret_bool' HF'.out.symm, rfl⟩
      · rw [tt_false he] at HE
        by_cases h3 : Col3 q
        · rw [tt_true h3] at HC
          have HN' := Lib.hid (HN.out (.inr h3))
          clear he h3
          go_wp2_with fail
          refine (HE.out _).mono ?_
          rintro e w2 ⟨rfl, rfl⟩
          go_wp2_with fail
          refine (HE.out _).mono ?_
          rintro e w2 ⟨rfl, rfl⟩
          go_wp2_with fail
          refine (HC.out _).mono ?_
          rintro e w2 ⟨rfl, rfl⟩
          go_wp2
          go_roundw
          case rel => exact ⟨k + 1, by go_num, by omega, trivial, HN'⟩
          case measure => simp [intOf]; omega
        · rw [tt_false h3] at HC
          have HF' := Lib.hid (HF.out (fun h => h.elim (fun k => he k.1) h3))
          clear he h3
          go_wp2_with fail
          refine (HE.out _).mono ?_
          rintro e w2 ⟨rfl, rfl⟩
          go_wp2_with fail
          refine (HE.out _).mono ?_
          rintro e w2 ⟨rfl, rfl⟩
          go_wp2_with fail
          refine (HC.out _).mono ?_
          rintro e w2 ⟨rfl, rfl⟩
          go_wp2
          go_ret
          exact ⟨ret_bool' HF'.out.symm, rfl⟩
    · have HF : Hid (tt (SlotsFine xs bs) = true) := tt_true (fun j hj => hall.out j (by omega))
      go_wp2
      go_ret
      exact ⟨ret_bool' HF.out.symm, rfl⟩

set_option maxRecDepth 100000 in
set_option maxHeartbeats 2000000 in
theorem implOk_any (v : Value) (d : DiskD) (w : World) (hv : DiskV w v d) :
    Calls Tryz.prog 88 #[v] w fun e w' => e = .returned (.bool (tt (DiskFine d))) ∧ Below w.heap.size w w' := by
  obtain ⟨st, xs, ys, bs, ps⟩ := d
  obtain ⟨v1, v2, v3, v4, rfl, ⟨a1, c1, rfl, l1, m1, x1⟩, ⟨a2, c2, rfl, l2, m2, x2⟩, ⟨a3, c3, rfl, l3, m3, x3⟩, ⟨a4, c4, rfl, l4, m4, x4⟩⟩ := hv
  simp only at x1 x2 x3 x4 l1 l2 l3 l4 ⊢
  have n1 := Lib.hid (show xs.length ≤ maxLen by omega)
  have n2 := Lib.hid (show ys.length ≤ maxLen by omega)
  have n4 := Lib.hid (show ps.length ≤ maxLen by omega)
  clear l1 l2 l3 l4 m1 m2 m3 m4
  have HD := Lib.hid (show DiskFine ⟨st, xs, ys, bs, ps⟩ ↔ StateOk st ∧ HasAll ⟨st, xs, ys, bs, ps⟩ ∧ SlotsFine xs bs ∧ AllTx Ring7 ys ∧ AllPu PutOk ps ∧ (st = 1 → HasNone ⟨st, xs, ys, bs, ps⟩) from Iff.rfl)
  have hB : Below w.heap.size w (w.alloc (.cells #[.int .i64 st, .slice a1 xs.length c1, .slice a2 ys.length c2, .slice a3 bs.length c3, .slice a4 ps.length c4] 50)) := (Below.refl _ _).alloc (Nat.le_refl _) _
  have hK := Blk.new w #[.int .i64 st, .slice a1 xs.length c1, .slice a2 ys.length c2, .slice a3 bs.length c3, .slice a4 ps.length c4] 50
  have X1 := Lib.hid (x1.below hB)
  have X2 := Lib.hid (x2.below hB)
  have X3 := Lib.hid (x3.below hB)
  have X4 := Lib.hid (x4.below hB)
  have HB := Lib.hid hB
  have HK := Lib.hid hK
  clear x1 x2 x3 x4
  generalize hr : tt (DiskFine ⟨st, xs, ys, bs, ps⟩) = res
  have Hr := Lib.hid hr
  clear hr
  by_cases s1 : StateOk st
  · have S1 := Lib.hid (fun W => isState_any st W)
    rw [tt_true s1] at S1
    go_enter Tryz.func88, Tryz.ntmps88
    go_wp2_with fail
    refine (S1.out _).mono ?_
    rintro e w1 ⟨rfl, rfl⟩
    go_wp2_with fail
    refine (hasAll_any st a1 a2 a3 a4 c1 c2 c3 c4 xs ys bs ps _).mono ?_
    generalize hbn : tt (HasAll ⟨st, xs, ys, bs, ps⟩) = bn
    have Hbn := Lib.hid hbn
    clear hbn
    rintro e w1 ⟨rfl, hB1⟩
    have hz := HK.out.lt
    have K1 := Lib.hid (HK.out.below hB1 hz)
    have X1 := Lib.hid (X1.out.below hB1)
    have X2 := Lib.hid (X2.out.below hB1)
    have X3 := Lib.hid (X3.out.below hB1)
    have X4 := Lib.hid (X4.out.below hB1)
    have HB1 := Lib.hid (below_trans HB.out hB1 HB.out.size)
    have p0 : w1.cell? ⟨w.heap.size, 0, none⟩ = some (.int .i64 st) := K1.out.cell 0
    have p1 : w1.cell? ⟨w.heap.size, 1, none⟩ = some (.slice a1 xs.length c1) := K1.out.cell 1
    have p2 : w1.cell? ⟨w.heap.size, 2, none⟩ = some (.slice a2 ys.length c2) := K1.out.cell 2
    have p3 : w1.cell? ⟨w.heap.size, 3, none⟩ = some (.slice a3 bs.length c3) := K1.out.cell 3
    have p4 : w1.cell? ⟨w.heap.size, 4, none⟩ = some (.slice a4 ps.length c4) := K1.out.cell 4
    clear hB1 hz hB hK
    cases bn
    · have HF : Hid (res = false) := by
        rw [← Hr.out]; exact tt_false (fun h => by have := tt_true (HD.out.1 h).2.1; rw [Hbn.out] at this; cases this)
      go_wp2
      go_ret
      exact ⟨ret_bool' HF.out.symm, HB1.out⟩
    · have s2 : HasAll ⟨st, xs, ys, bs, ps⟩ := (tt_iff _).1 Hbn.out
      have hlen : xs.length = bs.length := s2.1.trans s2.2.2.1.symm
      have Hlen := Lib.hid hlen
      have S2 := Lib.hid s2
      clear hlen s2
      go_wp2_with fail
      refine (areSlots_any a1 a3 c1 c3 xs bs _ n1.out Hlen X1 X3).mono ?_
      rintro e w2 ⟨rfl, rfl⟩
      by_cases s3 : SlotsFine xs bs
      · rw [tt_true s3]
        have S3 := Lib.hid s3
        clear s3
        go_wp2_with fail
        refine (allTx_any 119 Ring7 a2 c2 ys _ (enters_of Tryz.func119 (by kernel_rfl) rfl) isRingP n2.out X2).mono ?_
        rintro e w2 ⟨rfl, rfl⟩
        by_cases s4 : AllTx Ring7 ys
        · rw [tt_true s4]
          have S4 := Lib.hid s4
          clear s4
          go_wp2_with fail
          refine (allPu_any a4 c4 ps _ (enters_of Tryz.func110 (by kernel_rfl) rfl) n4.out X4).mono ?_
          rintro e w2 ⟨rfl, hB2⟩
          have K2 := Lib.hid (K1.out.below hB2 K1.out.lt)
          have X1 := Lib.hid (X1.out.below hB2)
          have X2 := Lib.hid (X2.out.below hB2)
          have HB2 := Lib.hid (below_trans HB1.out hB2 HB1.out.size)
          have p0 : w2.cell? ⟨w.heap.size, 0, none⟩ = some (.int .i64 st) := K2.out.cell 0
          have p1 : w2.cell? ⟨w.heap.size, 1, none⟩ = some (.slice a1 xs.length c1) := K2.out.cell 1
          have p2 : w2.cell? ⟨w.heap.size, 2, none⟩ = some (.slice a2 ys.length c2) := K2.out.cell 2
          have p3 : w2.cell? ⟨w.heap.size, 3, none⟩ = some (.slice a3 bs.length c3) := K2.out.cell 3
          have p4 : w2.cell? ⟨w.heap.size, 4, none⟩ = some (.slice a4 ps.length c4) := K2.out.cell 4
          clear hB2
          by_cases s5 : AllPu PutOk ps
          · rw [tt_true s5]
            have S5 := Lib.hid s5
            clear s5
            by_cases s6 : st = 1
            · have d6 : (st != 1) = false := by simpa using s6
              have S6 := Lib.hid s6
              clear s6
              go_wp2_with fail
              refine (hasNothing_any st a1 a2 a3 a4 c1 c2 c3 c4 xs ys bs ps _ n1.out n2.out X1 X2).mono ?_
              have HF : Hid (tt (HasNone ⟨st, xs, ys, bs, ps⟩) = res) := by
                rw [← Hr.out]; exact tt_congr ⟨fun h => HD.out.2 ⟨s1, S2.out, S3.out, S4.out, S5.out, fun _ => h⟩, fun h => (HD.out.1 h).2.2.2.2.2 S6.out⟩
              rintro e w3 ⟨rfl, hB3⟩
              generalize tt (HasNone ⟨st, xs, ys, bs, ps⟩) = b6 at HF
              go_wp2
              go_ret
              exact ⟨ret_bool' HF.out, below_trans HB2.out hB3 HB2.out.size⟩
            · have d6 : (st != 1) = true := by simpa using s6
              have HF : Hid (res = true) := by
                rw [← Hr.out]; exact tt_true (HD.out.2 ⟨s1, S2.out, S3.out, S4.out, S5.out, fun h => (s6 h).elim⟩)
              clear s6
              go_wp2
              go_ret
              exact ⟨ret_bool' HF.out.symm, HB2.out⟩
          · rw [tt_false s5]
            have HF : Hid (res = false) := by
              rw [← Hr.out]; exact tt_false (fun h => s5 (HD.out.1 h).2.2.2.2.1)
            clear s5
            go_wp2
            go_ret
            exact ⟨ret_bool' HF.out.symm, HB2.out⟩
        · rw [tt_false s4]
          have HF : Hid (res = false) := by
            rw [← Hr.out]; exact tt_false (fun h => s4 (HD.out.1 h).2.2.2.1)
          clear s4
          go_wp2
          go_ret
          exact ⟨ret_bool' HF.out.symm, HB1.out⟩
      · rw [tt_false s3]
        have HF : Hid (res = false) := by
          rw [← Hr.out]; exact tt_false (fun h => s3 (HD.out.1 h).2.2.1)
        clear s3
        go_wp2
        go_ret
        exact ⟨ret_bool' HF.out.symm, HB1.out⟩
  · have S1 := Lib.hid (fun W => isState_any st W)
    rw [tt_false s1] at S1
    have HF : Hid (res = false) := by
      rw [← Hr.out]; exact tt_false (fun h => s1 (HD.out.1 h).1)
    clear s1 hB hK
    go_enter Tryz.func88, Tryz.ntmps88
    go_wp2_with fail
    refine (S1.out _).mono ?_
    rintro e w1 ⟨rfl, rfl⟩
    go_wp2
    go_ret
    exact ⟨ret_bool' HF.out.symm, HB.out⟩

end Go.Proofs.YtcdiengbmjkglaaGreat
