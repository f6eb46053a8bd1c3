/- DiskOk of the specification. Conditions: none but the row's own bound on sizes. -/
import Derived.Test.YtcdiengbmjkglaaGreatPKG6
namespace Go.Proofs.YtcdiengbmjkglaaGreat
open Go.RowKit Go.Sort Go.Shelf

/-- WHAT THE SPECIFICATION ASKS, round by round. -/
def SpSlot (st : Int) (s : ByteArray) (b : Bool) : Prop := SlotFine s b ∧ (st = 1 → s.size = 0)
def SpRing (st : Int) (s : ByteArray) : Prop := s.size ≤ 700 ∧ (st = 1 → s.size = 0)
theorem fine_iff (st : Int) (xs ys : List ByteArray) (bs : List Bool) (ps : List PutD) : DiskFine ⟨st, xs, ys, bs, ps⟩ ↔ (StateOk st ∧ HasAll ⟨st, xs, ys, bs, ps⟩) ∧ (∀ j, j < xs.length → SpSlot st (xs.getD j ByteArray.empty) (bs.getD j false)) ∧ (∀ j, j < ys.length → SpRing st (ys.getD j ByteArray.empty)) ∧ AllPu PutOk ps ∧ (st = 1 → ps.length = 0) :=
  ⟨fun ⟨h1, h2, h3, h4, h5, h6⟩ => ⟨⟨h1, h2⟩, fun j hj => ⟨h3 j hj, fun e => (h6 e).1 j hj⟩, fun j hj => ⟨h4 j hj, fun e => (h6 e).2.1 j hj⟩, h5, fun e => (h6 e).2.2⟩,
   fun ⟨⟨h1, h2⟩, h3, h4, h5, h6⟩ => ⟨h1, h2, fun j hj => (h3 j hj).1, fun j hj => (h4 j hj).1, h5, fun e => ⟨fun j hj => (h3 j hj).2 e, fun j hj => (h4 j hj).2 e, h6 e⟩⟩⟩

set_option maxRecDepth 100000 in
set_option maxHeartbeats 4000000 in
theorem specOk_any (v : Value) (d : DiskD) (w : World) (hv : DiskV w v d) :
    Calls Tryz.prog 94 #[v] w fun e w' => e = .returned (.bool (tt (DiskFine d))) ∧ Below w.heap.size w w' := by
  obtain ⟨st, xs, ys, bs, ps⟩ := d
  obtain ⟨v1, v2, v3, v4, rfl, ⟨a1, c1, rfl, l1, m1, x1⟩, ⟨a2, c2, rfl, l2, m2, x2⟩, ⟨a3, c3, rfl, l3, m3, x3⟩, ⟨a4, c4, rfl, l4, m4, x4⟩⟩ := hv
  simp only at x1 x2 x3 x4 l1 l2 l3 l4 ⊢
  clear l1 l2 l3 l4 m1 m2 m3 m4
  have HD := Lib.hid (fine_iff st xs ys bs ps)
  have hB : Below w.heap.size w (w.alloc (.cells #[.int .i64 st, .slice a1 xs.length c1, .slice a2 ys.length c2, .slice a3 bs.length c3, .slice a4 ps.length c4] 50)) := (Below.refl _ _).alloc (Nat.le_refl _) _
  have hK := Blk.new w #[.int .i64 st, .slice a1 xs.length c1, .slice a2 ys.length c2, .slice a3 bs.length c3, .slice a4 ps.length c4] 50
  have X1 := Lib.hid (x1.below hB)
  have X2 := Lib.hid (x2.below hB)
  have X3 := Lib.hid (x3.below hB)
  have X4 := Lib.hid (x4.below hB)
  have HB := Lib.hid hB
  have HK := Lib.hid hK
  clear x1 x2 x3 x4 hB hK
  generalize hr : tt (DiskFine ⟨st, xs, ys, bs, ps⟩) = res
  have Hr := Lib.hid hr
  have HF := Lib.hid (show ¬DiskFine ⟨st, xs, ys, bs, ps⟩ → res = false from fun h => hr.symm.trans (tt_false h))
  clear hr
  have HS := Lib.hid (fun W => l6_any st 0 2 W)
  by_cases s1 : 0 ≤ st ∧ st ≤ 2
  · rw [tt_true s1] at HS
    have S1 : Hid (StateOk st) := s1
    clear s1
    by_cases h1 : xs.length = 12
    · have d1 : ((xs.length : Int) != 12) = false := by simp; omega
      by_cases h2 : ys.length = 2
      · have d2 : ((ys.length : Int) != 2) = false := by simp; omega
        by_cases h3 : bs.length = 12
        · have d3 : ((bs.length : Int) != 12) = false := by simp; omega
          by_cases h4 : ps.length ≤ 40
          · have d4 : decide (40 < (ps.length : Int)) = false := by simp; omega
            have L1 := Lib.hid h1
            have L2 := Lib.hid h2
            have L3 := Lib.hid h3
            have L4 := Lib.hid h4
            have l1 : xs.length ≤ 100 := by omega
            have l2 : ys.length ≤ 100 := by omega
            have l4 : ps.length ≤ 100 := by omega
            clear h1 h2 h3 h4
            go_enter Tryz.func94, Tryz.ntmps94
            go_wp2_with fail
            refine (HS.out _).mono ?_
            rintro e w1 ⟨rfl, rfl⟩
            go_wp2_with fail
            generalize (w.alloc (.cells #[.int .i64 st, .slice a1 xs.length c1, .slice a2 ys.length c2, .slice a3 bs.length c3, .slice a4 ps.length c4] 50)) = W at *
            have p0 : W.cell? ⟨w.heap.size, 0, none⟩ = some (.int .i64 st) := HK.out.cell 0
            have p1 : W.cell? ⟨w.heap.size, 1, none⟩ = some (.slice a1 xs.length c1) := HK.out.cell 1
            have p2 : W.cell? ⟨w.heap.size, 2, none⟩ = some (.slice a2 ys.length c2) := HK.out.cell 2
            have p3 : W.cell? ⟨w.heap.size, 3, none⟩ = some (.slice a3 bs.length c3) := HK.out.cell 3
            have p4 : W.cell? ⟨w.heap.size, 4, none⟩ = some (.slice a4 ps.length c4) := HK.out.cell 4
            generalize hn : w.heap.size = n at *
            have Hn := Lib.hid hn
            clear hn
            go_loop [3] (fun i => ∃ k : Nat, i = .int .i64 (k : Int) ∧ k ≤ xs.length ∧ Hid (∀ j, j < k → SpSlot st (xs.getD j ByteArray.empty) (bs.getD j false))) (fun i => xs.length - (intOf i).toNat)
            case atStart => exact ⟨0, rfl, by omega, fun j hj => by omega⟩
            case round =>
              obtain ⟨k, rfl, hk, hall⟩ := hrel
              by_cases hlt : k < xs.length
              · have hlt' : k < bs.length := by have := L1.out; have := L3.out; omega
                obtain ⟨b, off, rfl, hc⟩ := X1.out.resolve_left (fun e => by subst e; simp at hlt)
                obtain ⟨b', off', rfl, hc'⟩ := X3.out.resolve_left (fun e => by subst e; simp at hlt')
                have hck := hc k hlt
                have hck' := hc' k hlt'
                clear hc hc'
                generalize hg : xs.getD k ByteArray.empty = q at hck
                generalize hg' : bs.getD k false = t at hck'
                have Hg := Lib.hid hg
                have Hg' := Lib.hid hg'
                clear hg hg'
                have HN := Lib.hid (show SpSlot st q t → ∀ j, j < k + 1 → SpSlot st (xs.getD j ByteArray.empty) (bs.getD j false) from fun h j hj => by
                  by_cases e : j = k
                  · subst e; rw [Hg.out, Hg'.out]; exact h
                  · exact hall.out j (by omega))
                have HF' := Lib.hid (show ¬SpSlot st q t → res = false from fun h => HF.out (fun k' => h (by rw [← Hg.out, ← Hg'.out]; exact (HD.out.1 k').2.1 k hlt)))
                by_cases q0 : q.size = 0
                · have e0 : ((q.size : Int) != 0) = false := bne_eq_false_iff_eq.2 (by omega)
                  have e1 : ((q.size : Int) == 0) = true := beq_iff_eq.2 (by omega)
                  cases t
                  · have hN := Lib.hid (HN.out ⟨.inl ⟨q0, rfl⟩, fun _ => q0⟩)
                    have e2 : decide (0 < (q.size : Int)) = false := decide_eq_false (by omega)
                    have e4 : decide (0 < q.size) = false := decide_eq_false (by omega)
                    have e5 : ¬0 < q.size := by omega
                    clear q0
                    by_cases hs : st = 1
                    · subst hs
                      go_wp2
                      exact ⟨⟨k + 1, by go_num, by omega, hN⟩, by simp [intOf]; omega⟩
                    · have es : (st == 1) = false := by simpa using hs
                      clear hs
                      go_wp2
                      exact ⟨⟨k + 1, by go_num, by omega, hN⟩, by simp [intOf]; omega⟩
                  · have hN := Lib.hid (HF'.out (fun h => h.1.elim (fun k => by cases k.2) (fun k => by omega)))
                    clear q0
                    go_wp2
                    go_ret
                    exact ⟨ret_bool' hN.out.symm, by first | exact HB.out | (rw [Hn.out]; exact HB.out)⟩
                · have e0 : ((q.size : Int) != 0) = true := bne_iff_ne.2 (by omega)
                  have e1 : ((q.size : Int) == 0) = false := beq_eq_false_iff_ne.2 (by omega)
                  by_cases q3 : q.size = 3
                  · have e3 : ((q.size : Int) != 3) = false := by simp; omega
                    have e2 : decide (0 < (q.size : Int)) = true := decide_eq_true (by omega)
                    have e4 : decide (0 < q.size) = true := decide_eq_true (by omega)
                    have e5 : 0 < q.size := by omega
                    by_cases hs : st = 1
                    · have hN := Lib.hid (HF'.out (fun h => by have := h.2 hs; omega))
                      subst hs
                      clear q0 q3
                      cases t
                      · go_wp2
                        go_ret
                        exact ⟨ret_bool' hN.out.symm, by first | exact HB.out | (rw [Hn.out]; exact HB.out)⟩
                      · go_wp2
                        go_ret
                        exact ⟨ret_bool' hN.out.symm, by first | exact HB.out | (rw [Hn.out]; exact HB.out)⟩
                    · have es : (st == 1) = false := by simpa using hs
                      have hN := Lib.hid (HN.out ⟨.inr q3, fun h => (hs h).elim⟩)
                      clear q0 q3 hs
                      cases t
                      · go_wp2
                        exact ⟨⟨k + 1, by go_num, by omega, hN⟩, by simp [intOf]; omega⟩
                      · go_wp2
                        exact ⟨⟨k + 1, by go_num, by omega, hN⟩, by simp [intOf]; omega⟩
                  · have e3 : ((q.size : Int) != 3) = true := by simp; omega
                    have hN := Lib.hid (HF'.out (fun h => h.1.elim (fun k => q0 k.1) q3))
                    clear q0 q3
                    go_wp2
                    go_ret
                    exact ⟨ret_bool' hN.out.symm, by first | exact HB.out | (rw [Hn.out]; exact HB.out)⟩
              · have A1 : Hid (∀ j, j < xs.length → SpSlot st (xs.getD j ByteArray.empty) (bs.getD j false)) := fun j hj => hall.out j (by omega)
                go_wp2_with fail
                go_loop [5] (fun i => ∃ k : Nat, i = .int .i64 (k : Int) ∧ k ≤ ys.length ∧ Hid (∀ j, j < k → SpRing st (ys.getD j ByteArray.empty))) (fun i => ys.length - (intOf i).toNat)
                case atStart => exact ⟨0, rfl, by omega, fun j hj => by omega⟩
                case round =>
                  clear hall hlt hk
                  obtain ⟨k, rfl, hk, hall⟩ := hrel
                  by_cases hlt : k < ys.length
                  · obtain ⟨b, off, rfl, hc⟩ := X2.out.resolve_left (fun e => by subst e; simp at hlt)
                    have hck := hc k hlt
                    clear hc
                    generalize hg : ys.getD k ByteArray.empty = q at hck
                    have Hg := Lib.hid hg
                    clear hg
                    have HN := Lib.hid (show SpRing st q → ∀ j, j < k + 1 → SpRing st (ys.getD j ByteArray.empty) from fun h j hj => by
                      by_cases e : j = k
                      · subst e; rw [Hg.out]; exact h
                      · exact hall.out j (by omega))
                    have HF' := Lib.hid (show ¬SpRing st q → res = false from fun h => HF.out (fun k' => h (by rw [← Hg.out]; exact (HD.out.1 k').2.2.1 k hlt)))
                    by_cases q7 : q.size ≤ 700
                    · have e0 : decide (700 < (q.size : Int)) = false := decide_eq_false (by omega)
                      by_cases hs : st = 1
                      · by_cases q0 : q.size = 0
                        · have e2 : decide (0 < (q.size : Int)) = false := decide_eq_false (by omega)
                          have e4 : decide (0 < q.size) = false := decide_eq_false (by omega)
                          have e5 : ¬0 < q.size := by omega
                          have hN := Lib.hid (HN.out ⟨q7, fun _ => q0⟩)
                          subst hs
                          clear q0 q7
                          go_wp2
                          exact ⟨⟨k + 1, by go_num, by omega, hN⟩, by simp [intOf]; omega⟩
                        · have e2 : decide (0 < (q.size : Int)) = true := decide_eq_true (by omega)
                          have e4 : decide (0 < q.size) = true := decide_eq_true (by omega)
                          have e5 : 0 < q.size := by omega
                          have hN := Lib.hid (HF'.out (fun h => q0 (h.2 hs)))
                          subst hs
                          clear q0 q7
                          go_wp2
                          go_ret
                          exact ⟨ret_bool' hN.out.symm, by first | exact HB.out | (rw [Hn.out]; exact HB.out)⟩
                      · have es : (st == 1) = false := by simpa using hs
                        have hN := Lib.hid (HN.out ⟨q7, fun h => (hs h).elim⟩)
                        clear q7 hs
                        go_wp2
                        exact ⟨⟨k + 1, by go_num, by omega, hN⟩, by simp [intOf]; omega⟩
                    · have e0 : decide (700 < (q.size : Int)) = true := decide_eq_true (by omega)
                      have hN := Lib.hid (HF'.out (fun h => q7 h.1))
                      clear q7
                      go_wp2
                      go_ret
                      exact ⟨ret_bool' hN.out.symm, by first | exact HB.out | (rw [Hn.out]; exact HB.out)⟩
                  · have A2 : Hid (∀ j, j < ys.length → SpRing st (ys.getD j ByteArray.empty)) := fun j hj => hall.out j (by omega)
                    go_wp2_with fail
                    go_loopw [6] (fun i wr => ∃ k : Nat, i = .int .i64 (k : Int) ∧ k ≤ ps.length ∧ Hid (Below W.heap.size W wr) ∧ Hid (∀ j, j < k → PutOk (ps.getD j put0))) (fun i _ => ps.length - (intOf i).toNat)
                    case atStart => exact ⟨0, rfl, by omega, Below.refl _ _, fun j hj => by omega⟩
                    case round =>
                      clear hall hlt hk
                      obtain ⟨k, rfl, hk, hBr, hall⟩ := hrel
                      have K2 := Lib.hid (HK.out.below hBr.out HK.out.lt)
                      have HB2 := Lib.hid (show Below n w wr from HB.out.trans (hBr.out.mono (by have := HB.out.size; first | omega | (rw [← Hn.out]; omega))))
                      have p0 : wr.cell? ⟨n, 0, none⟩ = some (.int .i64 st) := K2.out.cell 0
                      have p4 : wr.cell? ⟨n, 4, none⟩ = some (.slice a4 ps.length c4) := K2.out.cell 4
                      by_cases hlt : k < ps.length
                      · obtain ⟨b, off, rfl, hc⟩ := (X4.out.below hBr.out).resolve_left (fun e => by subst e; simp at hlt)
                        obtain ⟨c0, c1, c2⟩ := hc k hlt
                        clear hc
                        generalize hg : ps.getD k put0 = q at c0 c1 c2
                        have Hg := Lib.hid hg
                        clear hg
                        obtain ⟨r, z, s⟩ := q
                        simp only at c0 c1 c2
                        have HC := Lib.hid (fun W => l3Put_any r z s W)
                        by_cases hP : PutOk ⟨r, z, s⟩
                        · rw [tt_true hP] at HC
                          have HN : Hid (∀ j, j < k + 1 → PutOk (ps.getD j put0)) := fun j hj => by
                            by_cases e : j = k
                            · subst e; rw [Hg.out]; exact hP
                            · exact hall.out j (by omega)
                          clear hP
                          go_wp2_with fail
                          refine (HC.out _).mono ?_
                          rintro e w2 ⟨rfl, hB2⟩
                          have HB2 := Lib.hid (below_trans hBr.out hB2 hBr.out.size)
                          clear hB2
                          go_wp2
                          exact ⟨⟨k + 1, by go_num, by omega, HB2, HN⟩, by simp [intOf]; omega⟩
                        · rw [tt_false hP] at HC
                          have hN := Lib.hid (HF.out (fun k' => hP (by rw [← Hg.out]; exact (HD.out.1 k').2.2.2.1 k hlt)))
                          clear hP
                          go_wp2_with fail
                          refine (HC.out _).mono ?_
                          rintro e w2 ⟨rfl, hB2⟩
                          have HB3 := Lib.hid (HB2.out.trans (hB2.mono (by have := HB2.out.size; first | omega | (rw [← Hn.out]; omega))))
                          clear hB2
                          go_wp2
                          go_ret
                          exact ⟨ret_bool' hN.out.symm, by first | exact HB3.out | (rw [Hn.out]; exact HB3.out)⟩
                      · have A3 : Hid (AllPu PutOk ps) := fun j hj => hall.out j (by omega)
                        have HH := Lib.hid (show (st = 1 → ps.length = 0) → res = true from fun h => Hr.out.symm.trans (tt_true (HD.out.2 ⟨⟨S1.out, L1.out, L2.out, L3.out, L4.out⟩, A1.out, A2.out, A3.out, h⟩)))
                        by_cases hs : st = 1
                        · by_cases z0 : ps.length = 0
                          · have hN := Lib.hid (HH.out (fun _ => z0))
                            have e9 : ((ps.length : Int) == 0) = true := beq_iff_eq.2 (by omega)
                            subst hs
                            clear z0
                            go_wp2
                            go_ret
                            exact ⟨ret_bool' hN.out.symm, by first | exact HB2.out | (rw [Hn.out]; exact HB2.out)⟩
                          · have hN := Lib.hid (HF.out (fun k' => z0 ((HD.out.1 k').2.2.2.2 hs)))
                            have e9 : ((ps.length : Int) == 0) = false := beq_eq_false_iff_ne.2 (by omega)
                            subst hs
                            clear z0
                            go_wp2
                            go_ret
                            exact ⟨ret_bool' hN.out.symm, by first | exact HB2.out | (rw [Hn.out]; exact HB2.out)⟩
                        · have es : (st != 1) = true := bne_iff_ne.2 hs
                          have hN := Lib.hid (HH.out (fun h => (hs h).elim))
                          clear hs
                          go_wp2
                          go_ret
                          exact ⟨ret_bool' hN.out.symm, by first | exact HB2.out | (rw [Hn.out]; exact HB2.out)⟩
          · have d4 : decide (40 < (ps.length : Int)) = true := by simp; omega
            have hN := Lib.hid (HF.out (fun h => h4 (HD.out.1 h).1.2.2.2.2))
            clear h1 h2 h3 h4
            go_enter Tryz.func94, Tryz.ntmps94
            go_wp2_with fail
            refine (HS.out _).mono ?_
            rintro e w1 ⟨rfl, rfl⟩
            go_wp2
            go_ret
            exact ⟨ret_bool' hN.out.symm, HB.out⟩
        · have d3 : ((bs.length : Int) != 12) = true := by simp; omega
          have hN := Lib.hid (HF.out (fun h => h3 (HD.out.1 h).1.2.2.2.1))
          clear h1 h2 h3
          go_enter Tryz.func94, Tryz.ntmps94
          go_wp2_with fail
          refine (HS.out _).mono ?_
          rintro e w1 ⟨rfl, rfl⟩
          go_wp2
          go_ret
          exact ⟨ret_bool' hN.out.symm, HB.out⟩
      · have d2 : ((ys.length : Int) != 2) = true := by simp; omega
        have hN := Lib.hid (HF.out (fun h => h2 (HD.out.1 h).1.2.2.1))
        clear h1 h2
        go_enter Tryz.func94, Tryz.ntmps94
        go_wp2_with fail
        refine (HS.out _).mono ?_
        rintro e w1 ⟨rfl, rfl⟩
        go_wp2
        go_ret
        exact ⟨ret_bool' hN.out.symm, HB.out⟩
    · have d1 : ((xs.length : Int) != 12) = true := by simp; omega
      have hN := Lib.hid (HF.out (fun h => h1 (HD.out.1 h).1.2.1))
      clear h1
      go_enter Tryz.func94, Tryz.ntmps94
      go_wp2_with fail
      refine (HS.out _).mono ?_
      rintro e w1 ⟨rfl, rfl⟩
      go_wp2
      go_ret
      exact ⟨ret_bool' hN.out.symm, HB.out⟩
  · rw [tt_false s1] at HS
    have hN := Lib.hid (HF.out (fun h => s1 (HD.out.1 h).1.1))
    clear s1
    go_enter Tryz.func94, Tryz.ntmps94
    go_wp2_with fail
    refine (HS.out _).mono ?_
    rintro e w1 ⟨rfl, rfl⟩
    go_wp2
    go_ret
    exact ⟨ret_bool' hN.out.symm, HB.out⟩

end Go.Proofs.YtcdiengbmjkglaaGreat
