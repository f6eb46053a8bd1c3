/- lpaRoot of the laws: whether two roots are the same. Conditions: none but the row's own bound on sizes. -/
import Derived.Test.YtliadobopideaaaGreatDoorPKMI
import Derived.Test.YtliadobopideaaaGreatDoorPKTE
import Derived.Test.YtliadobopideaaaGreatDoorPKRG
import Derived.Lib.QuietBelow
namespace Go.Proofs.YtliadobopideaaaGreatDoor
open Go.RowKit Go.Sort

theorem list_same {α : Type} {d : α} {l m : List α} (hl : l.length = m.length) (h : ∀ j, j < l.length → l.getD j d = m.getD j d) : l = m := by
  refine List.ext_getElem hl (fun j h1 h2 => ?_)
  have := h j h1
  rw [List.getD, List.getElem?_eq_getElem h1, List.getD, List.getElem?_eq_getElem h2] at this
  exact this
set_option maxRecDepth 100000 in
set_option maxHeartbeats 4000000 in
theorem lpaRoot_any (ta tb : Int) (aa ab : Option Addr) (ca cb : Nat) (va vb : List VolD) (w : World) (hla : va.length ≤ maxLen) (hlb : vb.length ≤ maxLen) (hxa : Hid (VolsAt w aa va)) (hxb : Hid (VolsAt w ab vb)) :
    Calls Tryz.prog 11 #[.agg #[.int .i64 ta, .slice aa va.length ca], .agg #[.int .i64 tb, .slice ab vb.length cb]] w fun e w' => e = .returned (.bool (tt (RootD.mk ta va = ⟨tb, vb⟩))) ∧ Below w.heap.size w w' := by
  have hB0 : Below w.heap.size w ((w.alloc (.cells #[.int .i64 ta, .slice aa va.length ca] 25)).alloc (.cells #[.int .i64 tb, .slice ab vb.length cb] 25)) := ((Below.refl _ _).alloc (Nat.le_refl _) _).alloc (by simp) _
  have HB := Lib.hid hB0
  have HXa := Lib.hid (hxa.out.below hB0)
  have HXb := Lib.hid (hxb.out.below hB0)
  have k0 : ((w.alloc (.cells #[.int .i64 ta, .slice aa va.length ca] 25)).alloc (.cells #[.int .i64 tb, .slice ab vb.length cb] 25)).cell? ⟨w.heap.size, 0, none⟩ = some (.int .i64 ta) := by simp [go_sem]
  have k1 : ((w.alloc (.cells #[.int .i64 ta, .slice aa va.length ca] 25)).alloc (.cells #[.int .i64 tb, .slice ab vb.length cb] 25)).cell? ⟨w.heap.size, 1, none⟩ = some (.slice aa va.length ca) := by simp [go_sem]
  have k2 : ((w.alloc (.cells #[.int .i64 ta, .slice aa va.length ca] 25)).alloc (.cells #[.int .i64 tb, .slice ab vb.length cb] 25)).cell? ⟨w.heap.size + 1, 0, none⟩ = some (.int .i64 tb) := by simp [go_sem]
  have k3 : ((w.alloc (.cells #[.int .i64 ta, .slice aa va.length ca] 25)).alloc (.cells #[.int .i64 tb, .slice ab vb.length cb] 25)).cell? ⟨w.heap.size + 1, 1, none⟩ = some (.slice ab vb.length cb) := by simp [go_sem]
  have K0 := Lib.hid k0
  have K1 := Lib.hid k1
  have K2 := Lib.hid k2
  have K3 := Lib.hid k3
  unfold maxLen at hla hlb
  clear hB0 k0 k1 k2 k3
  by_cases ht : ta = tb
  · subst ht
    by_cases hn : va.length = vb.length
    · have Hn := Lib.hid hn
      have d1 : ((va.length : Int) != (vb.length : Int)) = false := by simp; omega
      have hle : va.length ≤ vb.length := by omega
      clear hn
      go_enter Tryz.func11, Tryz.ntmps11
      go_wp2_with fail
      generalize hD : w.heap.size = D at K0 K1 K2 K3 ⊢
      generalize (w.alloc (.cells #[.int .i64 ta, .slice aa va.length ca] 25)).alloc (.cells #[.int .i64 ta, .slice ab vb.length cb] 25) = w1 at HB HXa HXb K0 K1 K2 K3 ⊢
      subst hD
      go_loopw [5] (fun i wr => ∃ k : Nat, i = .int .i64 (k : Int) ∧ k ≤ va.length ∧ Hid (Below w1.heap.size w1 wr) ∧ Hid (∀ j, j < k → va.getD j vol0 = vb.getD j vol0)) (fun i _ => va.length - (intOf i).toNat)
      case atStart => exact ⟨0, rfl, by omega, Below.refl _ _, fun j hj => by omega⟩
      case round =>
        obtain ⟨k, rfl, hk, hBr, hall⟩ := hrel
        have b1 := cell_below hBr.out K1.out
        have b3 := cell_below hBr.out K3.out
        by_cases hlt : k < va.length
        · have hlt2 : k < vb.length := by omega
          obtain ⟨b, off, rfl, hc⟩ := HXa.out.resolve_left (fun e => by subst e; simp at hlt)
          obtain ⟨b', off', rfl, hc'⟩ := HXb.out.resolve_left (fun e => by subst e; simp at hlt2)
          obtain ⟨x0, u, x1, hu⟩ := hc k hlt
          obtain ⟨z0, u', z1, hu'⟩ := hc' k hlt2
          have HVa := Lib.hid (show va.getD k vol0 = ⟨(va.getD k vol0).name, (va.getD k vol0).blocks⟩ from rfl)
          have HVb := Lib.hid (show vb.getD k vol0 = ⟨(vb.getD k vol0).name, (vb.getD k vol0).blocks⟩ from rfl)
          generalize (va.getD k vol0).name = na at x0 HVa
          generalize (va.getD k vol0).blocks = ba at hu HVa
          generalize (vb.getD k vol0).name = nb at z0 HVb
          generalize (vb.getD k vol0).blocks = bb at hu' HVb
          obtain ⟨ua, uc, rfl, _, hum, hua⟩ := hu
          obtain ⟨ua', uc', rfl, _, hum', hua'⟩ := hu'
          have HUa := Lib.hid hua
          have HUb := Lib.hid hua'
          have X0 := Lib.hid x0
          have X1 := Lib.hid x1
          have Z0 := Lib.hid z0
          have Z1 := Lib.hid z1
          have i0 : (0 : Int) ≤ (k : Int) := by omega
          have i1 : (k : Int) < (va.length : Int) := by omega
          have i2 : (k : Int) < (vb.length : Int) := by omega
          have hbam : ba.length ≤ maxLen := by omega
          have hbbm : bb.length ≤ maxLen := by omega
          have hba63 : ba.length ≤ 9223372036854775807 := by unfold maxLen at hbam; omega
          have c0 := cell_below hBr.out x0
          have c1 := cell_below hBr.out x1
          have c2 := cell_below hBr.out z0
          have c3 := cell_below hBr.out z1
          clear hc hc' x0 x1 z0 z1 hua hua'
          by_cases hnm : na = nb
          · subst hnm
            by_cases hbl : ba.length = bb.length
            · have Hbl := Lib.hid hbl
              have d2 : ((ba.length : Int) != (bb.length : Int)) = false := by simp; omega
              have hle2 : ba.length ≤ bb.length := by omega
              clear hbl
              go_wp2_with fail
              go_quiet (fail)
              clear b1 b3 c0 c1 c2 c3
              go_wp2_with fail
              go_loopw [6] (fun i wq => ∃ m : Nat, i = .int .i64 (m : Int) ∧ m ≤ ba.length ∧ Hid (Below w1.heap.size w1 wq) ∧ Hid (∀ j, j < m → ba.getD j ptr0 = bb.getD j ptr0)) (fun i _ => ba.length - (intOf i).toNat)
              case atStart => exact ⟨0, rfl, by omega, belowN hBr.out _, fun j hj => by omega⟩
              case round =>
                obtain ⟨m, rfl, hm, hBq, hal2⟩ := hrel
                have b1 := cell_below hBq.out K1.out
                have b3 := cell_below hBq.out K3.out
                have c1 := cell_below hBq.out X1.out
                have c3 := cell_below hBq.out Z1.out
                by_cases hmt : m < ba.length
                · have hmt2 : m < bb.length := by omega
                  obtain ⟨pb, po, rfl, hpc⟩ := HUa.out.resolve_left (fun e => by subst e; simp at hmt)
                  obtain ⟨pb', po', rfl, hpc'⟩ := HUb.out.resolve_left (fun e => by subst e; simp at hmt2)
                  obtain ⟨p0, p1, pu, p2, hpu⟩ := hpc m hmt
                  obtain ⟨q0, q1, qu, q2, hqu⟩ := hpc' m hmt2
                  have HPa := Lib.hid (show ba.getD m ptr0 = ⟨(ba.getD m ptr0).size, (ba.getD m ptr0).sum, (ba.getD m ptr0).places⟩ from rfl)
                  have HPb := Lib.hid (show bb.getD m ptr0 = ⟨(bb.getD m ptr0).size, (bb.getD m ptr0).sum, (bb.getD m ptr0).places⟩ from rfl)
                  generalize (ba.getD m ptr0).size = sz at p0 HPa
                  generalize (ba.getD m ptr0).sum = sm at p1 HPa
                  generalize (ba.getD m ptr0).places = ps at hpu HPa
                  generalize (bb.getD m ptr0).size = sz' at q0 HPb
                  generalize (bb.getD m ptr0).sum = sm' at q1 HPb
                  generalize (bb.getD m ptr0).places = qs at hqu HPb
                  obtain ⟨xa, xc, rfl, hx1, hx2, hxp⟩ := hpu
                  obtain ⟨ya, yc, rfl, hy1, hy2, hyp⟩ := hqu
                  have j0 : (0 : Int) ≤ (m : Int) := by omega
                  have j1 : (m : Int) < (ba.length : Int) := by omega
                  have j2 : (m : Int) < (bb.length : Int) := by omega
                  have g0 := cell_regrown (cell_below hBq.out p0)
                  have g1 := cell_regrown (cell_below hBq.out p1)
                  have g2 := cell_regrown (cell_below hBq.out p2)
                  have g3 := cell_regrown (cell_below hBq.out q0)
                  have g4 := cell_regrown (cell_below hBq.out q1)
                  have g5 := cell_regrown (cell_below hBq.out q2)
                  have g6 := cell_regrown b1
                  have g7 := cell_regrown b3
                  have g8 := cell_regrown c1
                  have g9 := cell_regrown c3
                  have HL := Lib.hid (fun w' (hw : Below wr.heap.size wr w') => lpaPtr_any sz sm sz' sm' xa ya xc yc ps qs w' (by omega) (by omega) ((hxp.below hBq.out).below hw) ((hyp.below hBq.out).below hw))
                  by_cases hs : Same ⟨sz, sm, ps⟩ ⟨sz', sm', qs⟩
                  · rw [tt_true hs] at HL
                    have HN : Hid (∀ j, j < m + 1 → ba.getD j ptr0 = bb.getD j ptr0) := fun j hj => by
                      by_cases e : j = m
                      · subst e; rw [HPa.out, HPb.out]; exact hs
                      · exact hal2.out j (by omega)
                    clear hs hpc hpc' p0 p1 p2 q0 q1 q2 hxp hyp
                    go_wp2_with fail
                    refine wp_region_quiet_below (by kernel_rfl) (by kernel_rfl) ?_
                    repeat (go_big_quiet_step ((go_at_call 32; with_reducible exact Calls.regrown_of (HL.out _ (below_regrown _ _ _)))))
                    refine wpQuiet_nil ?_
                    intro w9 hw9
                    have HB9 : Hid (Below w1.heap.size w1 w9) := by obtain ⟨p, rfl⟩ := hw9; exact rg_below hBq.out _ _
                    clear hw9
                    go_wp2
                    exact ⟨⟨m + 1, by go_num, by omega, HB9, HN⟩, by simp [intOf]; omega⟩
                  · rw [tt_false hs] at HL
                    have HF := Lib.hid (tt_false (P := RootD.mk ta va = ⟨ta, vb⟩) (fun h => hs (by
                      injection h with _ h
                      have e1 : va.getD k vol0 = vb.getD k vol0 := by rw [h]
                      rw [HVa.out, HVb.out] at e1
                      injection e1 with _ e2
                      have e3 : ba.getD m ptr0 = bb.getD m ptr0 := by rw [e2]
                      rw [HPa.out, HPb.out] at e3
                      exact e3)))
                    clear hs hpc hpc' p0 p1 p2 q0 q1 q2 hxp hyp
                    go_wp2_with fail
                    refine wp_region_quiet_below (by kernel_rfl) (by kernel_rfl) ?_
                    repeat (go_big_quiet_step ((go_at_call 32; with_reducible exact Calls.regrown_of (HL.out _ (below_regrown _ _ _)))))
                    refine wpQuiet_nil ?_
                    intro w9 hw9
                    have HB9 : Hid (Below w.heap.size w w9) := by obtain ⟨p, rfl⟩ := hw9; exact HB.out.trans ((rg_below hBq.out _ _).mono HB.out.size)
                    clear hw9
                    go_wp2
                    go_ret
                    exact ⟨ret_bool' HF.out.symm, HB9.out⟩
                · have HN : Hid (∀ j, j < k + 1 → va.getD j vol0 = vb.getD j vol0) := fun j hj => by
                    by_cases e : j = k
                    · subst e
                      rw [HVa.out, HVb.out, list_same Hbl.out (fun i hi => hal2.out i (by omega))]
                    · exact hall.out j (by omega)
                  go_wp2
                  exact ⟨⟨k + 1, by go_num, by omega, hBq, HN⟩, by simp [intOf]; omega⟩
            · have d2 : ((ba.length : Int) != (bb.length : Int)) = true := by simp; omega
              have HF := Lib.hid (tt_false (P := RootD.mk ta va = ⟨ta, vb⟩) (fun h => hbl (by
                injection h with _ h
                have e1 : va.getD k vol0 = vb.getD k vol0 := by rw [h]
                rw [HVa.out, HVb.out] at e1
                injection e1 with _ e2
                rw [e2])))
              clear hbl
              go_wp2_with fail
              go_quiet (fail)
              go_wp2
              go_ret
              exact ⟨ret_bool' HF.out.symm, HB.out.trans ((belowN hBr.out _).mono HB.out.size)⟩
          · have d2 := text_no hnm
            have d3 : (na.toList != nb.toList) = true := by simp [bne, d2]
            have HF := Lib.hid (tt_false (P := RootD.mk ta va = ⟨ta, vb⟩) (fun h => hnm (by
              injection h with _ h
              have e1 : va.getD k vol0 = vb.getD k vol0 := by rw [h]
              rw [HVa.out, HVb.out] at e1
              injection e1)))
            clear hnm
            go_wp2_with fail
            go_quiet (fail)
            go_wp2
            go_ret
            exact ⟨ret_bool' HF.out.symm, HB.out.trans ((belowN hBr.out _).mono HB.out.size)⟩
        · have HF := Lib.hid (tt_true (P := RootD.mk ta va = ⟨ta, vb⟩) (by rw [list_same Hn.out (fun j hj => hall.out j (by omega))]))
          go_wp2
          go_ret
          exact ⟨ret_bool' HF.out.symm, HB.out.trans (hBr.out.mono HB.out.size)⟩
    · have d1 : ((va.length : Int) != (vb.length : Int)) = true := by simp; omega
      have HF := Lib.hid (tt_false (P := RootD.mk ta va = ⟨ta, vb⟩) (fun h => hn (by injection h with _ h; rw [h])))
      clear hn
      go_enter Tryz.func11, Tryz.ntmps11
      go_wp2
      go_ret
      exact ⟨ret_bool' HF.out.symm, HB.out⟩
  · have d1 : (ta != tb) = true := by simp [ht]
    have HF := Lib.hid (tt_false (P := RootD.mk ta va = ⟨tb, vb⟩) (fun h => ht (by injection h)))
    clear ht
    go_enter Tryz.func11, Tryz.ntmps11
    go_wp2
    go_ret
    exact ⟨ret_bool' HF.out.symm, HB.out⟩

end Go.Proofs.YtliadobopideaaaGreatDoor
