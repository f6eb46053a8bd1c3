/- RootOk of the specification. Conditions: none but the row's own bound on sizes. -/
import Derived.Test.YtceielkcplcccaaGreatDoorPKU8
namespace Go.Proofs.YtceielkcplcccaaGreatDoor
open Go.RowKit Go.Sort

/-- VOLUMES WITH NAMES OF THEIR OWN, each with three pointers. -/
def NamedTo (vs : List VolD) (k : Nat) : Prop := ∀ i, i < k → NameOk (vs.getD i vol0).name ∧ (vs.getD i vol0).blocks.length = 3 ∧ ∀ j, j < i → (vs.getD j vol0).name ≠ (vs.getD i vol0).name
def GoodTo (n : Int) (ps : List PtrD) (k : Nat) : Prop := ∀ i, i < k → PtrFine n (ps.getD i ptr0) ∧ ∀ j, j < i → ¬Clash (ps.getD i ptr0) (ps.getD j ptr0)
theorem getD_all {α : Type} {P : α → Prop} {l : List α} {d : α} : (∀ i, i < l.length → P (l.getD i d)) ↔ ∀ x ∈ l, P x := by
  refine ⟨fun h x hx => ?_, fun h i hi => ?_⟩
  · obtain ⟨i, hi, rfl⟩ := List.getElem_of_mem hx
    have := h i hi
    rw [List.getD, List.getElem?_eq_getElem hi] at this
    exact this
  · rw [List.getD, List.getElem?_eq_getElem hi]
    exact h _ (List.getElem_mem hi)
theorem good_iff {n : Int} {vs : List VolD} (hp : Pool n) (h4 : vs.length ≤ 4) : (VolsFine n vs ∧ Apart (allOf vs)) ↔ NamedTo vs vs.length ∧ GoodTo n (allOf vs) (allOf vs).length := by
  have key : (∀ i, i < (allOf vs).length → PtrFine n ((allOf vs).getD i ptr0)) ↔ ∀ k, k < vs.length → ∀ j, j < (vs.getD k vol0).blocks.length → PtrFine n ((vs.getD k vol0).blocks.getD j ptr0) := by
    rw [getD_all (P := PtrFine n)]
    constructor
    · intro h k hk
      rw [getD_all (P := PtrFine n)]
      intro x hx
      refine h x (List.mem_flatMap.2 ⟨vs.getD k vol0, ?_, hx⟩)
      rw [List.getD, List.getElem?_eq_getElem hk]
      exact List.getElem_mem hk
    · intro h x hx
      obtain ⟨v, hv, hxv⟩ := List.mem_flatMap.1 hx
      obtain ⟨k, hk, rfl⟩ := List.getElem_of_mem hv
      have := h k hk
      rw [getD_all (P := PtrFine n)] at this
      refine this x ?_
      rw [List.getD, List.getElem?_eq_getElem hk]
      exact hxv
  constructor
  · rintro ⟨hv, ha⟩
    refine ⟨fun i hi => ⟨(hv.2 i hi).1, (hv.2 i hi).2.2.1, (hv.2 i hi).2.1⟩, fun i hi => ⟨key.2 (fun k hk j hj => ((hv.2 k hk).2.2.2 j hj).2) i hi, fun j hj => ha i hi j hj⟩⟩
  · rintro ⟨hn, hg⟩
    have := key.1 (fun i hi => (hg i hi).1)
    exact ⟨⟨h4, fun k hk => ⟨(hn k hk).1, (hn k hk).2.2, (hn k hk).2.1, fun j hj => ⟨hp, this k hk j hj⟩⟩⟩, fun i hi j hj => (hg i hi).2 j hj⟩

set_option maxRecDepth 100000 in
set_option maxHeartbeats 4000000 in
theorem l2Vols_any (n : Int) (r : RootD) (a : Option Addr) (cap : Nat) (w : World) (hp : Pool n) (h4 : r.vols.length ≤ 4) (hnm : Hid (∀ j, j < r.vols.length → (r.vols.getD j vol0).name.size ≤ maxLen)) (hx : Hid (VolsAt w a r.vols)) :
    Calls Tryz.prog 61 #[.int .i64 n, .agg #[.int .i64 r.txg, .slice a r.vols.length cap]] w fun e w' => e = .returned (.bool (tt (VolsFine n r.vols ∧ Apart (allOf r.vols)))) ∧ Below w.heap.size w w' := by
  rw [tt_congr (good_iff hp h4)]
  have Hp := Lib.hid hp
  clear hp
  obtain ⟨t, vs⟩ := r
  simp only at *
  have HF : Hid (∀ P, (NamedTo vs vs.length ∧ GoodTo n (allOf vs) (allOf vs).length ↔ P) → tt (NamedTo vs vs.length ∧ GoodTo n (allOf vs) (allOf vs).length) = tt P) := fun P h => tt_congr h
  generalize hres : tt (NamedTo vs vs.length ∧ GoodTo n (allOf vs) (allOf vs).length) = res at HF ⊢
  clear hres
  have hB0 : Below w.heap.size w (w.alloc (.cells #[.int .i64 t, .slice a vs.length cap] 25)) := (Below.refl _ _).alloc (Nat.le_refl _) _
  have HB0 := Lib.hid hB0
  have HX := Lib.hid (hx.out.below hB0)
  have K0 : Hid ((w.alloc (.cells #[.int .i64 t, .slice a vs.length cap] 25)).cell? ⟨w.heap.size, 0, none⟩ = some (.int .i64 t)) := by
    show (w.alloc (.cells #[.int .i64 t, .slice a vs.length cap] 25)).cell? ⟨w.heap.size, 0, none⟩ = _
    rw [World.cell?_alloc_mark]; rfl
  have K1 : Hid ((w.alloc (.cells #[.int .i64 t, .slice a vs.length cap] 25)).cell? ⟨w.heap.size, 1, none⟩ = some (.slice a vs.length cap)) := by
    show (w.alloc (.cells #[.int .i64 t, .slice a vs.length cap] 25)).cell? ⟨w.heap.size, 1, none⟩ = _
    rw [World.cell?_alloc_mark]; rfl
  clear hB0
  go_enter Tryz.func61, Tryz.ntmps61
  go_wp2_with fail
  generalize w.alloc (.cells #[.int .i64 t, .slice a vs.length cap] 25) = w1 at HB0 HX K0 K1 ⊢
  go_loopw [5] (fun i wr => ∃ k : Nat, i = .int .i64 (k : Int) ∧ k ≤ vs.length ∧ Hid (Below w1.heap.size w1 wr) ∧ Hid (NamedTo vs k)) (fun i _ => vs.length - (intOf i).toNat)
  case atStart => exact ⟨0, rfl, by omega, Below.refl _ _, fun j hj => by omega⟩
  case round =>
    obtain ⟨k, rfl, hk, hB, hall⟩ := hrel
    have cb := cell_below hB.out K1.out
    by_cases hlt : k < vs.length
    · obtain ⟨b, off, rfl, hc⟩ := (HX.out.below hB.out).resolve_left (fun e => by subst e; simp at hlt)
      obtain ⟨e0, u, e1, hu⟩ := hc k hlt
      have hns := hnm.out k hlt
      clear hc
      have HV := Lib.hid (show NamedTo vs (k + 1) ↔ NamedTo vs k ∧ (NameOk (vs.getD k vol0).name ∧ (vs.getD k vol0).blocks.length = 3 ∧ ∀ j, j < k → (vs.getD j vol0).name ≠ (vs.getD k vol0).name) from
        ⟨fun h => ⟨fun i hi => h i (by omega), h k (by omega)⟩, fun h i hi => by
          by_cases e : i = k
          · rw [e]; exact h.2
          · exact h.1 i (by omega)⟩)
      have HR : Hid (¬(NameOk (vs.getD k vol0).name ∧ (vs.getD k vol0).blocks.length = 3 ∧ ∀ j, j < k → (vs.getD j vol0).name ≠ (vs.getD k vol0).name) → res = false) := fun h => (HF.out False ⟨fun q => h (q.1 k hlt), False.elim⟩).trans (tt_false id)
      generalize hgk : vs.getD k vol0 = p at e0 e1 hu hns HV HR
      have Hgk := Lib.hid hgk
      clear hgk
      obtain ⟨nm, bs⟩ := p
      obtain ⟨a1, cap1, rfl, hc1, hm1, hx1⟩ := hu
      simp only at e0 e1 hns HV HR hc1 hx1
      have HI := Lib.hid (fun w' => l2Name_any nm w' hns)
      have HX1 := Lib.hid hx1
      clear hx1
      by_cases h1 : NameOk nm
      · rw [tt_true h1] at HI
        by_cases h3 : bs.length = 3
        · have d3 : ((bs.length : Int) != 3) = false := by simp; omega
          have HV' : Hid ((∀ j, j < k → (vs.getD j vol0).name ≠ nm) → NamedTo vs (k + 1)) := fun h => HV.out.2 ⟨hall.out, h1, h3, h⟩
          have HR' : Hid ((¬∀ j, j < k → (vs.getD j vol0).name ≠ nm) → res = false) := fun h => HR.out (fun q => h q.2.2)
          clear h1 h3 HV HR
          go_wp2_with fail
          refine (HI.out _).mono ?_
          rintro e w2 ⟨rfl, rfl⟩
          go_wp2_with fail
          go_loopw [6] (fun i wq => ∃ m : Nat, i = .int .i64 (m : Int) ∧ m ≤ k ∧ Hid (Below w1.heap.size w1 wq) ∧ Hid (∀ j, j < m → (vs.getD j vol0).name ≠ nm)) (fun i _ => k - (intOf i).toNat)
          case atStart => exact ⟨0, rfl, by omega, hB, fun j hj => by omega⟩
          case round =>
            clear cb e0 e1
            obtain ⟨m, rfl, hm, hBq, hne⟩ := hrel
            have cb := cell_below hBq.out K1.out
            obtain ⟨b', off', eb, hc'⟩ := (HX.out.below hBq.out).resolve_left (fun e => by subst e; simp at hlt)
            injection eb with eb
            injection eb with eb1 eb2
            subst eb1
            subst eb2
            have f1 := (hc' k hlt).1
            rw [Hgk.out] at f1
            simp only at f1
            by_cases hmk : m < k
            · have f2 := (hc' m (by omega)).1
              clear hc'
              generalize hgm : (vs.getD m vol0).name = nm2 at f2
              have Hgm := Lib.hid hgm
              clear hgm
              have i1 : (m : Int) < (vs.length : Int) := by omega
              have i0 : (0 : Int) ≤ (m : Int) := by omega
              have i2 : (k : Int) < (vs.length : Int) := by omega
              have i3 : (0 : Int) ≤ (k : Int) := by omega
              by_cases hd : nm2 = nm
              · have dd := text_yes hd
                have HG := Lib.hid (HR'.out (fun h => h m hmk (by rw [Hgm.out]; exact hd)))
                clear hd
                go_wp2_with fail
                go_quiet (fail)
                go_wp2
                go_ret
                exact ⟨ret_bool' HG.out.symm, belowN (HB0.out.trans (hBq.out.mono HB0.out.size)) _⟩
              · have dd := text_no hd
                have HN : Hid (∀ j, j < m + 1 → (vs.getD j vol0).name ≠ nm) := fun j hj => by
                  by_cases e : j = m
                  · subst e; rw [Hgm.out]; exact hd
                  · exact hne.out j (by omega)
                clear hd
                go_wp2_with fail
                go_quiet (fail)
                go_wp2
                exact ⟨⟨m + 1, by go_num, by omega, belowN hBq.out _, HN⟩, by simp [intOf]; omega⟩
            · obtain rfl : m = k := by omega
              have HN := Lib.hid (HV'.out hne.out)
              clear hc'
              go_wp2
              exact ⟨⟨m + 1, by go_num, by omega, hBq, HN⟩, by simp [intOf]; omega⟩
        · have d3 : ((bs.length : Int) != 3) = true := by simp; omega
          have HG := Lib.hid (HR.out (fun h => h3 h.2.1))
          clear h3
          go_wp2_with fail
          refine (HI.out _).mono ?_
          rintro e w2 ⟨rfl, rfl⟩
          go_wp2
          go_ret
          exact ⟨ret_bool' HG.out.symm, HB0.out.trans (hB.out.mono HB0.out.size)⟩
      · rw [tt_false h1] at HI
        have HG := Lib.hid (HR.out (fun h => h1 h.1))
        clear h1
        go_wp2_with fail
        refine (HI.out _).mono ?_
        rintro e w2 ⟨rfl, rfl⟩
        go_wp2
        go_ret
        exact ⟨ret_bool' HG.out.symm, HB0.out.trans (hB.out.mono HB0.out.size)⟩
    · obtain rfl : k = vs.length := by omega
      have HT : Hid (Threes vs) := ⟨h4, fun j hj => (hall.out j hj).2.1⟩
      have HF2 : Hid (∀ P, (GoodTo n (allOf vs) (allOf vs).length ↔ P) → res = tt P) := fun P h => HF.out P ⟨fun q => h.1 q.2, fun q => ⟨hall.out, h.2 q⟩⟩
      have c0 := cell_below hB.out K0.out
      go_wp2_with fail
      refine (l2All_any t a cap vs _ HT (HX.out.below hB.out)).mono ?_
      rintro e w5 ⟨v5, rfl, ho5, hB5⟩
      obtain ⟨a5, cap5, rfl, hc5, hm5, hx5⟩ := ho5.reads
      have HX5 := Lib.hid hx5
      have HB5 := Lib.hid (HB0.out.trans ((hB.out.trans (hB5.mono hB.out.size)).mono HB0.out.size))
      clear ho5 hx5 hB5 HF hall cb c0
      generalize allOf vs = ps at HF2 HX5 hc5
      have hl5 : ps.length ≤ 9223372036854775807 := by unfold maxLen at hm5; omega
      go_wp2_with fail
      go_loopw [8] (fun i wr => ∃ k : Nat, i = .int .i64 (k : Int) ∧ k ≤ ps.length ∧ Hid (Below w5.heap.size w5 wr) ∧ Hid (GoodTo n ps k)) (fun i _ => ps.length - (intOf i).toNat)
      case atStart => exact ⟨0, rfl, by omega, Below.refl _ _, fun j hj => by omega⟩
      case round =>
        obtain ⟨k, rfl, hk6, hB6, hall⟩ := hrel
        by_cases hlt6 : k < ps.length
        · obtain ⟨b, off, rfl, hc⟩ := (HX5.out.below hB6.out).resolve_left (fun e => by subst e; simp at hlt6)
          obtain ⟨e0, e1, u, e2, hu⟩ := hc k hlt6
          clear hc
          have HV := Lib.hid (show GoodTo n ps (k + 1) ↔ GoodTo n ps k ∧ (PtrFine n (ps.getD k ptr0) ∧ ∀ j, j < k → ¬Clash (ps.getD k ptr0) (ps.getD j ptr0)) from
            ⟨fun h => ⟨fun i hi => h i (by omega), h k (by omega)⟩, fun h i hi => by
              by_cases e : i = k
              · rw [e]; exact h.2
              · exact h.1 i (by omega)⟩)
          have HR : Hid (¬(PtrFine n (ps.getD k ptr0) ∧ ∀ j, j < k → ¬Clash (ps.getD k ptr0) (ps.getD j ptr0)) → res = false) := fun h => (HF2.out False ⟨fun q => h (q k hlt6), False.elim⟩).trans (tt_false id)
          generalize hgk : ps.getD k ptr0 = p at e0 e1 hu HV HR
          have Hgk := Lib.hid hgk
          clear hgk
          obtain ⟨a1, cap1, rfl, hc1, hm1, hx1⟩ := hu
          have HC := Lib.hid (l2Ptr_any n p a1 cap1 wr Hp.out (by omega) hx1)
          have HX1 := Lib.hid hx1
          clear hx1
          by_cases h1 : PtrFine n p
          · rw [tt_true h1] at HC
            have HV' : Hid ((∀ j, j < k → ¬Clash p (ps.getD j ptr0)) → GoodTo n ps (k + 1)) := fun h => HV.out.2 ⟨hall.out, h1, h⟩
            have HR' : Hid ((¬∀ j, j < k → ¬Clash p (ps.getD j ptr0)) → res = false) := fun h => HR.out (fun q => h q.2)
            clear h1 HV HR
            obtain ⟨z, s, qs⟩ := p
            simp only at e0 e1 e2 HC HX1 hc1
            go_wp2_with fail
            refine HC.out.mono ?_
            rintro e w7 ⟨rfl, hB7⟩
            have HB7 := Lib.hid (hB6.out.trans (hB7.mono hB6.out.size))
            have HX7 := Lib.hid (HX1.out.below hB7)
            clear hB7 e0 e1 e2
            go_wp2_with fail
            go_loopw [9] (fun i wq => ∃ m : Nat, i = .int .i64 (m : Int) ∧ m ≤ k ∧ Hid (Below w7.heap.size w7 wq) ∧ Hid (∀ j, j < m → ¬Clash ⟨z, s, qs⟩ (ps.getD j ptr0))) (fun i _ => k - (intOf i).toNat)
            case atStart => exact ⟨0, rfl, by omega, Below.refl _ _, fun j hj => by omega⟩
            case round =>
              obtain ⟨m, rfl, hm, hBq, hne⟩ := hrel
              have HBq5 := Lib.hid (HB7.out.trans (hBq.out.mono HB7.out.size))
              obtain ⟨b', off', eb, hc'⟩ := (HX5.out.below HBq5.out).resolve_left (fun e => by subst e; simp at hlt6)
              injection eb with eb
              injection eb with eb1 eb2
              subst eb1
              subst eb2
              by_cases hmk : m < k
              · obtain ⟨f0, f1, u2, f2, hu2⟩ := hc' k hlt6
                rw [Hgk.out] at f0 f1 hu2
                obtain ⟨a2, cap2, rfl, hcl2, hm2, hx2⟩ := hu2
                obtain ⟨g0, g1, u3', g2, hu3⟩ := hc' m (by omega)
                clear hc'
                generalize hgm : ps.getD m ptr0 = pm at g0 g1 hu3
                have Hgm := Lib.hid hgm
                clear hgm
                obtain ⟨z3, s3, ts⟩ := pm
                obtain ⟨a3, cap3, rfl, hcl3, hm3, hx3⟩ := hu3
                simp only at f0 f1 f2 g0 g1 g2 hx2 hx3 hcl2 hcl3
                have HM := Lib.hid (fun w' (hw : Below wr.heap.size wr w') => l2Meet_any z s z3 s3 a2 a3 cap2 cap3 qs ts w' (by omega) (by omega) (hx2.below hw) (hx3.below hw))
                have HS := Lib.hid (fun w' (hw : Below wr.heap.size wr w') => l2Same_any z s z3 s3 a2 a3 cap2 cap3 qs ts w' (by omega) (by omega) (hx2.below hw) (hx3.below hw))
                have r0 := cell_regrown f0
                have r1 := cell_regrown f1
                have r2 := cell_regrown f2
                have r3 := cell_regrown g0
                have r4 := cell_regrown g1
                have r5 := cell_regrown g2
                clear f0 f1 f2 g0 g1 g2 hx2 hx3
                have i1 : (m : Int) < (ps.length : Int) := by omega
                have i0 : (0 : Int) ≤ (m : Int) := by omega
                have i2 : (k : Int) < (ps.length : Int) := by omega
                have i3 : (0 : Int) ≤ (k : Int) := by omega
                have HBall : Hid (∀ w9 : World, Below wr.heap.size wr w9 → Below w.heap.size w w9) := fun w9 h => HB5.out.trans ((HBq5.out.trans (h.mono HBq5.out.size)).mono HB5.out.size)
                have HB7all : Hid (∀ w9 : World, Below wr.heap.size wr w9 → Below w7.heap.size w7 w9) := fun w9 h => hBq.out.trans (h.mono hBq.out.size)
                by_cases h2 : Meet qs ts
                · rw [tt_true h2] at HM
                  by_cases h3 : Same ⟨z, s, qs⟩ ⟨z3, s3, ts⟩
                  · rw [tt_true h3] at HS
                    have HN : Hid (∀ j, j < m + 1 → ¬Clash ⟨z, s, qs⟩ (ps.getD j ptr0)) := fun j hj => by
                      by_cases e : j = m
                      · subst e; rw [Hgm.out]; exact fun h => h.2 h3
                      · exact hne.out j (by omega)
                    clear h2 h3
                    go_wp2_with fail
                    refine wp_region_quiet_below (by kernel_rfl) (by kernel_rfl) ?_
                    repeat (go_big_quiet_step (first | (go_at_call 84; exact Calls.regrown_of (HM.out _ (below_regrown _ _ _))) | (go_at_call 85; exact Calls.regrown_of (HS.out _ (below_regrown _ _ _)))))
                    refine wpQuiet_nil ?_
                    intro w9 hw9
                    have HB9 : Hid (Below wr.heap.size wr w9) := by obtain ⟨p, rfl⟩ := hw9; exact below_regrown _ _ _
                    clear hw9
                    go_wp2
                    exact ⟨⟨m + 1, by go_num, by omega, HB7all.out _ HB9.out, HN⟩, by simp [intOf]; omega⟩
                  · rw [tt_false h3] at HS
                    have HG := Lib.hid (HR'.out (fun h => h m hmk (by rw [Hgm.out]; exact ⟨h2, h3⟩)))
                    clear h2 h3
                    go_wp2_with fail
                    refine wp_region_quiet_below (by kernel_rfl) (by kernel_rfl) ?_
                    repeat (go_big_quiet_step (first | (go_at_call 84; exact Calls.regrown_of (HM.out _ (below_regrown _ _ _))) | (go_at_call 85; exact Calls.regrown_of (HS.out _ (below_regrown _ _ _)))))
                    refine wpQuiet_nil ?_
                    intro w9 hw9
                    have HB9 : Hid (Below wr.heap.size wr w9) := by obtain ⟨p, rfl⟩ := hw9; exact below_regrown _ _ _
                    clear hw9
                    go_wp2
                    go_ret
                    exact ⟨ret_bool' HG.out.symm, HBall.out _ HB9.out⟩
                · rw [tt_false h2] at HM
                  have HN : Hid (∀ j, j < m + 1 → ¬Clash ⟨z, s, qs⟩ (ps.getD j ptr0)) := fun j hj => by
                    by_cases e : j = m
                    · subst e; rw [Hgm.out]; exact fun h => h2 h.1
                    · exact hne.out j (by omega)
                  clear h2
                  go_wp2_with fail
                  refine wp_region_quiet_below (by kernel_rfl) (by kernel_rfl) ?_
                  repeat (go_big_quiet_step (first | (go_at_call 84; exact Calls.regrown_of (HM.out _ (below_regrown _ _ _)))))
                  refine wpQuiet_nil ?_
                  intro w9 hw9
                  have HB9 : Hid (Below wr.heap.size wr w9) := by obtain ⟨p, rfl⟩ := hw9; exact below_regrown _ _ _
                  clear hw9
                  go_wp2
                  exact ⟨⟨m + 1, by go_num, by omega, HB7all.out _ HB9.out, HN⟩, by simp [intOf]; omega⟩
              · obtain rfl : m = k := by omega
                have HN := Lib.hid (HV'.out hne.out)
                clear hc'
                go_wp2
                exact ⟨⟨m + 1, by go_num, by omega, HBq5, HN⟩, by simp [intOf]; omega⟩
          · rw [tt_false h1] at HC
            have HG := Lib.hid (HR.out (fun h => h1 h.1))
            clear h1
            obtain ⟨z, s, qs⟩ := p
            simp only at e0 e1 e2 HC HX1 hc1
            go_wp2_with fail
            refine HC.out.mono ?_
            rintro e w7 ⟨rfl, hB7⟩
            have HB7 := Lib.hid (HB5.out.trans ((hB6.out.trans (hB7.mono hB6.out.size)).mono HB5.out.size))
            clear hB7
            go_wp2
            go_ret
            exact ⟨ret_bool' HG.out.symm, HB7.out⟩
        · obtain rfl : k = ps.length := by omega
          have HG := Lib.hid ((HF2.out True ⟨fun _ => trivial, fun _ => hall.out⟩).trans (tt_true trivial))
          go_wp2
          go_ret
          exact ⟨ret_bool' HG.out.symm, HB5.out.trans (hB6.out.mono HB5.out.size)⟩

set_option maxRecDepth 100000 in
set_option maxHeartbeats 2000000 in
theorem specRoot_any (n : Int) (r : RootD) (a : Option Addr) (cap : Nat) (w : World) (hl : r.vols.length ≤ maxLen) (hnm : Hid (∀ j, j < r.vols.length → (r.vols.getD j vol0).name.size ≤ maxLen)) (hx : Hid (VolsAt w a r.vols)) :
    Calls Tryz.prog 42 #[.int .i64 n, .agg #[.int .i64 r.txg, .slice a r.vols.length cap]] w fun e w' => e = .returned (.bool (tt (RootOkP n r))) ∧ Below w.heap.size w w' := by
  unfold maxLen at hl
  have HP := Lib.hid (fun w' => l2Disks_any n w')
  have HO := Lib.hid (show RootOkP n r ↔ Pool n ∧ (0 ≤ r.txg ∧ r.txg ≤ 100000) ∧ VolsFine n r.vols ∧ Apart (allOf r.vols) from Iff.rfl)
  have HI := Lib.hid (fun w' => in_any r.txg 0 100000 w')
  have hB : Below w.heap.size w (w.alloc (.cells #[.int .i64 r.txg, .slice a r.vols.length cap] 25)) := (Below.refl _ _).alloc (Nat.le_refl _) _
  have HB := Lib.hid hB
  have HX := Lib.hid (hx.out.below hB)
  clear hB
  by_cases hp : Pool n
  · rw [tt_true hp] at HP
    by_cases h1 : 0 ≤ r.txg ∧ r.txg ≤ 100000
    · rw [tt_true h1] at HI
      by_cases h4 : r.vols.length ≤ 4
      · have d4 : decide ((r.vols.length : Int) ≤ 4) = true := by simp; omega
        have HV := Lib.hid (l2Vols_any n r a cap _ hp h4 hnm HX)
        have HF : Hid (tt (RootOkP n r) = tt (VolsFine n r.vols ∧ Apart (allOf r.vols))) := tt_congr (HO.out.trans ⟨fun h => h.2.2, fun h => ⟨hp, h1, h⟩⟩)
        clear hp h1 HO
        generalize tt (RootOkP n r) = res at HF ⊢
        generalize tt (VolsFine n r.vols ∧ Apart (allOf r.vols)) = res2 at HF HV
        obtain ⟨t, vs⟩ := r
        simp only at *
        go_enter Tryz.func42, Tryz.ntmps42
        go_wp2_with fail
        refine (HP.out _).mono ?_
        rintro e w1 ⟨rfl, rfl⟩
        go_wp2_with fail
        refine (HI.out _).mono ?_
        rintro e w1 ⟨rfl, rfl⟩
        go_wp2_with fail
        refine HV.out.mono ?_
        rintro e w2 ⟨rfl, hB2⟩
        go_wp2
        go_ret
        exact ⟨ret_bool' HF.out.symm, HB.out.trans (hB2.mono HB.out.size)⟩
      · have d4 : decide ((r.vols.length : Int) ≤ 4) = false := by simp; omega
        have HF := Lib.hid (tt_false (fun h => h4 (HO.out.1 h).2.2.1.1))
        clear hp h1 h4 HO
        generalize tt (RootOkP n r) = res at HF ⊢
        obtain ⟨t, vs⟩ := r
        simp only at *
        go_enter Tryz.func42, Tryz.ntmps42
        go_wp2_with fail
        refine (HP.out _).mono ?_
        rintro e w1 ⟨rfl, rfl⟩
        go_wp2_with fail
        refine (HI.out _).mono ?_
        rintro e w1 ⟨rfl, rfl⟩
        go_wp2
        go_ret
        exact ⟨ret_bool' HF.out.symm, HB.out⟩
    · rw [tt_false h1] at HI
      have HF := Lib.hid (tt_false (fun h => h1 (HO.out.1 h).2.1))
      clear hp h1 HO
      generalize tt (RootOkP n r) = res at HF ⊢
      obtain ⟨t, vs⟩ := r
      simp only at *
      go_enter Tryz.func42, Tryz.ntmps42
      go_wp2_with fail
      refine (HP.out _).mono ?_
      rintro e w1 ⟨rfl, rfl⟩
      go_wp2_with fail
      refine (HI.out _).mono ?_
      rintro e w1 ⟨rfl, rfl⟩
      go_wp2
      go_ret
      exact ⟨ret_bool' HF.out.symm, HB.out⟩
  · rw [tt_false hp] at HP
    have HF := Lib.hid (tt_false (fun h => hp (HO.out.1 h).1))
    clear hp HO
    generalize tt (RootOkP n r) = res at HF ⊢
    obtain ⟨t, vs⟩ := r
    simp only at *
    go_enter Tryz.func42, Tryz.ntmps42
    go_wp2_with fail
    refine (HP.out _).mono ?_
    rintro e w1 ⟨rfl, rfl⟩
    go_wp2
    go_ret
    exact ⟨ret_bool' HF.out.symm, HB.out⟩

end Go.Proofs.YtceielkcplcccaaGreatDoor
