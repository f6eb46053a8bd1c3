/- SpaceFree of the specification. Conditions: none but the row's own bound on sizes. -/
import Derived.Test.YtlonecgmldjdpaaF1
import Derived.Deep.QuietTactic
import Derived.BigQuiet
namespace Go.Proofs.Ytlonecgmldjdpaa
open Go.RowKit Go.Sort Go.Lib

theorem getD_mem {α : Type} {l : List α} {d : α} {k : Nat} (h : k < l.length) : l.getD k d ∈ l := by
  rw [List.getD, List.getElem?_eq_getElem h]
  exact List.getElem_mem h

set_option maxRecDepth 100000 in
set_option maxHeartbeats 4000000 in
theorem l12Used_any (t : Int) (a : Option Addr) (cap : Nat) (vs : List VolD) (d s : Int) (w : World) (hT : Hid (Threes vs)) (hsh : Hid (∀ p ∈ allOf vs, p.places.length ≤ 4)) (hx : Hid (VolsAt w a vs)) :
    Calls Try.prog 79 #[.agg #[.int .i64 t, .slice a vs.length cap], .agg #[.int .i64 d, .int .i64 s]] w fun e w' => e = .returned (.bool (tt (UsedBy' vs (d, s)))) ∧ Below w.heap.size w w' := by
  have hlen : (allOf vs).length = vs.length * 3 := by have := allTo_length hT.out vs.length (Nat.le_refl _); rw [allTo_all vs _ (Nat.le_refl _)] at this; exact this
  have h4 := hT.out.1
  have hm12 : (allOf vs).length ≤ 12 := by omega
  have HU : Hid (UsedBy' vs (d, s) ↔ ∃ j, j < (allOf vs).length ∧ PlIn (d, s) ((allOf vs).getD j ptr0).places) := mem_plsOf _ _
  have hB0 : Below w.heap.size w ((w.alloc (.cells #[.int .i64 t, .slice a vs.length cap] 25)).alloc (.cells #[.int .i64 d, .int .i64 s] 39)) := ((Below.refl _ _).alloc (Nat.le_refl _) _).alloc (by simp) _
  have HB0 := Lib.hid hB0
  have k0 : ((w.alloc (.cells #[.int .i64 t, .slice a vs.length cap] 25)).alloc (.cells #[.int .i64 d, .int .i64 s] 39)).cell? ⟨w.heap.size + 1, 0, none⟩ = some (.int .i64 d) := by simp [go_sem]
  have k1 : ((w.alloc (.cells #[.int .i64 t, .slice a vs.length cap] 25)).alloc (.cells #[.int .i64 d, .int .i64 s] 39)).cell? ⟨w.heap.size + 1, 1, none⟩ = some (.int .i64 s) := by simp [go_sem]
  have HK := Lib.hid (And.intro k0 k1)
  clear hB0 hlen k0 k1
  go_enter Try.func79, Try.ntmps79
  go_wp2_with fail
  refine (l2All_any t a cap vs _ hT (hx.out.below HB0.out)).mono ?_
  rintro e w1 ⟨va, rfl, hpt, hB1⟩
  obtain ⟨aA, cA, rfl, hcA1, hcA2, hptA⟩ := hpt.reads
  have HA := Lib.hid hptA
  have HK1 := Lib.hid (And.intro (cell_below hB1 HK.out.1) (cell_below hB1 HK.out.2))
  have HB1 := Lib.hid (HB0.out.trans (hB1.mono HB0.out.size))
  clear hB1 hpt hptA
  go_wp2_with fail
  go_loopw [6] (fun iv wr => ∃ k : Nat, iv = .int .i64 (k : Int) ∧ k ≤ (allOf vs).length ∧ Hid (Below w1.heap.size w1 wr) ∧ Hid (∀ j, j < k → ¬PlIn (d, s) ((allOf vs).getD j ptr0).places)) (fun iv _ => (allOf vs).length - (intOf iv).toNat)
  case atStart => exact ⟨0, rfl, by omega, Below.refl _ _, fun j hj => by omega⟩
  case round =>
    obtain ⟨k, rfl, hk, hB, hall⟩ := hrel
    by_cases hlt : k < (allOf vs).length
    · have hs4 := hsh.out ((allOf vs).getD k ptr0) (getD_mem hlt)
      generalize hg : (allOf vs).getD k ptr0 = q at hs4
      have Hg := Lib.hid hg
      have HAk : Hid (∀ w', Below w1.heap.size w1 w' → ∃ b off a1 c1, aA = some ⟨b, off, none⟩ ∧ w'.cell? ⟨b, off + k * 3 + 2, none⟩ = some (.slice a1 q.places.length c1) ∧ q.places.length ≤ c1 ∧ PlacesAt w' a1 q.places) := fun w' hw => by
        obtain ⟨b, off, e, hc⟩ := (HA.out.below hw).resolve_left (fun e => by rw [e] at hlt; simp at hlt)
        obtain ⟨_, _, u, e2, hu⟩ := hc k hlt
        rw [Hg.out] at hu
        obtain ⟨a1, c1, rfl, hc1, _, hx1⟩ := hu
        exact ⟨b, off, a1, c1, e, e2, hc1, hx1⟩
      clear hg
      obtain ⟨z, sm, qs⟩ := q
      simp only at hs4 HAk
      obtain ⟨b, off, a1, c1, rfl, e2, hc1, hx1⟩ := HAk.out w1 (Below.refl _ _)
      have HX1 := Lib.hid hx1
      have HE2 := Lib.hid e2
      clear HAk hx1 e2
      go_wp2_with fail
      go_loopw [7] (fun jv wr2 => ∃ m : Nat, jv = .int .i64 (m : Int) ∧ m ≤ qs.length ∧ Hid (Below w1.heap.size w1 wr2) ∧ Hid (∀ j, j < m → qs.getD j pl0 ≠ (d, s))) (fun jv _ => qs.length - (intOf jv).toNat)
      case atStart => exact ⟨0, rfl, by omega, hB, fun j hj => by omega⟩
      case round =>
        obtain ⟨m, rfl, hm, hB2, hall2⟩ := hrel
        have e2 := cell_below hB2.out HE2.out
        by_cases hlt2 : m < qs.length
        · obtain ⟨b1, o1, rfl, hc⟩ := (HX1.out.below hB2.out).resolve_left (fun e => by rw [e] at hlt2; simp at hlt2)
          obtain ⟨p0, p1⟩ := hc m hlt2
          have r0 := cell_below hB2.out HK1.out.1
          have r1 := cell_below hB2.out HK1.out.2
          clear hc
          generalize hg2 : qs.getD m pl0 = q2 at p0 p1
          have Hg2 := Lib.hid hg2
          clear hg2
          obtain ⟨d2, s2⟩ := q2
          simp only at p0 p1
          have i1 : (k : Int) < ((allOf vs).length : Int) := by omega
          have i0 : (0 : Int) ≤ (k : Int) := by omega
          have i2 : (m : Int) < (qs.length : Int) := by omega
          have i3 : (0 : Int) ≤ (m : Int) := by omega
          by_cases he : d2 = d ∧ s2 = s
          · obtain ⟨rfl, rfl⟩ := he
            have HF := Lib.hid (tt_true (HU.out.2 ⟨k, hlt, by rw [Hg.out]; exact ⟨m, hlt2, Hg2.out⟩⟩))
            go_wp2_with fail
            go_quiet (fail)
            go_wp2
            go_ret
            exact ⟨ret_bool' HF.out.symm, belowN (HB1.out.trans (hB2.out.mono HB1.out.size)) _⟩
          · have HN : Hid (∀ j, j < m + 1 → qs.getD j pl0 ≠ (d, s)) := fun j hj => by
              by_cases e : j = m
              · subst e
                rw [Hg2.out]
                exact fun h => he (by injection h with h1 h2; exact ⟨h1, h2⟩)
              · exact hall2.out j (by omega)
            by_cases h1 : d2 = d
            · subst h1
              have q2 : (s2 == s) = false := by simp; exact fun h => he ⟨rfl, h⟩
              clear he
              go_wp2_with fail
              go_quiet (fail)
              go_wp2
              exact ⟨⟨m + 1, by go_num, by omega, belowN hB2.out _, HN⟩, by simp [intOf]; omega⟩
            · have q2 : (d2 == d) = false := by simp [h1]
              clear he h1
              go_wp2_with fail
              go_quiet (fail)
              go_wp2
              exact ⟨⟨m + 1, by go_num, by omega, belowN hB2.out _, HN⟩, by simp [intOf]; omega⟩
        · have HN : Hid (∀ j, j < k + 1 → ¬PlIn (d, s) ((allOf vs).getD j ptr0).places) := fun j hj => by
            by_cases e : j = k
            · subst e
              rw [Hg.out]
              rintro ⟨i, hi, h⟩
              exact hall2.out i (by show i < m; have : i < qs.length := hi; omega) h
            · exact hall.out j (by omega)
          go_wp2
          exact ⟨⟨k + 1, by go_num, by omega, hB2, HN⟩, by simp [intOf]; omega⟩
    · have HF := Lib.hid (tt_false (P := UsedBy' vs (d, s)) (fun h => by obtain ⟨j, hj, h2⟩ := HU.out.1 h; exact hall.out j (by omega) h2))
      go_wp2
      go_ret
      exact ⟨ret_bool' HF.out.symm, HB1.out.trans (hB.out.mono HB1.out.size)⟩

set_option maxRecDepth 100000 in
set_option maxHeartbeats 8000000 in
theorem l12Free_any (nn : Nat) (ta tb : Int) (aa ab : Option Addr) (ca cb : Nat) (va vb : List VolD) (w : World) (hnn : nn ≤ 4) (hUa : Hid (∀ d s w', Below w.heap.size w w' → Calls Try.prog 79 #[.agg #[.int .i64 ta, .slice aa va.length ca], .agg #[.int .i64 d, .int .i64 s]] w' fun e w'' => e = .returned (.bool (tt (UsedBy' va (d, s)))) ∧ Below w'.heap.size w' w''))
    (hUb : Hid (∀ d s w', Below w.heap.size w w' → Calls Try.prog 79 #[.agg #[.int .i64 tb, .slice ab vb.length cb], .agg #[.int .i64 d, .int .i64 s]] w' fun e w'' => e = .returned (.bool (tt (UsedBy' vb (d, s)))) ∧ Below w'.heap.size w' w'')) :
    Calls Try.prog 48 #[.int .i64 (nn : Int), .agg #[.int .i64 ta, .slice aa va.length ca], .agg #[.int .i64 tb, .slice ab vb.length cb]] w fun e w' => ∃ v, e = .returned v ∧ OwnPl w' w.heap.size v (pick (FreeP va vb) (gridTo nn)) ∧ Below w.heap.size w w' := by
  obtain ⟨i0, hi0, hz0, hz1, hz2⟩ := info_parts infoPl
  have hB0 : Below w.heap.size w ((w.alloc (.cells #[.int .i64 ta, .slice aa va.length ca] 25)).alloc (.cells #[.int .i64 tb, .slice ab vb.length cb] 25)) := ((Below.refl _ _).alloc (Nat.le_refl _) _).alloc (by simp) _
  have HB0 := Lib.hid hB0
  have Ha0 : Hid (RB ((w.alloc (.cells #[.int .i64 ta, .slice aa va.length ca] 25)).alloc (.cells #[.int .i64 tb, .slice ab vb.length cb] 25)) w.heap.size ta (.slice aa va.length ca)) := ⟨by simp [go_sem], by simp [go_sem]⟩
  have Hb0 : Hid (RB ((w.alloc (.cells #[.int .i64 ta, .slice aa va.length ca] 25)).alloc (.cells #[.int .i64 tb, .slice ab vb.length cb] 25)) (w.heap.size + 1) tb (.slice ab vb.length cb)) := ⟨by simp [go_sem], by simp [go_sem]⟩
  have HS0 : Hid (((w.alloc (.cells #[.int .i64 ta, .slice aa va.length ca] 25)).alloc (.cells #[.int .i64 tb, .slice ab vb.length cb] 25)).heap.size = w.heap.size + 1 + 1) := by
    show ((w.alloc (.cells #[.int .i64 ta, .slice aa va.length ca] 25)).alloc (.cells #[.int .i64 tb, .slice ab vb.length cb] 25)).heap.size = w.heap.size + 1 + 1
    simp
  clear hB0
  go_enter Try.func48, Try.ntmps48
  go_wp2_with fail
  generalize (w.alloc (.cells #[.int .i64 ta, .slice aa va.length ca] 25)).alloc (.cells #[.int .i64 tb, .slice ab vb.length cb] 25) = w0 at HB0 Ha0 Hb0 HS0 ⊢
  have Hown0 := Lib.hid (World.ownsRow_made (e := 39) (size := 2) w0 #[] 0 (Nat.le_refl _) (by simp [maxLen]) (by simp))
  have HBm : Hid (Below w0.heap.size w0 (w0.alloc (.cells #[] 39))) := (Below.refl _ _).alloc (Nat.le_refl _) _
  rw [← HS0.out]
  go_loopw [7, 8] (fun o dv wr => ∃ dN : Nat, dv = .int .i64 (dN : Int) ∧ dN ≤ nn ∧ Hid (FInv w0 wr o (pick (FreeP va vb) (gridTo dN)))) (fun _ dv _ => nn - (intOf dv).toNat)
  case atStart => exact ⟨0, rfl, by omega, HBm.out, Hown0.out⟩
  case round =>
    obtain ⟨dN, rfl, hdN, hI⟩ := hrel
    by_cases hlt : dN < nn
    · go_wp2_with fail
      go_loopw [7, 9] (fun o sv wr' => ∃ sN : Nat, sv = .int .i64 (sN : Int) ∧ sN ≤ 12 ∧ Hid (FInv w0 wr' o (pick (FreeP va vb) (gridTo dN ++ row12 dN sN)))) (fun _ sv _ => 12 - (intOf sv).toNat)
      case atStart => exact ⟨0, rfl, by omega, by show FInv _ _ _ (pick (FreeP va vb) (gridTo dN ++ [])); rw [List.append_nil]; exact hI.out⟩
      case round =>
        obtain ⟨sN, rfl, hsN, hI2⟩ := hrel
        clear hI
        by_cases hlt2 : sN < 12
        · have hBp : Below wr.heap.size wr (wr.alloc (.cells #[.int .i64 (dN : Int), .int .i64 (sN : Int)] 39)) := (Below.refl _ _).alloc (Nat.le_refl _) _
          have HIp := Lib.hid (hI2.out.below hBp)
          have hlp := pick_length_le (FreeP va vb) (gridTo dN ++ row12 dN sN)
          rw [List.length_append, grid_length, row_length] at hlp
          have k0 : (wr.alloc (.cells #[.int .i64 (dN : Int), .int .i64 (sN : Int)] 39)).cell? ⟨wr.heap.size, 0, none⟩ = some (.int .i64 (dN : Int)) := by simp [go_sem]
          have k1 : (wr.alloc (.cells #[.int .i64 (dN : Int), .int .i64 (sN : Int)] 39)).cell? ⟨wr.heap.size, 1, none⟩ = some (.int .i64 (sN : Int)) := by simp [go_sem]
          obtain ⟨x0, x1⟩ := Ha0.out.below HIp.out.1
          have HK := Lib.hid (And.intro k0 k1)
          have HBw := Lib.hid (HB0.out.trans (HIp.out.1.mono HB0.out.size))
          have HCa := Lib.hid (hUa.out (dN : Int) (sN : Int) _ HBw.out)
          clear hBp hI2
          by_cases hua : UsedBy' va ((dN : Int), (sN : Int))
          · rw [tt_true hua] at HCa
            have Hua := Lib.hid hua
            clear hua
            go_wp2_with fail
            refine HCa.out.mono ?_
            rintro e w3 ⟨rfl, hB3⟩
            have HI3 := Lib.hid (HIp.out.below hB3)
            clear hB3 x0 x1 k0 k1
            have HN : Hid (FInv w0 w3 u7 (pick (FreeP va vb) (gridTo dN ++ row12 dN (sN + 1)))) := by
              have hno : ¬FreeP va vb ((dN : Int), (sN : Int)) := fun h => h.1 Hua.out
              rw [row_succ, ← List.append_assoc, pick_append, pickNone _ _ hno, List.append_nil]
              exact HI3.out
            go_wp2
            exact ⟨⟨sN + 1, by go_num, by omega, HN⟩, by simp [intOf]; omega⟩
          · rw [tt_false hua] at HCa
            have Hua := Lib.hid hua
            clear hua
            go_wp2_with fail
            refine HCa.out.mono ?_
            rintro e w3 ⟨rfl, hB3⟩
            have HI3 := Lib.hid (HIp.out.below hB3)
            have m0 := cell_below hB3 HK.out.1
            have m1 := cell_below hB3 HK.out.2
            have HK3 := Lib.hid (And.intro m0 m1)
            obtain ⟨y0, y1⟩ := Hb0.out.below HI3.out.1
            have HBw3 := Lib.hid (HB0.out.trans (HI3.out.1.mono HB0.out.size))
            have HCb := Lib.hid (hUb.out (dN : Int) (sN : Int) _ HBw3.out)
            clear hB3 x0 x1 k0 k1
            by_cases hub : UsedBy' vb ((dN : Int), (sN : Int))
            · rw [tt_true hub] at HCb
              have Hub := Lib.hid hub
              clear hub
              go_wp2_with fail
              refine HCb.out.mono ?_
              rintro e w4 ⟨rfl, hB4⟩
              have HI4 := Lib.hid (HI3.out.below hB4)
              clear hB4 y0 y1 m0 m1
              have HN : Hid (FInv w0 w4 u7 (pick (FreeP va vb) (gridTo dN ++ row12 dN (sN + 1)))) := by
                have hno : ¬FreeP va vb ((dN : Int), (sN : Int)) := fun h => h.2 Hub.out
                rw [row_succ, ← List.append_assoc, pick_append, pickNone _ _ hno, List.append_nil]
                exact HI4.out
              go_wp2
              exact ⟨⟨sN + 1, by go_num, by omega, HN⟩, by simp [intOf]; omega⟩
            · rw [tt_false hub] at HCb
              have Hyes : Hid (FreeP va vb ((dN : Int), (sN : Int))) := ⟨Hua.out, hub⟩
              clear hub
              go_wp2_with fail
              refine HCb.out.mono ?_
              rintro e w4 ⟨rfl, hB4⟩
              have hI3 := HI3.out.below hB4
              have n0 := cell_below hB4 HK3.out.1
              have n1 := cell_below hB4 HK3.out.2
              have hown := hI3.2.alloc (.cells #[.int .i64 (dN : Int), .int .i64 (sN : Int)] 39)
              have hnews := news_pl w4 (.int .i64 (dN : Int)) (.int .i64 (sN : Int)) 39 w4.heap.size rfl
              have hbase : w0.heap.size ≤ (w4.alloc (.cells #[.int .i64 (dN : Int), .int .i64 (sN : Int)] 39)).heap.size := by have := hI3.1.size; simp; omega
              have HX : Hid (∀ g4 cap4 w4', w4'.ownsRow w0.heap.size 39 2 (.slice (some ⟨g4, 0, none⟩) ((pick (FreeP va vb) (gridTo dN ++ row12 dN sN)).length + 1) cap4) ((pick (FreeP va vb) (gridTo dN ++ row12 dN sN)).length + 1) (plCells (pick (FreeP va vb) (gridTo dN ++ row12 dN sN)) ++ [.int .i64 (dN : Int), .int .i64 (sN : Int)]) → (w4.alloc (.cells #[.int .i64 (dN : Int), .int .i64 (sN : Int)] 39)).grownBy w4' u7.ownBlock →
                  FInv w0 w4' (.slice (some ⟨g4, 0, none⟩) ((pick (FreeP va vb) (gridTo dN ++ row12 dN sN)).length + 1) cap4) (pick (FreeP va vb) (gridTo dN ++ row12 dN (sN + 1)))) := fun g4 cap4 w4' h4 hg4 => by
                have hBa : Below w4.heap.size w4 (w4.alloc (.cells #[.int .i64 (dN : Int), .int .i64 (sN : Int)] 39)) := (Below.refl _ _).alloc (Nat.le_refl _) _
                have hI4 := hI3.below hBa
                refine ⟨hI4.1.grown hg4 hbase (fun i e => (hown.lt i e).1), ?_⟩
                have e : pick (FreeP va vb) (gridTo dN ++ row12 dN (sN + 1)) = pick (FreeP va vb) (gridTo dN ++ row12 dN sN) ++ [((dN : Int), (sN : Int))] := by
                  rw [row_succ, ← List.append_assoc, pick_append _ (gridTo dN ++ row12 dN sN), pick_one _ _ Hyes.out]
                rw [e, List.length_append, plCells_add]
                exact h4
              generalize hN : (pick (FreeP va vb) (gridTo dN ++ row12 dN sN)).length = N at hlp hown HX
              generalize plCells (pick (FreeP va vb) (gridTo dN ++ row12 dN sN)) = ys at hown HX
              clear hI3 hN hB4 HK HK3 HIp HI3 y0 y1 m0 m1
              go_wp2_with (at_builtin; refine wpList_append_lies _ rfl _ _ 28 rfl w0.heap.size 39 i0 _ 2 16 Try.underlying28 hi0 hz0 hz1 hz2 rfl (by omega) _ N ys rfl hown ⟨_, 0, none⟩ 1 1 [.int .i64 (dN : Int), .int .i64 (sN : Int)] rfl rfl hnews (by simp [Value.oneCell']) (by omega) (by simp [maxLen]; omega) (by omega) hbase _ rfl ?_; intro g4 cap4 w4' hown4 hgrow4 hat4 hlt4)
              exact ⟨⟨sN + 1, by go_num, by omega, HX.out g4 cap4 w4' hown4 hgrow4⟩, by simp [intOf]; omega⟩
        · obtain rfl : sN = 12 := by omega
          have HN : Hid (FInv w0 wr u7 (pick (FreeP va vb) (gridTo (dN + 1)))) := by rw [grid_succ]; exact hI2
          go_wp2
          exact ⟨⟨dN + 1, by go_num, by omega, HN⟩, by simp [intOf]; omega⟩
    · obtain rfl : dN = nn := by omega
      have HE : Hid (OwnPl wr w.heap.size u7 (pick (FreeP va vb) (gridTo dN)) ∧ Below w.heap.size w wr) := ⟨own_mono hI.out.2 HB0.out.size, HB0.out.trans (hI.out.1.mono HB0.out.size)⟩
      go_wp2
      go_ret
      exact ⟨_, rfl, HE.out⟩

end Go.Proofs.Ytlonecgmldjdpaa
