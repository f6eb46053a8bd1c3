/- lpaPlaces and lpaIn of the laws: whether places are the same; whether one is among some. Conditions: none but the row's own bound on sizes. -/
import Derived.Test.YtlonecgmldjdpaaU3
namespace Go.Proofs.Ytlonecgmldjdpaa
open Go.RowKit Go.Sort

set_option maxRecDepth 100000 in
set_option maxHeartbeats 1000000 in
theorem lpaPlaces_any (a b : Option Addr) (ca cb : Nat) (ps qs : List PlD) (w : World) (hl : ps.length ≤ maxLen) (hl2 : qs.length ≤ maxLen) (ha : Hid (PlacesAt w a ps)) (hb : Hid (PlacesAt w b qs)) :
    Calls Try.prog 12 #[.slice a ps.length ca, .slice b qs.length cb] w fun e w' => e = .returned (.bool (tt (ps = qs))) ∧ Below w.heap.size w w' := by
  unfold maxLen at hl hl2
  by_cases hn : ps.length = qs.length
  · have d0 : ((ps.length : Int) != (qs.length : Int)) = false := by simp; omega
    have Hn := Lib.hid hn
    have hle : ps.length ≤ qs.length := by omega
    clear hn
    go_enter Try.func12, Try.ntmps12
    go_wp2_with fail
    go_loopw [5] (fun i wr => ∃ k : Nat, i = .int .i64 (k : Int) ∧ k ≤ ps.length ∧ Hid (Below w.heap.size w wr) ∧ Hid (∀ j, j < k → ps.getD j pl0 = qs.getD j pl0)) (fun i _ => ps.length - (intOf i).toNat)
    case atStart => exact ⟨0, rfl, by omega, Below.refl _ _, fun j hj => by omega⟩
    case round =>
      obtain ⟨k, rfl, hk, hB, hall⟩ := hrel
      by_cases hlt : k < ps.length
      · have hlt2 : k < qs.length := by omega
        obtain ⟨b1, o1, rfl, hc1⟩ := (ha.out.below hB.out).resolve_left (fun e => by subst e; simp at hlt)
        obtain ⟨b2, o2, rfl, hc2⟩ := (hb.out.below hB.out).resolve_left (fun e => by subst e; simp at hlt2)
        obtain ⟨k1, k2⟩ := hc1 k hlt
        obtain ⟨k3, k4⟩ := hc2 k hlt2
        clear hc1 hc2
        generalize hg1 : ps.getD k pl0 = q1 at k1 k2
        generalize hg2 : qs.getD k pl0 = q2 at k3 k4
        have Hg1 := Lib.hid hg1
        have Hg2 := Lib.hid hg2
        clear hg1 hg2
        obtain ⟨d1, s1⟩ := q1
        obtain ⟨d2, s2⟩ := q2
        simp only at k1 k2 k3 k4
        have i1 : (k : Int) < (ps.length : Int) := by omega
        have i0 : (0 : Int) ≤ (k : Int) := by omega
        have i2 : (k : Int) < (qs.length : Int) := by omega
        by_cases he : d1 = d2 ∧ s1 = s2
        · obtain ⟨rfl, rfl⟩ := he
          have HN : Hid (∀ j, j < k + 1 → ps.getD j pl0 = qs.getD j pl0) := fun j hj => by
            by_cases e : j = k
            · subst e; rw [Hg1.out, Hg2.out]
            · exact hall.out j (by omega)
          go_wp2_with fail
          go_quiet (fail)
          go_wp2
          exact ⟨⟨k + 1, by go_num, by omega, belowN hB.out _, HN⟩, by simp [intOf]; omega⟩
        · have HF := Lib.hid (tt_false (P := ps = qs) (fun h => he (by
            have h1 := Hg1.out
            rw [h, Hg2.out] at h1
            injection h1 with h1 h2
            exact ⟨h1.symm, h2.symm⟩)))
          by_cases h1 : d1 = d2
          · subst h1
            have h2 : (s1 == s2) = false := by simp; exact fun h => he ⟨rfl, h⟩
            clear he
            go_wp2_with fail
            go_quiet (fail)
            go_wp2
            go_ret
            exact ⟨ret_bool' HF.out.symm, belowN hB.out _⟩
          · have h2 : (d1 == d2) = false := by simp [h1]
            clear he h1
            go_wp2_with fail
            go_quiet (fail)
            go_wp2
            go_ret
            exact ⟨ret_bool' HF.out.symm, belowN hB.out _⟩
      · have HF := Lib.hid (tt_true (P := ps = qs) (list_eq Hn.out (fun j hj => hall.out j (by omega))))
        go_wp2
        go_ret
        exact ⟨ret_bool' HF.out.symm, hB.out⟩
  · have d0 : ((ps.length : Int) != (qs.length : Int)) = true := by simp; omega
    have HF := Lib.hid (tt_false (P := ps = qs) (fun h => hn (by rw [h])))
    clear hn
    go_enter Try.func12, Try.ntmps12
    go_wp2
    go_ret
    exact ⟨ret_bool' HF.out.symm, Below.refl _ _⟩

set_option maxRecDepth 100000 in
set_option maxHeartbeats 1000000 in
theorem lpaIn_any (q : PlD) (a : Option Addr) (cap : Nat) (ps : List PlD) (w : World) (hl : ps.length ≤ maxLen) (hx : Hid (PlacesAt w a ps)) :
    Calls Try.prog 15 #[.slice a ps.length cap, .agg #[.int .i64 q.1, .int .i64 q.2]] w fun e w' => e = .returned (.bool (tt (PlIn q ps))) ∧ Below w.heap.size w w' := by
  unfold maxLen at hl
  obtain ⟨d, s⟩ := q
  have hB : Below w.heap.size w (w.alloc (.cells #[.int .i64 d, .int .i64 s] 39)) := (Below.refl _ _).alloc (Nat.le_refl _) _
  have HB := Lib.hid hB
  have c0 : (w.alloc (.cells #[.int .i64 d, .int .i64 s] 39)).cell? ⟨w.heap.size, 0, none⟩ = some (.int .i64 d) := by rw [World.cell?_alloc_mark]; rfl
  have c1 : (w.alloc (.cells #[.int .i64 d, .int .i64 s] 39)).cell? ⟨w.heap.size, 1, none⟩ = some (.int .i64 s) := by rw [World.cell?_alloc_mark]; rfl
  have H0 := Lib.hid c0
  have H1 := Lib.hid c1
  have HX := Lib.hid (hx.out.below hB)
  clear hB c0 c1
  go_enter Try.func15, Try.ntmps15
  go_wp2_with fail
  generalize w.alloc (.cells #[.int .i64 d, .int .i64 s] 39) = w1 at HB H0 H1 HX ⊢
  go_loopw [5] (fun i wr => ∃ k : Nat, i = .int .i64 (k : Int) ∧ k ≤ ps.length ∧ Hid (Below w1.heap.size w1 wr) ∧ Hid (∀ j, j < k → ps.getD j pl0 ≠ (d, s))) (fun i _ => ps.length - (intOf i).toNat)
  case atStart => exact ⟨0, rfl, by omega, Below.refl _ _, fun j hj => by omega⟩
  case round =>
    obtain ⟨k, rfl, hk, hB, hall⟩ := hrel
    by_cases hlt : k < ps.length
    · obtain ⟨b, off, rfl, hc⟩ := (HX.out.below hB.out).resolve_left (fun e => by subst e; simp at hlt)
      obtain ⟨e0, e1⟩ := hc k hlt
      have c0 := cell_below hB.out H0.out
      have c1 := cell_below hB.out H1.out
      clear hc
      generalize hg : ps.getD k pl0 = q at e0 e1
      have Hg := Lib.hid hg
      clear hg
      obtain ⟨d2, s2⟩ := q
      simp only at e0 e1
      have i1 : (k : Int) < (ps.length : Int) := by omega
      have i0 : (0 : Int) ≤ (k : Int) := by omega
      by_cases he : d = d2 ∧ s = s2
      · obtain ⟨rfl, rfl⟩ := he
        have HF : Hid (PlIn (d, s) ps) := ⟨k, hlt, Hg.out⟩
        go_wp2_with fail
        go_quiet (fail)
        go_wp2
        go_ret
        exact ⟨ret_bool' (tt_true HF.out).symm, belowN (HB.out.trans (hB.out.mono HB.out.size)) _⟩
      · have HN : Hid (∀ j, j < k + 1 → ps.getD j pl0 ≠ (d, s)) := fun j hj => by
          by_cases e : j = k
          · subst e
            rw [Hg.out]
            intro h
            injection h with h1 h2
            exact he ⟨h1.symm, h2.symm⟩
          · exact hall.out j (by omega)
        by_cases h1 : d = d2
        · subst h1
          have h2 : (s2 == s) = false := by simp; exact fun h => he ⟨rfl, h.symm⟩
          clear he
          go_wp2_with fail
          go_quiet (fail)
          go_wp2
          exact ⟨⟨k + 1, by go_num, by omega, belowN hB.out _, HN⟩, by simp [intOf]; omega⟩
        · have h2 : (d2 == d) = false := by simp; exact fun h => h1 h.symm
          clear he h1
          go_wp2_with fail
          go_quiet (fail)
          go_wp2
          exact ⟨⟨k + 1, by go_num, by omega, belowN hB.out _, HN⟩, by simp [intOf]; omega⟩
    · have HF : Hid (¬PlIn (d, s) ps) := fun ⟨j, hj, h⟩ => hall.out j (by omega) h
      go_wp2
      go_ret
      exact ⟨ret_bool' (tt_false HF.out).symm, HB.out.trans (hB.out.mono HB.out.size)⟩

end Go.Proofs.Ytlonecgmldjdpaa
