/- slices.Compact over a row of places of one's own. Conditions: at most a million places. -/
import Derived.Test.YtlonecgmldjdpaaZ1
import Derived.Test.YtlonecgmldjdpaaS6
import Derived.Laws.IdiomCopy
import Derived.Lib.SliceRun
import Derived.Deep.QuietTactic
import Derived.BigQuiet
import Derived.IntWalk
namespace Go.Proofs.Ytlonecgmldjdpaa
open Go.RowKit Go.Sort Go.Lib

theorem own_shrink {w : World} {base K : Nat} {e : TypeId} {g n cap m : Nat} {xs : List Value} (h : w.ownsRow base e K (.slice (some ⟨g, 0, none⟩) n cap) n xs) (hm : m ≤ n) : w.ownsRow base e K (.slice (some ⟨g, 0, none⟩) m cap) m (xs.take (m * K)) := by
  have hl := h.1
  have hmk : m * K ≤ n * K := Nat.mul_le_mul_right K hm
  rcases h.2 with ⟨hv, _⟩ | ⟨g', cap', cur, hv, hb, hg, hkc, hcm, hcs, hx⟩
  · cases hv
  · cases hv
    refine ⟨by rw [List.length_take]; omega, .inr ⟨g, cap, cur, rfl, hb, hg, by omega, hcm, hcs, ?_⟩⟩
    rw [← hx, List.take_take, Nat.min_eq_left hmk]
theorem own_setCells {base K : Nat} {e : TypeId} {g n cap : Nat} {xs : List Value} : ∀ (vs : List Value) (o : Nat) (w : World), n * K ≤ o → w.ownsRow base e K (.slice (some ⟨g, 0, none⟩) n cap) n xs → (w.setCells g o vs).ownsRow base e K (.slice (some ⟨g, 0, none⟩) n cap) n xs
  | [], _, _, _, h => h
  | v :: r, o, w, ho, h => by
    have := own_set h o v
    rw [List.set_eq_of_length_le (by have := h.1; omega)] at this
    exact own_setCells r (o + 1) _ (by omega) this
theorem below_setCells {base g : Nat} {a : World} (hb : base ≤ g) : ∀ (vs : List Value) (o : Nat) (w : World), Below base a w → Below base a (w.setCells g o vs)
  | [], _, _, h => h
  | v :: r, o, _, h => below_setCells hb r (o + 1) _ (h.setCell (p := ⟨g, o, none⟩) hb v)

def zeroPls (n : Nat) : List Value := (Builtin.zeroCells (Value.agg #[.int .i64 0, .int .i64 0]).cells n).toList
/-- 'clear(s)' of places. -/
theorem clear_pl (w : World) (b o n c : Nat) (hn : 0 < n) (hc : ∀ j, j < n * 2 → (w.cell? ⟨b, o + j, none⟩).isSome = true) (hf : ∀ j, j < n * 2 → w.frozen? ⟨b, o + j, none⟩ = false) (ty : TypeId) :
    (Builtin.clear_ #[28] ty #[.slice (some ⟨b, o, none⟩) n c]).run Try.prog w = .ok (.tuple #[]) (w.setCells b o (zeroPls n)) := by
  have hl : (zeroPls n).length = n * 2 := by
    simp [zeroPls, Builtin.zeroCells, Value.cells]
  have hone : ∀ v ∈ zeroPls n, v.oneCell' = true := by
    intro v hv
    simp [zeroPls, Builtin.zeroCells, Value.cells] at hv
    obtain ⟨i, _, rfl⟩ := hv
    rcases (show i % 2 = 0 ∨ i % 2 = 1 by omega) with e | e <;> rw [e] <;> rfl
  have hst := run_storeCells_cells (P := Try.prog) b o (zeroPls n) 0 w (by rw [hl]; exact hc) (by rw [hl]; exact hf) hone
  rw [Nat.add_zero] at hst
  obtain ⟨m, rfl⟩ : ∃ m, n = m + 1 := ⟨n - 1, by omega⟩
  have hz : (Builtin.zeroCells (Value.agg #[.int .i64 0, .int .i64 0]).cells (m + 1)).toList = zeroPls (m + 1) := rfl
  simp [Builtin.clear_, run_underlying Try.underlying28, hz, hst]

theorem arr_get (d : Array PlD) (j : Nat) (h : j < d.size) : d.toList.getD j pl0 = d[j]! := by
  rw [List.getD, getElem!_pos d j h]
  simp [h]
theorem plCells_put (d : Array PlD) (k : Nat) (q : PlD) (h : k < d.size) : plCells (d.setIfInBounds k q).toList = ((plCells d.toList).set (k * 2) (.int .i64 q.1)).set (k * 2 + 1) (.int .i64 q.2) := by
  refine List.ext_getElem? fun i => ?_
  have hl : d.toList.length = d.size := by simp
  have hl2 : (d.setIfInBounds k q).toList.length = d.size := by simp
  by_cases hi : i < d.size * 2
  · rw [plCells_get _ _ (by omega)]
    have hg : (d.setIfInBounds k q).toList.getD (i / 2) pl0 = if i / 2 = k then q else d.toList.getD (i / 2) pl0 := by
      rw [arr_get _ _ (by simp; omega)]
      by_cases e : i / 2 = k
      · rw [if_pos e, e, getElem!_set_same d k q h]
      · rw [if_neg e, getElem!_set_other d k _ q e, arr_get _ _ (by omega)]
    by_cases e : i / 2 = k
    · rcases (show i = k * 2 ∨ i = k * 2 + 1 by omega) with rfl | rfl
      · rw [List.getElem?_set_ne (by omega), List.getElem?_set_self (by rw [plCells_length]; omega)]
        unfold plCell
        rw [hg, if_pos e, if_pos (by omega)]
      · rw [List.getElem?_set_self (by rw [List.length_set, plCells_length]; omega)]
        unfold plCell
        rw [hg, if_pos e, if_neg (by omega)]
    · rw [List.getElem?_set_ne (by omega), List.getElem?_set_ne (by omega), plCells_get _ _ (by omega)]
      unfold plCell
      rw [hg, if_neg e]
  · rw [List.getElem?_eq_none (by rw [plCells_length]; omega), List.getElem?_eq_none (by rw [List.length_set, List.length_set, plCells_length]; omega)]
theorem plCells_low {d dk : Array PlD} {m k : Nat} (h : CompInv d m k dk) (hm : m ≤ d.size) : (plCells dk.toList).take (k * 2) = plCells (compactUpTo d m) := by
  have hlen := h.len
  have hlt := h.lt
  have hsz := h.size
  refine List.ext_getElem? fun i => ?_
  by_cases hi : i < k * 2
  · rw [List.getElem?_take, if_pos hi, plCells_get _ _ (by simp; omega), plCells_get _ _ (by omega)]
    have e : dk.toList.getD (i / 2) pl0 = (compactUpTo d m).getD (i / 2) pl0 := by
      rw [arr_get _ _ (by omega), List.getD, h.low (i / 2) (by omega)]
      rfl
    unfold plCell
    rw [e]
  · rw [List.getElem?_eq_none (by rw [List.length_take]; omega), List.getElem?_eq_none (by rw [plCells_length]; omega)]
theorem row_cell {w : World} {base g cap : Nat} {d : Array PlD} (h : w.ownsRow base 39 2 (.slice (some ⟨g, 0, none⟩) d.size cap) d.size (plCells d.toList)) (j : Nat) (hj : j < d.size) :
    w.cell? ⟨g, j * 2, none⟩ = some (.int .i64 d[j]!.1) ∧ w.cell? ⟨g, j * 2 + 1, none⟩ = some (.int .i64 d[j]!.2) := by
  have hl : d.toList.length = d.size := by simp
  have e0 := (own_cell h (j * 2) (by omega)).1
  have e1 := (own_cell h (j * 2 + 1) (by omega)).1
  rw [plCells_get _ _ (by omega), plCell_0, arr_get _ _ hj] at e0
  rw [plCells_get _ _ (by omega), plCell_1, arr_get _ _ hj] at e1
  exact ⟨e0, e1⟩

set_option maxRecDepth 100000 in
set_option maxHeartbeats 4000000 in
theorem compactPl_own (base g cap : Nat) (d : Array PlD) (w : World) (hb : base ≤ g) (hl : d.size ≤ 1000000) (hc : d.size ≤ cap) (hcm : cap ≤ maxLen) (h2 : 2 ≤ d.size) (ho : Hid (w.ownsRow base 39 2 (.slice (some ⟨g, 0, none⟩) d.size cap) d.size (plCells d.toList))) :
    Calls Try.prog 34 #[.slice (some ⟨g, 0, none⟩) d.size cap] w fun e w' => e = .returned (.slice (some ⟨g, 0, none⟩) (compactUpTo d d.size).length cap) ∧ w'.ownsRow base 39 2 (.slice (some ⟨g, 0, none⟩) (compactUpTo d d.size).length cap) (compactUpTo d d.size).length (plCells (compactUpTo d d.size)) ∧ Below base w w' := by
  unfold maxLen at hcm
  have e0 : decide ((d.size : Int) < 2) = false := by simp; omega
  go_enter Try.func34, Try.ntmps34
  go_wp2_with fail
  go_loopw [3] (fun s3 wr => ∃ k : Nat, s3 = .int .i64 ((k : Int) + 1) ∧ k + 1 ≤ d.size ∧ Hid (∀ j, j < k + 1 → keeps d j = true) ∧ Hid (Below base w wr ∧ wr.ownsRow base 39 2 (.slice (some ⟨g, 0, none⟩) d.size cap) d.size (plCells d.toList))) (fun s3 _ => d.size - (intOf s3).toNat)
  case atStart => exact ⟨0, rfl, by omega, keeps_lt_one d, Below.refl _ _, ho.out⟩
  case round =>
    obtain ⟨k, rfl, hk, hall, hI⟩ := hrel
    by_cases hlt : k + 1 < d.size
    · obtain ⟨c0, c1⟩ := row_cell hI.out.2 (k + 1) hlt
      obtain ⟨c2, c3⟩ := row_cell hI.out.2 k (by omega)
      generalize hx : d[k + 1]! = x at c0 c1
      generalize hy : d[k]! = y at c2 c3
      have Hx := Lib.hid hx
      have Hy := Lib.hid hy
      clear hx hy
      obtain ⟨d1, s1⟩ := x
      obtain ⟨d2, s2⟩ := y
      simp only at c0 c1 c2 c3
      have i1 : (k : Int) + 1 < (d.size : Int) := by omega
      have i0 : (0 : Int) ≤ (k : Int) + 1 := by omega
      have i2 : (k : Int) < (d.size : Int) := by omega
      have i3 : (0 : Int) ≤ (k : Int) := by omega
      have i4 : ((k : Int) + 1).toNat = k + 1 := by omega
      have i5 : IntKind.i64.wrap (k : Int) = (k : Int) := IntWalk.i64_in _ (by omega)
      by_cases he : d1 = d2 ∧ s1 = s2
      · obtain ⟨rfl, rfl⟩ := he
        have HS : Hid (CompInv d (k + 1 + 1) (k + 1) d) := CompInv.start hall.out (keeps_neg (by omega) (by rw [Hx.out]; exact Hy.out.symm))
        go_wp2_with fail
        go_quiet (fail)
        have HId : Hid (Below base w (wr.drewN nq) ∧ (wr.drewN nq).ownsRow base 39 2 (.slice (some ⟨g, 0, none⟩) d.size cap) d.size (plCells d.toList)) := ⟨belowN hI.out.1 _, hI.out.2⟩
        generalize wr.drewN nq = wq at HId ⊢
        clear c0 c1 c2 c3 hI Hx Hy hall i5
        have j1 : k + 1 < cap := by omega
        have j2 : k + 1 ≤ d.size := by omega
        go_wp2_with fail
        go_loopw [3, 5] (fun s3 s5 wr2 => ∃ (kk k2 : Nat) (dk : Array PlD), s3 = .int .i64 (kk : Int) ∧ s5 = .int .i64 ((k2 : Int) + 1) ∧ k + 1 + (k2 + 1) ≤ d.size ∧ Hid (CompInv d (k + 1 + (k2 + 1)) kk dk) ∧ Hid (Below base w wr2 ∧ wr2.ownsRow base 39 2 (.slice (some ⟨g, 0, none⟩) d.size cap) d.size (plCells dk.toList))) (fun _ s5 _ => d.size - (intOf s5).toNat)
        case atStart => exact ⟨k + 1, 0, d, by go_num, rfl, by omega, HS, HId⟩
        case round =>
          obtain ⟨kk, k2, dk, rfl, rfl, hle, hC, hI⟩ := hrel
          have hkk := hC.out.lt
          have hds := hC.out.size
          have hO : wr.ownsRow base 39 2 (.slice (some ⟨g, 0, none⟩) dk.size cap) dk.size (plCells dk.toList) := by rw [hds]; exact hI.out.2
          have Hds := Lib.hid hds
          by_cases hlt2 : k + 1 + (k2 + 1) < d.size
          · obtain ⟨c0, c1⟩ := row_cell hO (k + 1 + (k2 + 1)) (by omega)
            obtain ⟨c2, c3⟩ := row_cell hO (k + 1 + k2) (by omega)
            obtain ⟨ck0, f0, _, _⟩ := own_cell hO (kk * 2) (by omega)
            obtain ⟨ck1, f1, _, _⟩ := own_cell hO (kk * 2 + 1) (by omega)
            rw [List.getElem?_eq_getElem (by rw [plCells_length]; simp; omega)] at ck0 ck1
            generalize (plCells dk.toList)[kk * 2]'_ = y0 at ck0
            generalize (plCells dk.toList)[kk * 2 + 1]'_ = y1 at ck1
            rw [hC.out.high _ (by omega), Nat.add_mul (k + 1) (k2 + 1) 2] at c0 c1
            rw [hC.out.high _ (by omega), Nat.add_mul (k + 1) k2 2] at c2 c3
            generalize hx : d[k + 1 + (k2 + 1)]! = x at c0 c1
            generalize hy : d[k + 1 + k2]! = y at c2 c3
            have Hx := Lib.hid hx
            have Hy := Lib.hid hy
            obtain ⟨d3, s3⟩ := x
            obtain ⟨d4, s4⟩ := y
            simp only at c0 c1 c2 c3
            have n1 : (k2 : Int) + 1 < ((d.size - (k + 1) : Nat) : Int) := by omega
            have n0 : (0 : Int) ≤ (k2 : Int) + 1 := by omega
            have n2 : (k2 : Int) < ((d.size - (k + 1) : Nat) : Int) := by omega
            have n3 : (0 : Int) ≤ (k2 : Int) := by omega
            have n4 : ((k2 : Int) + 1).toNat = k2 + 1 := by omega
            have n5 : IntKind.i64.wrap (k2 : Int) = (k2 : Int) := IntWalk.i64_in _ (by omega)
            have n6 : k2 + 1 < d.size - (k + 1) := by omega
            have n7 : kk < d.size := by omega
            clear hx hy hO hds
            by_cases he : d3 = d4 ∧ s3 = s4
            · obtain ⟨rfl, rfl⟩ := he
              have HC2 : Hid (CompInv d (k + 1 + (k2 + 1 + 1)) kk dk) := hC.out.skip (keeps_neg (by omega) (by rw [Hx.out]; exact Hy.out.symm))
              go_wp2_with fail
              go_quiet (fail)
              have HI2 : Hid (Below base w (wr.drewN nq) ∧ (wr.drewN nq).ownsRow base 39 2 (.slice (some ⟨g, 0, none⟩) d.size cap) d.size (plCells dk.toList)) := ⟨belowN hI.out.1 _, hI.out.2⟩
              go_wp2
              exact ⟨⟨kk, k2 + 1, dk, rfl, by go_num, by omega, HC2, HI2⟩, by simp [intOf]; omega⟩
            · have HC2 : Hid (CompInv d (k + 1 + (k2 + 1 + 1)) (kk + 1) (dk.setIfInBounds kk (d3, s3))) := by
                have := hC.out.keep hlt2 (keeps_pos (by rw [Hx.out]; show (d3, s3) ≠ d[k + 1 + k2]!; rw [Hy.out]; exact fun e => he (by injection e with e1 e2; exact ⟨e1, e2⟩)))
                rw [Hx.out] at this
                exact this
              have HI1 : Hid (∀ nq, Below base w (((wr.drewN nq).setCell ⟨g, kk * 2, none⟩ (.int .i64 d3)).setCell ⟨g, kk * 2 + 1, none⟩ (.int .i64 s3)) ∧ (((wr.drewN nq).setCell ⟨g, kk * 2, none⟩ (.int .i64 d3)).setCell ⟨g, kk * 2 + 1, none⟩ (.int .i64 s3)).ownsRow base 39 2 (.slice (some ⟨g, 0, none⟩) d.size cap) d.size (plCells (dk.setIfInBounds kk (d3, s3)).toList)) := fun nq =>
                ⟨((belowN hI.out.1 nq).setCell (p := ⟨g, kk * 2, none⟩) hb _).setCell (p := ⟨g, kk * 2 + 1, none⟩) hb _, by
                  have h0 : (wr.drewN nq).ownsRow base 39 2 (.slice (some ⟨g, 0, none⟩) d.size cap) d.size (plCells dk.toList) := hI.out.2
                  rw [plCells_put dk kk (d3, s3) (by have := Hds.out; omega)]
                  exact own_set (own_set h0 _ _) _ _⟩
              by_cases h1 : d3 = d4
              · subst h1
                have q2 : (s3 == s4) = false := by simp; exact fun h => he ⟨rfl, h⟩
                clear he
                go_wp2_with fail
                go_quiet (fail)
                have HI2 := Lib.hid (HI1.out nq)
                go_wp2
                exact ⟨⟨kk + 1, k2 + 1, dk.setIfInBounds kk (d3, s3), by go_num, by go_num, by omega, HC2, HI2⟩, by simp [intOf]; omega⟩
              · have q2 : (d3 == d4) = false := by simp [h1]
                clear he h1
                go_wp2_with fail
                go_quiet (fail)
                have HI2 := Lib.hid (HI1.out nq)
                go_wp2
                exact ⟨⟨kk + 1, k2 + 1, dk.setIfInBounds kk (d3, s3), by go_num, by go_num, by omega, HC2, HI2⟩, by simp [intOf]; omega⟩
          · have hend : k + 1 + (k2 + 1) = d.size := by omega
            have HE : Hid (CompInv d d.size kk dk) := by have := hC.out; rw [hend] at this; exact this
            have hcl := clear_pl wr g (kk * 2) (d.size - kk) (cap - kk) (by omega)
              (fun j hj => by
                have := (own_cell hO (kk * 2 + j) (by omega)).1
                rw [this, List.getElem?_eq_getElem (by rw [plCells_length]; simp; omega)]
                rfl)
              (fun j hj => (own_cell hO (kk * 2 + j) (by omega)).2.1)
            have n7 : kk < d.size := by omega
            have n8 : kk < cap := by omega
            have n9 : ¬(k2 + 1 < d.size - (k + 1)) := by omega
            clear hO hds hend
            have HF : Hid (Below base w (wr.setCells g (kk * 2) (zeroPls (d.size - kk))) ∧ (wr.setCells g (kk * 2) (zeroPls (d.size - kk))).ownsRow base 39 2 (.slice (some ⟨g, 0, none⟩) kk cap) kk (plCells (compactUpTo d d.size))) :=
              ⟨below_setCells hb _ _ _ hI.out.1, own_setCells _ _ _ (Nat.le_refl _) (by
                have := own_shrink hI.out.2 (Nat.le_of_lt n7)
                rw [plCells_low HE.out (Nat.le_refl _)] at this
                exact this)⟩
            go_wp2
            go_ret
            rw [HE.out.len]
            exact ⟨rfl, HF.out.2, HF.out.1⟩
      · have HA : Hid (∀ j, j < k + 1 + 1 → keeps d j = true) := fun j hj => by
          by_cases e : j = k + 1
          · subst e
            refine keeps_pos ?_
            rw [Hx.out]
            show (d1, s1) ≠ d[k]!
            rw [Hy.out]
            exact fun e => he (by injection e with e1 e2; exact ⟨e1, e2⟩)
          · exact hall.out j (by omega)
        by_cases h1 : d1 = d2
        · subst h1
          have q2 : (s1 == s2) = false := by simp; exact fun h => he ⟨rfl, h⟩
          clear he
          go_wp2_with fail
          go_quiet (fail)
          have HI2 : Hid (Below base w (wr.drewN nq) ∧ (wr.drewN nq).ownsRow base 39 2 (.slice (some ⟨g, 0, none⟩) d.size cap) d.size (plCells d.toList)) := ⟨belowN hI.out.1 _, hI.out.2⟩
          go_wp2
          exact ⟨⟨k + 1, by go_num, by omega, HA, HI2⟩, by simp [intOf]; omega⟩
        · have q2 : (d1 == d2) = false := by simp [h1]
          clear he h1
          go_wp2_with fail
          go_quiet (fail)
          have HI2 : Hid (Below base w (wr.drewN nq) ∧ (wr.drewN nq).ownsRow base 39 2 (.slice (some ⟨g, 0, none⟩) d.size cap) d.size (plCells d.toList)) := ⟨belowN hI.out.1 _, hI.out.2⟩
          go_wp2
          exact ⟨⟨k + 1, by go_num, by omega, HA, HI2⟩, by simp [intOf]; omega⟩
    · have HE : Hid (compactUpTo d d.size = d.toList) := by
        show compactUpTo d d.size = d.toList
        rw [compactUpTo_all d _ (fun j hj => hall.out j (by omega)), range_map_get]
      go_wp2
      go_ret
      rw [HE.out]
      have hl2 : d.toList.length = d.size := by simp
      rw [hl2]
      exact ⟨rfl, hI.out.2, hI.out.1⟩

set_option maxRecDepth 100000 in
set_option maxHeartbeats 1000000 in
theorem compactPl_small (a : Option Addr) (n cap : Nat) (w : World) (h : n < 2) :
    Calls Try.prog 34 #[.slice a n cap] w fun e w' => e = .returned (.slice a n cap) ∧ w = w' := by
  have e0 : decide ((n : Int) < 2) = true := by simp; omega
  go_enter Try.func34, Try.ntmps34
  go_wp2
  go_ret
  exact ⟨rfl, rfl⟩

/-- COMPACTING PLACES OF ONE's OWN. -/
theorem compactPl_any (base : Nat) (v : Value) (ps : List PlD) (w : World) (hl : ps.length ≤ 1000000) (ho : OwnPl w base v ps) :
    Calls Try.prog 34 #[v] w fun e w' => ∃ v', e = .returned v' ∧ OwnPl w' base v' (compactUpTo ps.toArray ps.length) ∧ Below base w w' := by
  have hs : ps.length < 2 → compactUpTo ps.toArray ps.length = ps := fun h => by
    have := compactUpTo_all ps.toArray ps.length (fun j hj => keeps_lt_one _ j (by omega))
    have h2 := range_map_get ps.toArray
    simp only [List.size_toArray] at h2
    rw [this, h2]
  have ho' := ho
  rcases ho.2 with ⟨rfl, hn⟩ | ⟨g, cap, cur, rfl, hb, hg, hkc, hcm, _⟩
  · rw [hs (by omega)]
    exact (compactPl_small none 0 0 w (by omega)).mono fun _ _ ⟨he, hw⟩ => by subst hw; exact ⟨_, he, ho', Below.refl _ _⟩
  · by_cases h2 : ps.length < 2
    · rw [hs h2]
      exact (compactPl_small _ _ _ w h2).mono fun _ _ ⟨he, hw⟩ => by subst hw; exact ⟨_, he, ho', Below.refl _ _⟩
    · have hsz : ps.toArray.size = ps.length := by simp
      have hc := compactPl_own base g cap ps.toArray w hb (by rw [hsz]; exact hl) (by rw [hsz]; exact hkc) hcm (by rw [hsz]; omega) (by rw [hsz]; exact ho')
      rw [hsz] at hc
      exact hc.mono fun _ _ ⟨he, hw, hB⟩ => ⟨_, he, hw, hB⟩

end Go.Proofs.Ytlonecgmldjdpaa
