/- Names of volumes; places among places; lists of places that are the same. Conditions: none but the row's own bound on sizes. -/
import Derived.Test.YtlonecgmldjdpaaS4
import Derived.Test.YtlonecgmldjdpaaA0
namespace Go.Proofs.Ytlonecgmldjdpaa
open Go.RowKit Go.Sort

/-- A NAME of a volume. -/
def NameOk (s : ByteArray) : Prop := (1 ≤ s.size ∧ s.size ≤ 3) ∧ ∀ i, i < s.size → 97 ≤ byteAt s i ∧ byteAt s i ≤ 122

set_option maxRecDepth 100000 in
set_option maxHeartbeats 1000000 in
theorem l2Name_any (s : ByteArray) (w : World) (hs : s.size ≤ maxLen) :
    Calls Try.prog 62 #[.string s] w fun e w' => e = .returned (.bool (tt (NameOk s))) ∧ w = w' := by
  unfold maxLen at hs
  by_cases h : 1 ≤ (s.size : Int) ∧ (s.size : Int) ≤ 3
  · go_enter Try.func62, Try.ntmps62
    go_wp2_with fail
    refine (in_yes _ _ _ _ h).mono ?_
    rintro e w1 ⟨rfl, rfl⟩
    go_wp2_with fail
    go_loop [3] (fun i => ∃ k : Nat, i = .int .i64 (k : Int) ∧ k ≤ s.size ∧ Hid (∀ j, j < k → 97 ≤ byteAt s j ∧ byteAt s j ≤ 122)) (fun i => s.size - (intOf i).toNat)
    case atStart => exact ⟨0, rfl, by omega, fun j hj => by omega⟩
    case round =>
      obtain ⟨k, rfl, hk, hall⟩ := hrel
      by_cases hlt : k < s.size
      · have HE := Lib.hid (byteAt_lt hlt)
        have hb := byteAt_bd s k
        rw [HE.out] at hb
        by_cases h1 : (s[k].toNat : Int) < 97
        · have d1 : decide ((s[k].toNat : Int) < 97) = true := by simp; omega
          have HF := Lib.hid (tt_false (P := NameOk s) (fun h => by have := (h.2 k hlt).1; rw [HE.out] at this; omega))
          go_wp2
          go_ret
          exact ⟨ret_bool' HF.out.symm, rfl⟩
        · have d1 : decide ((s[k].toNat : Int) < 97) = false := by simp; omega
          by_cases h2 : 122 < (s[k].toNat : Int)
          · have d2 : decide (122 < (s[k].toNat : Int)) = true := by simp; omega
            have HF := Lib.hid (tt_false (P := NameOk s) (fun h => by have := (h.2 k hlt).2; rw [HE.out] at this; omega))
            go_wp2
            go_ret
            exact ⟨ret_bool' HF.out.symm, rfl⟩
          · have d2 : decide (122 < (s[k].toNat : Int)) = false := by simp; omega
            have HN : Hid (∀ j, j < k + 1 → 97 ≤ byteAt s j ∧ byteAt s j ≤ 122) := fun j hj => by
              by_cases e : j = k
              · subst e; rw [HE.out]; omega
              · exact hall.out j (by omega)
            go_wp2
            exact ⟨⟨k + 1, by go_num, by omega, HN⟩, by simp [intOf]; omega⟩
      · have HF := Lib.hid (tt_true (P := NameOk s) ⟨by omega, fun j hj => hall.out j (by omega)⟩)
        go_wp2
        go_ret
        exact ⟨ret_bool' HF.out.symm, rfl⟩
  · have HF := Lib.hid (tt_false (P := NameOk s) (fun k => h (by have := k.1; omega)))
    go_enter Try.func62, Try.ntmps62
    go_wp2_with fail
    refine (in_no _ _ _ _ h).mono ?_
    rintro e w1 ⟨rfl, rfl⟩
    clear h
    go_wp2
    go_ret
    exact ⟨ret_bool' HF.out.symm, rfl⟩

set_option maxRecDepth 100000 in
set_option maxHeartbeats 1000000 in
theorem isName_any (s : ByteArray) (w : World) (hs : s.size ≤ maxLen) :
    Calls Try.prog 69 #[.string s] w fun e w' => e = .returned (.bool (tt (NameOk s))) ∧ w = w' := by
  unfold maxLen at hs
  by_cases h1 : s.size < 1
  · have d1 : decide ((s.size : Int) < 1) = true := by simp; omega
    have HF := Lib.hid (tt_false (P := NameOk s) (fun k => by have := k.1; omega))
    clear h1
    go_enter Try.func69, Try.ntmps69
    go_wp2
    go_ret
    exact ⟨ret_bool' HF.out.symm, rfl⟩
  · have d1 : decide ((s.size : Int) < 1) = false := by simp; omega
    by_cases h2 : 3 < s.size
    · have d2 : decide (3 < (s.size : Int)) = true := by simp; omega
      have HF := Lib.hid (tt_false (P := NameOk s) (fun k => by have := k.1; omega))
      go_enter Try.func69, Try.ntmps69
      go_wp2
      go_ret
      exact ⟨ret_bool' HF.out.symm, rfl⟩
    · have d2 : decide (3 < (s.size : Int)) = false := by simp; omega
      go_enter Try.func69, Try.ntmps69
      go_wp2_with fail
      go_loop [14] (fun i => ∃ k : Nat, i = .int .i64 (k : Int) ∧ k ≤ s.size ∧ Hid (∀ j, j < k → 97 ≤ byteAt s j ∧ byteAt s j ≤ 122)) (fun i => s.size - (intOf i).toNat)
      case atStart => exact ⟨0, rfl, by omega, fun j hj => by omega⟩
      case round =>
        obtain ⟨k, rfl, hk, hall⟩ := hrel
        by_cases hlt : k < s.size
        · have HE := Lib.hid (byteAt_lt hlt)
          have hb := byteAt_bd s k
          rw [HE.out] at hb
          by_cases h3 : (s[k].toNat : Int) < 97
          · have d3 : decide ((s[k].toNat : Int) < 97) = true := by simp; omega
            have HF := Lib.hid (tt_false (P := NameOk s) (fun h => by have := (h.2 k hlt).1; rw [HE.out] at this; omega))
            go_wp2
            go_ret
            exact ⟨ret_bool' HF.out.symm, rfl⟩
          · have d3 : decide ((s[k].toNat : Int) < 97) = false := by simp; omega
            by_cases h4 : 122 < (s[k].toNat : Int)
            · have d4 : decide (122 < (s[k].toNat : Int)) = true := by simp; omega
              have HF := Lib.hid (tt_false (P := NameOk s) (fun h => by have := (h.2 k hlt).2; rw [HE.out] at this; omega))
              go_wp2
              go_ret
              exact ⟨ret_bool' HF.out.symm, rfl⟩
            · have d4 : decide (122 < (s[k].toNat : Int)) = false := by simp; omega
              have HN : Hid (∀ j, j < k + 1 → 97 ≤ byteAt s j ∧ byteAt s j ≤ 122) := fun j hj => by
                by_cases e : j = k
                · subst e; rw [HE.out]; omega
                · exact hall.out j (by omega)
              go_wp2
              exact ⟨⟨k + 1, by go_num, by omega, HN⟩, by simp [intOf]; omega⟩
        · have HF := Lib.hid (tt_true (P := NameOk s) ⟨by omega, fun j hj => hall.out j (by omega)⟩)
          go_wp2
          go_ret
          exact ⟨ret_bool' HF.out.symm, rfl⟩

/-- A PLACE IS AMONG PLACES. -/
def PlIn (q : PlD) (ps : List PlD) : Prop := ∃ j, j < ps.length ∧ ps.getD j pl0 = q

/-- WHERE something is found first: below 0 just where nothing is. -/
def Found (P : Prop) (w : World) (e : Ending) (w' : World) : Prop := (∃ z : Int, e = .returned (.int .i64 z) ∧ (0 ≤ z ↔ P)) ∧ Below w.heap.size w w'

set_option maxRecDepth 100000 in
set_option maxHeartbeats 1000000 in
theorem indexPl_any (q : PlD) (a : Option Addr) (cap : Nat) (ps : List PlD) (w : World) (hl : ps.length ≤ maxLen) (hx : Hid (PlacesAt w a ps)) :
    Calls Try.prog 78 #[.slice a ps.length cap, .agg #[.int .i64 q.1, .int .i64 q.2]] w (Found (PlIn q ps) w) := by
  unfold maxLen at hl
  obtain ⟨d, s⟩ := q
  have hB : Below w.heap.size w (w.alloc (.cells #[.int .i64 d, .int .i64 s] 39)) := (Below.refl _ _).alloc (Nat.le_refl _) _
  have HB := Lib.hid hB
  have c0 : (w.alloc (.cells #[.int .i64 d, .int .i64 s] 39)).cell? ⟨w.heap.size, 0, none⟩ = some (.int .i64 d) := by rw [World.cell?_alloc_mark]; rfl
  have c1 : (w.alloc (.cells #[.int .i64 d, .int .i64 s] 39)).cell? ⟨w.heap.size, 1, none⟩ = some (.int .i64 s) := by rw [World.cell?_alloc_mark]; rfl
  have H0 := Lib.hid c0
  have H1 := Lib.hid c1
  have HX := Lib.hid (hx.out.below hB)
  clear hB c0 c1
  go_enter Try.func78, Try.ntmps78
  go_wp2_with fail
  generalize w.alloc (.cells #[.int .i64 d, .int .i64 s] 39) = w1 at HB H0 H1 HX ⊢
  go_loopw [8] (fun i wr => ∃ k : Nat, i = .int .i64 (k : Int) ∧ k ≤ ps.length ∧ Hid (Below w1.heap.size w1 wr) ∧ Hid (∀ j, j < k → ps.getD j pl0 ≠ (d, s))) (fun i _ => ps.length - (intOf i).toNat)
  case atStart => exact ⟨0, rfl, by omega, Below.refl _ _, fun j hj => by omega⟩
  case round =>
    obtain ⟨k, rfl, hk, hB, hall⟩ := hrel
    by_cases hlt : k < ps.length
    · obtain ⟨b, off, rfl, hc⟩ := (HX.out.below hB.out).resolve_left (fun e => by subst e; simp at hlt)
      obtain ⟨e0, e1⟩ := hc k hlt
      have c0 := cell_below hB.out H0.out
      have c1 := cell_below hB.out H1.out
      clear hc
      generalize hg : ps.getD k pl0 = q at e0 e1
      have Hg := Lib.hid hg
      clear hg
      obtain ⟨d2, s2⟩ := q
      simp only at e0 e1
      have i1 : (k : Int) < (ps.length : Int) := by omega
      have i0 : (0 : Int) ≤ (k : Int) := by omega
      by_cases he : d = d2 ∧ s = s2
      · obtain ⟨rfl, rfl⟩ := he
        have HF : Hid (PlIn (d, s) ps) := ⟨k, hlt, Hg.out⟩
        go_wp2_with fail
        go_quiet (fail)
        go_wp2
        go_ret
        exact ⟨⟨_, rfl, fun _ => HF.out, fun _ => i0⟩, belowN (HB.out.trans (hB.out.mono HB.out.size)) _⟩
      · have HN : Hid (∀ j, j < k + 1 → ps.getD j pl0 ≠ (d, s)) := fun j hj => by
          by_cases e : j = k
          · subst e
            rw [Hg.out]
            intro h
            injection h with h1 h2
            exact he ⟨h1.symm, h2.symm⟩
          · exact hall.out j (by omega)
        by_cases h1 : d = d2
        · subst h1
          have h2 : (s == s2) = false := by simp; exact fun h => he ⟨rfl, h⟩
          clear he
          go_wp2_with fail
          go_quiet (fail)
          go_wp2
          exact ⟨⟨k + 1, by go_num, by omega, belowN hB.out _, HN⟩, by simp [intOf]; omega⟩
        · have h2 : (d == d2) = false := by simp [h1]
          clear he h1
          go_wp2_with fail
          go_quiet (fail)
          go_wp2
          exact ⟨⟨k + 1, by go_num, by omega, belowN hB.out _, HN⟩, by simp [intOf]; omega⟩
    · have HF : Hid (¬PlIn (d, s) ps) := fun ⟨j, hj, h⟩ => hall.out j (by omega) h
      go_wp2
      go_ret
      exact ⟨⟨_, rfl, fun h => by omega, fun h => (HF.out h).elim⟩, HB.out.trans (hB.out.mono HB.out.size)⟩

end Go.Proofs.Ytlonecgmldjdpaa
