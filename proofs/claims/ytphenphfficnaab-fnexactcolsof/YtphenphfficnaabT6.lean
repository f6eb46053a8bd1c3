/- TextOf of the program and of the specification answer the same. Conditions: none but the row's own bound on sizes. -/
import Derived.Test.YtphenphfficnaabT5
namespace Go.Proofs.Ytphenphfficnaab
open Go.RowKit Go.Shelf

theorem below_drewN {n : Nat} {w w' : World} (h : Below n w w') (d : Nat) : Below n w (w'.drewN d) := ⟨h.os, h.tape, h.output, h.size, h.block⟩

/-- WHAT TextOf ANSWERS. -/
def Read (xs : List ByteArray) (n : Int) (w : World) (e : Ending) (w' : World) : Prop :=
  ((TextOk xs n ∧ e = .returned (.tuple #[.string ((cat xs).extract 0 n.toNat), .bool true])) ∨ (¬TextOk xs n ∧ e = .returned (.tuple #[.string ByteArray.empty, .bool false]))) ∧ Below w.heap.size w w'

set_option maxRecDepth 100000 in
set_option maxHeartbeats 1000000 in
theorem specText_none (a : Option Addr) (cap : Nat) (xs : List ByteArray) (n : Int) (w : World) (hl : xs.length ≤ maxLen) (hx : Hid (Strs w a xs)) (hno : ¬ColsOk xs ∨ ¬(3 * ((xs.length : Int) - 1) + 1 ≤ n ∧ n ≤ 3 * (xs.length : Int))) :
    Calls Try.prog 16 #[.slice a xs.length cap, .int .i64 n] w fun e w' => e = .returned (.tuple #[.string ByteArray.empty, .bool false]) ∧ w = w' := by
  have Hl := Lib.hid hl
  clear hl
  cases hcb : colsB xs
  · clear hno
    go_enter Try.func16, Try.ntmps16
    go_wp2_with fail
    refine (l1Cols_any a cap xs _ Hl.out hx).mono ?_
    rintro e w1 ⟨rfl, rfl⟩
    go_wp2
    go_ret2
    exact ⟨rfl, rfl⟩
  · have hok := (colsB_iff xs).1 hcb
    have h13 := hok.1
    have Hno : Hid (¬(3 * ((xs.length : Int) - 1) + 1 ≤ n ∧ n ≤ 3 * (xs.length : Int))) := hno.resolve_left (fun h => h hok)
    clear hno hok
    go_enter Try.func16, Try.ntmps16
    go_wp2_with fail
    refine (l1Cols_any a cap xs _ Hl.out hx).mono ?_
    rintro e w1 ⟨rfl, rfl⟩
    go_wp2_with fail
    refine (l6In_no _ _ _ _ Hno.out).mono ?_
    rintro e w1 ⟨rfl, rfl⟩
    go_wp2
    go_ret2
    exact ⟨rfl, rfl⟩

set_option maxRecDepth 100000 in
set_option maxHeartbeats 2000000 in
theorem specText_in (a : Option Addr) (cap : Nat) (xs : List ByteArray) (n : Nat) (w : World) (hx : Hid (Strs w a xs)) (hok : ColsOk xs) (hin : 3 * ((xs.length : Int) - 1) + 1 ≤ (n : Int) ∧ (n : Int) ≤ 3 * (xs.length : Int)) :
    Calls Try.prog 16 #[.slice a xs.length cap, .int .i64 (n : Int)] w (Read xs (n : Int) w) := by
  have h13 := hok.1
  have hcb := colsB_true hok
  have Hok := Lib.hid hok
  have Hin := Lib.hid hin
  have hn3 : n ≤ 3 * xs.length := by omega
  have hn9 : n ≤ 9 := by omega
  clear hok hin
  go_enter Try.func16, Try.ntmps16
  go_wp2_with fail
  refine (l1Cols_any a cap xs _ (by unfold maxLen; omega) hx).mono ?_
  rintro e w1 ⟨rfl, rfl⟩
  go_wp2_with fail
  refine (l6In_yes _ _ _ _ Hin.out).mono ?_
  rintro e w1 ⟨rfl, rfl⟩
  go_wp2_with fail
  go_loop [6, 7] (fun o i => ∃ k : Nat, i = .int .i64 (k : Int) ∧ k ≤ xs.length ∧ o = .string (catTo xs k)) (fun _ i => xs.length - (intOf i).toNat)
  case atStart => exact ⟨0, rfl, by omega, rfl⟩
  case round =>
    obtain ⟨k, rfl, hk, rfl⟩ := hrel
    have hcz := catTo_size xs Hok.out.2 k hk
    have hcz9 : (catTo xs k).size ≤ 9 := by omega
    by_cases hlt : k < xs.length
    · obtain ⟨b, off, rfl, hc⟩ := hx.out.resolve_left (fun e => by subst e; simp at hlt)
      have hck := hc k hlt
      have hx3 := Hok.out.2 k hlt
      have HS : Hid (catTo xs k ++ xs.getD k ByteArray.empty = catTo xs (k + 1)) := rfl
      clear hc hcz
      generalize xs.getD k ByteArray.empty = x at hck hx3 HS
      generalize catTo xs k = o at hcz9 HS ⊢
      go_wp2
      exact ⟨⟨k + 1, by go_num, by omega, by rw [HS.out]⟩, by simp [intOf]; omega⟩
    · have HC : Hid (catTo xs k = cat xs) := by
        rw [show k = xs.length by omega]; exact rfl
      rw [HC.out] at hcz9 hcz ⊢
      have hcs : (cat xs).size = 3 * xs.length := by omega
      have Hcs := Lib.hid hcs
      have HY : Hid ((∀ i, n ≤ i → byteAt (cat xs) i = 0) → TextOk xs (n : Int)) := fun h => ⟨Hok.out, Hin.out, by simpa using h⟩
      have HN : Hid (∀ i, n ≤ i → byteAt (cat xs) i ≠ 0 → ¬TextOk xs (n : Int)) := fun i hi hne h => hne (h.2.2 i (by simpa using hi))
      have hnc : n ≤ (cat xs).size := by omega
      clear hcs hcz HC
      generalize hcat : cat xs = c at *
      have Hcat := Lib.hid hcat
      clear hcat
      go_wp2_with fail
      go_loop [8] (fun i => ∃ q : Nat, i = .int .i64 (q : Int) ∧ n ≤ q ∧ q ≤ c.size ∧ Hid (∀ j, n ≤ j → j < q → byteAt c j = 0)) (fun i => c.size - (intOf i).toNat)
      case atStart => exact ⟨n, rfl, Nat.le_refl _, hnc, fun j h1 h2 => by omega⟩
      case round =>
        obtain ⟨q, rfl, hq1, hq2, hall⟩ := hrel
        by_cases hqc : q < c.size
        · by_cases hz : byteAt c q = 0
          · have hnext : Hid (∀ j, n ≤ j → j < q + 1 → byteAt c j = 0) := fun j h1 h2 => by
              by_cases e : j = q
              · subst e; exact hz
              · exact hall.out j h1 (by omega)
            rw [byteAt_lt hqc] at hz
            have d : ((c[q].toNat : Int) != 0) = false := by simpa using hz
            clear hz
            go_wp2
            exact ⟨⟨q + 1, by go_num, by omega, by omega, hnext⟩, by simp [intOf]; omega⟩
          · have HNo := Lib.hid (HN.out q hq1 hz)
            rw [byteAt_lt hqc] at hz
            have d : ((c[q].toNat : Int) != 0) = true := by simpa using hz
            clear hz
            go_wp2
            go_ret2
            exact ⟨.inr ⟨HNo.out, rfl⟩, Below.refl _ _⟩
        · have HYes := Lib.hid (HY.out (fun i hi => by
            by_cases h : i < q
            · exact hall.out i hi h
            · exact byteAt_ge (by omega)))
          go_wp2
          go_ret2
          exact ⟨.inl ⟨HYes.out, by rw [Hcat.out]; simp⟩, Below.refl _ _⟩

theorem specText_any (a : Option Addr) (cap : Nat) (xs : List ByteArray) (n : Int) (w : World) (hl : xs.length ≤ maxLen) (hx : Hid (Strs w a xs)) :
    Calls Try.prog 16 #[.slice a xs.length cap, .int .i64 n] w (Read xs n w) := by
  by_cases h : ColsOk xs ∧ (3 * ((xs.length : Int) - 1) + 1 ≤ n ∧ n ≤ 3 * (xs.length : Int))
  · have := h.1.1
    obtain ⟨k, rfl⟩ := Int.eq_ofNat_of_zero_le (show 0 ≤ n by omega)
    exact specText_in a cap xs k w hx h.1 h.2
  · refine (specText_none a cap xs n w hl hx (by
      by_cases h1 : ColsOk xs
      · exact .inr (fun h2 => h ⟨h1, h2⟩)
      · exact .inl h1)).mono ?_
    rintro e w' ⟨rfl, rfl⟩
    exact ⟨.inr ⟨fun ht => h ⟨ht.1, ht.2.1⟩, rfl⟩, Below.refl _ _⟩

set_option maxHeartbeats 400000 in
theorem clone_any (s : ByteArray) (hs : s.size ≤ 281474976710656) (w : World) :
    Calls Try.prog 31 #[.string s] w fun e w' => e = .returned (.string s) ∧ Below w.heap.size w w' := by
  go_enter Try.func31, Try.ntmps31
  go_wp2_with fail
  refine (Try.stringslite_Clone s _ hs).mono ?_
  rintro e w1 ⟨rfl, hB⟩
  go_wp2
  go_ret
  exact ⟨rfl, hB⟩

set_option maxRecDepth 100000 in
set_option maxHeartbeats 1000000 in
theorem implText_none (a : Option Addr) (cap : Nat) (xs : List ByteArray) (n : Int) (w : World) (hx : Hid (Strs w a xs)) (hno : ¬ColsOk xs ∨ n < 1 ∨ 3 * (xs.length : Int) < n) :
    Calls Try.prog 18 #[.slice a xs.length cap, .int .i64 n] w fun e w' => e = .returned (.tuple #[.string ByteArray.empty, .bool false]) ∧ w = w' := by
  cases hcb : colsB xs
  · clear hno
    go_enter Try.func18, Try.ntmps18
    go_wp2_with fail
    refine (areCols_any a cap xs _ hx).mono ?_
    rintro e w1 ⟨rfl, rfl⟩
    go_wp2
    go_ret2
    exact ⟨rfl, rfl⟩
  · have hok := (colsB_iff xs).1 hcb
    have h13 := hok.1
    have hno' := hno.resolve_left (fun h => h hok)
    clear hno hok
    by_cases h1 : n < 1
    · have d1 : decide (n < 1) = true := by simpa using h1
      clear hno'
      go_enter Try.func18, Try.ntmps18
      go_wp2_with fail
      refine (areCols_any a cap xs _ hx).mono ?_
      rintro e w1 ⟨rfl, rfl⟩
      go_wp2
      go_ret2
      exact ⟨rfl, rfl⟩
    · have d1 : decide (n < 1) = false := by simpa using h1
      have h2 : 3 * (xs.length : Int) < n := by omega
      have d2 : decide (3 * (xs.length : Int) < n) = true := by simpa using h2
      clear hno'
      go_enter Try.func18, Try.ntmps18
      go_wp2_with fail
      refine (areCols_any a cap xs _ hx).mono ?_
      rintro e w1 ⟨rfl, rfl⟩
      go_wp2
      go_ret2
      exact ⟨rfl, rfl⟩

theorem joinAll_any (bk o c : Nat) (xs : List ByteArray) (sep : ByteArray) (hsep : sep = ⟨#[]⟩) (w : World) (hok : ColsOk xs) (hlc : xs.length ≤ c) (hc : ∀ j, j < xs.length → w.cell? ⟨bk, o + j, none⟩ = some (.string (xs.getD j ByteArray.empty))) :
    Calls Try.prog 32 #[.slice (some ⟨bk, o, none⟩) xs.length c, .string sep] w fun e w' => e = .returned (.string (cat xs)) ∧ Below w.heap.size w w' := by
  subst hsep
  have h13 := hok.1
  have hj := join_cat xs
  have hlen : (Lib.join (xs.map fun x => x.data.toList) []).length = 3 * xs.length := by
    rw [← cat_size hok, ← hj]
    show (Lib.join _ _).length = (Lib.join _ _).toArray.size
    rw [List.size_toArray]
  have := Try.strings_Join bk o c xs ⟨#[]⟩ w (fun j x hx => by
      have hjl : j < xs.length := (List.getElem?_eq_some_iff.1 hx).1
      have := hc j hjl
      rw [List.getD, hx] at this
      exact this) (World.block_lt_of_cell? w _ (hc 0 (by omega))) (by omega) hlc (by show (Lib.join _ []).length ≤ _; rw [hlen]; omega)
  refine this.mono ?_
  rintro e w' ⟨rfl, hB⟩
  exact ⟨ret_string hj, hB⟩

set_option maxRecDepth 100000 in
set_option maxHeartbeats 2000000 in
theorem implText_in (b off cap : Nat) (xs : List ByteArray) (n : Nat) (w : World) (hlc : xs.length ≤ cap) (hok : ColsOk xs) (h1 : 1 ≤ n) (hn : n ≤ 3 * xs.length) (hc : Hid (∀ j, j < xs.length → w.cell? ⟨b, off + j, none⟩ = some (.string (xs.getD j ByteArray.empty)))) :
    Calls Try.prog 18 #[.slice (some ⟨b, off, none⟩) xs.length cap, .int .i64 (n : Int)] w (Read xs (n : Int) w) := by
  have h13 := hok.1
  have hcb := colsB_true hok
  have hcz := cat_size hok
  have Hiff := Lib.hid (text_iff hok n hn)
  have Hok := Lib.hid hok
  have d1 : decide ((n : Int) < 1) = false := by simp; omega
  have d2 : decide (3 * (xs.length : Int) < (n : Int)) = false := by simp; omega
  have hts := cut_size (cat xs) n (by omega)
  clear hok
  go_enter Try.func18, Try.ntmps18
  go_wp2_with fail
  refine (areCols_any _ cap xs _ (.inr ⟨b, off, rfl, hc.out⟩)).mono ?_
  rintro e w1 ⟨rfl, rfl⟩
  go_wp2_with fail
  refine (joinAll_any b off cap xs _ rfl _ Hok.out hlc hc.out).mono ?_
  rintro e w2 ⟨rfl, hB2⟩
  generalize hcat : cat xs = c at *
  have Hcat := Lib.hid hcat
  have hcn : n ≤ c.size := by omega
  have Hcz := Lib.hid hcz
  clear hcat hcz
  go_wp2_with fail
  have hiff := Hiff.out
  generalize hct : c.extract 0 n = t at hiff hts ⊢
  have Hct := Lib.hid hct
  have Hiff2 := Lib.hid hiff
  have Hts := Lib.hid hts
  clear hct hiff hts Hiff
  have htm : t.size ≤ maxLen := by have := Hts.out; unfold maxLen; omega
  have Htm := Lib.hid htm
  have htl : t.size ≤ 281474976710656 := by have := Hts.out; omega
  clear htm
  refine (clone_any t htl _).mono ?_
  rintro e w3 ⟨rfl, hB3⟩
  go_wp2_with fail
  refine (implCols_any t Htm.out _).mono ?_
  rintro e w4 ⟨v, rfl, hown, hB4⟩
  have hcl : (colsOf t).length = (n + 2) / 3 := by unfold colsOf; rw [Hts.out, if_pos (by omega), colsTo_length]
  obtain ⟨a2, cap2, rfl, _, _, hst⟩ := strs_of_owns hown
  obtain ⟨g, o2, rfl, hc2⟩ := hst.resolve_left (fun e => by rw [e] at hcl; simp at hcl; omega)
  have q2 := hB2.size
  have q3 := hB3.size
  have hB : Below w.heap.size w w4 := hB2.trans ((hB3.mono q2).trans (hB4.mono (by omega)))
  have hc4 : ∀ j, j < xs.length → w4.cell? ⟨b, off + j, none⟩ = some (.string (xs.getD j ByteArray.empty)) := fun j hj =>
    (hB.cell (p := ⟨b, off + j, none⟩) (World.block_lt_of_cell? w _ (hc.out j hj))).trans (hc.out j hj)
  have Hc2 := Lib.hid hc2
  have Hc4 := Lib.hid hc4
  have HB := Lib.hid hB
  have Hcl := Lib.hid hcl
  have hcl3 : (colsOf t).length ≤ 9 := by omega
  clear hc2 hc4 hB hB2 hB3 hB4 hown hcl hst
  go_wp2_with fail
  refine (Try.slices_Equal_string g o2 (colsOf t).length cap2 b off xs.length cap (colsOf t) xs _ (Nat.le_refl _) (Nat.le_refl _) (by omega) (by omega) Hc2.out Hc4.out).mono ?_
  rintro e w5 ⟨rfl, q, rfl⟩
  rw [List.take_length, List.take_length]
  by_cases heq : colsOf t = xs
  · have HYes := Lib.hid (Hiff2.out.1 heq)
    rw [decide_eq_true heq]
    clear heq
    go_wp2
    go_ret2
    exact ⟨.inl ⟨HYes.out, by rw [Hcat.out, ← Hct.out]; simp⟩, below_drewN HB.out q⟩
  · have HNo := Lib.hid (fun h => heq (Hiff2.out.2 h))
    rw [decide_eq_false heq]
    clear heq
    go_wp2
    go_ret2
    exact ⟨.inr ⟨HNo.out, rfl⟩, below_drewN HB.out q⟩

theorem implText_any (a : Option Addr) (cap : Nat) (xs : List ByteArray) (n : Int) (w : World) (hlc : xs.length ≤ cap) (hx : Hid (Strs w a xs)) :
    Calls Try.prog 18 #[.slice a xs.length cap, .int .i64 n] w (Read xs n w) := by
  by_cases h : ColsOk xs ∧ 1 ≤ n ∧ n ≤ 3 * (xs.length : Int)
  · have h13 := h.1.1
    obtain ⟨k, rfl⟩ := Int.eq_ofNat_of_zero_le (show 0 ≤ n by omega)
    obtain ⟨b, off, rfl, hc⟩ := hx.out.resolve_left (fun e => by rw [e] at h13; simp at h13)
    exact implText_in b off cap xs k w hlc h.1 (by omega) (by omega) hc
  · refine (implText_none a cap xs n w hx (by
      by_cases h1 : ColsOk xs
      · right
        have : ¬(1 ≤ n ∧ n ≤ 3 * (xs.length : Int)) := fun h2 => h ⟨h1, h2⟩
        omega
      · exact .inl h1)).mono ?_
    rintro e w' ⟨rfl, rfl⟩
    refine ⟨.inr ⟨fun ht => h ⟨ht.1, ?_⟩, rfl⟩, Below.refl _ _⟩
    have := ht.1.1
    have := ht.2.1
    omega

end Go.Proofs.Ytphenphfficnaab
