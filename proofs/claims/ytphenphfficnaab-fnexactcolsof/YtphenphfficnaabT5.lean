/- MendOf of the program and of the specification answer the same. Conditions: at most a million texts. -/
import Derived.Test.YtphenphfficnaabT4
namespace Go.Proofs.Ytphenphfficnaab
open Go.RowKit Go.Shelf

/-- A store into a row of one's own. -/
theorem owns_set {w : World} {base : Nat} {e : TypeId} {g n cap : Nat} {xs : List Value} (h : w.ownsRow base e 1 (.slice (some ⟨g, 0, none⟩) n cap) n xs) (k : Nat) (hk : k < n) (u : Value) :
    (w.setCell ⟨g, k, none⟩ u).ownsRow base e 1 (.slice (some ⟨g, 0, none⟩) n cap) n (xs.set k u) ∧ w.cell? ⟨g, k, none⟩ = some (xs.getD k undef) ∧ w.frozen? ⟨g, k, none⟩ = false := by
  rcases h.2 with ⟨hv, _⟩ | ⟨g', cap', cur, hv, hb, hg, hkc, hcm, hcs, hx⟩
  · cases hv
  · cases hv
    have hl := h.1
    have e : (cur.toList.take (n * 1))[k]? = xs[k]? := by rw [hx]
    rw [List.getElem?_take, if_pos (by omega), Array.getElem?_toList] at e
    refine ⟨⟨by rw [List.length_set]; exact hl, .inr ⟨g, cap, cur.setIfInBounds k u, rfl, hb, ?_, hkc, hcm, by simp; omega, ?_⟩⟩, ?_, ?_⟩
    · obtain ⟨hlt, hh⟩ := Array.getElem?_eq_some_iff.1 hg
      show (w.heap.modify g _)[g]? = _
      rw [Array.getElem?_eq_getElem (by rw [Array.size_modify]; exact hlt), Array.getElem_modify_self, hh]
      rfl
    · rw [Array.toList_setIfInBounds, List.take_set, hx]
    · simp only [World.cell?, hg]
      rw [e, List.getD, List.getElem?_eq_getElem (by omega)]
      rfl
    · simp [World.frozen?, hg]

/-- **MendOf**, as the document has it: where it is true. -/
def MendOk (xs : List ByteArray) (p : ByteArray) (m : Nat) : Prop := m < xs.length ∧ ColsOk (xs.set m p)
/-- WHAT MendOf ANSWERS. -/
def Mended (xs : List ByteArray) (p : ByteArray) (i : Int) (w : World) (e : Ending) (w' : World) : Prop :=
  ((∃ m : Nat, i = m ∧ MendOk xs p m ∧ e = .returned (.tuple #[.string (parOf (xs.set m p)), .bool true])) ∨ ((∀ m : Nat, i = m → ¬MendOk xs p m) ∧ e = .returned (.tuple #[.string ByteArray.empty, .bool false]))) ∧ Below w.heap.size w w'

set_option maxRecDepth 100000 in
set_option maxHeartbeats 1000000 in
theorem implMend_out (a : Option Addr) (cap : Nat) (xs : List ByteArray) (p : ByteArray) (i : Int) (w : World) (hi : i < 0 ∨ (xs.length : Int) ≤ i) :
    Calls Try.prog 22 #[.slice a xs.length cap, .string p, .int .i64 i] w fun e w' => e = .returned (.tuple #[.string ByteArray.empty, .bool false]) ∧ w = w' := by
  by_cases h0 : i < 0
  · have d0 : decide (i < 0) = true := by simpa using h0
    clear hi
    go_enter Try.func22, Try.ntmps22
    go_wp2
    go_ret2
    exact ⟨rfl, rfl⟩
  · have d0 : decide (i < 0) = false := by simpa using h0
    have d1 : decide ((xs.length : Int) ≤ i) = true := by simp; omega
    clear hi
    go_enter Try.func22, Try.ntmps22
    go_wp2
    go_ret2
    exact ⟨rfl, rfl⟩

set_option maxRecDepth 100000 in
set_option maxHeartbeats 1000000 in
theorem implMend_in (b off cap : Nat) (xs : List ByteArray) (p : ByteArray) (m : Nat) (w : World) (hl : xs.length ≤ 1048576) (hm : m < xs.length)
    (hx : Hid (∀ j, j < xs.length → w.cell? ⟨b, off + j, none⟩ = some (.string (xs.getD j ByteArray.empty)))) :
    Calls Try.prog 22 #[.slice (some ⟨b, off, none⟩) xs.length cap, .string p, .int .i64 (m : Int)] w (Mended xs p (m : Int) w) := by
  have d1 : decide ((xs.length : Int) ≤ (m : Int)) = false := by simp; omega
  have d1' : decide (xs.length ≤ m) = false := by simp; omega
  go_enter Try.func22, Try.ntmps22
  go_wp2_with fail
  refine (Try.slices_Clone_string b off xs.length cap xs _ (Nat.le_refl _) (by omega) hx.out).mono ?_
  rintro e w1 ⟨v', rfl, hown, hnn, hB1⟩
  rw [List.take_length] at hown
  obtain ⟨g, c', rfl, hbg, hgl⟩ := hown.form (by omega)
  obtain ⟨hown2, hcell, hfr⟩ := owns_set hown m hm (.string p)
  rw [← List.map_set] at hown2
  have hB2 : Below w.heap.size w (w1.setCell ⟨g, m, none⟩ (.string p)) := hB1.setCell (p := ⟨g, m, none⟩) hbg _
  have Ho := Lib.hid hown2
  have HB := Lib.hid hB2
  clear hown hown2 hB1 hB2 hnn
  go_wp2_with fail
  have hlen : (xs.set m p).length = xs.length := List.length_set
  generalize w1.setCell ⟨g, m, none⟩ (.string p) = w2 at Ho HB ⊢
  obtain ⟨a2, cap2, hv2, _, _, hst⟩ := strs_of_owns (xs := xs.set m p) (by rw [hlen]; exact Ho.out)
  rw [hlen] at hv2
  cases hv2
  have Hst := Lib.hid hst
  clear hst
  have HA := areCols_any (some ⟨g, 0, none⟩) c' (xs.set m p) w2 Hst
  rw [hlen] at HA
  refine HA.mono ?_
  rintro e w3 ⟨rfl, rfl⟩
  cases hcb : colsB (xs.set m p)
  · have HN : Hid (∀ k : Nat, (m : Int) = k → ¬MendOk xs p k) := fun k hk h => by
      obtain rfl : m = k := by omega
      rw [colsB_true h.2] at hcb
      cases hcb
    go_wp2
    go_ret2
    exact ⟨.inr ⟨HN.out, rfl⟩, HB.out⟩
  · have hok := (colsB_iff _).1 hcb
    have HY : Hid (MendOk xs p m) := ⟨hm, hok⟩
    have HP := implParity_any (some ⟨g, 0, none⟩) c' (xs.set m p) w2 Hst
    rw [hlen, parRes_yes hcb] at HP
    have HPh := Lib.hid HP
    clear HP HA hok
    go_wp2_with fail
    refine HPh.out.mono ?_
    rintro e w4 ⟨rfl, hB4⟩
    go_wp2
    go_ret2
    exact ⟨.inl ⟨m, rfl, HY.out, rfl⟩, HB.out.trans (hB4.mono HB.out.size)⟩

theorem implMend_any (a : Option Addr) (cap : Nat) (xs : List ByteArray) (p : ByteArray) (i : Int) (w : World) (hl : xs.length ≤ 1048576) (hx : Hid (Strs w a xs)) :
    Calls Try.prog 22 #[.slice a xs.length cap, .string p, .int .i64 i] w (Mended xs p i w) := by
  by_cases hi : i < 0 ∨ (xs.length : Int) ≤ i
  · refine (implMend_out a cap xs p i w hi).mono ?_
    rintro e w' ⟨rfl, rfl⟩
    exact ⟨.inr ⟨fun m hm h => by have := h.1; omega, rfl⟩, Below.refl _ _⟩
  · obtain ⟨m, rfl⟩ := Int.eq_ofNat_of_zero_le (show 0 ≤ i by omega)
    have hm : m < xs.length := by omega
    obtain ⟨b, off, rfl, hc⟩ := hx.out.resolve_left (fun e => by subst e; simp at hm)
    exact implMend_in b off cap xs p m w hl hm hc

theorem mendOk_iff (xs : List ByteArray) (p : ByteArray) (m : Nat) (hm : m < xs.length) :
    MendOk xs p m ↔ xs.length ≤ 3 ∧ p.size = 3 ∧ ∀ j, j < xs.length → j ≠ m → (xs.getD j ByteArray.empty).size = 3 := by
  have hg : ∀ j, j < xs.length → (xs.set m p).getD j ByteArray.empty = if j = m then p else xs.getD j ByteArray.empty := fun j hj => by
    by_cases e : j = m
    · subst e; rw [if_pos rfl, List.getD, List.getElem?_set_self hj]; rfl
    · rw [if_neg e, List.getD, List.getElem?_set_ne (by omega)]; rfl
  constructor
  · rintro ⟨_, ⟨h1, h2⟩, h3⟩
    rw [List.length_set] at h2 h3
    refine ⟨h2, ?_, fun j hj hne => ?_⟩
    · have := h3 m hm
      rwa [hg m hm, if_pos rfl] at this
    · have := h3 j hj
      rwa [hg j hj, if_neg hne] at this
  · rintro ⟨h1, h2, h3⟩
    refine ⟨hm, ⟨by rw [List.length_set]; omega, by rw [List.length_set]; exact h1⟩, fun j hj => ?_⟩
    rw [List.length_set] at hj
    rw [hg j hj]
    by_cases e : j = m
    · rw [if_pos e]; exact h2
    · rw [if_neg e]; exact h3 j hj e

theorem mendTo_size (xs : List ByteArray) (p : ByteArray) (m k : Nat) (hp : p.size = 3) (hx : ∀ j, j < k → j ≠ m → (xs.getD j ByteArray.empty).size = 3) : (mendTo xs p m k).size = 3 := by
  induction k with
  | zero => exact hp
  | succ k ih =>
    have h1 := ih (fun j hj => hx j (by omega))
    by_cases e : k = m
    · show (if k = m then mendTo xs p m k else _).size = 3
      rw [if_pos e]; exact h1
    · show (if k = m then _ else xorS (mendTo xs p m k) (xs.getD k ByteArray.empty)).size = 3
      rw [if_neg e, xorS_size, h1, hx k (by omega) e]; rfl

set_option maxRecDepth 100000 in
set_option maxHeartbeats 1000000 in
theorem specMend_none (a : Option Addr) (cap : Nat) (xs : List ByteArray) (p : ByteArray) (i : Int) (w : World) (hl : xs.length ≤ 1048576) (hi : 3 < xs.length ∨ p.size ≠ 3 ∨ ¬(0 ≤ i ∧ i ≤ (xs.length : Int) - 1)) :
    Calls Try.prog 21 #[.slice a xs.length cap, .string p, .int .i64 i] w fun e w' => e = .returned (.tuple #[.string ByteArray.empty, .bool false]) ∧ w = w' := by
  by_cases h3 : 3 < xs.length
  · have d0 : decide (3 < (xs.length : Int)) = true := by simp; omega
    clear hi
    go_enter Try.func21, Try.ntmps21
    go_wp2
    go_ret2
    exact ⟨rfl, rfl⟩
  · have d0 : decide (3 < (xs.length : Int)) = false := by simp; omega
    by_cases hp : p.size = 3
    · have d1 : ((p.size : Int) != 3) = false := by simp; omega
      have hi' : ¬(0 ≤ i ∧ i ≤ (xs.length : Int) - 1) := by omega
      clear hi
      go_enter Try.func21, Try.ntmps21
      go_wp2_with fail
      refine (l6In_no _ _ _ _ hi').mono ?_
      rintro e w1 ⟨rfl, rfl⟩
      clear hi'
      go_wp2
      go_ret2
      exact ⟨rfl, rfl⟩
    · have d1 : ((p.size : Int) != 3) = true := by simp; omega
      clear hi
      go_enter Try.func21, Try.ntmps21
      go_wp2
      go_ret2
      exact ⟨rfl, rfl⟩

set_option maxRecDepth 100000 in
set_option maxHeartbeats 2000000 in
theorem specMend_in (a : Option Addr) (cap : Nat) (xs : List ByteArray) (p : ByteArray) (m : Nat) (w : World) (h3 : xs.length ≤ 3) (hp : p.size = 3) (hm : m < xs.length) (hx : Hid (Strs w a xs)) :
    Calls Try.prog 21 #[.slice a xs.length cap, .string p, .int .i64 (m : Int)] w (Mended xs p (m : Int) w) := by
  have d0 : decide (3 < (xs.length : Int)) = false := by simp; omega
  have d1 : ((p.size : Int) != 3) = false := by simp; omega
  have hi : 0 ≤ (m : Int) ∧ (m : Int) ≤ (xs.length : Int) - 1 := by omega
  go_enter Try.func21, Try.ntmps21
  go_wp2_with fail
  refine (l6In_yes _ _ _ _ hi).mono ?_
  rintro e w1 ⟨rfl, rfl⟩
  clear hi
  go_wp2_with fail
  go_loopw [8, 9] (fun o i wr => ∃ k : Nat, i = .int .i64 (k : Int) ∧ k ≤ xs.length ∧ o = .string (mendTo xs p m k) ∧ Hid (∀ j, j < k → j ≠ m → (xs.getD j ByteArray.empty).size = 3) ∧ Below w.heap.size w wr) (fun _ i _ => xs.length - (intOf i).toNat)
  case atStart => exact ⟨0, rfl, by omega, rfl, fun j hj => by omega, Below.refl _ _⟩
  case round =>
    obtain ⟨k, rfl, hk, rfl, hall, hB⟩ := hrel
    have hsz := hB.size
    by_cases hlt : k < xs.length
    · by_cases hkm : k = m
      · have d2 : ((k : Int) != (m : Int)) = false := by simp; omega
        have HS : Hid (mendTo xs p m k = mendTo xs p m (k + 1)) := by
          show _ = if k = m then mendTo xs p m k else _
          rw [if_pos hkm]
        have hnext : Hid (∀ j, j < k + 1 → j ≠ m → (xs.getD j ByteArray.empty).size = 3) := fun j hj hne => hall.out j (by omega) hne
        rw [HS.out]
        clear HS hkm
        go_wp2
        exact ⟨⟨k + 1, by go_num, by omega, rfl, hnext, hB⟩, by simp [intOf]; omega⟩
      · have d2 : ((k : Int) != (m : Int)) = true := by simp; omega
        have hxr := hx.out.below hB
        obtain ⟨b, off, rfl, hc⟩ := hxr.resolve_left (fun e => by subst e; simp at hlt)
        have hck := hc k hlt
        clear hc hxr
        by_cases hs3 : (xs.getD k ByteArray.empty).size = 3
        · have hms := mendTo_size xs p m k hp hall.out
          have HS : Hid (xorS (mendTo xs p m k) (xs.getD k ByteArray.empty) = mendTo xs p m (k + 1)) := by
            show _ = if k = m then _ else xorS (mendTo xs p m k) (xs.getD k ByteArray.empty)
            rw [if_neg hkm]
          have hnext : Hid (∀ j, j < k + 1 → j ≠ m → (xs.getD j ByteArray.empty).size = 3) := fun j hj hne => by
            by_cases e : j = k
            · subst e; exact hs3
            · exact hall.out j (by omega) hne
          generalize xs.getD k ByteArray.empty = x at hck hs3 HS
          generalize mendTo xs p m k = o at hms HS ⊢
          have d3 : ((x.size : Int) != 3) = false := by simp; omega
          clear hkm
          go_wp2_with fail
          refine (specXor_any o x (by omega) (by omega) _).mono ?_
          rintro e w2 ⟨rfl, hB2⟩
          rw [HS.out]
          go_wp2
          exact ⟨⟨k + 1, by go_num, by omega, rfl, hnext, hB.trans (hB2.mono hsz)⟩, by simp [intOf]; omega⟩
        · have HN : Hid (∀ k : Nat, (m : Int) = k → ¬MendOk xs p k) := fun k' hk' h => by
            obtain rfl : m = k' := by omega
            exact hs3 (((mendOk_iff xs p m hm).1 h).2.2 k hlt hkm)
          generalize xs.getD k ByteArray.empty = x at hck hs3
          have d3 : ((x.size : Int) != 3) = true := by simp; omega
          clear hkm
          go_wp2
          go_ret2
          exact ⟨.inr ⟨HN.out, rfl⟩, hB⟩
    · have HY : Hid (MendOk xs p m) := (mendOk_iff xs p m hm).2 ⟨h3, hp, fun j hj hne => hall.out j (by omega) hne⟩
      have HL : Hid (mendTo xs p m k = parOf (xs.set m p)) := by
        rw [show k = xs.length by omega]; exact mendTo_eq xs p m hm h3
      rw [HL.out]
      go_wp2
      go_ret2
      exact ⟨.inl ⟨m, rfl, HY.out, rfl⟩, hB⟩

theorem specMend_any (a : Option Addr) (cap : Nat) (xs : List ByteArray) (p : ByteArray) (i : Int) (w : World) (hl : xs.length ≤ 1048576) (hx : Hid (Strs w a xs)) :
    Calls Try.prog 21 #[.slice a xs.length cap, .string p, .int .i64 i] w (Mended xs p i w) := by
  by_cases hi : 3 < xs.length ∨ p.size ≠ 3 ∨ ¬(0 ≤ i ∧ i ≤ (xs.length : Int) - 1)
  · refine (specMend_none a cap xs p i w hl hi).mono ?_
    rintro e w' ⟨rfl, rfl⟩
    refine ⟨.inr ⟨fun m hm h => ?_, rfl⟩, Below.refl _ _⟩
    have := (mendOk_iff xs p m h.1).1 h
    have := h.1
    omega
  · obtain ⟨m, rfl⟩ := Int.eq_ofNat_of_zero_le (show 0 ≤ i by omega)
    exact specMend_in a cap xs p m w (by omega) (by omega) (by omega) hx

end Go.Proofs.Ytphenphfficnaab
