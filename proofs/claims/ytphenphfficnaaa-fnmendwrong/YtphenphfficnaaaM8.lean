/- Plain facts on parity: all columns with their parity are nothing, one column more, and one that is wrong. Conditions: columns. -/
import Derived.Test.YtphenphfficnaaaM7
namespace Go.Proofs.Ytphenphfficnaaa

theorem parTo_split (z : ByteArray) (xs : List ByteArray) (k : Nat) : parTo z xs k = xorS z (parTo ByteArray.empty xs k) := by
  induction k with
  | zero => exact (xorS_empty z ByteArray.empty rfl).symm
  | succ k ih => show xorS (parTo z xs k) _ = xorS z (xorS (parTo ByteArray.empty xs k) _); rw [ih, xorS_assoc]
/-- All columns and their parity together: noughts. -/
theorem parity_none {xs : List ByteArray} (h : ColsOk xs) (t : ByteArray) (ht : t = ⟨#[0, 0, 0]⟩) : parTo (parOf xs) xs xs.length = t := by
  subst ht
  rw [parTo_split]
  show xorS (parOf xs) (parOf xs) = _
  refine text_ext (by rw [xorS_size, parOf_size h]; rfl) fun i _ => ?_
  rw [xorS_self]
  match i with
  | 0 => rfl
  | 1 => rfl
  | 2 => rfl
  | i + 3 => exact (byteAt_ge (show (3 : Nat) ≤ i + 3 by omega)).symm
theorem parity_one (x : ByteArray) (h : x.size = 3) : colsB [x] = true ∧ parOf [x] = x := by
  refine ⟨colsB_true ⟨by simp, fun j hj => ?_⟩, xorS_none x⟩
  obtain rfl : j = 0 := by simp at hj; exact hj
  exact h

theorem getD_snoc_lt (xs : List ByteArray) (c : ByteArray) (k : Nat) (h : k < xs.length) : (xs ++ [c]).getD k ByteArray.empty = xs.getD k ByteArray.empty := by
  rw [List.getD, List.getD, List.getElem?_append_left h]
theorem getD_snoc (xs : List ByteArray) (c : ByteArray) : (xs ++ [c]).getD xs.length ByteArray.empty = c := by
  rw [List.getD, List.getElem?_append_right (Nat.le_refl _), Nat.sub_self]; rfl
theorem parTo_snoc (z : ByteArray) (xs : List ByteArray) (c : ByteArray) (k : Nat) (h : k ≤ xs.length) : parTo z (xs ++ [c]) k = parTo z xs k := by
  induction k with
  | zero => rfl
  | succ k ih => show xorS (parTo z (xs ++ [c]) k) _ = xorS (parTo z xs k) _; rw [ih (by omega), getD_snoc_lt xs c k (by omega)]
/-- A column more is one more in the parity. -/
theorem parity_more (xs : List ByteArray) (c : ByteArray) (h : ColsOk xs) (hc : c.size = 3) (h2 : xs.length ≤ 2) : ColsOk (xs ++ [c]) ∧ parOf (xs ++ [c]) = xorS (parOf xs) c := by
  refine ⟨⟨by rw [List.length_append]; simp; omega, fun j hj => ?_⟩, ?_⟩
  · rw [List.length_append] at hj
    simp at hj
    by_cases e : j = xs.length
    · subst e; rw [getD_snoc]; exact hc
    · rw [getD_snoc_lt xs c j (by omega)]; exact h.2 j (by omega)
  · unfold parOf
    rw [List.length_append]
    show xorS (parTo _ (xs ++ [c]) xs.length) ((xs ++ [c]).getD xs.length ByteArray.empty) = _
    rw [parTo_snoc _ xs c _ (Nat.le_refl _), getD_snoc]

/-- A text of noughts but for one byte. -/
def delta (b : Nat) (c : Int) : ByteArray := withAt ⟨#[0, 0, 0]⟩ b c
theorem delta_size (b : Nat) (c : Int) : (delta b c).size = 3 := withAt_size _ _ _
theorem nul_byte (i : Nat) : byteAt ⟨#[0, 0, 0]⟩ i = 0 := by
  match i with
  | 0 => rfl
  | 1 => rfl
  | 2 => rfl
  | i + 3 => exact byteAt_ge (show (3 : Nat) ≤ i + 3 by omega)
theorem with_delta (s : ByteArray) (b : Nat) (c : Int) (hs : s.size = 3) (hb : b < 3) (hc : 0 ≤ c ∧ c ≤ 255) : withAt s b (bits .xor .u8 (byteAt s b) c) = xorS s (delta b c) := by
  refine text_ext (by rw [withAt_size, xorS_size, delta_size]; omega) fun i _ => ?_
  unfold delta
  rw [xorS_byte, withAt_byte s b _ (by omega) (xor8_bd _ _ (byteAt_bd s b) hc) i, withAt_byte ⟨#[0, 0, 0]⟩ b c hb hc i]
  by_cases e : i = b
  · subst e; rw [if_pos rfl, if_pos rfl]
  · rw [if_neg e, if_neg e, nul_byte, xor8_nil (byteAt_bd s i)]

/-- What is wrong in one column is wrong in what is found by it. -/
theorem mend_wrong (xs : List ByteArray) (m o : Nat) (d : ByteArray) (hd : d.size = 3) (h : ColsOk xs) (h2 : 2 ≤ xs.length) (hm : m < xs.length) (ho : o = (m + 1) % xs.length) :
    MendOk (xs.set o (xorS (xs.getD o ByteArray.empty) d)) (parOf xs) m ∧ parOf ((xs.set o (xorS (xs.getD o ByteArray.empty) d)).set m (parOf xs)) = xorS (xs.getD m ByteArray.empty) d := by
  have hol : o < xs.length := by rw [ho]; exact Nat.mod_lt _ (by omega)
  have hx := h.2
  have hP := parOf_size h
  have hY : (xorS (xs.getD o ByteArray.empty) d).size = 3 := by rw [xorS_size, hx o hol, hd]; rfl
  have hl : (xs.set o (xorS (xs.getD o ByteArray.empty) d)).length = xs.length := List.length_set
  have hok : MendOk (xs.set o (xorS (xs.getD o ByteArray.empty) d)) (parOf xs) m := (mendOk_iff _ _ m (by rw [hl]; exact hm)).2 ⟨by rw [hl]; exact h.1.2, hP, fun j hj _ => by
    rw [hl] at hj
    by_cases e : j = o
    · subst e; rw [List.getD, List.getElem?_set_self hj]; exact hY
    · rw [List.getD, List.getElem?_set_ne (by omega)]; exact hx j hj⟩
  refine ⟨hok, ?_⟩
  rw [← mendTo_eq _ _ m (by rw [hl]; exact hm) (by rw [hl]; exact h.1.2)]
  have h3 := h.1.2
  clear hok hl hY hP hol h
  match xs, m, hm, h2, h3, hx, o, ho with
  | [a, b], 0, _, _, _, hx, o, ho =>
    obtain rfl : o = 1 := by simpa using ho
    have ha : a.size = 3 := hx 0 (by simp)
    have hb : b.size = 3 := hx 1 (by simp)
    show xorS (xorS (xorS ByteArray.empty a) b) (xorS b d) = xorS a d
    rw [xorS_none, ← xorS_assoc (xorS a b) b d, xorS_cancel a b (by omega)]
  | [a, b], 1, _, _, _, hx, o, ho =>
    obtain rfl : o = 0 := by simpa using ho
    have ha : a.size = 3 := hx 0 (by simp)
    have hb : b.size = 3 := hx 1 (by simp)
    show xorS (xorS (xorS ByteArray.empty a) b) (xorS a d) = xorS b d
    rw [xorS_none, xorS_comm a b, ← xorS_assoc (xorS b a) a d, xorS_cancel b a (by omega)]
  | [a, b, c], 0, _, _, _, hx, o, ho =>
    obtain rfl : o = 1 := by simpa using ho
    have ha : a.size = 3 := hx 0 (by simp)
    have hb : b.size = 3 := hx 1 (by simp)
    have hc : c.size = 3 := hx 2 (by simp)
    show xorS (xorS (xorS (xorS (xorS ByteArray.empty a) b) c) (xorS b d)) c = xorS a d
    rw [xorS_none, xorS_assoc (xorS a b) c (xorS b d), xorS_comm c (xorS b d), ← xorS_assoc, ← xorS_assoc (xorS a b) b d, xorS_cancel a b (by omega), xorS_cancel (xorS a d) c (by rw [xorS_size]; omega)]
  | [a, b, c], 1, _, _, _, hx, o, ho =>
    obtain rfl : o = 2 := by simpa using ho
    have ha : a.size = 3 := hx 0 (by simp)
    have hb : b.size = 3 := hx 1 (by simp)
    have hc : c.size = 3 := hx 2 (by simp)
    show xorS (xorS (xorS (xorS (xorS ByteArray.empty a) b) c) a) (xorS c d) = xorS b d
    rw [xorS_none, xorS_comm a b, xorS_assoc (xorS b a) c a, xorS_comm c a, ← xorS_assoc (xorS b a) a c, xorS_cancel b a (by omega), ← xorS_assoc (xorS b c) c d, xorS_cancel b c (by omega)]
  | [a, b, c], 2, _, _, _, hx, o, ho =>
    obtain rfl : o = 0 := by simpa using ho
    have ha : a.size = 3 := hx 0 (by simp)
    have hb : b.size = 3 := hx 1 (by simp)
    have hc : c.size = 3 := hx 2 (by simp)
    show xorS (xorS (xorS (xorS (xorS ByteArray.empty a) b) c) (xorS a d)) b = xorS c d
    rw [xorS_none, xorS_comm (xorS a b) c, xorS_assoc (xorS c (xorS a b)) (xorS a d) b, xorS_comm (xorS a d) b, ← xorS_assoc (xorS c (xorS a b)) b (xorS a d), ← xorS_assoc c a b, xorS_cancel (xorS c a) b (by rw [xorS_size]; omega), ← xorS_assoc (xorS c a) a d, xorS_cancel c a (by omega)]

end Go.Proofs.Ytphenphfficnaaa
