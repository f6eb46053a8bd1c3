/- Plain facts on parity, mending, and reading a text from its columns. Conditions: as each one says. -/
import Derived.Test.YtphenphfficnaabT3
namespace Go.Proofs.Ytphenphfficnaab

/-- THE PARITY OF TEXTS: all together. -/
def parTo (z : ByteArray) (xs : List ByteArray) : Nat → ByteArray
  | 0 => z
  | k + 1 => xorS (parTo z xs k) (xs.getD k ByteArray.empty)
def parOf (xs : List ByteArray) : ByteArray := parTo ByteArray.empty xs xs.length
theorem xorS_none (s : ByteArray) : xorS ByteArray.empty s = s := by rw [xorS_comm]; exact xorS_empty s _ rfl
theorem parTo_size (z : ByteArray) (xs : List ByteArray) (hx : ∀ j, j < xs.length → (xs.getD j ByteArray.empty).size = 3) (hz : z.size ≤ 3) (k : Nat) (hk : k ≤ xs.length) : (parTo z xs k).size ≤ 3 ∧ (0 < k → (parTo z xs k).size = 3) := by
  induction k with
  | zero => exact ⟨hz, fun h => by omega⟩
  | succ k ih =>
    have := ih (by omega)
    have h3 := hx k (by omega)
    have e : (parTo z xs (k + 1)).size = max (parTo z xs k).size (xs.getD k ByteArray.empty).size := xorS_size _ _
    omega
theorem parOf_size {xs : List ByteArray} (h : ColsOk xs) : (parOf xs).size = 3 := (parTo_size ByteArray.empty xs h.2 (by decide) xs.length (Nat.le_refl _)).2 h.1.1
theorem parTo_nul {xs : List ByteArray} (h : ColsOk xs) (z : ByteArray) (hz : z.size = 3) (hb : ∀ i, byteAt z i = 0) (k : Nat) (hk : k < xs.length) : parTo z xs (k + 1) = parTo ByteArray.empty xs (k + 1) := by
  induction k with
  | zero =>
    show xorS z _ = xorS ByteArray.empty _
    rw [xorS_none]
    have h3 := h.2 0 hk
    refine text_ext (by rw [xorS_size, hz, h3]; rfl) fun i _ => ?_
    rw [xorS_byte, hb, xor8_nil' (byteAt_bd _ i)]
  | succ k ih => show xorS (parTo z xs (k + 1)) _ = xorS (parTo ByteArray.empty xs (k + 1)) _; rw [ih (by omega)]
theorem parOf_nul {xs : List ByteArray} (h : ColsOk xs) (z : ByteArray) (hz : z.size = 3) (hb : ∀ i, byteAt z i = 0) : parTo z xs xs.length = parOf xs := by
  have h1 := h.1.1
  obtain ⟨k, hk⟩ : ∃ k, xs.length = k + 1 := ⟨xs.length - 1, by omega⟩
  unfold parOf
  rw [hk]
  exact parTo_nul h z hz hb k (by omega)

/-- WHAT IS FOUND at a place: the parity and all others together. -/
def mendTo (xs : List ByteArray) (p : ByteArray) (m : Nat) : Nat → ByteArray
  | 0 => p
  | k + 1 => if k = m then mendTo xs p m k else xorS (mendTo xs p m k) (xs.getD k ByteArray.empty)
theorem mendTo_eq (xs : List ByteArray) (p : ByteArray) (m : Nat) (hm : m < xs.length) (h3 : xs.length ≤ 3) : mendTo xs p m xs.length = parOf (xs.set m p) := by
  match xs, m, hm, h3 with
  | [a], 0, _, _ => show p = xorS ByteArray.empty p; rw [xorS_none]
  | [a, b], 0, _, _ => show xorS p b = xorS (xorS ByteArray.empty p) b; rw [xorS_none]
  | [a, b], 1, _, _ => show xorS p a = xorS (xorS ByteArray.empty a) p; rw [xorS_none, xorS_comm]
  | [a, b, c], 0, _, _ => show xorS (xorS p b) c = xorS (xorS (xorS ByteArray.empty p) b) c; rw [xorS_none]
  | [a, b, c], 1, _, _ => show xorS (xorS p a) c = xorS (xorS (xorS ByteArray.empty a) p) c; rw [xorS_none, xorS_comm p a]
  | [a, b, c], 2, _, _ => show xorS (xorS p a) b = xorS (xorS (xorS ByteArray.empty a) b) p; rw [xorS_none, xorS_assoc, xorS_comm p]

/-- ALL COLUMNS BEHIND ONE ANOTHER. -/
def catTo (xs : List ByteArray) : Nat → ByteArray
  | 0 => ByteArray.empty
  | k + 1 => catTo xs k ++ xs.getD k ByteArray.empty
def cat (xs : List ByteArray) : ByteArray := catTo xs xs.length
theorem catTo_size (xs : List ByteArray) (hx : ∀ j, j < xs.length → (xs.getD j ByteArray.empty).size = 3) (k : Nat) (hk : k ≤ xs.length) : (catTo xs k).size = 3 * k := by
  induction k with
  | zero => rfl
  | succ k ih =>
    show (catTo xs k ++ _).size = _
    rw [ByteArray.size_append, ih (by omega), hx k (by omega)]
    omega
theorem byteAt_app (s t : ByteArray) (i : Nat) : byteAt (s ++ t) i = if i < s.size then byteAt s i else byteAt t (i - s.size) := by
  unfold byteAt
  rw [show (s ++ t).data.toList = s.data.toList ++ t.data.toList by simp [ByteArray.data_append]]
  by_cases h : i < s.size
  · rw [if_pos h, List.getElem?_append_left (by simpa using h)]
  · rw [if_neg h, List.getElem?_append_right (by simp; omega)]
    simp
theorem catTo_byte (xs : List ByteArray) (hx : ∀ j, j < xs.length → (xs.getD j ByteArray.empty).size = 3) (k : Nat) (hk : k ≤ xs.length) (i j : Nat) (hi : i < k) (hj : j < 3) : byteAt (catTo xs k) (3 * i + j) = byteAt (xs.getD i ByteArray.empty) j := by
  induction k with
  | zero => omega
  | succ k ih =>
    show byteAt (catTo xs k ++ _) _ = _
    have hz := catTo_size xs hx k (by omega)
    rw [byteAt_app, hz]
    by_cases e : i = k
    · subst e
      rw [if_neg (by omega), show 3 * i + j - 3 * i = j by omega]
    · rw [if_pos (by omega), ih (by omega) (by omega)]

/-- WHEN A TEXT IS READ from columns. -/
def TextOk (xs : List ByteArray) (n : Int) : Prop := ColsOk xs ∧ (3 * ((xs.length : Int) - 1) + 1 ≤ n ∧ n ≤ 3 * (xs.length : Int)) ∧ ∀ i, n.toNat ≤ i → byteAt (cat xs) i = 0
theorem cat_size {xs : List ByteArray} (h : ColsOk xs) : (cat xs).size = 3 * xs.length := catTo_size xs h.2 _ (Nat.le_refl _)
theorem cat_byte {xs : List ByteArray} (h : ColsOk xs) (i j : Nat) (hi : i < xs.length) (hj : j < 3) : byteAt (cat xs) (3 * i + j) = byteAt (xs.getD i ByteArray.empty) j := catTo_byte xs h.2 _ (Nat.le_refl _) i j hi hj

theorem cut_byte (s : ByteArray) (n i : Nat) : byteAt (s.extract 0 n) i = if i < n then byteAt s i else 0 := by rw [byteAt_extract, Nat.zero_add]
theorem cut_size (s : ByteArray) (n : Nat) (h : n ≤ s.size) : (s.extract 0 n).size = n := by simp [ByteArray.size_extract]; omega

/-- The columns of the text that is cut off are the columns, just where it fits. -/
theorem text_iff {xs : List ByteArray} (h : ColsOk xs) (n : Nat) (hn : n ≤ 3 * xs.length) : colsOf ((cat xs).extract 0 n) = xs ↔ TextOk xs (n : Int) := by
  have hz := cat_size h
  have ht : ((cat xs).extract 0 n).size = n := cut_size _ n (by omega)
  have hl := h.1
  have hc : colsOf ((cat xs).extract 0 n) = colsTo ((cat xs).extract 0 n) ((n + 2) / 3) := by unfold colsOf; rw [ht, if_pos (by omega)]
  rw [hc]
  constructor
  · intro e
    have hlen : (n + 2) / 3 = xs.length := by rw [← e, colsTo_length]
    refine ⟨h, by omega, fun i hi => ?_⟩
    simp only [Int.toNat_natCast] at hi
    by_cases hb : i < 3 * xs.length
    · have hq : i / 3 < xs.length := by omega
      have hr : i % 3 < 3 := by omega
      have hg : xs.getD (i / 3) ByteArray.empty = colOf ((cat xs).extract 0 n) (i / 3) := by
        conv => lhs; rw [← e]
        unfold colsTo
        rw [List.getD, List.getElem?_map, List.getElem?_range (by omega)]
        rfl
      have := cat_byte h (i / 3) (i % 3) hq hr
      rw [hg, colOf_byte _ _ _ hr, cut_byte, if_neg (by omega)] at this
      rwa [show 3 * (i / 3) + i % 3 = i by omega] at this
    · exact byteAt_ge (by omega)
  · rintro ⟨_, hr, hzero⟩
    simp only [Int.toNat_natCast] at hzero
    have hlen : (n + 2) / 3 = xs.length := by omega
    rw [hlen]
    apply List.ext_getElem (by rw [colsTo_length])
    intro i h1' h2'
    have hg : xs[i] = xs.getD i ByteArray.empty := by rw [List.getD, List.getElem?_eq_getElem h2']; rfl
    have hc' : (colsTo ((cat xs).extract 0 n) xs.length)[i] = colOf ((cat xs).extract 0 n) i := by simp [colsTo]
    rw [hg, hc']
    refine text_ext (by rw [colOf_size, h.2 i h2']) fun j hj => ?_
    rw [colOf_size] at hj
    rw [colOf_byte _ i j hj, cut_byte, ← cat_byte h i j h2' hj]
    by_cases hb : 3 * i + j < n
    · rw [if_pos hb]
    · rw [if_neg hb, hzero _ (by omega)]

theorem catL (xs : List ByteArray) (k : Nat) (hk : k ≤ xs.length) : (catTo xs k).data.toList = ((xs.take k).map (·.data.toList)).flatten := by
  induction k with
  | zero => rfl
  | succ k ih =>
    show (catTo xs k ++ xs.getD k ByteArray.empty).data.toList = _
    rw [show (catTo xs k ++ xs.getD k ByteArray.empty).data.toList = (catTo xs k).data.toList ++ (xs.getD k ByteArray.empty).data.toList by simp [ByteArray.data_append], ih (by omega)]
    rw [List.take_succ_eq_append_getElem (by omega), List.map_append, List.flatten_append, List.getD, List.getElem?_eq_getElem (by omega)]
    simp
theorem join_flat (l : List (List UInt8)) : Lib.join l [] = l.flatten := by
  cases l with
  | nil => rfl
  | cons x r => rw [Lib.join_cons]; unfold Lib.joinTail; simp
theorem join_cat (xs : List ByteArray) : (⟨(Lib.join (xs.map fun x => x.data.toList) []).toArray⟩ : ByteArray) = cat xs := by
  have h : Lib.join (xs.map fun x => x.data.toList) [] = (cat xs).data.toList := by
    unfold cat
    rw [catL xs _ (Nat.le_refl _), List.take_length]
    exact join_flat _
  rw [h]

end Go.Proofs.Ytphenphfficnaab
