/- Plain facts on texts and their bytes. Conditions: as each one says. -/
import Derived.Test.YtcdiengbmjkglaaGreatPKA0
import Derived.Laws.BytesArg
import Derived.Laws.BitsAllLaws
namespace Go.Proofs.YtcdiengbmjkglaaGreat
open Go.RowKit

/-- THE BYTES OF A TEXT, as numbers. -/
def nums (s : ByteArray) : List Int := s.data.toList.map fun b => (b.toNat : Int)
theorem nums_length (s : ByteArray) : (nums s).length = s.size := by simp [nums]
theorem nums_get (s : ByteArray) (i : Nat) : (nums s).getD i 0 = byteAt s i := by
  unfold nums byteAt
  rw [List.getD, List.getElem?_map]
  cases s.data.toList[i]? <;> rfl
/-- A text made of numbers that are bytes. -/
theorem byteAt_ofNums (xs : List Int) (h : ∀ i, 0 ≤ xs.getD i 0 ∧ xs.getD i 0 ≤ 255) (i : Nat) : byteAt (strOfNums xs) i = xs.getD i 0 := by
  unfold byteAt
  rw [strOfNums_data, List.getElem?_map]
  have hi := h i
  rw [List.getD] at hi ⊢
  cases e : xs[i]? with
  | none => rfl
  | some x =>
    rw [e] at hi
    simp only [Option.map_some, Option.getD_some] at hi ⊢
    rw [UInt8.toNat_ofNat']
    omega
/-- Texts are the same, if their sizes and bytes are. -/
theorem text_ext {s t : ByteArray} (h : s.size = t.size) (hb : ∀ i, i < s.size → byteAt s i = byteAt t i) : s = t := by
  have : s.data.toList = t.data.toList := by
    apply List.ext_getElem (by simpa using h)
    intro i h1 h2
    have h1' : i < s.size := by simpa using h1
    have := hb i h1'
    unfold byteAt at this
    rw [List.getElem?_eq_getElem h1, List.getElem?_eq_getElem h2] at this
    simp only [Option.getD_some] at this
    exact UInt8.toNat_inj.1 (by omega)
  obtain ⟨⟨a⟩⟩ := s
  obtain ⟨⟨b⟩⟩ := t
  simp at this
  rw [this]

/-- THE TEXT WITH THE NUMBER x AT PLACE k. -/
def withAt (s : ByteArray) (k : Nat) (x : Int) : ByteArray := strOfNums ((nums s).set k x)
theorem withAt_size (s : ByteArray) (k : Nat) (x : Int) : (withAt s k x).size = s.size := by unfold withAt; rw [strOfNums_size, List.length_set, nums_length]
theorem withAt_get (s : ByteArray) (k : Nat) (x : Int) (hk : k < s.size) (i : Nat) : ((nums s).set k x).getD i 0 = if i = k then x else byteAt s i := by
  by_cases e : i = k
  · subst e
    rw [if_pos rfl, List.getD, List.getElem?_set_self (by rw [nums_length]; exact hk)]
    rfl
  · rw [if_neg e, List.getD, List.getElem?_set_ne (by omega), ← nums_get]
    rfl
theorem withAt_byte (s : ByteArray) (k : Nat) (x : Int) (hk : k < s.size) (hx : 0 ≤ x ∧ x ≤ 255) (i : Nat) : byteAt (withAt s k x) i = if i = k then x else byteAt s i := by
  unfold withAt
  rw [byteAt_ofNums]
  · exact withAt_get s k x hk i
  · intro j
    rw [withAt_get s k x hk j]
    split
    · exact hx
    · exact byteAt_bd s j

theorem xor8_bd (a b : Int) (ha : 0 ≤ a ∧ a ≤ 255) (hb : 0 ≤ b ∧ b ≤ 255) : 0 ≤ bits .xor .u8 a b ∧ bits .xor .u8 a b ≤ 255 := by
  rw [u8_xor a b ha.1 (by omega) hb.1 (by omega)]
  have : a.toNat ^^^ b.toNat < 2 ^ 8 := Nat.xor_lt_two_pow (by omega) (by omega)
  omega

end Go.Proofs.YtcdiengbmjkglaaGreat
