/- A text with one byte changed (laws.lpaChanged). Conditions: the place lies within the text. -/
import Derived.Test.YtphenphfficnaaaA1
import Derived.Lib.ConvBytes
import Derived.Laws.BytesArg
import Derived.Laws.BitsAllLaws
namespace Go.Proofs.Ytphenphfficnaaa
open Go.RowKit

/-- THE BYTES OF A TEXT, as numbers. -/
def nums (s : ByteArray) : List Int := s.data.toList.map fun b => (b.toNat : Int)
theorem nums_length (s : ByteArray) : (nums s).length = s.size := by simp [nums]
theorem nums_get (s : ByteArray) (i : Nat) : (nums s).getD i 0 = byteAt s i := by
  unfold nums byteAt
  rw [List.getD, List.getElem?_map]
  cases s.data.toList[i]? <;> rfl
/-- A text made of numbers that are bytes. -/
theorem byteAt_ofNums (xs : List Int) (h : ∀ i, 0 ≤ xs.getD i 0 ∧ xs.getD i 0 ≤ 255) (i : Nat) : byteAt (strOfNums xs) i = xs.getD i 0 := by
  unfold byteAt
  rw [strOfNums_data, List.getElem?_map]
  have hi := h i
  rw [List.getD] at hi ⊢
  cases e : xs[i]? with
  | none => rfl
  | some x =>
    rw [e] at hi
    simp only [Option.map_some, Option.getD_some] at hi ⊢
    rw [UInt8.toNat_ofNat']
    omega
/-- Texts are the same, if their sizes and bytes are. -/
theorem text_ext {s t : ByteArray} (h : s.size = t.size) (hb : ∀ i, i < s.size → byteAt s i = byteAt t i) : s = t := by
  have : s.data.toList = t.data.toList := by
    apply List.ext_getElem (by simpa using h)
    intro i h1 h2
    have h1' : i < s.size := by simpa using h1
    have := hb i h1'
    unfold byteAt at this
    rw [List.getElem?_eq_getElem h1, List.getElem?_eq_getElem h2] at this
    simp only [Option.getD_some] at this
    exact UInt8.toNat_inj.1 (by omega)
  obtain ⟨⟨a⟩⟩ := s
  obtain ⟨⟨b⟩⟩ := t
  simp at this
  rw [this]

/-- THE TEXT WITH THE NUMBER x AT PLACE k. -/
def withAt (s : ByteArray) (k : Nat) (x : Int) : ByteArray := strOfNums ((nums s).set k x)
theorem withAt_size (s : ByteArray) (k : Nat) (x : Int) : (withAt s k x).size = s.size := by unfold withAt; rw [strOfNums_size, List.length_set, nums_length]
theorem withAt_get (s : ByteArray) (k : Nat) (x : Int) (hk : k < s.size) (i : Nat) : ((nums s).set k x).getD i 0 = if i = k then x else byteAt s i := by
  by_cases e : i = k
  · subst e
    rw [if_pos rfl, List.getD, List.getElem?_set_self (by rw [nums_length]; exact hk)]
    rfl
  · rw [if_neg e, List.getD, List.getElem?_set_ne (by omega), ← nums_get]
    rfl
theorem withAt_byte (s : ByteArray) (k : Nat) (x : Int) (hk : k < s.size) (hx : 0 ≤ x ∧ x ≤ 255) (i : Nat) : byteAt (withAt s k x) i = if i = k then x else byteAt s i := by
  unfold withAt
  rw [byteAt_ofNums]
  · exact withAt_get s k x hk i
  · intro j
    rw [withAt_get s k x hk j]
    split
    · exact hx
    · exact byteAt_bd s j

theorem xor8_bd (a b : Int) (ha : 0 ≤ a ∧ a ≤ 255) (hb : 0 ≤ b ∧ b ≤ 255) : 0 ≤ bits .xor .u8 a b ∧ bits .xor .u8 a b ≤ 255 := by
  rw [u8_xor a b ha.1 (by omega) hb.1 (by omega)]
  have : a.toNat ^^^ b.toNat < 2 ^ 8 := Nat.xor_lt_two_pow (by omega) (by omega)
  omega

/-- The row of '[]byte(s)' with one byte stored, read back as a text. -/
theorem conv_changed (w : World) (s : ByteArray) (k : Nat) (x : Int) (hk : k < s.size) (cap : Nat) :
    (convert 22 9 (.slice (some ⟨w.heap.size, 0, none⟩) s.size cap)).run Try.prog ((Lib.bytesWorld w 5 s).setCell ⟨w.heap.size, k, none⟩ (.int .u8 x)) = .ok (.string (withAt s k x)) ((Lib.bytesWorld w 5 s).setCell ⟨w.heap.size, k, none⟩ (.int .u8 x)) := by
  refine run_convert_bytes_arg _ 22 5 Try.underlying22 Try.underlying5 w.heap.size 0 s.size cap ((nums s).set k x) (by rw [List.length_set, nums_length]) (fun i hi => ?_) 9 Try.underlying9
  rw [Nat.zero_add, withAt_get s k x hk i]
  by_cases e : i = k
  · subst e
    rw [if_pos rfl]
    exact World.cell?_setCell_same' _ _ _ (by rw [Lib.bytesWorld_cell w _ s i hk]; rfl)
  · rw [if_neg e, World.cell?_setCell_other _ _ _ _ (fun e2 => e (by cases e2; rfl)), Lib.bytesWorld_cell w _ s i hi]
    rfl

theorem bytesWorld_below (w : World) (e : TypeId) (s : ByteArray) : Below w.heap.size w (Lib.bytesWorld w e s) :=
  ⟨rfl, rfl, rfl, by rw [Lib.bytesWorld_size]; omega, fun k hk => Lib.bytesWorld_at_old w e s k hk⟩

/-- WHAT lpaChanged ANSWERS. -/
def Changed (s : ByteArray) (k : Nat) (c : Int) (w : World) (e : Ending) (w' : World) : Prop :=
  e = .returned (.string (withAt s k (bits .xor .u8 (byteAt s k) c))) ∧ Below w.heap.size w w'

set_option maxRecDepth 100000 in
set_option maxHeartbeats 1000000 in
theorem lpaChanged_any (s : ByteArray) (k : Nat) (c : Int) (w : World) (hk : k < s.size) :
    Calls Try.prog 18 #[.string s, .int .i64 (k : Int), .int .u8 c] w (Changed s k c w) := by
  have hcv := Lib.run_convert_string_bytes (P := Try.prog) w 9 22 5 s Try.underlying9 Try.underlying22 Try.underlying5
  have hce : (Lib.bytesWorld w 5 s).cell? ⟨w.heap.size, k, none⟩ = some (.int .u8 (byteAt s k)) := Lib.bytesWorld_cell w _ s k hk
  have hfr : (Lib.bytesWorld w 5 s).frozen? ⟨w.heap.size, k, none⟩ = false := by
    simp [World.frozen?, Lib.bytesWorld_at_new, Lib.bytesCells]
    omega
  have hbk := conv_changed w s k (bits .xor .u8 (byteAt s k) c) hk (grownCap w s.size 0 5)
  have HB := Lib.hid (bytesWorld_below w 5 s)
  generalize grownCap w s.size 0 5 = cap at hcv hbk
  generalize Lib.bytesWorld w 5 s = w1 at hcv hce hfr hbk HB
  go_enter Try.func18, Try.ntmps18
  go_wp2
  go_ret
  exact ⟨rfl, HB.out.setCell (p := ⟨w.heap.size, k, none⟩) (Nat.le_refl _) _⟩

end Go.Proofs.Ytphenphfficnaaa
