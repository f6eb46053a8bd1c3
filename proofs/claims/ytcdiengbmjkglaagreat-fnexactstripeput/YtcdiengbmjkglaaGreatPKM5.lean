/- Plain facts on parity, mending, and reading a text from its columns. Conditions: as each one says. ParityOf of the program and of the specification answer the same. Conditions: none but the row's own bound on sizes. Plain facts: a text's columns are columns, and the text is read from them. Conditions: texts of one to nine bytes. Rows of one's own and worlds that have grown: what several texts share. Conditions: none. -/
import Derived.Test.YtcdiengbmjkglaaGreatPKT2
import Derived.Lib.Join
import Derived.WalkKit
import Derived.Lib.Hide
import Derived.Lib.QuietBelow
import Derived.Deep.AppendLies
import Derived.Laws.BytesArg
import Derived.OwnWalk
import Derived.Maps.Range
import Derived.BigQuiet
import Derived.Deep.QuietTactic
import Derived.Test.YtcdiengbmjkglaaGreatRows
namespace Go.Proofs.YtcdiengbmjkglaaGreat

/-- THE PARITY OF TEXTS: all together. -/
def parTo (z : ByteArray) (xs : List ByteArray) : Nat → ByteArray
  | 0 => z
  | k + 1 => xorS (parTo z xs k) (xs.getD k ByteArray.empty)
def parOf (xs : List ByteArray) : ByteArray := parTo ByteArray.empty xs xs.length
theorem xorS_none (s : ByteArray) : xorS ByteArray.empty s = s := by rw [xorS_comm]; exact xorS_empty s _ rfl
theorem parTo_size (z : ByteArray) (xs : List ByteArray) (hx : ∀ j, j < xs.length → (xs.getD j ByteArray.empty).size = 3) (hz : z.size ≤ 3) (k : Nat) (hk : k ≤ xs.length) : (parTo z xs k).size ≤ 3 ∧ (0 < k → (parTo z xs k).size = 3) := by
  induction k with
  | zero => exact ⟨hz, fun h => by omega⟩
  | succ k ih =>
    have := ih (by omega)
    have h3 := hx k (by omega)
    have e : (parTo z xs (k + 1)).size = max (parTo z xs k).size (xs.getD k ByteArray.empty).size := xorS_size _ _
    omega
theorem parOf_size {xs : List ByteArray} (h : ColsOk xs) : (parOf xs).size = 3 := (parTo_size ByteArray.empty xs h.2 (by decide) xs.length (Nat.le_refl _)).2 h.1.1
theorem parTo_nul {xs : List ByteArray} (h : ColsOk xs) (z : ByteArray) (hz : z.size = 3) (hb : ∀ i, byteAt z i = 0) (k : Nat) (hk : k < xs.length) : parTo z xs (k + 1) = parTo ByteArray.empty xs (k + 1) := by
  induction k with
  | zero =>
    show xorS z _ = xorS ByteArray.empty _
    rw [xorS_none]
    have h3 := h.2 0 hk
    refine text_ext (by rw [xorS_size, hz, h3]; rfl) fun i _ => ?_
    rw [xorS_byte, hb, xor8_nil' (byteAt_bd _ i)]
  | succ k ih => show xorS (parTo z xs (k + 1)) _ = xorS (parTo ByteArray.empty xs (k + 1)) _; rw [ih (by omega)]
theorem parOf_nul {xs : List ByteArray} (h : ColsOk xs) (z : ByteArray) (hz : z.size = 3) (hb : ∀ i, byteAt z i = 0) : parTo z xs xs.length = parOf xs := by
  have h1 := h.1.1
  obtain ⟨k, hk⟩ : ∃ k, xs.length = k + 1 := ⟨xs.length - 1, by omega⟩
  unfold parOf
  rw [hk]
  exact parTo_nul h z hz hb k (by omega)

/-- WHAT IS FOUND at a place: the parity and all others together. -/
def mendTo (xs : List ByteArray) (p : ByteArray) (m : Nat) : Nat → ByteArray
  | 0 => p
  | k + 1 => if k = m then mendTo xs p m k else xorS (mendTo xs p m k) (xs.getD k ByteArray.empty)
theorem mendTo_eq (xs : List ByteArray) (p : ByteArray) (m : Nat) (hm : m < xs.length) (h3 : xs.length ≤ 3) : mendTo xs p m xs.length = parOf (xs.set m p) := by
  match xs, m, hm, h3 with
  | [a], 0, _, _ => show p = xorS ByteArray.empty p; rw [xorS_none]
  | [a, b], 0, _, _ => show xorS p b = xorS (xorS ByteArray.empty p) b; rw [xorS_none]
  | [a, b], 1, _, _ => show xorS p a = xorS (xorS ByteArray.empty a) p; rw [xorS_none, xorS_comm]
  | [a, b, c], 0, _, _ => show xorS (xorS p b) c = xorS (xorS (xorS ByteArray.empty p) b) c; rw [xorS_none]
  | [a, b, c], 1, _, _ => show xorS (xorS p a) c = xorS (xorS (xorS ByteArray.empty a) p) c; rw [xorS_none, xorS_comm p a]
  | [a, b, c], 2, _, _ => show xorS (xorS p a) b = xorS (xorS (xorS ByteArray.empty a) b) p; rw [xorS_none, xorS_assoc, xorS_comm p]

/-- ALL COLUMNS BEHIND ONE ANOTHER. -/
def catTo (xs : List ByteArray) : Nat → ByteArray
  | 0 => ByteArray.empty
  | k + 1 => catTo xs k ++ xs.getD k ByteArray.empty
def cat (xs : List ByteArray) : ByteArray := catTo xs xs.length
theorem catTo_size (xs : List ByteArray) (hx : ∀ j, j < xs.length → (xs.getD j ByteArray.empty).size = 3) (k : Nat) (hk : k ≤ xs.length) : (catTo xs k).size = 3 * k := by
  induction k with
  | zero => rfl
  | succ k ih =>
    show (catTo xs k ++ _).size = _
    rw [ByteArray.size_append, ih (by omega), hx k (by omega)]
    omega
theorem byteAt_app (s t : ByteArray) (i : Nat) : byteAt (s ++ t) i = if i < s.size then byteAt s i else byteAt t (i - s.size) := by
  unfold byteAt
  rw [show (s ++ t).data.toList = s.data.toList ++ t.data.toList by simp [ByteArray.data_append]]
  by_cases h : i < s.size
  · rw [if_pos h, List.getElem?_append_left (by simpa using h)]
  · rw [if_neg h, List.getElem?_append_right (by simp; omega)]
    simp
theorem catTo_byte (xs : List ByteArray) (hx : ∀ j, j < xs.length → (xs.getD j ByteArray.empty).size = 3) (k : Nat) (hk : k ≤ xs.length) (i j : Nat) (hi : i < k) (hj : j < 3) : byteAt (catTo xs k) (3 * i + j) = byteAt (xs.getD i ByteArray.empty) j := by
  induction k with
  | zero => omega
  | succ k ih =>
    show byteAt (catTo xs k ++ _) _ = _
    have hz := catTo_size xs hx k (by omega)
    rw [byteAt_app, hz]
    by_cases e : i = k
    · subst e
      rw [if_neg (by omega), show 3 * i + j - 3 * i = j by omega]
    · rw [if_pos (by omega), ih (by omega) (by omega)]

/-- WHEN A TEXT IS READ from columns. -/
def TextOk (xs : List ByteArray) (n : Int) : Prop := ColsOk xs ∧ (3 * ((xs.length : Int) - 1) + 1 ≤ n ∧ n ≤ 3 * (xs.length : Int)) ∧ ∀ i, n.toNat ≤ i → byteAt (cat xs) i = 0
theorem cat_size {xs : List ByteArray} (h : ColsOk xs) : (cat xs).size = 3 * xs.length := catTo_size xs h.2 _ (Nat.le_refl _)
theorem cat_byte {xs : List ByteArray} (h : ColsOk xs) (i j : Nat) (hi : i < xs.length) (hj : j < 3) : byteAt (cat xs) (3 * i + j) = byteAt (xs.getD i ByteArray.empty) j := catTo_byte xs h.2 _ (Nat.le_refl _) i j hi hj

theorem cut_byte (s : ByteArray) (n i : Nat) : byteAt (s.extract 0 n) i = if i < n then byteAt s i else 0 := by rw [byteAt_extract, Nat.zero_add]
theorem cut_size (s : ByteArray) (n : Nat) (h : n ≤ s.size) : (s.extract 0 n).size = n := by simp [ByteArray.size_extract]; omega

/-- The columns of the text that is cut off are the columns, just where it fits. -/
theorem text_iff {xs : List ByteArray} (h : ColsOk xs) (n : Nat) (hn : n ≤ 3 * xs.length) : colsOf ((cat xs).extract 0 n) = xs ↔ TextOk xs (n : Int) := by
  have hz := cat_size h
  have ht : ((cat xs).extract 0 n).size = n := cut_size _ n (by omega)
  have hl := h.1
  have hc : colsOf ((cat xs).extract 0 n) = colsTo ((cat xs).extract 0 n) ((n + 2) / 3) := by unfold colsOf; rw [ht, if_pos (by omega)]
  rw [hc]
  constructor
  · intro e
    have hlen : (n + 2) / 3 = xs.length := by rw [← e, colsTo_length]
    refine ⟨h, by omega, fun i hi => ?_⟩
    simp only [Int.toNat_natCast] at hi
    by_cases hb : i < 3 * xs.length
    · have hq : i / 3 < xs.length := by omega
      have hr : i % 3 < 3 := by omega
      have hg : xs.getD (i / 3) ByteArray.empty = colOf ((cat xs).extract 0 n) (i / 3) := by
        conv => lhs; rw [← e]
        unfold colsTo
        rw [List.getD, List.getElem?_map, List.getElem?_range (by omega)]
        rfl
      have := cat_byte h (i / 3) (i % 3) hq hr
      rw [hg, colOf_byte _ _ _ hr, cut_byte, if_neg (by omega)] at this
      rwa [show 3 * (i / 3) + i % 3 = i by omega] at this
    · exact byteAt_ge (by omega)
  · rintro ⟨_, hr, hzero⟩
    simp only [Int.toNat_natCast] at hzero
    have hlen : (n + 2) / 3 = xs.length := by omega
    rw [hlen]
    apply List.ext_getElem (by rw [colsTo_length])
    intro i h1' h2'
    have hg : xs[i] = xs.getD i ByteArray.empty := by rw [List.getD, List.getElem?_eq_getElem h2']; rfl
    have hc' : (colsTo ((cat xs).extract 0 n) xs.length)[i] = colOf ((cat xs).extract 0 n) i := by simp [colsTo]
    rw [hg, hc']
    refine text_ext (by rw [colOf_size, h.2 i h2']) fun j hj => ?_
    rw [colOf_size] at hj
    rw [colOf_byte _ i j hj, cut_byte, ← cat_byte h i j h2' hj]
    by_cases hb : 3 * i + j < n
    · rw [if_pos hb]
    · rw [if_neg hb, hzero _ (by omega)]

theorem catL (xs : List ByteArray) (k : Nat) (hk : k ≤ xs.length) : (catTo xs k).data.toList = ((xs.take k).map (·.data.toList)).flatten := by
  induction k with
  | zero => rfl
  | succ k ih =>
    show (catTo xs k ++ xs.getD k ByteArray.empty).data.toList = _
    rw [show (catTo xs k ++ xs.getD k ByteArray.empty).data.toList = (catTo xs k).data.toList ++ (xs.getD k ByteArray.empty).data.toList by simp [ByteArray.data_append], ih (by omega)]
    rw [List.take_succ_eq_append_getElem (by omega), List.map_append, List.flatten_append, List.getD, List.getElem?_eq_getElem (by omega)]
    simp
theorem join_flat (l : List (List UInt8)) : Lib.join l [] = l.flatten := by
  cases l with
  | nil => rfl
  | cons x r => rw [Lib.join_cons]; unfold Lib.joinTail; simp
theorem join_cat (xs : List ByteArray) : (⟨(Lib.join (xs.map fun x => x.data.toList) []).toArray⟩ : ByteArray) = cat xs := by
  have h : Lib.join (xs.map fun x => x.data.toList) [] = (cat xs).data.toList := by
    unfold cat
    rw [catL xs _ (Nat.le_refl _), List.take_length]
    exact join_flat _
  rw [h]

end Go.Proofs.YtcdiengbmjkglaaGreat

namespace Go.Proofs.YtcdiengbmjkglaaGreat
open Go.RowKit Go.Shelf

/-- **ParityOf**, as the document has it. -/
def parRes (xs : List ByteArray) : ByteArray := if colsB xs = true then parOf xs else ByteArray.empty
theorem parRes_yes {xs : List ByteArray} (h : colsB xs = true) : parRes xs = parOf xs := by unfold parRes; rw [if_pos h]
theorem parRes_no {xs : List ByteArray} (h : colsB xs = false) : parRes xs = ByteArray.empty := by unfold parRes; rw [if_neg (by simp [h])]
theorem ret_string {a b : ByteArray} (h : a = b) : Ending.returned (.string a) = .returned (.string b) := by rw [h]

set_option maxRecDepth 100000 in
set_option maxHeartbeats 1000000 in
theorem implParity_any (a : Option Addr) (cap : Nat) (xs : List ByteArray) (w : World) (hx : Hid (Strs w a xs)) :
    Calls Tryz.prog 74 #[.slice a xs.length cap] w fun e w' => e = .returned (.string (parRes xs)) ∧ Below w.heap.size w w' := by
  cases hb : colsB xs
  · have HR := Lib.hid (parRes_no hb)
    go_enter Tryz.func74, Tryz.ntmps74
    go_wp2_with fail
    refine (areCols_any a cap xs _ hx).mono ?_
    rintro e w1 ⟨rfl, rfl⟩
    go_wp2
    go_ret
    exact ⟨ret_string HR.out.symm, Below.refl _ _⟩
  · have HR := Lib.hid (parRes_yes hb)
    have hok := (colsB_iff xs).1 hb
    have h13 := hok.1
    have Hok := Lib.hid hok
    clear hok
    go_enter Tryz.func74, Tryz.ntmps74
    go_wp2_with fail
    refine (areCols_any a cap xs _ hx).mono ?_
    rintro e w1 ⟨rfl, rfl⟩
    go_wp2_with fail
    go_loopw [3, 11] (fun p i wr => ∃ k : Nat, i = .int .i64 (k : Int) ∧ k ≤ xs.length ∧ p = .string (parTo ByteArray.empty xs k) ∧ Below w.heap.size w wr) (fun _ i _ => xs.length - (intOf i).toNat)
    case atStart => exact ⟨0, rfl, by omega, rfl, Below.refl _ _⟩
    case round =>
      obtain ⟨k, rfl, hk, rfl, hB⟩ := hrel
      by_cases hlt : k < xs.length
      · have hxr := hx.out.below hB
        obtain ⟨b, off, rfl, hc⟩ := hxr.resolve_left (fun e => by subst e; simp at hlt)
        have hck := hc k hlt
        have hps := (parTo_size ByteArray.empty xs Hok.out.2 (by decide) k hk).1
        have hx3 := Hok.out.2 k hlt
        have HS : Hid (xorS (parTo ByteArray.empty xs k) (xs.getD k ByteArray.empty) = parTo ByteArray.empty xs (k + 1)) := rfl
        have hsz := hB.size
        clear hc hxr
        generalize xs.getD k ByteArray.empty = x at hck hx3 HS
        generalize parTo ByteArray.empty xs k = p at hps HS ⊢
        go_wp2_with fail
        refine (implXor_any p x (by omega) (by omega) _).mono ?_
        rintro e w2 ⟨rfl, hB2⟩
        rw [HS.out]
        go_wp2
        exact ⟨⟨k + 1, by go_num, by omega, rfl, hB.trans (hB2.mono hsz)⟩, by simp [intOf]; omega⟩
      · have HL : Hid (parTo ByteArray.empty xs k = parRes xs) := by
          rw [HR.out]
          rw [show k = xs.length by omega]; exact rfl
        go_wp2
        go_ret
        exact ⟨ret_string HL.out, hB⟩

set_option maxRecDepth 100000 in
set_option maxHeartbeats 1000000 in
theorem l1Parity_any (a : Option Addr) (cap : Nat) (xs : List ByteArray) (w : World) (hok : ColsOk xs) (hx : Hid (Strs w a xs)) :
    Calls Tryz.prog 98 #[.slice a xs.length cap] w fun e w' => e = .returned (.string (parOf xs)) ∧ Below w.heap.size w w' := by
  have h13 := hok.1
  have HR := Lib.hid (parOf_nul hok (sec3 ByteArray.empty) (sec3_size _) (fun i => by
    match i with
    | 0 => rfl
    | 1 => rfl
    | 2 => rfl
    | i + 3 => exact byteAt_ge (by rw [sec3_size]; omega)))
  have Hok := Lib.hid hok
  clear hok
  go_enter Tryz.func98, Tryz.ntmps98
  go_wp2_with fail
  refine (l1Sec_any _ (by decide) _).mono ?_
  rintro e w1 ⟨rfl, rfl⟩
  generalize hz : sec3 { data := #[] } = z
  have hzs : z.size ≤ 3 := by rw [← hz, sec3_size]; omega
  have Hz : Hid (sec3 ByteArray.empty = z) := hz
  rw [Hz.out] at HR
  clear hz
  go_wp2_with fail
  go_loopw [3, 4] (fun p i wr => ∃ k : Nat, i = .int .i64 (k : Int) ∧ k ≤ xs.length ∧ p = .string (parTo z xs k) ∧ Below w.heap.size w wr) (fun _ i _ => xs.length - (intOf i).toNat)
  case atStart => exact ⟨0, rfl, by omega, rfl, Below.refl _ _⟩
  case round =>
    obtain ⟨k, rfl, hk, rfl, hB⟩ := hrel
    by_cases hlt : k < xs.length
    · have hxr := hx.out.below hB
      obtain ⟨b, off, rfl, hc⟩ := hxr.resolve_left (fun e => by subst e; simp at hlt)
      have hck := hc k hlt
      have hps := (parTo_size z xs Hok.out.2 hzs k hk).1
      have hx3 := Hok.out.2 k hlt
      have HS : Hid (xorS (parTo z xs k) (xs.getD k ByteArray.empty) = parTo z xs (k + 1)) := rfl
      have hsz := hB.size
      clear hc hxr
      generalize xs.getD k ByteArray.empty = x at hck hx3 HS
      generalize parTo z xs k = p at hps HS ⊢
      go_wp2_with fail
      refine (specXor_any p x (by omega) (by omega) _).mono ?_
      rintro e w2 ⟨rfl, hB2⟩
      rw [HS.out]
      go_wp2
      exact ⟨⟨k + 1, by go_num, by omega, rfl, hB.trans (hB2.mono hsz)⟩, by simp [intOf]; omega⟩
    · have HL : Hid (parTo z xs k = parOf xs) := by
        rw [show k = xs.length by omega]; exact HR.out
      go_wp2
      go_ret
      exact ⟨ret_string HL.out, hB⟩

end Go.Proofs.YtcdiengbmjkglaaGreat

namespace Go.Proofs.YtcdiengbmjkglaaGreat

theorem colsOf_len (s : ByteArray) (h9 : s.size ≤ 9) : (colsOf s).length = (s.size + 2) / 3 := by unfold colsOf; rw [if_pos h9, colsTo_length]
theorem colsOf_get (s : ByteArray) (h9 : s.size ≤ 9) (j : Nat) (hj : j < (colsOf s).length) : (colsOf s).getD j ByteArray.empty = colOf s j := by
  rw [colsOf_len s h9] at hj
  unfold colsOf
  rw [if_pos h9]
  unfold colsTo
  rw [List.getD, List.getElem?_map, List.getElem?_range hj]
  rfl
theorem colsOf_ok (s : ByteArray) (h1 : 1 ≤ s.size) (h9 : s.size ≤ 9) : ColsOk (colsOf s) := by
  refine ⟨by rw [colsOf_len s h9]; omega, fun j hj => ?_⟩
  rw [colsOf_get s h9 j hj, colOf_size]
theorem cat_cols (s : ByteArray) (h1 : 1 ≤ s.size) (h9 : s.size ≤ 9) (i : Nat) : byteAt (cat (colsOf s)) i = byteAt s i := by
  have hok := colsOf_ok s h1 h9
  have hl := colsOf_len s h9
  by_cases h : i < 3 * (colsOf s).length
  · have hq : i / 3 < (colsOf s).length := by omega
    have := cat_byte hok (i / 3) (i % 3) hq (by omega)
    rw [colsOf_get s h9 _ hq, colOf_byte s _ _ (by omega), show 3 * (i / 3) + i % 3 = i by omega] at this
    exact this
  · rw [byteAt_ge (s := s) (by omega)]
    exact byteAt_ge (by rw [cat_size hok]; omega)
theorem text_back (s : ByteArray) (h1 : 1 ≤ s.size) (h9 : s.size ≤ 9) : TextOk (colsOf s) (s.size : Int) ∧ (cat (colsOf s)).extract 0 s.size = s := by
  have hok := colsOf_ok s h1 h9
  have hl := colsOf_len s h9
  refine ⟨⟨hok, by omega, fun i hi => ?_⟩, ?_⟩
  · rw [cat_cols s h1 h9]
    exact byteAt_ge (by simpa using hi)
  · refine text_ext (cut_size _ _ (by rw [cat_size hok]; omega)) fun i hi => ?_
    rw [cut_size _ _ (by rw [cat_size hok]; omega)] at hi
    rw [cut_byte, if_pos hi, cat_cols s h1 h9]

end Go.Proofs.YtcdiengbmjkglaaGreat

namespace Go.Proofs.YtcdiengbmjkglaaGreat
open Go.RowKit Go.Sort

/-- A cell of a row of one's own, and a store into it. -/
theorem own_cell {w : World} {base K : Nat} {e : TypeId} {g n cap : Nat} {xs : List Value} (h : w.ownsRow base e K (.slice (some ⟨g, 0, none⟩) n cap) n xs) (i : Nat) (hi : i < n * K) :
    w.cell? ⟨g, i, none⟩ = xs[i]? ∧ w.frozen? ⟨g, i, none⟩ = false ∧ base ≤ g ∧ xs.length = n * K := by
  rcases h.2 with ⟨hv, _⟩ | ⟨g', cap', cur, hv, hb, hg, hkc, hcm, hcs, hx⟩
  · cases hv
  · cases hv
    have e : (cur.toList.take (n * K))[i]? = xs[i]? := by rw [hx]
    rw [List.getElem?_take, if_pos hi, Array.getElem?_toList] at e
    refine ⟨?_, ?_, hb, h.1⟩
    · simp only [World.cell?, hg]
      exact e
    · simp [World.frozen?, hg]
theorem own_set {w : World} {base K : Nat} {e : TypeId} {g n cap : Nat} {xs : List Value} (h : w.ownsRow base e K (.slice (some ⟨g, 0, none⟩) n cap) n xs) (i : Nat) (u : Value) :
    (w.setCell ⟨g, i, none⟩ u).ownsRow base e K (.slice (some ⟨g, 0, none⟩) n cap) n (xs.set i u) := by
  rcases h.2 with ⟨hv, _⟩ | ⟨g', cap', cur, hv, hb, hg, hkc, hcm, hcs, hx⟩
  · cases hv
  · cases hv
    refine ⟨by rw [List.length_set]; exact h.1, .inr ⟨g, cap, cur.setIfInBounds i u, rfl, hb, ?_, hkc, hcm, by simp; omega, ?_⟩⟩
    · obtain ⟨hlt, hh⟩ := Array.getElem?_eq_some_iff.1 hg
      show (w.heap.modify g _)[g]? = _
      rw [Array.getElem?_eq_getElem (by rw [Array.size_modify]; exact hlt), Array.getElem_modify_self, hh]
      rfl
    · rw [Array.toList_setIfInBounds, List.take_set, hx]
theorem own_below {w w' : World} {base : Nat} {e : TypeId} {size : Nat} {v : Value} {n : Nat} {xs : List Value} (h : w.ownsRow base e size v n xs) (hB : Below w.heap.size w w') : w'.ownsRow base e size v n xs :=
  h.kept (row := none) ⟨hB.os, hB.tape, hB.output, hB.size, fun k hk _ => hB.block k hk⟩ (by cases v.ownBlock <;> simp)
theorem own_mono {w : World} {base base' K : Nat} {e : TypeId} {v : Value} {n : Nat} {xs : List Value} (h : w.ownsRow base e K v n xs) (hb : base' ≤ base) : w.ownsRow base' e K v n xs := by
  refine ⟨h.1, ?_⟩
  rcases h.2 with h | ⟨g, cap, cur, hv, hg, hr⟩
  · exact .inl h
  · exact .inr ⟨g, cap, cur, hv, Nat.le_trans hb hg, hr⟩
/-- A store into another block. -/
theorem own_other {w : World} {base K : Nat} {e : TypeId} {v : Value} {n : Nat} {xs : List Value} (h : w.ownsRow base e K v n xs) (p o : Nat) (u : Value) (hp : v.ownBlock ≠ some p) : (w.setCell ⟨p, o, none⟩ u).ownsRow base e K v n xs :=
  h.kept (row := some p) ⟨rfl, rfl, rfl, by rw [World.size_setCell]; exact Nat.le_refl _, fun k _ hne => Below.heap_setCell _ _ _ _ (fun e => hne (by rw [e]))⟩ (.inr hp)
theorem own_far {w : World} {base K : Nat} {e : TypeId} {v : Value} {n : Nat} {xs : List Value} (h : w.ownsRow base e K v n xs) (p o : Nat) (u : Value) (hp : p < base) : (w.setCell ⟨p, o, none⟩ u).ownsRow base e K v n xs :=
  own_other h p o u (fun e => by have := (h.lt p e).1; omega)
theorem bcell {W w1 : World} (hb : Below W.heap.size W w1) : (∀ b o, b < W.heap.size → w1.cell? ⟨b, o, none⟩ = W.cell? ⟨b, o, none⟩) ∧ (∀ b o, b < W.heap.size → w1.frozen? ⟨b, o, none⟩ = W.frozen? ⟨b, o, none⟩) :=
  ⟨fun b o h => hb.cell (p := ⟨b, o, none⟩) h, fun b o h => hb.frozen (p := ⟨b, o, none⟩) h⟩
theorem belowN {n : Nat} {w w' : World} (h : Below n w w') (d : Nat) : Below n w (w'.drewN d) := ⟨h.os, h.tape, h.output, h.size, h.block⟩
theorem rg_same {P : Program} {f : FuncId} {args : Array Value} {w : World} {d : Nat} {os : Array Obj} {v : Value}
    (h : Calls P f args (grow (redrawn w d) os) fun e w' => e = .returned v ∧ grow (redrawn w d) os = w') : Calls P f args (grow (redrawn w d) os) fun e w'' => e = .returned v ∧ ∃ p : Regrown, w'' = grow (redrawn w p.d) p.os :=
  Calls.regrown_of (h.mono fun _ _ ⟨he, hw⟩ => ⟨he, hw ▸ Below.refl _ _⟩)
theorem rg_below {w0 w : World} (h : Below w0.heap.size w0 w) (d : Nat) (os : Array Obj) : Below w0.heap.size w0 (grow (redrawn w d) os) := h.trans ((below_regrown w d os).mono h.size)

end Go.Proofs.YtcdiengbmjkglaaGreat
