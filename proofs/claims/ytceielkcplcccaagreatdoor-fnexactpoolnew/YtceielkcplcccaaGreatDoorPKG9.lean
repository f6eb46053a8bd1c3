/- Disks marked, and held against their marks. Conditions: at most a hundred million marks. A disk marked: nothing but its own rows has turned. Conditions: at most a hundred million marks. The exact laws' own copy of a disk: it owns all its memory. Conditions: sizes of at most 2^20. Texts that are empty; numbers within bounds; whether something holds of each of a list of texts. Conditions: none. Small functions of chapter 3: states, slots, texts, writes; whether something holds of each of a list. Conditions: none. -/
import Derived.Test.YtceielkcplcccaaGreatDoorPKGT9
import Derived.Test.YtceielkcplcccaaGreatDoorPKG8
import Derived.Test.YtceielkcplcccaaGreatDoorPKG2
import Derived.Test.YtceielkcplcccaaGreatDoorPKMK
import Derived.Test.YtceielkcplcccaaGreatDoorPKG0
namespace Go.Proofs.YtceielkcplcccaaGreatDoor
open Go.RowKit Go.Sort

/-- BLOCKS OF OTHER TYPES stay. -/
def Others (w w' : World) : Prop := ∀ (D : Nat) (cs : Array Value) (t : TypeId), 9 ≠ t → 4 ≠ t → 41 ≠ t → Blk w D cs t → Blk w' D cs t
/-- HOW MANY MARKS a disk takes, and the disk with them. -/
def mkN (d : DiskD) : Nat := d.slots.length + d.rings.length + d.spoilt.length + d.wait.length * 3
def mkD (k : Nat) (d : DiskD) : DiskD := ⟨d.state, mkS k d.slots.length, mkS (k + d.slots.length) d.rings.length, mkB (k + d.slots.length + d.rings.length) d.spoilt.length, mkP (k + d.slots.length + d.rings.length + d.spoilt.length) d.wait.length⟩

end Go.Proofs.YtceielkcplcccaaGreatDoor

namespace Go.Proofs.YtceielkcplcccaaGreatDoor
open Go.RowKit Go.Sort

/-- NOTHING BUT A DISK's OWN ROWS has turned. -/
def Keeps (v : Value) (w w' : World) : Prop := ∀ E, E < w.heap.size → (∀ cs, v = .agg cs → ∀ u ∈ cs.toList, u.ownBlock ≠ some E) → w'.heap[E]? = w.heap[E]?
theorem own_heap {w w' : World} {base K : Nat} {e : TypeId} {v : Value} {n : Nat} {xs : List Value} (h : w.ownsRow base e K v n xs) (hk : ∀ E, base ≤ E → E < w.heap.size → w'.heap[E]? = w.heap[E]?) : w'.ownsRow base e K v n xs := by
  refine ⟨h.1, ?_⟩
  have hlt := h.lt
  rcases h.2 with h | ⟨g, cap, cur, rfl, hg, hr, rest⟩
  · exact .inl h
  · exact .inr ⟨g, cap, cur, rfl, hg, (hk g hg (hlt g rfl).2).trans hr, rest⟩
theorem OwnDisk.heap {w w' : World} {base : Nat} {v : Value} {d : DiskD} (h : OwnDisk w base v d) (hk : ∀ E, base ≤ E → E < w.heap.size → w'.heap[E]? = w.heap[E]?) : OwnDisk w' base v d := by
  obtain ⟨v1, v2, v3, v4, e, h1, h2, h3, h4, h5⟩ := h
  exact ⟨v1, v2, v3, v4, e, own_heap h1 hk, own_heap h2 hk, own_heap h3 hk, own_heap h4 hk, h5⟩
/-- The rows of a disk lie below where its world ended. -/
theorem OwnDisk.rows_lt {w : World} {base : Nat} {v : Value} {d : DiskD} (h : OwnDisk w base v d) : ∀ cs, v = .agg cs → ∀ u ∈ cs.toList, ∀ E, u.ownBlock = some E → base ≤ E ∧ E < w.heap.size := by
  obtain ⟨v1, v2, v3, v4, rfl, h1, h2, h3, h4, _⟩ := h
  intro cs e u hu E hE
  cases e
  simp only [List.mem_cons, List.not_mem_nil, or_false] at hu
  rcases hu with rfl | rfl | rfl | rfl | rfl
  · cases hE
  · exact h1.lt E hE
  · exact h2.lt E hE
  · exact h3.lt E hE
  · exact h4.lt E hE

end Go.Proofs.YtceielkcplcccaaGreatDoor

namespace Go.Proofs.YtceielkcplcccaaGreatDoor
open Go.RowKit Go.Sort

end Go.Proofs.YtceielkcplcccaaGreatDoor

namespace Go.Proofs.YtceielkcplcccaaGreatDoor
open Go.RowKit Go.Sort

theorem tx_some {p : ByteArray} (h : p.size ≠ 0) : p.toList.isEmpty = false := by
  rw [ByteArray.toList_eq]
  cases hp : p.data.toList with
  | nil =>
    have : p.data.toList.length = 0 := by rw [hp]; rfl
    have h2 : p.data.toList.length = p.size := by simp
    omega
  | cons x l => rfl
theorem tx_none {p : ByteArray} (h : p.size = 0) : p = ByteArray.empty := by
  rcases p with ⟨⟨l⟩⟩
  have : l = [] := List.eq_nil_of_length_eq_zero h
  subst this
  rfl

set_option maxHeartbeats 400000 in
theorem l6_any (n lo hi : Int) (w : World) :
    Calls Tryz.prog 22 #[.int .i64 n, .int .i64 lo, .int .i64 hi] w fun e w' => e = .returned (.bool (tt (lo ≤ n ∧ n ≤ hi))) ∧ w = w' := by
  by_cases hl : lo ≤ n
  · have h1 : decide (lo ≤ n) = true := by simp; omega
    by_cases hh : n ≤ hi
    · have h2 : decide (n ≤ hi) = true := by simp; omega
      rw [tt_true ⟨hl, hh⟩]
      go_enter Tryz.func22, Tryz.ntmps22
      go_wp2
      go_ret
      exact ⟨rfl, rfl⟩
    · have h2 : decide (n ≤ hi) = false := by simp; omega
      rw [tt_false (fun h => hh h.2)]
      go_enter Tryz.func22, Tryz.ntmps22
      go_wp2
      go_ret
      exact ⟨rfl, rfl⟩
  · have h1 : decide (lo ≤ n) = false := by simp; omega
    rw [tt_false (fun h => hl h.1)]
    go_enter Tryz.func22, Tryz.ntmps22
    go_wp2
    go_ret
    exact ⟨rfl, rfl⟩

def Empty0 (s : ByteArray) : Prop := s.size = 0
/-- OF EACH. -/
def AllTx (P : ByteArray → Prop) (xs : List ByteArray) : Prop := ∀ j, j < xs.length → P (xs.getD j ByteArray.empty)
end Go.Proofs.YtceielkcplcccaaGreatDoor

namespace Go.Proofs.YtceielkcplcccaaGreatDoor
open Go.RowKit Go.Sort

/-- HOW A DISK MAY BE. -/
def StateOk (s : Int) : Prop := 0 ≤ s ∧ s ≤ 2
set_option maxHeartbeats 400000 in
theorem isState_any (s : Int) (w : World) :
    Calls Tryz.prog 24 #[.int .i64 s] w fun e w' => e = .returned (.bool (tt (StateOk s))) ∧ w = w' := by
  by_cases h0 : s = 0
  · subst h0
    rw [tt_true (show StateOk 0 by unfold StateOk; omega)]
    go_enter Tryz.func24, Tryz.ntmps24
    go_wp2
    go_ret
    exact ⟨rfl, rfl⟩
  · have d0 : (s == 0) = false := by simpa using h0
    by_cases h1 : s = 1
    · subst h1
      rw [tt_true (show StateOk 1 by unfold StateOk; omega)]
      clear h0
      go_enter Tryz.func24, Tryz.ntmps24
      go_wp2
      go_ret
      exact ⟨rfl, rfl⟩
    · have d1 : (s == 1) = false := by simpa using h1
      have H0 : (s == 2) = tt (StateOk s) := by
        by_cases h2 : s = 2
        · subst h2; rw [tt_true (show StateOk 2 by unfold StateOk; omega)]; rfl
        · rw [tt_false (show ¬StateOk s by unfold StateOk; omega)]; simpa using h2
      have H := Lib.hid H0
      clear H0
      clear h0 h1
      go_enter Tryz.func24, Tryz.ntmps24
      go_wp2
      go_ret
      exact ⟨ret_bool' H.out, rfl⟩

def SlotOk (n : Int) : Prop := 0 ≤ n ∧ n ≤ 11
def Col3 (s : ByteArray) : Prop := s.size = 3
def Ring7 (s : ByteArray) : Prop := s.size ≤ 700
/-- A WRITE IS ONE. -/
def PutOk (p : PutD) : Prop := if p.ring then (0 ≤ p.pos ∧ p.pos ≤ 1) ∧ p.text.size ≤ 700 else SlotOk p.pos ∧ p.text.size = 3

def AllPu (P : PutD → Prop) (xs : List PutD) : Prop := ∀ j, j < xs.length → P (xs.getD j put0)

end Go.Proofs.YtceielkcplcccaaGreatDoor
