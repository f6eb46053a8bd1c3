/- Copies of texts by the program. Conditions: none. slices.Clone of truth values, by one application of the theorem that the library has of it. Conditions: the theorem names its own. Drives: a disk while something is done to it, with its linked list of writes; copies of texts. Conditions: none. A write that is to wait, put behind all others of a drive. Conditions: texts of at most a thousand bytes. The writes that wait, told as a list; the disk of a drive. Conditions: at most a thousand writes. The disk of a drive. Conditions: at most a thousand writes. A write that comes to a drive. Conditions: the write is one, and the disk has all that it must. What waits comes to a drive, as its bits say; nothing waits then. Conditions: the disk is ok. The drive of a disk that is ok. Conditions: none. DiskFlush and DiskCrash of the program. Conditions: none. What waits comes to a drive: blocks of other types stay. Conditions: the disk is ok. DiskPut of the program. Conditions: none. -/
import Derived.Test.YtceielkcplcccaaGreatDoorPKGD
import Derived.Test.YtceielkcplcccaaGreatDoorPKShelf
import Derived.Test.YtceielkcplcccaaGreatDoorPKRG
import Derived.Deep.AppendLies
import Derived.Ground.SlgnProg
import Derived.Shelf.SlicesE.Clone
import Derived.Test.YtceielkcplcccaaGreatDoorPKG6
import Derived.Test.YtceielkcplcccaaGreatDoorPKG9
import Derived.Laws.BitsAllLaws
import Derived.Deep.RegionWith
import Derived.Deep.DeepCutAuto
namespace Go.Proofs.YtceielkcplcccaaGreatDoor
open Go.RowKit Go.Sort Go.Shelf

end Go.Proofs.YtceielkcplcccaaGreatDoor

namespace Go.Proofs.YtceielkcplcccaaGreatDoor
open Go.Shelf Go.RowKit
end Go.Proofs.YtceielkcplcccaaGreatDoor

namespace Go.Proofs.YtceielkcplcccaaGreatDoor
open Go.RowKit Go.Sort Go.Shelf

/-- A POINTER to the head of a block. -/
def linkTo : Option Nat → Value
  | none => .pointer none
  | some b => .pointer (some ⟨b, 0, none⟩)
/-- ROWS of one's own: slots, rings, marks. -/
def Rows3 (w : World) (base : Nat) (v1 v2 v3 : Value) (d : DiskD) : Prop := OwnTx w base v1 d.slots ∧ OwnTx w base v2 d.rings ∧ OwnBo w base v3 d.spoilt ∧ ∀ i, v1.ownBlock = some i → v2.ownBlock ≠ some i
theorem Rows3.below {w w' : World} {base : Nat} {v1 v2 v3 : Value} {d : DiskD} (h : Rows3 w base v1 v2 v3 d) (hB : Below w.heap.size w w') : Rows3 w' base v1 v2 v3 d :=
  ⟨own_below h.1 hB, own_below h.2.1 hB, own_below h.2.2.1 hB, h.2.2.2⟩
theorem Rows3.set {w : World} {base : Nat} {v1 v2 v3 : Value} {d : DiskD} (h : Rows3 w base v1 v2 v3 d) {p : Nat} {cs : Array Value} {t : TypeId} (hb : Blk w p cs t) (n1 : 9 ≠ t) (n2 : 4 ≠ t) (o : Nat) (u : Value) : Rows3 (w.setCell ⟨p, o, none⟩ u) base v1 v2 v3 d :=
  ⟨own_other h.1 p o u (own_blk_ne h.1 hb n1), own_other h.2.1 p o u (own_blk_ne h.2.1 hb n1), own_other h.2.2.1 p o u (own_blk_ne h.2.2.1 hb n2), h.2.2.2⟩
/-- THE DRIVE of a disk. -/
def driveC (d : DiskD) (v1 v2 v3 : Value) (ids : List Nat) : Array Value := #[.int .i64 d.state, v3, v1, v2, linkTo ids[0]?, linkTo ids[ids.length - 1]?, .int .i64 (d.wait.length : Int)]
theorem boC_one (bs : List Bool) : ∀ u ∈ boC bs, u.oneCell' = true := by
  intro u hu
  obtain ⟨b, _, rfl⟩ := List.mem_map.1 hu
  rfl
end Go.Proofs.YtceielkcplcccaaGreatDoor

namespace Go.Proofs.YtceielkcplcccaaGreatDoor
open Go.RowKit Go.Sort Go.Shelf

theorem Blk.drewN {w : World} {D : Nat} {cs : Array Value} {t : TypeId} (h : Blk w D cs t) (k : Nat) : Blk (w.drewN k) D cs t := by
  unfold Blk at *; simpa using h

end Go.Proofs.YtceielkcplcccaaGreatDoor

namespace Go.Proofs.YtceielkcplcccaaGreatDoor
open Go.RowKit Go.Sort Go.Shelf

def sliceLen : Value → Nat
  | .slice _ n _ => n
  | _ => 0
theorem take_snocA {α : Type} (l : List α) (d : α) (k : Nat) (h : k < l.length) : l.take (k + 1) = l.take k ++ [l.getD k d] := by
  rw [List.take_add_one, List.getD, List.getElem?_eq_getElem h]; rfl
theorem ptrTo_lt {ids : List Nat} {k : Nat} (h : k < ids.length) : linkTo ids[k]? = .pointer (some ⟨ids.getD k 0, 0, none⟩) := by
  rw [List.getD, List.getElem?_eq_getElem h]; rfl
theorem ptrTo_ge {ids : List Nat} {k : Nat} (h : ids.length ≤ k) : linkTo ids[k]? = .pointer none := by
  rw [List.getElem?_eq_none h]; rfl

end Go.Proofs.YtceielkcplcccaaGreatDoor

namespace Go.Proofs.YtceielkcplcccaaGreatDoor
open Go.RowKit Go.Sort Go.Shelf

end Go.Proofs.YtceielkcplcccaaGreatDoor

namespace Go.Proofs.YtceielkcplcccaaGreatDoor
open Go.RowKit Go.Sort Go.Shelf

theorem Blk.drew {w : World} {D : Nat} {cs : Array Value} {t : TypeId} (h : Blk w D cs t) : Blk w.drew D cs t := h
/-- A WRITE THAT COMES, on plain data. -/
def comeD (d : DiskD) (p : PutD) : DiskD :=
  if p.ring then ⟨d.state, d.slots, d.rings.set p.pos.toNat p.text, d.spoilt, d.wait⟩ else ⟨d.state, d.slots.set p.pos.toNat p.text, d.rings, d.spoilt.set p.pos.toNat false, d.wait⟩
def HasRows (d : DiskD) : Prop := d.slots.length = 12 ∧ d.rings.length = 2 ∧ d.spoilt.length = 12
theorem comeD_rows {d : DiskD} (h : HasRows d) (p : PutD) : HasRows (comeD d p) := by
  unfold comeD; split
  · exact ⟨h.1, by simpa using h.2.1, h.2.2⟩
  · exact ⟨by simpa using h.1, h.2.1, by simpa using h.2.2⟩
theorem comeD_wait (d : DiskD) (p : PutD) : (comeD d p).wait = d.wait ∧ (comeD d p).state = d.state := by unfold comeD; split <;> exact ⟨rfl, rfl⟩

theorem txC_set (xs : List ByteArray) (k : Nat) (x : ByteArray) : (txC xs).set k (.string x) = txC (xs.set k x) := by simp [txC, List.map_set]
theorem boC_set (xs : List Bool) (k : Nat) (x : Bool) : (boC xs).set k (.bool x) = boC (xs.set k x) := by simp [boC, List.map_set]
theorem OwnTx.set {w : World} {base g n cap : Nat} {xs : List ByteArray} (h : OwnTx w base (.slice (some ⟨g, 0, none⟩) n cap) xs) (hn : n = xs.length) (k : Nat) (x : ByteArray) : OwnTx (w.setCell ⟨g, k, none⟩ (.string x)) base (.slice (some ⟨g, 0, none⟩) n cap) (xs.set k x) := by
  subst hn
  have := own_set h k (.string x)
  rw [txC_set] at this
  unfold OwnTx
  rw [List.length_set]; exact this
theorem OwnBo.set {w : World} {base g n cap : Nat} {xs : List Bool} (h : OwnBo w base (.slice (some ⟨g, 0, none⟩) n cap) xs) (hn : n = xs.length) (k : Nat) (x : Bool) : OwnBo (w.setCell ⟨g, k, none⟩ (.bool x)) base (.slice (some ⟨g, 0, none⟩) n cap) (xs.set k x) := by
  subst hn
  have := own_set h k (.bool x)
  rw [boC_set] at this
  unfold OwnBo
  rw [List.length_set]; exact this
/-- A row that has something is a slice from the head of a block. -/
theorem own_form {w : World} {base K : Nat} {e : TypeId} {v : Value} {n : Nat} {xs : List Value} (h : w.ownsRow base e K v n xs) (h0 : n ≠ 0) : ∃ g cap cur, v = .slice (some ⟨g, 0, none⟩) n cap ∧ base ≤ g ∧ Blk w g cur e := by
  rcases h.2 with ⟨_, hk⟩ | ⟨g, cap, cur, rfl, hb, hg, _⟩
  · exact absurd hk h0
  · exact ⟨g, cap, cur, rfl, hb, hg⟩

end Go.Proofs.YtceielkcplcccaaGreatDoor

namespace Go.Proofs.YtceielkcplcccaaGreatDoor
open Go.RowKit Go.Sort Go.Shelf

/-- WHAT COMES OF WRITES, by the bits of a number: the first one's is the lowest. -/
def crashTo : DiskD → Int → List PutD → DiskD
  | d, _, [] => d
  | d, keep, p :: ps => crashTo (if keep % 2 = 1 then comeD d p else d) (keep / 2) ps
def crashD (d : DiskD) (keep : Int) : DiskD := let e := crashTo d keep d.wait; ⟨e.state, e.slots, e.rings, e.spoilt, []⟩
theorem crashTo_snoc (d : DiskD) (keep : Int) (ps : List PutD) (p : PutD) : crashTo d keep (ps ++ [p]) = (if (keep / 2 ^ ps.length) % 2 = 1 then comeD (crashTo d keep ps) p else crashTo d keep ps) := by
  induction ps generalizing d keep with
  | nil => simp [crashTo]
  | cons q ps ih =>
    show crashTo _ _ (ps ++ [p]) = _
    rw [ih]
    show _ = if keep / 2 ^ (ps.length + 1) % 2 = 1 then _ else _
    rw [Int.pow_succ, Int.mul_comm, Int.ediv_ediv_of_nonneg (by decide)]
    rfl
theorem crashTo_rows {d : DiskD} (h : HasRows d) (keep : Int) (ps : List PutD) : HasRows (crashTo d keep ps) := by
  induction ps generalizing d keep with
  | nil => exact h
  | cons q ps ih =>
    refine ih ?_ _
    split
    · exact comeD_rows h q
    · exact h
theorem crashTo_wait (d : DiskD) (keep : Int) (ps : List PutD) : (crashTo d keep ps).wait = d.wait ∧ (crashTo d keep ps).state = d.state := by
  induction ps generalizing d keep with
  | nil => exact ⟨rfl, rfl⟩
  | cons q ps ih =>
    have := ih (if keep % 2 = 1 then comeD d q else d) (keep / 2)
    have e : (if keep % 2 = 1 then comeD d q else d).wait = d.wait ∧ (if keep % 2 = 1 then comeD d q else d).state = d.state := by
      split
      · exact comeD_wait d q
      · exact ⟨rfl, rfl⟩
    exact ⟨this.1.trans e.1, this.2.trans e.2⟩

theorem filt_le {l : List Nat} {p q : Nat → Bool} (h : ∀ x ∈ l, p x = true → q x = true) : (l.filter p).length ≤ (l.filter q).length := by
  induction l with
  | nil => exact Nat.le_refl _
  | cons y l ih =>
    have ih' := ih (fun x hx => h x (List.mem_cons_of_mem _ hx))
    simp only [List.filter_cons]
    cases hp : p y
    · cases hq : q y
      · simpa using ih'
      · simp; omega
    · rw [h y List.mem_cons_self hp]
      simp; omega
theorem filt_lt {l : List Nat} {p q : Nat → Bool} (h : ∀ x ∈ l, p x = true → q x = true) (x : Nat) (hx : x ∈ l) (hq : q x = true) (hp : p x = false) : (l.filter p).length < (l.filter q).length := by
  induction l with
  | nil => cases hx
  | cons y l ih =>
    have h' : ∀ x ∈ l, p x = true → q x = true := fun x hx => h x (List.mem_cons_of_mem _ hx)
    simp only [List.filter_cons]
    rcases List.mem_cons.1 hx with e | hx'
    · subst e
      rw [hp, hq]
      have := filt_le h'
      simp; omega
    · have ih' := ih h' hx'
      cases hpy : p y
      · cases hqy : q y
        · simpa using ih'
        · simp; omega
      · rw [h y List.mem_cons_self hpy]
        simp; omega
/-- HOW FAR a pointer is from the end of a chain. -/
def rank (ids : List Nat) : Value → Nat
  | .pointer (some a) => (ids.filter fun i => decide (a.block ≤ i)).length
  | _ => 0
theorem rank_lt {ids : List Nat} (hs : ∀ i j, i < j → j < ids.length → ids.getD i 0 < ids.getD j 0) {k : Nat} (hk : k < ids.length) : rank ids (linkTo ids[k + 1]?) < rank ids (linkTo ids[k]?) := by
  have hmem : ids.getD k 0 ∈ ids := by rw [List.getD, List.getElem?_eq_getElem hk]; exact List.getElem_mem hk
  rw [ptrTo_lt hk]
  by_cases h1 : k + 1 < ids.length
  · rw [ptrTo_lt h1]
    have hh := hs k (k + 1) (by omega) h1
    generalize ids.getD k 0 = a at hmem hh ⊢
    generalize ids.getD (k + 1) 0 = b at hh ⊢
    exact filt_lt (fun x _ hx => by simp at hx ⊢; omega) _ hmem (by simp) (by simp; omega)
  · rw [ptrTo_ge (by omega)]
    show 0 < (ids.filter _).length
    exact List.length_pos_iff.2 (fun e => by
      have : ids.getD k 0 ∈ ids.filter (fun i => decide (ids.getD k 0 ≤ i)) := List.mem_filter.2 ⟨hmem, by simp⟩
      rw [e] at this; cases this)

theorem and_one (k : Int) : bits .and .i64 k 1 = k % 2 := by
  have h2 : (((k % 18446744073709551616).toNat &&& 1 : Nat) : Int) = k % 2 := by
    rw [Nat.and_one_is_mod]
    omega
  have h3 : IntKind.i64.wrap (((k % 18446744073709551616).toNat &&& 1 : Nat) : Int) = k % 2 := by
    rw [h2]
    exact IntWalk.i64_in _ (by omega)
  unfold bits
  simp
  exact h3

end Go.Proofs.YtceielkcplcccaaGreatDoor

namespace Go.Proofs.YtceielkcplcccaaGreatDoor
open Go.RowKit Go.Sort Go.Shelf

/-- WHAT AN OK DISK GIVES of sizes. -/
theorem fine_sizes {d : DiskD} (h : DiskFine d) : HasRows d ∧ d.wait.length ≤ 40 ∧ (∀ j, j < d.slots.length → (d.slots.getD j ByteArray.empty).size ≤ 1000) ∧ (∀ j, j < d.rings.length → (d.rings.getD j ByteArray.empty).size ≤ 1000) ∧ (∀ j, j < d.wait.length → (d.wait.getD j put0).text.size ≤ 1000) := by
  obtain ⟨_, ⟨h1, h2, h3, h4⟩, h5, h6, h7, _⟩ := h
  refine ⟨⟨h1, h2, h3⟩, h4, fun j hj => ?_, fun j hj => ?_, fun j hj => ?_⟩
  · rcases h5 j hj with ⟨a, _⟩ | a <;> omega
  · have := h6 j hj; unfold Ring7 at this; omega
  · have := h7 j hj
    unfold PutOk at this
    split at this
    · omega
    · omega

/-- Rows that were made one behind the other are apart. -/
theorem apart_new {w1 w2 : World} {b1 b2 K1 K2 : Nat} {e1 e2 : TypeId} {v1 v2 : Value} {n1 n2 : Nat} {x1 x2 : List Value} (h1 : w1.ownsRow b1 e1 K1 v1 n1 x1) (h2 : w2.ownsRow b2 e2 K2 v2 n2 x2) (hb : w1.heap.size ≤ b2) : ∀ i, v1.ownBlock = some i → v2.ownBlock ≠ some i :=
  fun i h k => by have := (h1.lt i h).2; have := (h2.lt i k).1; omega

end Go.Proofs.YtceielkcplcccaaGreatDoor

namespace Go.Proofs.YtceielkcplcccaaGreatDoor
open Go.RowKit Go.Sort Go.Shelf

end Go.Proofs.YtceielkcplcccaaGreatDoor

namespace Go.Proofs.YtceielkcplcccaaGreatDoor
open Go.RowKit Go.Sort Go.Shelf

end Go.Proofs.YtceielkcplcccaaGreatDoor

namespace Go.Proofs.YtceielkcplcccaaGreatDoor
open Go.RowKit Go.Sort Go.Shelf

/-- **DiskPut**, on plain data: the write waits; if as many wait as may, those come first. -/
def putBase (d : DiskD) : DiskD := if d.wait.length = 40 then crashD d (-1) else d
def putD (d : DiskD) (p : PutD) : DiskD := if d.state = 1 then d else ⟨(putBase d).state, (putBase d).slots, (putBase d).rings, (putBase d).spoilt, (putBase d).wait ++ [p]⟩
theorem putD_wait {d : DiskD} (h : d.wait.length ≤ 40) (p : PutD) : (putD d p).wait.length ≤ 40 := by
  unfold putD
  split
  · exact h
  · show ((putBase d).wait ++ [p]).length ≤ 40
    unfold putBase
    split
    · simp [crashD]
    · simp; omega
theorem put_text {p : PutD} (h : PutOk p) : p.text.size ≤ 1000 := by
  unfold PutOk at h
  split at h <;> omega

end Go.Proofs.YtceielkcplcccaaGreatDoor
