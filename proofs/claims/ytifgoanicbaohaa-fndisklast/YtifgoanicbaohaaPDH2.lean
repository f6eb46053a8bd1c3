/- Drives: a disk while something is done to it, with its linked list of writes; copies of texts. Conditions: none. -/
import Derived.Test.YtifgoanicbaohaaPDHT3
import Derived.Test.YtifgoanicbaohaaPDSC
import Derived.Test.YtifgoanicbaohaaPDG7
import Derived.Test.YtifgoanicbaohaaPDW1
import Derived.Deep.AppendLies
namespace Go.Proofs.Ytifgoanicbaohaa
open Go.RowKit Go.Sort Go.Shelf

/-- A POINTER to the head of a block. -/
def linkTo : Option Nat → Value
  | none => .pointer none
  | some b => .pointer (some ⟨b, 0, none⟩)
/-- A CHAIN of writes, each in a block of its own. -/
def Chain (w : World) (base : Nat) (ids : List Nat) (ps : List PutD) : Prop :=
  ids.length = ps.length ∧ (∀ j, j < ps.length → base ≤ ids.getD j 0 ∧ Blk w (ids.getD j 0) #[.bool (ps.getD j put0).ring, .int .i64 (ps.getD j put0).pos, .string (ps.getD j put0).text, linkTo ids[j + 1]?] 81) ∧ ∀ i j, i < j → j < ps.length → ids.getD i 0 < ids.getD j 0
/-- ROWS of one's own: slots, rings, marks. -/
def Rows3 (w : World) (base : Nat) (v1 v2 v3 : Value) (d : DiskD) : Prop := OwnTx w base v1 d.slots ∧ OwnTx w base v2 d.rings ∧ OwnBo w base v3 d.spoilt ∧ ∀ i, v1.ownBlock = some i → v2.ownBlock ≠ some i
theorem Rows3.below {w w' : World} {base : Nat} {v1 v2 v3 : Value} {d : DiskD} (h : Rows3 w base v1 v2 v3 d) (hB : Below w.heap.size w w') : Rows3 w' base v1 v2 v3 d :=
  ⟨own_below h.1 hB, own_below h.2.1 hB, own_below h.2.2.1 hB, h.2.2.2⟩
theorem Rows3.set {w : World} {base : Nat} {v1 v2 v3 : Value} {d : DiskD} (h : Rows3 w base v1 v2 v3 d) {p : Nat} {cs : Array Value} {t : TypeId} (hb : Blk w p cs t) (n1 : 9 ≠ t) (n2 : 4 ≠ t) (o : Nat) (u : Value) : Rows3 (w.setCell ⟨p, o, none⟩ u) base v1 v2 v3 d :=
  ⟨own_other h.1 p o u (own_blk_ne h.1 hb n1), own_other h.2.1 p o u (own_blk_ne h.2.1 hb n1), own_other h.2.2.1 p o u (own_blk_ne h.2.2.1 hb n2), h.2.2.2⟩
theorem Chain.below {w w' : World} {base : Nat} {ids : List Nat} {ps : List PutD} (h : Chain w base ids ps) (hB : Below w.heap.size w w') : Chain w' base ids ps :=
  ⟨h.1, fun j hj => ⟨(h.2.1 j hj).1, (h.2.1 j hj).2.below hB (h.2.1 j hj).2.lt⟩, h.2.2⟩
theorem Chain.set {w : World} {base : Nat} {ids : List Nat} {ps : List PutD} (h : Chain w base ids ps) {p : Nat} {cs : Array Value} {t : TypeId} (hb : Blk w p cs t) (n1 : 81 ≠ t) (o : Nat) (u : Value) : Chain (w.setCell ⟨p, o, none⟩ u) base ids ps :=
  ⟨h.1, fun j hj => ⟨(h.2.1 j hj).1, (h.2.1 j hj).2.other p o u (fun e => n1 (by have := (h.2.1 j hj).2; rw [← e] at this; exact this.type hb))⟩, h.2.2⟩
/-- THE DRIVE of a disk. -/
def driveC (d : DiskD) (v1 v2 v3 : Value) (ids : List Nat) : Array Value := #[.int .i64 d.state, v3, v1, v2, linkTo ids[0]?, linkTo ids[ids.length - 1]?, .int .i64 (d.wait.length : Int)]
def Drive (w : World) (base D : Nat) (d : DiskD) (ids : List Nat) : Prop :=
  ∃ v1 v2 v3, base ≤ D ∧ Blk w D (driveC d v1 v2 v3 ids) 74 ∧ Rows3 w base v1 v2 v3 d ∧ Chain w base ids d.wait
theorem Drive.below {w w' : World} {base D : Nat} {d : DiskD} {ids : List Nat} (h : Drive w base D d ids) (hB : Below w.heap.size w w') : Drive w' base D d ids := by
  obtain ⟨v1, v2, v3, h0, h1, h2, h3⟩ := h
  exact ⟨v1, v2, v3, h0, h1.below hB h1.lt, h2.below hB, h3.below hB⟩

theorem boC_one (bs : List Bool) : ∀ u ∈ boC bs, u.oneCell' = true := by
  intro u hu
  obtain ⟨b, _, rfl⟩ := List.mem_map.1 hu
  rfl
theorem cloneBo_any (a : Option Addr) (cap : Nat) (bs : List Bool) (w : World) (hl : bs.length ≤ 1000) (hx : BoAt w a bs) (h0 : bs.length ≠ 0) :
    Calls Try.prog 49 #[.slice a bs.length cap] w fun e w' => ∃ v, e = .returned v ∧ OwnBo w' w.heap.size v bs ∧ Below w.heap.size w w' := by
  obtain ⟨i0, hi0, hz0, hz1, hz2⟩ := info_parts infoBo
  obtain ⟨b, off, rfl, hc⟩ := hx.resolve_left (fun e => h0 (by rw [e]; rfl))
  refine (cloneBool i0 _ 1 1 hi0 hz0 hz1 hz2 rfl (by omega) Try.sizeOf4 b off bs.length cap (boC bs) w (by rw [boC_length]; omega) (by unfold maxLen; omega) (by omega) (fun j u hu => ?_) (boC_one bs)).mono ?_
  · have hj : j < bs.length := by have := (List.getElem?_eq_some_iff.1 hu).1; rw [boC_length] at this; exact this
    rw [boC_get bs j hj] at hu
    rw [hc j hj]; exact hu
  · rintro e w' ⟨v, rfl, ho, _, hB⟩
    exact ⟨v, rfl, ho, hB⟩

theorem Chain.first {w : World} {base : Nat} {id : Nat} {p : PutD} (hb : base ≤ id) (h : Blk w id #[.bool p.ring, .int .i64 p.pos, .string p.text, .pointer none] 81) : Chain w base [id] [p] := by
  refine ⟨rfl, fun j hj => ?_, fun i j hij hj => ?_⟩
  · have : j = 0 := by simp at hj; omega
    subst this
    exact ⟨hb, h⟩
  · simp at hj; omega

/-- The last write's pointer turned to a new block. -/
theorem Chain.snoc {w : World} {base : Nat} {ids : List Nat} {ps : List PutD} (h : Chain w base ids ps) (h0 : ids ≠ []) {id : Nat} {p : PutD} (hb : base ≤ id) (hid : Blk w id #[.bool p.ring, .int .i64 p.pos, .string p.text, .pointer none] 81) (hlt : ∀ j, j < ps.length → ids.getD j 0 < id) :
    Chain (w.setCell ⟨ids.getD (ids.length - 1) 0, 3, none⟩ (.pointer (some ⟨id, 0, none⟩))) base (ids ++ [id]) (ps ++ [p]) := by
  obtain ⟨hl, hc, hs⟩ := h
  have hpos : 0 < ids.length := List.length_pos_iff.2 h0
  refine ⟨by simp [hl], fun j hj => ?_, fun i j hij hj => ?_⟩
  · rw [List.length_append, List.length_singleton] at hj
    by_cases e : j = ps.length
    · subst e
      rw [← hl, getD_snoc_eq, hl, getD_snoc_eq]
      refine ⟨hb, ?_⟩
      have : (ids ++ [id])[ps.length + 1]? = none := List.getElem?_eq_none (by simp; omega)
      rw [this]
      have hne := hlt (ps.length - 1) (by omega)
      exact hid.other _ _ _ (by omega)
    · have hj' : j < ps.length := by omega
      obtain ⟨c1, c2⟩ := hc j hj'
      rw [getD_snoc_lt _ _ _ _ (by omega), getD_snoc_lt _ _ _ _ hj']
      refine ⟨c1, ?_⟩
      by_cases el : j + 1 = ps.length
      · have e1 : (ids ++ [id])[j + 1]? = some id := by rw [el, ← hl]; exact get_snoc_eq _ _
        rw [e1]
        have e2 : ids.length - 1 = j := by omega
        rw [e2]
        exact c2.set 3 (.pointer (some ⟨id, 0, none⟩))
      · rw [List.getElem?_append_left (by omega)]
        have := hs j (ids.length - 1) (by omega) (by omega)
        exact c2.other _ _ _ (by omega)
  · rw [List.length_append, List.length_singleton] at hj
    rw [getD_snoc_lt _ _ _ _ (by omega)]
    by_cases e : j = ps.length
    · subst e
      rw [← hl, getD_snoc_eq]
      exact hlt i (by omega)
    · rw [getD_snoc_lt _ _ _ _ (by omega)]
      exact hs i j hij (by omega)

end Go.Proofs.Ytifgoanicbaohaa
