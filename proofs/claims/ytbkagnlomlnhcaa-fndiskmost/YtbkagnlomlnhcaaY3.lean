/- A disk while it is drawn: what holds of it, and of all that lies beside it. Conditions: each theorem names its own. -/
import Derived.Test.YtbkagnlomlnhcaaY2
import Derived.Test.YtbkagnlomlnhcaaH1
namespace Go.Proofs.Ytbkagnlomlnhcaa
open Go.RowKit Go.Sort

/-- What holds of a disk while it is drawn. -/
def Good (d : DiskD) : Prop := Parts d ∧ AllPu PutOk d.wait ∧ d.wait.length ≤ 40
theorem good_flush {d : DiskD} (h : Good d) : Good (crashD d (-1)) := ⟨crashTo_parts h.1 (-1) d.wait h.2.1, fun j hj => by simp [crashD] at hj, by simp [crashD]⟩
theorem good_base {d : DiskD} (h : Good d) : Good (putBase d) ∧ (putBase d).wait.length < 40 := by
  unfold putBase
  split
  · exact ⟨good_flush h, by simp [crashD]⟩
  · have := h.2.2
    exact ⟨h, by omega⟩
theorem good_put {d : DiskD} (h : Good d) {p : PutD} (hp : PutOk p) : Good (putD d p) := by
  by_cases hs : d.state = 1
  · rw [put_gone hs]; exact h
  · rw [put_live hs]
    obtain ⟨hb, hl⟩ := good_base h
    refine ⟨hb.1, fun j hj => ?_, by simp; omega⟩
    simp only [List.length_append, List.length_singleton] at hj
    show PutOk (((putBase d).wait ++ [p]).getD j put0)
    by_cases e : j = (putBase d).wait.length
    · subst e; rw [getD_snoc_eq]; exact hp
    · rw [getD_snoc_lt _ _ _ _ (by omega)]; exact hb.2.1 j (by omega)
theorem good_spoil {d : DiskD} (h : Good d) (k b : Nat) (c : Int) : Good (spoilD d k b c) := by
  refine ⟨spoil_parts h.1 k b c, ?_, ?_⟩
  · rw [(spoil_wait d k b c).1]; exact h.2.1
  · rw [(spoil_wait d k b c).1]; exact h.2.2
theorem good_new {st : Int} (h : StateOk st) : Good (diskNew st) := by
  rw [diskNew_yes h]
  refine ⟨⟨⟨rfl, rfl, rfl⟩, fun j hj => ?_, fun j hj => ?_⟩, fun j hj => by simp at hj, by simp⟩
  · have hj' : j < 12 := by simpa [twelve] using hj
    left
    have e1 : twelve.getD j ByteArray.empty = ByteArray.empty := by unfold twelve; rw [List.getD, List.getElem?_replicate, if_pos hj']; rfl
    have e2 : twelveB.getD j false = false := by unfold twelveB; rw [List.getD, List.getElem?_replicate, if_pos hj']; rfl
    exact ⟨by rw [e1]; rfl, e2⟩
  · have hj' : j < 2 := by simpa [two2] using hj
    have e1 : two2.getD j ByteArray.empty = ByteArray.empty := by unfold two2; rw [List.getD, List.getElem?_replicate, if_pos hj']; rfl
    show (two2.getD j ByteArray.empty).size ≤ 700
    rw [e1]
    exact Nat.zero_le _
theorem good_byte {d : DiskD} (h : Good d) {k b : Nat} (hk : k < 12) (hb : b < 3) (hc : CanSpoil d k) : b < (d.slots.getD k ByteArray.empty).size := by
  rcases h.1.2.1 k (by have := h.1.1.1; omega) with q | q
  · exact absurd q.1 hc.1
  · omega

/-- What lies beside a disk that is drawn: the reader, the answer's box, the disk's own. -/
def zeroC : Array Value := #[.int .i64 0, .slice none 0 0, .slice none 0 0, .slice none 0 0, .slice none 0 0]
def Fr (n₀ B q : Nat) (w : World) (D : Nat) (cs : Array Value) (wx : World) : Prop :=
  B < w.heap.size ∧ w.heap.size < D ∧ Rd n₀ B q wx ∧ w.grownBy wx (some B) ∧ Blk wx w.heap.size zeroC 30 ∧ Blk wx D cs 30
theorem Fr.grown {n₀ B q q' : Nat} {w : World} {D : Nat} {cs : Array Value} {wx wy : World} (h : Fr n₀ B q w D cs wx) (hR : Rd n₀ B q' wy) (hg : wx.grownBy wy (some B)) : Fr n₀ B q' w D cs wy :=
  ⟨h.1, h.2.1, hR, h.2.2.2.1.trans hg, h.2.2.2.2.1.grown hg (by have := h.1; omega), h.2.2.2.2.2.grown hg (by have := h.1; have := h.2.1; omega)⟩
theorem Fr.others {n₀ B q : Nat} {w : World} {D : Nat} {cs : Array Value} {wx wy : World} (h : Fr n₀ B q w D cs wx) (hB : Below w.heap.size wx wy) (ho : Others wx wy) : Fr n₀ B q w D cs wy :=
  ⟨h.1, h.2.1, h.2.2.1.others (by have := h.1; have := h.2.2.1.1; omega) hB ho, grown_below h.2.2.2.1 hB, ho _ _ _ (by decide) (by decide) (by decide) h.2.2.2.2.1, ho _ _ _ (by decide) (by decide) (by decide) h.2.2.2.2.2⟩
theorem Fr.drew {n₀ B q : Nat} {w : World} {D : Nat} {cs : Array Value} {wx : World} (h : Fr n₀ B q w D cs wx) : Fr n₀ B q w D cs wx.drew := h.others (Below.refl _ _).drew (others_drew _)
theorem Fr.below {n₀ B q : Nat} {w : World} {D : Nat} {cs : Array Value} {wx wy : World} (h : Fr n₀ B q w D cs wx) (hB : Below wx.heap.size wx wy) : Fr n₀ B q w D cs wy :=
  h.others (hB.mono h.2.2.2.1.size) (others_below hB)
theorem Fr.set {n₀ B q : Nat} {w : World} {D : Nat} {cs : Array Value} {wx : World} (h : Fr n₀ B q w D cs wx) (j : Nat) (u : Value) : Fr n₀ B q w D (cs.setIfInBounds j u) (wx.setCell ⟨D, j, none⟩ u) :=
  ⟨h.1, h.2.1, h.2.2.1.set (by have := h.1; have := h.2.1; omega) j u, grown_set h.2.2.2.1 (by have := h.2.1; omega) j u, h.2.2.2.2.1.other D j u (by have := h.2.1; omega), h.2.2.2.2.2.set j u⟩
theorem Fr.set5 {n₀ B q : Nat} {w : World} {D : Nat} {z0 z1 z2 z3 z4 : Value} {wx : World} (h : Fr n₀ B q w D #[z0, z1, z2, z3, z4] wx) (x0 x1 x2 x3 x4 : Value) :
    Fr n₀ B q w D #[x0, x1, x2, x3, x4] (((((wx.setCell ⟨D, 0, none⟩ x0).setCell ⟨D, 1, none⟩ x1).setCell ⟨D, 2, none⟩ x2).setCell ⟨D, 3, none⟩ x3).setCell ⟨D, 4, none⟩ x4) := ((((h.set 0 x0).set 1 x1).set 2 x2).set 3 x3).set 4 x4
/-- A DISK IN ITS BOX while it is drawn. -/
def Dr (n₀ B q : Nat) (w : World) (D : Nat) (d : DiskD) (wx : World) : Prop :=
  ∃ v1 v2 v3 v4, Fr n₀ B q w D #[.int .i64 d.state, v1, v2, v3, v4] wx ∧ Own4 wx w.heap.size v1 v2 v3 v4 d ∧ Good d

end Go.Proofs.Ytbkagnlomlnhcaa
