/- A disk while it is drawn: what holds of it, and of all that lies beside it. Conditions: each theorem names its own. A text with one byte changed (laws.lpaChanged). Conditions: the place lies within the text. -/
import Derived.Test.YtifgoanicbaohaaPDY2
import Derived.Test.YtifgoanicbaohaaPDH1
import Derived.Test.YtifgoanicbaohaaPDA0
import Derived.Lib.ConvBytes
namespace Go.Proofs.Ytifgoanicbaohaa
open Go.RowKit Go.Sort

/-- What holds of a disk while it is drawn. -/
def Good (d : DiskD) : Prop := Parts d ∧ AllPu PutOk d.wait ∧ d.wait.length ≤ 40
theorem good_flush {d : DiskD} (h : Good d) : Good (crashD d (-1)) := ⟨crashTo_parts h.1 (-1) d.wait h.2.1, fun j hj => by simp [crashD] at hj, by simp [crashD]⟩
theorem good_base {d : DiskD} (h : Good d) : Good (putBase d) ∧ (putBase d).wait.length < 40 := by
  unfold putBase
  split
  · exact ⟨good_flush h, by simp [crashD]⟩
  · have := h.2.2
    exact ⟨h, by omega⟩
theorem good_put {d : DiskD} (h : Good d) {p : PutD} (hp : PutOk p) : Good (putD d p) := by
  by_cases hs : d.state = 1
  · rw [put_gone hs]; exact h
  · rw [put_live hs]
    obtain ⟨hb, hl⟩ := good_base h
    refine ⟨hb.1, fun j hj => ?_, by simp; omega⟩
    simp only [List.length_append, List.length_singleton] at hj
    show PutOk (((putBase d).wait ++ [p]).getD j put0)
    by_cases e : j = (putBase d).wait.length
    · subst e; rw [getD_snoc_eq]; exact hp
    · rw [getD_snoc_lt _ _ _ _ (by omega)]; exact hb.2.1 j (by omega)
theorem good_spoil {d : DiskD} (h : Good d) (k b : Nat) (c : Int) : Good (spoilD d k b c) := by
  refine ⟨spoil_parts h.1 k b c, ?_, ?_⟩
  · rw [(spoil_wait d k b c).1]; exact h.2.1
  · rw [(spoil_wait d k b c).1]; exact h.2.2
theorem good_new {st : Int} (h : StateOk st) : Good (diskNew st) := by
  rw [diskNew_yes h]
  refine ⟨⟨⟨rfl, rfl, rfl⟩, fun j hj => ?_, fun j hj => ?_⟩, fun j hj => by simp at hj, by simp⟩
  · have hj' : j < 12 := by simpa [twelve] using hj
    left
    have e1 : twelve.getD j ByteArray.empty = ByteArray.empty := by unfold twelve; rw [List.getD, List.getElem?_replicate, if_pos hj']; rfl
    have e2 : twelveB.getD j false = false := by unfold twelveB; rw [List.getD, List.getElem?_replicate, if_pos hj']; rfl
    exact ⟨by rw [e1]; rfl, e2⟩
  · have hj' : j < 2 := by simpa [two2] using hj
    have e1 : two2.getD j ByteArray.empty = ByteArray.empty := by unfold two2; rw [List.getD, List.getElem?_replicate, if_pos hj']; rfl
    show (two2.getD j ByteArray.empty).size ≤ 700
    rw [e1]
    exact Nat.zero_le _
theorem good_byte {d : DiskD} (h : Good d) {k b : Nat} (hk : k < 12) (hb : b < 3) (hc : CanSpoil d k) : b < (d.slots.getD k ByteArray.empty).size := by
  rcases h.1.2.1 k (by have := h.1.1.1; omega) with q | q
  · exact absurd q.1 hc.1
  · omega

/-- What lies beside a disk that is drawn: the reader, the answer's box, the disk's own. -/
def zeroC : Array Value := #[.int .i64 0, .slice none 0 0, .slice none 0 0, .slice none 0 0, .slice none 0 0]
def FrY (n₀ B q : Nat) (w : World) (D : Nat) (cs : Array Value) (wx : World) : Prop :=
  B < w.heap.size ∧ w.heap.size < D ∧ Rd n₀ B q wx ∧ w.grownBy wx (some B) ∧ Blk wx w.heap.size zeroC 27 ∧ Blk wx D cs 27
theorem FrY.grown {n₀ B q q' : Nat} {w : World} {D : Nat} {cs : Array Value} {wx wy : World} (h : FrY n₀ B q w D cs wx) (hR : Rd n₀ B q' wy) (hg : wx.grownBy wy (some B)) : FrY n₀ B q' w D cs wy :=
  ⟨h.1, h.2.1, hR, h.2.2.2.1.trans hg, h.2.2.2.2.1.grown hg (by have := h.1; omega), h.2.2.2.2.2.grown hg (by have := h.1; have := h.2.1; omega)⟩
theorem FrY.others {n₀ B q : Nat} {w : World} {D : Nat} {cs : Array Value} {wx wy : World} (h : FrY n₀ B q w D cs wx) (hB : Below w.heap.size wx wy) (ho : Others wx wy) : FrY n₀ B q w D cs wy :=
  ⟨h.1, h.2.1, h.2.2.1.others (by have := h.1; have := h.2.2.1.1; omega) hB ho, grown_bel h.2.2.2.1 hB, ho _ _ _ (by decide) (by decide) (by decide) h.2.2.2.2.1, ho _ _ _ (by decide) (by decide) (by decide) h.2.2.2.2.2⟩
theorem FrY.drew {n₀ B q : Nat} {w : World} {D : Nat} {cs : Array Value} {wx : World} (h : FrY n₀ B q w D cs wx) : FrY n₀ B q w D cs wx.drew := h.others (Below.refl _ _).drew (others_drew _)
theorem FrY.below {n₀ B q : Nat} {w : World} {D : Nat} {cs : Array Value} {wx wy : World} (h : FrY n₀ B q w D cs wx) (hB : Below wx.heap.size wx wy) : FrY n₀ B q w D cs wy :=
  h.others (hB.mono h.2.2.2.1.size) (others_below hB)
theorem FrY.set {n₀ B q : Nat} {w : World} {D : Nat} {cs : Array Value} {wx : World} (h : FrY n₀ B q w D cs wx) (j : Nat) (u : Value) : FrY n₀ B q w D (cs.setIfInBounds j u) (wx.setCell ⟨D, j, none⟩ u) :=
  ⟨h.1, h.2.1, h.2.2.1.set (by have := h.1; have := h.2.1; omega) j u, grown_set h.2.2.2.1 (by have := h.2.1; omega) j u, h.2.2.2.2.1.other D j u (by have := h.2.1; omega), h.2.2.2.2.2.set j u⟩
theorem FrY.set5 {n₀ B q : Nat} {w : World} {D : Nat} {z0 z1 z2 z3 z4 : Value} {wx : World} (h : FrY n₀ B q w D #[z0, z1, z2, z3, z4] wx) (x0 x1 x2 x3 x4 : Value) :
    FrY n₀ B q w D #[x0, x1, x2, x3, x4] (((((wx.setCell ⟨D, 0, none⟩ x0).setCell ⟨D, 1, none⟩ x1).setCell ⟨D, 2, none⟩ x2).setCell ⟨D, 3, none⟩ x3).setCell ⟨D, 4, none⟩ x4) := ((((h.set 0 x0).set 1 x1).set 2 x2).set 3 x3).set 4 x4
/-- A DISK IN ITS BOX while it is drawn. -/
def Dr (n₀ B q : Nat) (w : World) (D : Nat) (d : DiskD) (wx : World) : Prop :=
  ∃ v1 v2 v3 v4, FrY n₀ B q w D #[.int .i64 d.state, v1, v2, v3, v4] wx ∧ Own4 wx w.heap.size v1 v2 v3 v4 d ∧ Good d

end Go.Proofs.Ytifgoanicbaohaa

namespace Go.Proofs.Ytifgoanicbaohaa
open Go.RowKit

/-- The row of '[]byte(s)' with one byte stored, read back as a text. -/
theorem conv_changed (w : World) (s : ByteArray) (k : Nat) (x : Int) (hk : k < s.size) (cap : Nat) :
    (convert 22 9 (.slice (some ⟨w.heap.size, 0, none⟩) s.size cap)).run Try.prog ((Lib.bytesWorld w 5 s).setCell ⟨w.heap.size, k, none⟩ (.int .u8 x)) = .ok (.string (withAt s k x)) ((Lib.bytesWorld w 5 s).setCell ⟨w.heap.size, k, none⟩ (.int .u8 x)) := by
  refine run_convert_bytes_arg _ 22 5 Try.underlying22 Try.underlying5 w.heap.size 0 s.size cap ((nums s).set k x) (by rw [List.length_set, nums_length]) (fun i hi => ?_) 9 Try.underlying9
  rw [Nat.zero_add, withAt_get s k x hk i]
  by_cases e : i = k
  · subst e
    rw [if_pos rfl]
    exact World.cell?_setCell_same' _ _ _ (by rw [Lib.bytesWorld_cell w _ s i hk]; rfl)
  · rw [if_neg e, World.cell?_setCell_other _ _ _ _ (fun e2 => e (by cases e2; rfl)), Lib.bytesWorld_cell w _ s i hi]
    rfl

theorem bytesWorld_below (w : World) (e : TypeId) (s : ByteArray) : Below w.heap.size w (Lib.bytesWorld w e s) :=
  ⟨rfl, rfl, rfl, by rw [Lib.bytesWorld_size]; omega, fun k hk => Lib.bytesWorld_at_old w e s k hk⟩

/-- WHAT lpaChanged ANSWERS. -/
def Changed (s : ByteArray) (k : Nat) (c : Int) (w : World) (e : Ending) (w' : World) : Prop :=
  e = .returned (.string (withAt s k (bits .xor .u8 (byteAt s k) c))) ∧ Below w.heap.size w w'

set_option maxRecDepth 100000 in
set_option maxHeartbeats 1000000 in
theorem lpaChanged_any (s : ByteArray) (k : Nat) (c : Int) (w : World) (hk : k < s.size) :
    Calls Try.prog 17 #[.string s, .int .i64 (k : Int), .int .u8 c] w (Changed s k c w) := by
  have hcv := Lib.run_convert_string_bytes (P := Try.prog) w 9 22 5 s Try.underlying9 Try.underlying22 Try.underlying5
  have hce : (Lib.bytesWorld w 5 s).cell? ⟨w.heap.size, k, none⟩ = some (.int .u8 (byteAt s k)) := Lib.bytesWorld_cell w _ s k hk
  have hfr : (Lib.bytesWorld w 5 s).frozen? ⟨w.heap.size, k, none⟩ = false := by
    simp [World.frozen?, Lib.bytesWorld_at_new, Lib.bytesCells]
    omega
  have hbk := conv_changed w s k (bits .xor .u8 (byteAt s k) c) hk (grownCap w s.size 0 5)
  have HB := Lib.hid (bytesWorld_below w 5 s)
  generalize grownCap w s.size 0 5 = cap at hcv hbk
  generalize Lib.bytesWorld w 5 s = w1 at hcv hce hfr hbk HB
  go_enter Try.func17, Try.ntmps17
  go_wp2
  go_ret
  exact ⟨rfl, HB.out.setCell (p := ⟨w.heap.size, k, none⟩) (Nat.le_refl _) _⟩

end Go.Proofs.Ytifgoanicbaohaa
