/- Plain facts of the places of a root that is ok: those of its pointers are among them, and they ascend. Conditions: none. -/
import Derived.Test.YtlonecgmldjdpaaZ0
namespace Go.Proofs.Ytlonecgmldjdpaa
open Go.RowKit Go.Sort Go.Lib

theorem getD_in {α : Type} {l : List α} {d : α} {i : Nat} (h : i < l.length) : l.getD i d ∈ l := by
  rw [List.getD, List.getElem?_eq_getElem h]; exact List.getElem_mem h
theorem mem_allOf {vs : List VolD} {i k : Nat} (hi : i < vs.length) (hk : k < (vs.getD i vol0).blocks.length) : (vs.getD i vol0).blocks.getD k ptr0 ∈ allOf vs := by
  unfold allOf
  rw [List.mem_flatMap]
  exact ⟨vs.getD i vol0, getD_in hi, getD_in hk⟩
theorem used_of {vs : List VolD} {i k : Nat} (hi : i < vs.length) (hk : k < (vs.getD i vol0).blocks.length) {q : PlD} (hq : PlIn q ((vs.getD i vol0).blocks.getD k ptr0).places) : UsedBy' vs q := by
  unfold UsedBy' plsOf
  exact List.mem_flatMap.2 ⟨_, mem_allOf hi hk, (plIn_mem _ _).1 hq⟩
theorem ok_nat {n : Int} {r : RootD} (h : RootOkP n r) : ((n.toNat : Nat) : Int) = n := by have := h.1.1; omega
/-- A PLACE THAT IS USED is among them. -/
theorem in_rpl {n : Int} {r : RootD} (h : RootOkP n r) {q : PlD} : PlIn q (rpl n r) ↔ UsedBy' r.vols q := by
  rw [plIn_mem, rpl_ok h, mem_pick]
  refine ⟨fun h => h.2, fun hq => ⟨?_, hq⟩⟩
  have h' := h
  rw [← ok_nat h] at h'
  exact all_grid h' q hq
theorem in_rpl_of {n t : Int} {vs : List VolD} (h : RootOkP n ⟨t, vs⟩) {i k m : Nat} (hi : i < vs.length) (hk : k < (vs.getD i vol0).blocks.length) (hm : m < ((vs.getD i vol0).blocks.getD k ptr0).places.length) :
    PlIn ((((vs.getD i vol0).blocks.getD k ptr0).places).getD m pl0) (rpl n ⟨t, vs⟩) := (in_rpl h).2 (used_of hi hk ⟨m, hm, rfl⟩)
theorem rpl_sorted (n : Int) (r : RootD) : (rpl n r).Pairwise plLt := by
  by_cases h : RootOkP n r
  · rw [rpl_ok h]; exact pick_sorted (grid_sorted _)
  · rw [rpl_no h]; exact List.Pairwise.nil
theorem asc_at {l : List PlD} (h : l.Pairwise plLt) {i : Nat} (hi : i + 1 < l.length) : (l.getD i pl0).1 < (l.getD (i + 1) pl0).1 ∨ (l.getD i pl0).1 = (l.getD (i + 1) pl0).1 ∧ (l.getD i pl0).2 < (l.getD (i + 1) pl0).2 := by
  have := (List.pairwise_iff_getElem.1 h) i (i + 1) (by omega) hi (by omega)
  rw [List.getD, List.getElem?_eq_getElem (show i < l.length by omega), List.getD, List.getElem?_eq_getElem hi]
  exact this

end Go.Proofs.Ytlonecgmldjdpaa
