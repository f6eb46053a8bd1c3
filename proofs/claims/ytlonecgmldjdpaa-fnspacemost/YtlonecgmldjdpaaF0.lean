/- The places that none of two roots uses, as plain data. Conditions: none. -/
import Derived.Test.YtlonecgmldjdpaaZ0
namespace Go.Proofs.Ytlonecgmldjdpaa
open Go.RowKit Go.Sort Go.Lib

def FreeP (va vb : List VolD) (q : PlD) : Prop := ¬UsedBy' va q ∧ ¬UsedBy' vb q
noncomputable def fre (n : Int) (ra rb : RootD) : List PlD := if tt (RootOkP n ra ∧ RootOkP n rb) = true then pick (FreeP ra.vols rb.vols) (gridTo n.toNat) else []
theorem fre_ok {n : Int} {ra rb : RootD} (h : RootOkP n ra) (k : RootOkP n rb) : fre n ra rb = pick (FreeP ra.vols rb.vols) (gridTo n.toNat) := by unfold fre; rw [if_pos (tt_true ⟨h, k⟩)]
theorem fre_no {n : Int} {ra rb : RootD} (h : ¬(RootOkP n ra ∧ RootOkP n rb)) : fre n ra rb = [] := by unfold fre; rw [if_neg (by rw [tt_false h]; simp)]
theorem fre_length (n : Int) (ra rb : RootD) : (fre n ra rb).length ≤ 48 := by
  by_cases h : RootOkP n ra ∧ RootOkP n rb
  · rw [fre_ok h.1 h.2]
    have h1 := pick_length_le (FreeP ra.vols rb.vols) (gridTo n.toNat)
    rw [grid_length] at h1
    have := h.1.1.2
    omega
  · rw [fre_no h]; simp
theorem pick_congr {P Q : PlD → Prop} {l : List PlD} (h : ∀ q ∈ l, (P q ↔ Q q)) : pick P l = pick Q l := by
  unfold pick
  exact List.filter_congr fun q hq => tt_congr (h q hq)
theorem free_pick (n : Nat) (va vb : List VolD) : pick (fun q => ¬PlIn q (pick (UsedBy' va) (gridTo n) ++ pick (UsedBy' vb) (gridTo n))) (gridTo n) = pick (FreeP va vb) (gridTo n) := by
  refine pick_congr fun q hq => ?_
  rw [plIn_mem, List.mem_append, mem_pick, mem_pick]
  unfold FreeP
  constructor
  · intro h
    exact ⟨fun k => h (.inl ⟨hq, k⟩), fun k => h (.inr ⟨hq, k⟩)⟩
  · rintro ⟨h1, h2⟩ (h | h)
    · exact h1 h.2
    · exact h2 h.2
theorem step_append_zero {P : Program} {ops : Array Oper} {o : Oper} {a : Act} {w : World} {K : Act → World → Prop} {Q : Exit → Act → World → Prop} {E : Prop}
    (hg : o.guard = none) (s x : Operand) (t : TypeId) (hop : o.op = Op.call { callee := Callee.builtin Builtin.append, args := #[s, x], argTypes := #[t, t] })
    (e : TypeId) (i : TypeInfo) (h1 : P.underlying t = some (.slice e)) (h2 : P.info? e = some i) (ao : Option Addr) (n c0 : Nat) (hs : a.eval s = .slice ao n c0) (hc : n ≤ c0) (ax : Option Addr) (c : Nat) (hx : a.eval x = .slice ax 0 c)
    (hK : K (a.put o.dst (.slice ao n c0)) w) : if Region.wanted o (yielded ops a.tmps) = true then Oper.wp P o a w K Q else E := by
  have hw : Region.wanted o (yielded ops a.tmps) = true := by simp [Region.wanted, hg]
  rw [if_pos hw]
  have hrun : (Builtin.append_ #[t, t] o.type #[.slice ao n c0, .slice ax 0 c]).run P w = .ok (.slice ao n c0) w := by
    cases ao <;> cases ax <;> simp [Builtin.append_, run_underlying h1, sizeOf, typeInfo, h2, Builtin.lenOf, Builtin.firstCells, loadCells, loadCellsFrom, storeCells, hc]
  unfold Oper.wp
  simp [execOp, hop, resolve, invoke, builtin, hs, hx, hrun, Result.andThen]
  exact hK

end Go.Proofs.Ytlonecgmldjdpaa
