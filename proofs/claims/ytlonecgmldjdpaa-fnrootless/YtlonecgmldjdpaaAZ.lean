/- 'append' of nothing. Conditions: none. -/
import Derived.WalkKit
import Derived.Test.YtlonecgmldjdpaaRows
namespace Go.Proofs.Ytlonecgmldjdpaa
open Go.RowKit

/-- append of nothing. -/
theorem wpList_append_zero {P : Program} {w : World} {ops : Array Oper} {rest : List Oper} {o : Oper} {a : Act} {Q : Exit → Act → World → Prop} (hgd : o.guard = none) (s x : Operand) (t : TypeId)
    (ho : o.op = .call { callee := .builtin .append, args := #[s, x], argTypes := #[t, t] }) (e : TypeId) (i : TypeInfo) (ht : P.underlying t = some (.slice e)) (hi : P.info? e = some i)
    (ao : Option Addr) (n c : Nat) (hs : a.eval s = .slice ao n c) (hc : n ≤ c) (ax : Option Addr) (c2 : Nat) (hx : a.eval x = .slice ax 0 c2)
    (h : wpList P ops Q rest (a.put o.dst (.slice ao n c)) w) : wpList P ops Q (o :: rest) a w := by
  refine wpList_plain hgd fun K hK => ?_
  have hrun : (Builtin.append_ #[t, t] o.type #[.slice ao n c, .slice ax 0 c2]).run P w = .ok (.slice ao n c) w := by
    cases ao <;> cases ax <;> simp [Builtin.append_, run_underlying ht, sizeOf, typeInfo, hi, Builtin.lenOf, Builtin.firstCells, loadCells, loadCellsFrom, storeCells, hc]
  unfold Oper.wp
  simp [execOp, ho, resolve, invoke, builtin, hs, hx, hrun, Result.andThen]
  exact hK _ _ h


end Go.Proofs.Ytlonecgmldjdpaa
