/- The specification's copy of a disk. Conditions: the disk is ok. Lists of disks in new memory, of the specification. Conditions: the disks are ok. -/
import Derived.Test.YtceielkcplcccaaGreatDoorPKVS
import Derived.Test.YtceielkcplcccaaGreatDoorPKH0
import Derived.Test.YtceielkcplcccaaGreatDoorPKHT2
import Derived.Deep.RegionLawGrows
import Derived.Test.YtceielkcplcccaaGreatDoorPKDS2
namespace Go.Proofs.YtceielkcplcccaaGreatDoor
open Go.RowKit Go.Sort Go.Shelf

/-- WHAT HAS BEEN DONE of a copy, and what it has given. -/
def CopyJ (w W0 : World) (B : Nat) (st : Int) (a1 a2 a3 a4 : Option Addr) (c1 c2 c3 c4 : Nat) (xs ys : List ByteArray) (bs : List Bool) (ps : List PutD) (l : Array Bool) (a : Act) (wx : World) : Prop :=
  l.size = 20 ∧ ∃ u3 u4 u5 u6 u7 u8 u9 u10 u11 u12 u13 u14 u15 u16 u17 u18 u19 u20 u21 : Value, a = { tmps := #[.agg #[.int .i64 st, .slice a1 xs.length c1, .slice a2 ys.length c2, .slice a3 bs.length c3, .slice a4 ps.length c4], .pointer (some ⟨w.heap.size, 0, none⟩), .pointer (some ⟨w.heap.size + 1, 0, none⟩), u3, u4, u5, u6, u7, u8, u9, u10, u11, u12, u13, u14, u15, u16, u17, u18, u19, u20, u21], defers := [] } ∧
  ((l.getD 19 false = true ∧ (∀ j, j < 20 → l.getD j false = true) ∧ ∃ p1 p2 p3 p4, Blk wx (w.heap.size + 1) #[.int .i64 st, p1, p2, p3, p4] 37 ∧ Own4 wx B p1 p2 p3 p4 ⟨st, xs, ys, bs, ps⟩ ∧ Below (w.heap.size + 1) W0 wx) ∨
   (l.getD 19 false = false ∧ Below B W0 wx ∧ B ≤ wx.heap.size ∧ (l.getD 0 false = true → u3 = .pointer (some ⟨w.heap.size, 0, none⟩)) ∧ (l.getD 1 false = true → l.getD 0 false = true ∧ u4 = .int .i64 st) ∧ (l.getD 2 false = true → (∃ g, u5 = .slice (some ⟨g, 0, none⟩) 0 0)) ∧ (l.getD 3 false = true → u6 = .pointer (some ⟨w.heap.size, 1, none⟩)) ∧ (l.getD 4 false = true → l.getD 3 false = true ∧ u7 = .slice a1 xs.length c1) ∧ (l.getD 5 false = true → l.getD 2 false = true ∧ l.getD 4 false = true ∧ OwnTx wx B u8 xs) ∧ (l.getD 6 false = true → (∃ g, u9 = .slice (some ⟨g, 0, none⟩) 0 0)) ∧ (l.getD 7 false = true → u10 = .pointer (some ⟨w.heap.size, 2, none⟩)) ∧ (l.getD 8 false = true → l.getD 7 false = true ∧ u11 = .slice a2 ys.length c2) ∧ (l.getD 9 false = true → l.getD 6 false = true ∧ l.getD 8 false = true ∧ OwnTx wx B u12 ys) ∧ (l.getD 10 false = true → (∃ g, u13 = .slice (some ⟨g, 0, none⟩) 0 0)) ∧ (l.getD 11 false = true → u14 = .pointer (some ⟨w.heap.size, 3, none⟩)) ∧ (l.getD 12 false = true → l.getD 11 false = true ∧ u15 = .slice a3 bs.length c3) ∧ (l.getD 13 false = true → l.getD 10 false = true ∧ l.getD 12 false = true ∧ OwnBo wx B u16 bs) ∧ (l.getD 14 false = true → (∃ g, u17 = .slice (some ⟨g, 0, none⟩) 0 0 ∧ B ≤ g ∧ Blk wx g #[] 41)) ∧ (l.getD 15 false = true → u18 = .pointer (some ⟨w.heap.size, 4, none⟩)) ∧ (l.getD 16 false = true → l.getD 15 false = true ∧ u19 = .slice a4 ps.length c4) ∧ (l.getD 17 false = true → l.getD 14 false = true ∧ l.getD 16 false = true ∧ OwnPu wx B u20 ps) ∧ (l.getD 18 false = true → l.getD 1 false = true ∧ l.getD 5 false = true ∧ l.getD 9 false = true ∧ l.getD 13 false = true ∧ l.getD 17 false = true ∧ u21 = .agg #[.int .i64 st, u8, u12, u16, u20]) ∧ (l.getD 5 false = true → l.getD 9 false = true → ∀ i, u8.ownBlock = some i → u12.ownBlock ≠ some i)))

theorem txC_one (bs : List ByteArray) : ∀ u ∈ txC bs, u.oneCell' = true := by
  intro u hu
  obtain ⟨b, _, rfl⟩ := List.mem_map.1 hu
  rfl
theorem puC_one (bs : List PutD) : ∀ u ∈ puC bs, u.oneCell' = true := by
  intro u hu
  obtain ⟨b, _, h⟩ := List.mem_flatMap.1 hu
  simp only [List.mem_cons, List.not_mem_nil, or_false] at h
  rcases h with rfl | rfl | rfl <;> rfl
theorem add_none (b off k : Nat) : (⟨b, off, none⟩ : Addr).add k = ⟨b, off + k, none⟩ := by
  unfold Addr.add
  by_cases e : k = 0
  · subst e; rfl
  · rw [if_neg e]
/-- append of nothing, as one step of a region that draws. -/
theorem step_append_none {P : Program} {ops : Array Oper} {o : Oper} {a : Act} {w : World} {K : Act → World → Prop} {Q : Exit → Act → World → Prop} {E : Prop}
    (hg : o.guard = none) (s x : Operand) (t : TypeId) (hop : o.op = Op.call { callee := Callee.builtin Builtin.append, args := #[s, x], argTypes := #[t, t] })
    (e : TypeId) (i : TypeInfo) (h1 : P.underlying t = some (.slice e)) (h2 : P.info? e = some i) (ao : Option Addr) (n : Nat) (hs : a.eval s = .slice ao n n) (ax : Option Addr) (c : Nat) (hx : a.eval x = .slice ax 0 c)
    (hK : K (a.put o.dst (.slice ao n n)) w) : if Region.wanted o (yielded ops a.tmps) = true then Oper.wp P o a w K Q else E := by
  have hw : Region.wanted o (yielded ops a.tmps) = true := by simp [Region.wanted, hg]
  rw [if_pos hw]
  have hrun : (Builtin.append_ #[t, t] o.type #[.slice ao n n, .slice ax 0 c]).run P w = .ok (.slice ao n n) w := by
    cases ao <;> cases ax <;> simp [Builtin.append_, run_underlying h1, sizeOf, typeInfo, h2, Builtin.lenOf, Builtin.firstCells, loadCells, loadCellsFrom, storeCells]
  unfold Oper.wp
  simp [execOp, hop, resolve, invoke, builtin, hs, hx, hrun, Result.andThen]
  exact hK
/-- The cells of writes, to be appended. -/
theorem puNews {w : World} {b off : Nat} {ps : List PutD} (hc : ∀ j, j < ps.length → w.cell? ⟨b, off + j * 3, none⟩ = some (.bool (ps.getD j put0).ring) ∧ w.cell? ⟨b, off + j * 3 + 1, none⟩ = some (.int .i64 (ps.getD j put0).pos) ∧ w.cell? ⟨b, off + j * 3 + 2, none⟩ = some (.string (ps.getD j put0).text)) :
    ∀ j u, (puC ps)[j]? = some u → w.cell? ((⟨b, off, none⟩ : Addr).add j) = some u := by
  intro j u hu
  have hj : j < ps.length * 3 := by have := (List.getElem?_eq_some_iff.1 hu).1; rw [puC_length] at this; exact this
  obtain ⟨q, r, rfl, hr⟩ : ∃ q r, j = q * 3 + r ∧ r < 3 := ⟨j / 3, j % 3, by omega, by omega⟩
  obtain ⟨h0, h1, h2⟩ := puC_get ps q (by omega)
  obtain ⟨c0, c1, c2⟩ := hc q (by omega)
  rw [add_none, ← Nat.add_assoc]
  match r, hr with
  | 0, _ => rw [Nat.add_zero] at hu ⊢; rw [h0] at hu; rw [c0]; exact hu
  | 1, _ => rw [h1] at hu; rw [c1]; exact hu
  | 2, _ => rw [h2] at hu; rw [c2]; exact hu

end Go.Proofs.YtceielkcplcccaaGreatDoor

namespace Go.Proofs.YtceielkcplcccaaGreatDoor
open Go.RowKit Go.Sort

theorem news_five (W : World) (a b c d e : Value) (t : TypeId) (H : Nat) (hH : W.heap.size = H) : ∀ j u, [a, b, c, d, e][j]? = some u → (W.alloc (.cells #[a, b, c, d, e] t)).cell? ((⟨H, 0, none⟩ : Addr).add j) = some u := by
  subst hH
  exact World.news_of_block (cs := #[a, b, c, d, e]) (t := t) (fr := (0, 0)) (heap_alloc_new W _)
theorem takeDk (ds : List DiskD) (k : Nat) (h : k < ds.length) : ds.take (k + 1) = ds.take k ++ [ds.getD k disk0] := by
  rw [List.take_succ_eq_append_getElem h, List.getD, List.getElem?_eq_getElem h]; rfl
theorem own_block_dk {w : World} {base K : Nat} {e : TypeId} {v : Value} {n : Nat} {xs : List Value} (h : w.ownsRow base e K v n xs) (i : Nat) (hi : v.ownBlock = some i) : ∃ cur, w.heap[i]? = some (.cells cur e (0, 0)) := by
  rcases h.2 with ⟨rfl, _⟩ | ⟨g, cap, cur, rfl, _, hg, _⟩
  · cases hi
  · simp only [Value.ownBlock, Option.some.injEq] at hi
    subst hi
    exact ⟨cur, hg⟩

end Go.Proofs.YtceielkcplcccaaGreatDoor
