/- A root under way: boxes and rows of one's own while it is drawn. Conditions: none. -/
import Derived.Test.YtliadobopideaaaGreatDoorPSDC
import Derived.Test.YtliadobopideaaaGreatDoorPSDB
namespace Go.Proofs.YtliadobopideaaaGreatDoor
open Go.RowKit Go.Sort

theorem grown_of {w w' : World} (hB : Below w.heap.size w w') (r : Option Nat) : w.grownBy w' r := ⟨hB.os, hB.tape, hB.output, hB.size, fun k hk _ => hB.block k hk⟩
theorem gset (w : World) (B o : Nat) (v : Value) : w.grownBy (w.setCell ⟨B, o, none⟩ v) (some B) :=
  ⟨rfl, rfl, rfl, by rw [World.size_setCell]; exact Nat.le_refl _, fun k _ hne => Below.heap_setCell _ _ _ _ (fun e => hne (by rw [e]))⟩
/-- BOXES known whole. -/
def Bx (w : World) (g : Nat) (cs : Array Value) (T : TypeId) : Prop := w.heap[g]? = some (.cells cs T (0, 0))
theorem Bx.lt {w : World} {g : Nat} {cs : Array Value} {T : TypeId} (h : Bx w g cs T) : g < w.heap.size := (Array.getElem?_eq_some_iff.1 h).1
theorem Bx.new (w : World) (cs : Array Value) (T : TypeId) : Bx (w.alloc (.cells cs T)) w.heap.size cs T := heap_alloc_new w _
theorem Bx.kept {w w' : World} {g : Nat} {cs : Array Value} {T : TypeId} {r : Option Nat} (h : Bx w g cs T) (hg : w.grownBy w' r) (hne : some g ≠ r) : Bx w' g cs T := (hg.block g h.lt hne).trans h
theorem Bx.isT {w : World} {g : Nat} {cs : Array Value} {T : TypeId} (h : Bx w g cs T) : IsT w g T := ⟨_, h⟩
theorem Bx.cell {w : World} {g : Nat} {cs : Array Value} {T : TypeId} (h : Bx w g cs T) (j : Nat) : w.cell? ⟨g, j, none⟩ = cs[j]? := by unfold Bx at h; simp only [World.cell?, h]; rfl
theorem Bx.frozen {w : World} {g : Nat} {cs : Array Value} {T : TypeId} (h : Bx w g cs T) (j : Nat) : w.frozen? ⟨g, j, none⟩ = false := by unfold Bx at h; simp [World.frozen?, h]
theorem Bx.set {w : World} {g : Nat} {cs : Array Value} {T : TypeId} (h : Bx w g cs T) (j : Nat) (u : Value) : Bx (w.setCell ⟨g, j, none⟩ u) g (cs.setIfInBounds j u) T := by
  obtain ⟨hlt, hh⟩ := Array.getElem?_eq_some_iff.1 h
  show (w.heap.modify g _)[g]? = _
  rw [Array.getElem?_eq_getElem (by rw [Array.size_modify]; exact hlt), Array.getElem_modify_self, hh]
  rfl

/-- A ROW OF THREE POINTERS OF ONE's OWN. -/
def Row3 (w : World) (lo : Nat) (ys : List Value) (bs : List PtrD) : Prop := ∀ j, j < 3 → ys[j * 3]? = some (.int .i64 (bs.getD j ptr0).size) ∧ ys[j * 3 + 1]? = some (.int .i64 (bs.getD j ptr0).sum) ∧ ∃ u, ys[j * 3 + 2]? = some u ∧ TPl w lo u (bs.getD j ptr0).places
def OR (w : World) (lo gr : Nat) (bs : List PtrD) : Prop := bs.length = 3 ∧ ∃ ys, w.ownsRow lo 54 3 (.slice (some ⟨gr, 0, none⟩) 3 3) 3 ys ∧ Row3 w lo ys bs
theorem Row3.kept {w w' : World} {lo hi : Nat} {ys : List Value} {bs : List PtrD} {r : Option Nat} (h : Row3 w lo ys bs) (hg : w.grownBy w' r) (hr : Fr w lo hi r) : Row3 w' lo ys bs := fun j hj => by
  obtain ⟨q0, q1, u, q2, hu⟩ := h j hj
  exact ⟨q0, q1, u, q2, hu.kept hg hr⟩
theorem OR.isT {w : World} {lo gr : Nat} {bs : List PtrD} (h : OR w lo gr bs) : IsT w gr 54 := by
  obtain ⟨_, ys, ho, _⟩ := h
  exact IsT.of_own ho
theorem OR.lo {w : World} {lo gr : Nat} {bs : List PtrD} (h : OR w lo gr bs) : lo ≤ gr := by
  obtain ⟨_, ys, ho, _⟩ := h
  exact (ho.lt gr rfl).1
theorem OR.kept {w w' : World} {lo gr hi : Nat} {bs : List PtrD} {r : Option Nat} (h : OR w lo gr bs) (hg : w.grownBy w' r) (hne : some gr ≠ r) (hr : Fr w lo hi r) : OR w' lo gr bs := by
  obtain ⟨h3, ys, ho, hx⟩ := h
  exact ⟨h3, ys, ho.kept hg (.inr hne), hx.kept hg hr⟩
theorem getD_set_self {α : Type} {l : List α} {d x : α} {k : Nat} (h : k < l.length) : (l.set k x).getD k d = x := by
  rw [List.getD, List.getElem?_set_self h]; rfl
theorem getD_set_ne {α : Type} {l : List α} {d x : α} {k j : Nat} (h : j ≠ k) : (l.set k x).getD j d = l.getD j d := by
  rw [List.getD, List.getElem?_set_ne (fun e => h e.symm)]; rfl
/-- The frame of stores into that row. -/
theorem fr_row {w : World} {lo gr hi : Nat} {bs : List PtrD} (h : OR w lo gr bs) (hh : hi ≤ gr) : Fr w lo hi (some gr) := fun b e _ => by cases e; exact ⟨h.isT, hh⟩
theorem fr_low {w : World} {lo hi B : Nat} (hB : B < lo) : Fr w lo hi (some B) := fun b e hb => by cases e; omega
theorem fr_none {w : World} {lo hi : Nat} : Fr w lo hi none := fun b e _ => by cases e
theorem OR.store {w : World} {lo gr : Nat} {bs : List PtrD} (h : OR w lo gr bs) (k : Nat) (hk : k < 3) (z s : Int) (u : Value) (ps : List PlD) (hu : TPl w lo u ps) :
    OR (((w.setCell ⟨gr, k * 3, none⟩ (.int .i64 z)).setCell ⟨gr, k * 3 + 1, none⟩ (.int .i64 s)).setCell ⟨gr, k * 3 + 2, none⟩ u) lo gr (bs.set k ⟨z, s, ps⟩) ∧
    w.grownBy (((w.setCell ⟨gr, k * 3, none⟩ (.int .i64 z)).setCell ⟨gr, k * 3 + 1, none⟩ (.int .i64 s)).setCell ⟨gr, k * 3 + 2, none⟩ u) (some gr) := by
  have hg : w.grownBy (((w.setCell ⟨gr, k * 3, none⟩ (.int .i64 z)).setCell ⟨gr, k * 3 + 1, none⟩ (.int .i64 s)).setCell ⟨gr, k * 3 + 2, none⟩ u) (some gr) := ((gset _ _ _ _).trans (gset _ _ _ _)).trans (gset _ _ _ _)
  refine ⟨?_, hg⟩
  have hfr : Fr w lo gr (some gr) := fr_row h (Nat.le_refl _)
  obtain ⟨h3, ys, ho, hx⟩ := h
  have hyl := ho.1
  refine ⟨by rw [List.length_set]; exact h3, _, own_set (own_set (own_set ho (k * 3) _) (k * 3 + 1) _) (k * 3 + 2) _, fun j hj => ?_⟩
  by_cases e : j = k
  · subst e
    rw [getD_set_self (by omega)]
    refine ⟨?_, ?_, u, ?_, hu.kept hg hfr⟩
    · rw [List.getElem?_set_ne (by omega), List.getElem?_set_ne (by omega), List.getElem?_set_self (by omega)]
    · rw [List.getElem?_set_ne (by omega), List.getElem?_set_self (by simp only [List.length_set]; omega)]
    · rw [List.getElem?_set_self (by simp only [List.length_set]; omega)]
  · rw [getD_set_ne e]
    obtain ⟨q0, q1, v, q2, hv⟩ := hx j hj
    refine ⟨?_, ?_, v, ?_, hv.kept hg hfr⟩
    all_goals rw [List.getElem?_set_ne (by omega), List.getElem?_set_ne (by omega), List.getElem?_set_ne (by omega)]; assumption
theorem OR.cells {w : World} {lo gr : Nat} {bs : List PtrD} (h : OR w lo gr bs) (j : Nat) (hj : j < 3) : w.cell? ⟨gr, j * 3, none⟩ = some (.int .i64 (bs.getD j ptr0).size) ∧ w.cell? ⟨gr, j * 3 + 1, none⟩ = some (.int .i64 (bs.getD j ptr0).sum) ∧ (∃ u, w.cell? ⟨gr, j * 3 + 2, none⟩ = some u ∧ TPl w lo u (bs.getD j ptr0).places) ∧ w.frozen? ⟨gr, j * 3, none⟩ = false ∧ w.frozen? ⟨gr, j * 3 + 1, none⟩ = false ∧ w.frozen? ⟨gr, j * 3 + 2, none⟩ = false := by
  obtain ⟨h3, ys, ho, hx⟩ := h
  obtain ⟨q0, q1, u, q2, hu⟩ := hx j hj
  obtain ⟨a0, f0, _, _⟩ := own_cell ho (j * 3) (by omega)
  obtain ⟨a1, f1, _, _⟩ := own_cell ho (j * 3 + 1) (by omega)
  obtain ⟨a2, f2, _, _⟩ := own_cell ho (j * 3 + 2) (by omega)
  exact ⟨a0.trans q0, a1.trans q1, ⟨u, a2.trans q2, hu⟩, f0, f1, f2⟩
theorem OR.typed {w : World} {lo gr hi : Nat} {bs : List PtrD} (h : OR w lo gr bs) (hh : gr < hi) : TPt w lo hi (.slice (some ⟨gr, 0, none⟩) 3 3) bs := by
  have h3 := h.1
  refine ⟨some ⟨gr, 0, none⟩, 3, by rw [h3], by omega, by simp [maxLen], .inr ⟨gr, rfl, h.lo, hh, h.isT, fun j hj => ?_⟩⟩
  obtain ⟨q0, q1, ⟨u, q2, hu⟩, _⟩ := h.cells j (by omega)
  rw [Nat.zero_add]
  exact ⟨q0, q1, u, q2, hu⟩
/-- A NEW ROW of nothings. -/
theorem OR.new {w : World} {lo gr : Nat} (h : w.ownsRow lo 54 3 (.slice (some ⟨gr, 0, none⟩) 3 3) 3 (madeCells (Value.agg #[.int .i64 0, .int .i64 0, .slice none 0 0]).cells 9).toList) : OR w lo gr [ptr0, ptr0, ptr0] := by
  refine ⟨rfl, _, h, fun j hj => ?_⟩
  match j, hj with
  | 0, _ => exact ⟨by kernel_rfl, by kernel_rfl, .slice none 0 0, by kernel_rfl, TPl.nil _ _⟩
  | 1, _ => exact ⟨by kernel_rfl, by kernel_rfl, .slice none 0 0, by kernel_rfl, TPl.nil _ _⟩
  | 2, _ => exact ⟨by kernel_rfl, by kernel_rfl, .slice none 0 0, by kernel_rfl, TPl.nil _ _⟩

/-- A ROOT UNDER WAY, ahead of a volume. -/
structure Und (n₀ B q lo gO : Nat) (t : Int) (o : Value) (vs : List VolD) (w wr : World) : Prop where
  res : Bx wr lo #[.int .i64 0, .slice none 0 0] 25
  out : Bx wr gO #[.int .i64 t, o] 25
  vol : OV wr lo wr.heap.size o vs
  rd : Rd n₀ B q wr
  gb : w.grownBy wr (some B)
/-- .. within one. -/
structure Mid (n₀ B q lo hi gO gv gr : Nat) (t : Int) (o : Value) (vs : List VolD) (nm : ByteArray) (bs : List PtrD) (w wr : World) : Prop where
  res : Bx wr lo #[.int .i64 0, .slice none 0 0] 25
  out : Bx wr gO #[.int .i64 t, o] 25
  vol : OV wr lo hi o vs
  vb : Bx wr gv #[.string nm, .slice (some ⟨gr, 0, none⟩) 3 3] 51
  row : OR wr lo gr bs
  rd : Rd n₀ B q wr
  gb : w.grownBy wr (some B)
/-- WHERE ALL THAT LIES. -/
structure Wh (B lo hi gO gv gr : Nat) : Prop where
  b : B < lo
  o : lo < gO
  v : gO < hi
  h : hi ≤ gr
  g : hi ≤ gv
  ne : gv ≠ gr
theorem Mid.grow {n₀ B q q' lo hi gO gv gr : Nat} {t : Int} {o : Value} {vs : List VolD} {nm : ByteArray} {bs : List PtrD} {w wr w' : World} (h : Mid n₀ B q lo hi gO gv gr t o vs nm bs w wr) (k : Wh B lo hi gO gv gr) (hg : wr.grownBy w' (some B)) (hR : Rd n₀ B q' w') : Mid n₀ B q' lo hi gO gv gr t o vs nm bs w w' := by
  have kb := k.b
  have ko := k.o
  have kv := k.v
  have kh := k.h
  have kg := k.g
  exact ⟨h.res.kept hg (fun e => by injection e with e; omega), h.out.kept hg (fun e => by injection e with e; omega), h.vol.kept hg (fr_low k.b), h.vb.kept hg (fun e => by injection e with e; omega), h.row.kept (hi := hi) hg (fun e => by injection e with e; omega) (fr_low k.b), hR, h.gb.trans hg⟩
theorem Mid.below {n₀ B q lo hi gO gv gr : Nat} {t : Int} {o : Value} {vs : List VolD} {nm : ByteArray} {bs : List PtrD} {w wr w' : World} (h : Mid n₀ B q lo hi gO gv gr t o vs nm bs w wr) (k : Wh B lo hi gO gv gr) (hB : Below wr.heap.size wr w') : Mid n₀ B q lo hi gO gv gr t o vs nm bs w w' :=
  h.grow k (grown_of hB _) (PtrDrawn.rd h.rd hB)
theorem Mid.store {n₀ B q lo hi gO gv gr : Nat} {t : Int} {o : Value} {vs : List VolD} {nm : ByteArray} {bs : List PtrD} {w wr : World} (h : Mid n₀ B q lo hi gO gv gr t o vs nm bs w wr) (k : Wh B lo hi gO gv gr) (j : Nat) (hj : j < 3) (z s : Int) (u : Value) (ps : List PlD) (hu : TPl wr lo u ps) (hlo : w.heap.size ≤ gr) :
    Mid n₀ B q lo hi gO gv gr t o vs nm (bs.set j ⟨z, s, ps⟩) w (((wr.setCell ⟨gr, j * 3, none⟩ (.int .i64 z)).setCell ⟨gr, j * 3 + 1, none⟩ (.int .i64 s)).setCell ⟨gr, j * 3 + 2, none⟩ u) := by
  have kb := k.b
  have ko := k.o
  have kv := k.v
  have kh := k.h
  have kg := k.g
  have kn := k.ne
  obtain ⟨h1, hg⟩ := h.row.store j hj z s u ps hu
  refine ⟨h.res.kept hg (fun e => by injection e with e; omega), h.out.kept hg (fun e => by injection e with e; omega), h.vol.kept hg (fr_row h.row k.h), h.vb.kept hg (fun e => by injection e with e; omega), h1, h.rd.kept hg (fun i e => by cases e; omega), ?_⟩
  exact h.gb.andThen hg (fun i e => .inl (by cases e; exact hlo))

end Go.Proofs.YtliadobopideaaaGreatDoor
