/- A volume by its name. Conditions: at most five volumes. One of a list of texts, drawn. Conditions: the list is not empty; the reader's place is small. A root under way: boxes and rows of one's own while it is drawn. Conditions: none. A statement that draws the order of its operations, walked by one invariant over what has been done. Conditions: each theorem names its own. -/
import Derived.Test.YtliadobopideaaaGreatDoorPKTE
import Derived.Test.YtliadobopideaaaGreatDoorPKUA
import Derived.Test.YtliadobopideaaaGreatDoorPKDC
import Derived.RegionTactic
import Derived.WalkKit
import Derived.Test.YtliadobopideaaaGreatDoorRows
namespace Go.Proofs.YtliadobopideaaaGreatDoor
open Go.RowKit Go.Sort

/-- NO VOLUME BEARS A NAME, among the first k. -/
def NoName (vs : List VolD) (nm : ByteArray) (k : Nat) : Prop := ∀ i, i < k → (vs.getD i vol0).name ≠ nm
theorem NoName.succ {vs : List VolD} {nm : ByteArray} {k : Nat} (h : NoName vs nm k) (hk : (vs.getD k vol0).name ≠ nm) : NoName vs nm (k + 1) := fun i hi => by
  by_cases e : i = k
  · subst e; exact hk
  · exact h i (by omega)

set_option maxRecDepth 100000 in
set_option maxHeartbeats 2000000 in
theorem l13Find_any (t : Int) (a : Option Addr) (cap : Nat) (vs : List VolD) (nm : ByteArray) (w : World) (hl : vs.length ≤ maxLen) (hx : Hid (VolsAt w a vs)) :
    Calls Tryz.prog 73 #[.agg #[.int .i64 t, .slice a vs.length cap], .string nm] w fun e w' => (∃ z : Int, e = .returned (.int .i64 z) ∧ ((0 ≤ z ∧ z < vs.length ∧ (vs.getD z.toNat vol0).name = nm) ∨ (z = -1 ∧ NoName vs nm vs.length))) ∧ Below w.heap.size w w' := by
  unfold maxLen at hl
  have HB0 : Hid (Below w.heap.size w (w.alloc (.cells #[.int .i64 t, .slice a vs.length cap] 25))) := (Below.refl _ _).alloc (Nat.le_refl _) _
  have c1 : (w.alloc (.cells #[.int .i64 t, .slice a vs.length cap] 25)).cell? ⟨w.heap.size, 1, none⟩ = some (.slice a vs.length cap) := by rw [World.cell?_alloc_mark]; rfl
  go_enter Tryz.func73, Tryz.ntmps73
  go_wp2_with fail
  generalize w.alloc (.cells #[.int .i64 t, .slice a vs.length cap] 25) = w1 at HB0 c1 ⊢
  go_loop [5] (fun i => ∃ k : Nat, i = .int .i64 (k : Int) ∧ k ≤ vs.length ∧ Hid (NoName vs nm k)) (fun i => vs.length - (intOf i).toNat)
  case atStart => exact ⟨0, rfl, Nat.zero_le _, fun i hi => by omega⟩
  case round =>
    obtain ⟨k, rfl, hk, hN⟩ := hrel
    by_cases hlt : k < vs.length
    · obtain ⟨b, off, rfl, hc⟩ := hx.out.resolve_left (fun e => by subst e; simp at hlt)
      obtain ⟨q0, _⟩ := hc k hlt
      have q0' := cell_below HB0.out q0
      have hk0 : (0 : Int) ≤ (k : Int) := by omega
      have hk1 : (k : Int) < (vs.length : Int) := by omega
      clear hc q0
      by_cases hq : (vs.getD k vol0).name = nm
      · have HZ : Hid ((0 : Int) ≤ (k : Int) ∧ (k : Int) < vs.length ∧ (vs.getD ((k : Int).toNat) vol0).name = nm) := ⟨hk0, hk1, by rw [Int.toNat_natCast]; exact hq⟩
        have e0 := text_yes hq
        generalize (vs.getD k vol0).name = nk at q0' e0
        clear hq
        go_wp2_with fail
        go_ret
        exact ⟨⟨k, rfl, .inl HZ.out⟩, HB0.out⟩
      · have HN1 := Lib.hid (hN.out.succ hq)
        have e0 := text_no hq
        generalize (vs.getD k vol0).name = nk at q0' e0
        clear hq
        go_wp2_with fail
        go_round
        case rel => exact ⟨k + 1, by go_num, by omega, HN1⟩
        case measure => simp [intOf]; omega
    · obtain rfl : k = vs.length := by omega
      go_wp2_with fail
      go_ret
      exact ⟨⟨-1, rfl, .inr ⟨rfl, hN.out⟩⟩, HB0.out⟩

end Go.Proofs.YtliadobopideaaaGreatDoor

namespace Go.Proofs.YtliadobopideaaaGreatDoor
open Go.RowKit Go.Sort

/-- ONE OF A LIST, DRAWN. -/
def OneOf (n₀ B p : Nat) (xs : List ByteArray) (w : World) (e : Ending) (w' : World) : Prop :=
  ∃ i : Nat, i < xs.length ∧ e = .returned (.string (xs.getD i ByteArray.empty)) ∧ Rd n₀ B (p + 1) w' ∧ w.grownBy w' (some B)

set_option maxRecDepth 100000 in
set_option maxHeartbeats 2000000 in
theorem of_any (n₀ B p g c : Nat) (xs : List ByteArray) (w : World) (hp : p ≤ 900000) (hR : Rd n₀ B p w) (h0 : 0 < xs.length) (hm : xs.length ≤ 1000) (hgB : g ≠ B)
    (hc : Hid (∀ j, j < xs.length → w.cell? ⟨g, j, none⟩ = some (.string (xs.getD j ByteArray.empty)))) :
    Calls Tryz.prog 41 #[.pointer (some ⟨B, 0, none⟩), .slice (some ⟨g, 0, none⟩) xs.length c] w (OneOf n₀ B p xs w) := by
  have HP := Lib.hid (pick_any n₀ B p (xs.length : Int) w (by omega) hR)
  clear hR
  go_enter Tryz.func41, Tryz.ntmps41
  go_wp2_with fail
  refine HP.out.mono ?_
  rintro e w1 ⟨v, rfl, hv0, hvn, hR1, hg1⟩
  have hv1 := hvn (by omega)
  clear hvn
  obtain ⟨i, rfl⟩ := Int.eq_ofNat_of_zero_le hv0
  have hi : i < xs.length := by omega
  have c0 := hc.out i hi
  have hlt : g < w.heap.size := World.block_lt_of_cell? w _ c0
  have c1 : w1.cell? ⟨g, i, none⟩ = some (.string (xs.getD i ByteArray.empty)) := hg1.cell c0 (by simp; exact hgB)
  have HX : Hid (OneOf n₀ B p xs w (.returned (.string (xs.getD i ByteArray.empty))) w1) := ⟨i, hi, rfl, hR1, hg1⟩
  generalize xs.getD i ByteArray.empty = T at c1 HX
  clear c0 hR1 hg1
  go_wp2_with fail
  go_ret
  exact HX.out

end Go.Proofs.YtliadobopideaaaGreatDoor

namespace Go.Proofs.YtliadobopideaaaGreatDoor
open Go.RowKit Go.Sort

theorem grown_of {w w' : World} (hB : Below w.heap.size w w') (r : Option Nat) : w.grownBy w' r := ⟨hB.os, hB.tape, hB.output, hB.size, fun k hk _ => hB.block k hk⟩
theorem gset (w : World) (B o : Nat) (v : Value) : w.grownBy (w.setCell ⟨B, o, none⟩ v) (some B) :=
  ⟨rfl, rfl, rfl, by rw [World.size_setCell]; exact Nat.le_refl _, fun k _ hne => Below.heap_setCell _ _ _ _ (fun e => hne (by rw [e]))⟩
/-- BOXES known whole. -/
def Bx (w : World) (g : Nat) (cs : Array Value) (T : TypeId) : Prop := w.heap[g]? = some (.cells cs T (0, 0))
theorem Bx.lt {w : World} {g : Nat} {cs : Array Value} {T : TypeId} (h : Bx w g cs T) : g < w.heap.size := (Array.getElem?_eq_some_iff.1 h).1
theorem Bx.new (w : World) (cs : Array Value) (T : TypeId) : Bx (w.alloc (.cells cs T)) w.heap.size cs T := heap_alloc_new w _
theorem Bx.kept {w w' : World} {g : Nat} {cs : Array Value} {T : TypeId} {r : Option Nat} (h : Bx w g cs T) (hg : w.grownBy w' r) (hne : some g ≠ r) : Bx w' g cs T := (hg.block g h.lt hne).trans h
theorem Bx.isT {w : World} {g : Nat} {cs : Array Value} {T : TypeId} (h : Bx w g cs T) : IsT w g T := ⟨_, h⟩
theorem Bx.cell {w : World} {g : Nat} {cs : Array Value} {T : TypeId} (h : Bx w g cs T) (j : Nat) : w.cell? ⟨g, j, none⟩ = cs[j]? := by unfold Bx at h; simp only [World.cell?, h]; rfl
theorem Bx.frozen {w : World} {g : Nat} {cs : Array Value} {T : TypeId} (h : Bx w g cs T) (j : Nat) : w.frozen? ⟨g, j, none⟩ = false := by unfold Bx at h; simp [World.frozen?, h]
theorem Bx.set {w : World} {g : Nat} {cs : Array Value} {T : TypeId} (h : Bx w g cs T) (j : Nat) (u : Value) : Bx (w.setCell ⟨g, j, none⟩ u) g (cs.setIfInBounds j u) T := by
  obtain ⟨hlt, hh⟩ := Array.getElem?_eq_some_iff.1 h
  show (w.heap.modify g _)[g]? = _
  rw [Array.getElem?_eq_getElem (by rw [Array.size_modify]; exact hlt), Array.getElem_modify_self, hh]
  rfl

/-- A ROW OF THREE POINTERS OF ONE's OWN. -/
def Row3 (w : World) (lo : Nat) (ys : List Value) (bs : List PtrD) : Prop := ∀ j, j < 3 → ys[j * 3]? = some (.int .i64 (bs.getD j ptr0).size) ∧ ys[j * 3 + 1]? = some (.int .i64 (bs.getD j ptr0).sum) ∧ ∃ u, ys[j * 3 + 2]? = some u ∧ TPl w lo u (bs.getD j ptr0).places
def OR (w : World) (lo gr : Nat) (bs : List PtrD) : Prop := bs.length = 3 ∧ ∃ ys, w.ownsRow lo 54 3 (.slice (some ⟨gr, 0, none⟩) 3 3) 3 ys ∧ Row3 w lo ys bs
theorem Row3.kept {w w' : World} {lo hi : Nat} {ys : List Value} {bs : List PtrD} {r : Option Nat} (h : Row3 w lo ys bs) (hg : w.grownBy w' r) (hr : Fr w lo hi r) : Row3 w' lo ys bs := fun j hj => by
  obtain ⟨q0, q1, u, q2, hu⟩ := h j hj
  exact ⟨q0, q1, u, q2, hu.kept hg hr⟩
theorem OR.isT {w : World} {lo gr : Nat} {bs : List PtrD} (h : OR w lo gr bs) : IsT w gr 54 := by
  obtain ⟨_, ys, ho, _⟩ := h
  exact IsT.of_own ho
theorem OR.lo {w : World} {lo gr : Nat} {bs : List PtrD} (h : OR w lo gr bs) : lo ≤ gr := by
  obtain ⟨_, ys, ho, _⟩ := h
  exact (ho.lt gr rfl).1
theorem OR.kept {w w' : World} {lo gr hi : Nat} {bs : List PtrD} {r : Option Nat} (h : OR w lo gr bs) (hg : w.grownBy w' r) (hne : some gr ≠ r) (hr : Fr w lo hi r) : OR w' lo gr bs := by
  obtain ⟨h3, ys, ho, hx⟩ := h
  exact ⟨h3, ys, ho.kept hg (.inr hne), hx.kept hg hr⟩
theorem getD_set_self {α : Type} {l : List α} {d x : α} {k : Nat} (h : k < l.length) : (l.set k x).getD k d = x := by
  rw [List.getD, List.getElem?_set_self h]; rfl
theorem getD_set_ne {α : Type} {l : List α} {d x : α} {k j : Nat} (h : j ≠ k) : (l.set k x).getD j d = l.getD j d := by
  rw [List.getD, List.getElem?_set_ne (fun e => h e.symm)]; rfl
/-- The frame of stores into that row. -/
theorem fr_row {w : World} {lo gr hi : Nat} {bs : List PtrD} (h : OR w lo gr bs) (hh : hi ≤ gr) : Fr w lo hi (some gr) := fun b e _ => by cases e; exact ⟨h.isT, hh⟩
theorem fr_low {w : World} {lo hi B : Nat} (hB : B < lo) : Fr w lo hi (some B) := fun b e hb => by cases e; omega
theorem fr_none {w : World} {lo hi : Nat} : Fr w lo hi none := fun b e _ => by cases e
theorem OR.store {w : World} {lo gr : Nat} {bs : List PtrD} (h : OR w lo gr bs) (k : Nat) (hk : k < 3) (z s : Int) (u : Value) (ps : List PlD) (hu : TPl w lo u ps) :
    OR (((w.setCell ⟨gr, k * 3, none⟩ (.int .i64 z)).setCell ⟨gr, k * 3 + 1, none⟩ (.int .i64 s)).setCell ⟨gr, k * 3 + 2, none⟩ u) lo gr (bs.set k ⟨z, s, ps⟩) ∧
    w.grownBy (((w.setCell ⟨gr, k * 3, none⟩ (.int .i64 z)).setCell ⟨gr, k * 3 + 1, none⟩ (.int .i64 s)).setCell ⟨gr, k * 3 + 2, none⟩ u) (some gr) := by
  have hg : w.grownBy (((w.setCell ⟨gr, k * 3, none⟩ (.int .i64 z)).setCell ⟨gr, k * 3 + 1, none⟩ (.int .i64 s)).setCell ⟨gr, k * 3 + 2, none⟩ u) (some gr) := ((gset _ _ _ _).trans (gset _ _ _ _)).trans (gset _ _ _ _)
  refine ⟨?_, hg⟩
  have hfr : Fr w lo gr (some gr) := fr_row h (Nat.le_refl _)
  obtain ⟨h3, ys, ho, hx⟩ := h
  have hyl := ho.1
  refine ⟨by rw [List.length_set]; exact h3, _, own_set (own_set (own_set ho (k * 3) _) (k * 3 + 1) _) (k * 3 + 2) _, fun j hj => ?_⟩
  by_cases e : j = k
  · subst e
    rw [getD_set_self (by omega)]
    refine ⟨?_, ?_, u, ?_, hu.kept hg hfr⟩
    · rw [List.getElem?_set_ne (by omega), List.getElem?_set_ne (by omega), List.getElem?_set_self (by omega)]
    · rw [List.getElem?_set_ne (by omega), List.getElem?_set_self (by simp only [List.length_set]; omega)]
    · rw [List.getElem?_set_self (by simp only [List.length_set]; omega)]
  · rw [getD_set_ne e]
    obtain ⟨q0, q1, v, q2, hv⟩ := hx j hj
    refine ⟨?_, ?_, v, ?_, hv.kept hg hfr⟩
    all_goals rw [List.getElem?_set_ne (by omega), List.getElem?_set_ne (by omega), List.getElem?_set_ne (by omega)]; assumption
theorem OR.cells {w : World} {lo gr : Nat} {bs : List PtrD} (h : OR w lo gr bs) (j : Nat) (hj : j < 3) : w.cell? ⟨gr, j * 3, none⟩ = some (.int .i64 (bs.getD j ptr0).size) ∧ w.cell? ⟨gr, j * 3 + 1, none⟩ = some (.int .i64 (bs.getD j ptr0).sum) ∧ (∃ u, w.cell? ⟨gr, j * 3 + 2, none⟩ = some u ∧ TPl w lo u (bs.getD j ptr0).places) ∧ w.frozen? ⟨gr, j * 3, none⟩ = false ∧ w.frozen? ⟨gr, j * 3 + 1, none⟩ = false ∧ w.frozen? ⟨gr, j * 3 + 2, none⟩ = false := by
  obtain ⟨h3, ys, ho, hx⟩ := h
  obtain ⟨q0, q1, u, q2, hu⟩ := hx j hj
  obtain ⟨a0, f0, _, _⟩ := own_cell ho (j * 3) (by omega)
  obtain ⟨a1, f1, _, _⟩ := own_cell ho (j * 3 + 1) (by omega)
  obtain ⟨a2, f2, _, _⟩ := own_cell ho (j * 3 + 2) (by omega)
  exact ⟨a0.trans q0, a1.trans q1, ⟨u, a2.trans q2, hu⟩, f0, f1, f2⟩
theorem OR.typed {w : World} {lo gr hi : Nat} {bs : List PtrD} (h : OR w lo gr bs) (hh : gr < hi) : TPt w lo hi (.slice (some ⟨gr, 0, none⟩) 3 3) bs := by
  have h3 := h.1
  refine ⟨some ⟨gr, 0, none⟩, 3, by rw [h3], by omega, by simp [maxLen], .inr ⟨gr, rfl, h.lo, hh, h.isT, fun j hj => ?_⟩⟩
  obtain ⟨q0, q1, ⟨u, q2, hu⟩, _⟩ := h.cells j (by omega)
  rw [Nat.zero_add]
  exact ⟨q0, q1, u, q2, hu⟩
/-- A NEW ROW of nothings. -/
theorem OR.new {w : World} {lo gr : Nat} (h : w.ownsRow lo 54 3 (.slice (some ⟨gr, 0, none⟩) 3 3) 3 (madeCells (Value.agg #[.int .i64 0, .int .i64 0, .slice none 0 0]).cells 9).toList) : OR w lo gr [ptr0, ptr0, ptr0] := by
  refine ⟨rfl, _, h, fun j hj => ?_⟩
  match j, hj with
  | 0, _ => exact ⟨by kernel_rfl, by kernel_rfl, .slice none 0 0, by kernel_rfl, TPl.nil _ _⟩
  | 1, _ => exact ⟨by kernel_rfl, by kernel_rfl, .slice none 0 0, by kernel_rfl, TPl.nil _ _⟩
  | 2, _ => exact ⟨by kernel_rfl, by kernel_rfl, .slice none 0 0, by kernel_rfl, TPl.nil _ _⟩

/-- A ROOT UNDER WAY, ahead of a volume. -/
structure Und (n₀ B q lo gO : Nat) (t : Int) (o : Value) (vs : List VolD) (w wr : World) : Prop where
  res : Bx wr lo #[.int .i64 0, .slice none 0 0] 25
  out : Bx wr gO #[.int .i64 t, o] 25
  vol : OV wr lo wr.heap.size o vs
  rd : Rd n₀ B q wr
  gb : w.grownBy wr (some B)
/-- .. within one. -/
structure Mid (n₀ B q lo hi gO gv gr : Nat) (t : Int) (o : Value) (vs : List VolD) (nm : ByteArray) (bs : List PtrD) (w wr : World) : Prop where
  res : Bx wr lo #[.int .i64 0, .slice none 0 0] 25
  out : Bx wr gO #[.int .i64 t, o] 25
  vol : OV wr lo hi o vs
  vb : Bx wr gv #[.string nm, .slice (some ⟨gr, 0, none⟩) 3 3] 51
  row : OR wr lo gr bs
  rd : Rd n₀ B q wr
  gb : w.grownBy wr (some B)
/-- WHERE ALL THAT LIES. -/
structure Wh (B lo hi gO gv gr : Nat) : Prop where
  b : B < lo
  o : lo < gO
  v : gO < hi
  h : hi ≤ gr
  g : hi ≤ gv
  ne : gv ≠ gr
theorem Mid.grow {n₀ B q q' lo hi gO gv gr : Nat} {t : Int} {o : Value} {vs : List VolD} {nm : ByteArray} {bs : List PtrD} {w wr w' : World} (h : Mid n₀ B q lo hi gO gv gr t o vs nm bs w wr) (k : Wh B lo hi gO gv gr) (hg : wr.grownBy w' (some B)) (hR : Rd n₀ B q' w') : Mid n₀ B q' lo hi gO gv gr t o vs nm bs w w' := by
  have kb := k.b
  have ko := k.o
  have kv := k.v
  have kh := k.h
  have kg := k.g
  exact ⟨h.res.kept hg (fun e => by injection e with e; omega), h.out.kept hg (fun e => by injection e with e; omega), h.vol.kept hg (fr_low k.b), h.vb.kept hg (fun e => by injection e with e; omega), h.row.kept (hi := hi) hg (fun e => by injection e with e; omega) (fr_low k.b), hR, h.gb.trans hg⟩
theorem Mid.below {n₀ B q lo hi gO gv gr : Nat} {t : Int} {o : Value} {vs : List VolD} {nm : ByteArray} {bs : List PtrD} {w wr w' : World} (h : Mid n₀ B q lo hi gO gv gr t o vs nm bs w wr) (k : Wh B lo hi gO gv gr) (hB : Below wr.heap.size wr w') : Mid n₀ B q lo hi gO gv gr t o vs nm bs w w' :=
  h.grow k (grown_of hB _) (PtrDrawn.rd h.rd hB)
theorem Mid.store {n₀ B q lo hi gO gv gr : Nat} {t : Int} {o : Value} {vs : List VolD} {nm : ByteArray} {bs : List PtrD} {w wr : World} (h : Mid n₀ B q lo hi gO gv gr t o vs nm bs w wr) (k : Wh B lo hi gO gv gr) (j : Nat) (hj : j < 3) (z s : Int) (u : Value) (ps : List PlD) (hu : TPl wr lo u ps) (hlo : w.heap.size ≤ gr) :
    Mid n₀ B q lo hi gO gv gr t o vs nm (bs.set j ⟨z, s, ps⟩) w (((wr.setCell ⟨gr, j * 3, none⟩ (.int .i64 z)).setCell ⟨gr, j * 3 + 1, none⟩ (.int .i64 s)).setCell ⟨gr, j * 3 + 2, none⟩ u) := by
  have kb := k.b
  have ko := k.o
  have kv := k.v
  have kh := k.h
  have kg := k.g
  have kn := k.ne
  obtain ⟨h1, hg⟩ := h.row.store j hj z s u ps hu
  refine ⟨h.res.kept hg (fun e => by injection e with e; omega), h.out.kept hg (fun e => by injection e with e; omega), h.vol.kept hg (fr_row h.row k.h), h.vb.kept hg (fun e => by injection e with e; omega), h1, h.rd.kept hg (fun i e => by cases e; omega), ?_⟩
  exact h.gb.andThen hg (fun i e => .inl (by cases e; exact hlo))

end Go.Proofs.YtliadobopideaaaGreatDoor

namespace Go.Proofs.YtliadobopideaaaGreatDoor
open Go.RowKit

section
variable {P : Program} {ops : Array Oper} {Q : Exit → Act → World → Prop} {md : Region.Mode}
theorem ready_spec {l : Array Bool} {i : Nat} (h : i ∈ Region.ready md ops l) : i < ops.size ∧ l.getD i true = false ∧ ((ops[i]?).map (·.after.all fun e => !Region.binds md e || l.getD e.on false)).getD false = true := by
  unfold Region.ready at h
  obtain ⟨h1, h2⟩ := List.mem_filter.1 h
  rw [Bool.and_eq_true] at h2
  exact ⟨List.mem_range.1 h1, by simpa using h2.1, h2.2⟩
theorem gd_ne {l : Array Bool} {i j : Nat} (h : i ≠ j) : (l.setIfInBounds i true).getD j false = l.getD j false := by
  simp [Array.getD_eq_getD_getElem?, Array.getElem?_setIfInBounds_ne h]
theorem gd_eq {l : Array Bool} {i : Nat} (h : i < l.size) : (l.setIfInBounds i true).getD i false = true := by
  simp [Array.getD_eq_getD_getElem?, h]
theorem gd_in {l : Array Bool} {i : Nat} (h : l.getD i true = false) : i < l.size ∧ l[i]? = some false := by
  rw [Array.getD_eq_getD_getElem?] at h
  cases hl : l[i]? with
  | none => rw [hl] at h; cases h
  | some b => rw [hl] at h; cases h; exact ⟨(Array.getElem?_eq_some_iff.1 hl).1, rfl⟩
theorem gd_not {l : Array Bool} {i : Nat} (h : l.getD i true = false) : l.getD i false = false := by
  rw [Array.getD_eq_getD_getElem?, (gd_in h).2]; rfl
theorem count_set {l : List Bool} {i : Nat} (h : l[i]? = some false) : (l.set i true).count false + 1 = l.count false := by
  induction l generalizing i with
  | nil => cases h
  | cons b l ih =>
    cases i with
    | zero => cases h; simp
    | succ i =>
      have := ih (i := i) h
      simp only [List.set_cons_succ, List.count_cons]
      omega
theorem gd_up {l : Array Bool} {i j : Nat} (h : l.getD j false = true) : (l.setIfInBounds i true).getD j false = true := by
  by_cases e : i = j
  · subst e
    refine gd_eq ?_
    rw [Array.getD_eq_getD_getElem?] at h
    cases hl : l[i]? with
    | none => rw [hl] at h; cases h
    | some b => exact (Array.getElem?_eq_some_iff.1 hl).1
  · rw [gd_ne e]; exact h
theorem dep_at {l : Array Bool} {i : Nat} {o : Oper} {e : Edge} (j : Nat) (hi : i ∈ Region.ready md ops l) (ho : ops[i]? = some o) (he : o.after[j]? = some e) (hb : Region.binds md e = true) : l.getD e.on false = true := by
  have h := (ready_spec hi).2.2
  rw [ho] at h
  simp only [Option.map_some, Option.getD_some] at h
  rw [Array.all_eq_true_iff_forall_mem] at h
  have := h e (Array.mem_of_getElem? he)
  rw [hb] at this
  simpa using this
/-- ONE INVARIANT over what has been done, whatever the order. -/
theorem wpAny_inv (J : Array Bool → Act → World → Prop) (hdone : ∀ l a w, J l a w → Region.ready md ops l = [] → Q .normal a w)
    (hstep : ∀ l a w i, J l a w → i ∈ Region.ready md ops l → wpOp P ops Q i (J (l.setIfInBounds i true)) a w) :
    ∀ (fuel : Nat) (l : Array Bool) (a : Act) (w : World), l.toList.count false ≤ fuel → J l a w → wpAny P md ops Q fuel l a w := by
  intro fuel
  induction fuel with
  | zero =>
    intro l a w hc hJ
    have hr : Region.ready md ops l = [] := by
      cases h : Region.ready md ops l with
      | nil => rfl
      | cons i rs =>
        exfalso
        have hi := (gd_in (ready_spec (show i ∈ Region.ready md ops l by rw [h]; exact List.mem_cons_self)).2.1).2
        have hm : false ∈ l.toList := List.mem_of_getElem? (by rw [Array.getElem?_toList]; exact hi)
        have := List.count_pos_iff.2 hm
        omega
    exact ⟨hr, hdone l a w hJ hr⟩
  | succ fuel ih =>
    intro l a w hc hJ
    refine ⟨fun hr => hdone l a w hJ hr, fun i hi => ?_⟩
    have hl := (gd_in (ready_spec hi).2.1).2
    refine wpOp_mono (fun a' w' h' => ih _ a' w' ?_ h') (hstep l a w i hJ hi)
    rw [Array.toList_setIfInBounds]
    have := count_set (l := l.toList) (i := i) (by rw [Array.getElem?_toList]; exact hl)
    omega
/-- Edges lead back: where nothing is ready all is done. -/
theorem ready_nil {l : Array Bool} (hb : (List.range ops.size).all (fun j => ((ops[j]?).map (·.after.all fun e => decide (e.on < j))).getD false) = true) (hr : Region.ready md ops l = []) : ∀ j, j < ops.size → l.getD j false = true ∨ l.getD j true = true := by
  intro j
  induction j using Nat.strongRecOn with
  | _ j ih =>
    intro hj
    by_cases h : l.getD j true = true
    · exact .inr h
    · exfalso
      have hf : l.getD j true = false := by simpa using h
      have hb' := List.all_eq_true.1 hb j (List.mem_range.2 hj)
      have hmem : j ∈ Region.ready md ops l := by
        unfold Region.ready
        refine List.mem_filter.2 ⟨List.mem_range.2 hj, ?_⟩
        rw [hf]
        cases ho : ops[j]? with
        | none => rw [ho] at hb'; cases hb'
        | some o =>
          rw [ho] at hb'
          simp only [Option.map_some, Option.getD_some, Bool.not_false, Bool.true_and] at hb' ⊢
          rw [Array.all_eq_true_iff_forall_mem] at hb' ⊢
          intro e he
          have hlt : e.on < j := by simpa using hb' e he
          rcases ih e.on hlt (by omega) with h1 | h1
          · rw [h1]; simp
          · by_cases h2 : e.on < l.size
            · have : l.getD e.on false = true := by
                rw [Array.getD_eq_getD_getElem?] at h1 ⊢
                rw [Array.getElem?_eq_getElem h2] at h1 ⊢
                exact h1
              rw [this]; simp
            · exfalso
              have := (gd_in hf).1
              omega
      rw [hr] at hmem
      cases hmem
end

end Go.Proofs.YtliadobopideaaaGreatDoor
