/- A drawn root: volumes of one's own; only the reader's own block turns. Conditions: the reader's place is small. -/
import Derived.Test.YtliadobopideaaaGreatDoorPSDD
import Derived.Test.YtliadobopideaaaGreatDoorPSV0
import Derived.Deep.RegionHeld3
import Derived.Deep.CutRange
import Derived.Lib.SliceRun
namespace Go.Proofs.YtliadobopideaaaGreatDoor
open Go.RowKit Go.Sort

/-- WHAT l71Root ANSWERS. -/
def RootDrawn (n₀ B p m : Nat) (w : World) (e : Ending) (w' : World) : Prop :=
  ∃ (t : Int) (o : Value) (vs : List VolD) (q : Nat), e = .returned (.agg #[.int .i64 t, o]) ∧ OV w' w.heap.size w'.heap.size o vs ∧ vs.length ≤ 4 ∧ q ≤ p + m ∧ Rd n₀ B q w' ∧ w.grownBy w' (some B)

def six : List ByteArray := [⟨#[97]⟩, ⟨#[98]⟩, ⟨#[99, 100]⟩, ⟨#[120, 121, 122]⟩, ⟨#[113]⟩, ⟨#[122, 122]⟩]
theorem six_short (i : Nat) : (six.getD i ByteArray.empty).size ≤ 3 := by
  match i with
  | 0 => decide
  | 1 => decide
  | 2 => decide
  | 3 => decide
  | 4 => decide
  | 5 => decide
  | n + 6 => simp [six, List.getD]

theorem drew_cell {W : World} {a : Addr} {v : Value} (h : W.cell? a = some v) : W.drew.cell? a = some v := h
theorem set3_cell {W : World} {b g o o1 o2 o3 : Nat} {v : Option Value} {u1 u2 u3 : Value} (h : W.cell? ⟨g, o, none⟩ = v) (hne : g ≠ b) : (((W.setCell ⟨b, o1, none⟩ u1).setCell ⟨b, o2, none⟩ u2).setCell ⟨b, o3, none⟩ u3).cell? ⟨g, o, none⟩ = v := by
  rw [World.cell?_setCell_far _ _ _ _ (fun e => hne e.symm), World.cell?_setCell_far _ _ _ _ (fun e => hne e.symm), World.cell?_setCell_far _ _ _ _ (fun e => hne e.symm)]
  exact h
theorem set2_cell {W : World} {b g o o1 o2 : Nat} {v u1 u2 : Value} (h : W.cell? ⟨g, o, none⟩ = some v) (hne : g ≠ b) : ((W.setCell ⟨b, o1, none⟩ u1).setCell ⟨b, o2, none⟩ u2).cell? ⟨g, o, none⟩ = some v := by
  rw [World.cell?_setCell_far _ _ _ _ (fun e => hne e.symm), World.cell?_setCell_far _ _ _ _ (fun e => hne e.symm)]
  exact h
def zer9 : Array Value := madeCells (Value.agg #[.int .i64 0, .int .i64 0, .slice none 0 0]).cells 9
theorem make3 (W : World) : (Instr.makeSlice 49 (.int .i64 3) (.int .i64 3)).run Tryz.prog W = .ok (.slice (some ⟨W.heap.size, 0, none⟩) 3 3) (W.alloc (.cells zer9 54)) := by
  obtain ⟨i0, hi0, hz0, hz1, hz2⟩ := info_parts infoPt
  have := run_make (P := Tryz.prog) W 49 54 i0 _ Tryz.underlying49 hi0 hz0 .i64 .i64 3 3 (by omega) (by omega) (by rw [hz2]; omega) (by omega)
  rw [hz1] at this
  exact this
theorem own9 (W : World) (lo : Nat) (h : lo ≤ W.heap.size) : (W.alloc (.cells zer9 54)).ownsRow lo 54 3 (.slice (some ⟨W.heap.size, 0, none⟩) 3 3) 3 zer9.toList :=
  ⟨by kernel_rfl, .inr ⟨W.heap.size, 3, zer9, rfl, h, heap_alloc_new W _, by omega, by simp [maxLen], by kernel_rfl, by kernel_rfl⟩⟩

theorem infoVoD : (Tryz.prog.info? 51).map (fun i => (i.zero, i.size, i.bytes)) = some (some (.agg #[.string ByteArray.empty, .slice none 0 0]), 2, 40) := by kernel_rfl
/-- WHAT MAY TURN beside places and pointers. -/
def Fv (w : World) (lo : Nat) (r : Option Nat) : Prop := ∀ b, r = some b → lo ≤ b → ¬IsT w b 83 ∧ ¬IsT w b 54
theorem TPl.keptV {w w' : World} {lo : Nat} {v : Value} {ps : List PlD} {r : Option Nat} (h : TPl w lo v ps) (hg : w.grownBy w' r) (hr : Fv w lo r) : TPl w' lo v ps := by
  obtain ⟨a, cap, e, h1, h2, h3⟩ := h
  refine ⟨a, cap, e, h1, h2, ?_⟩
  rcases h3 with h | ⟨b, off, e, hb, ht, hc⟩
  · exact .inl h
  · have hne : some b ≠ r := fun e => (hr b e.symm hb).1 ht
    exact .inr ⟨b, off, e, hb, ht.kept hg hne, fun j hj => ⟨hg.cell (hc j hj).1 hne, hg.cell (hc j hj).2 hne⟩⟩
theorem TPt.keptV {w w' : World} {lo hi : Nat} {u : Value} {bs : List PtrD} {r : Option Nat} (h : TPt w lo hi u bs) (hg : w.grownBy w' r) (hr : Fv w lo r) : TPt w' lo hi u bs := by
  obtain ⟨a, c, e, h1, h2, h3⟩ := h
  refine ⟨a, c, e, h1, h2, ?_⟩
  rcases h3 with h | ⟨b, e, hb, hb', ht, hc⟩
  · exact .inl h
  · have hne : some b ≠ r := fun e => (hr b e.symm hb).2 ht
    refine .inr ⟨b, e, hb, hb', ht.kept hg hne, fun j hj => ?_⟩
    obtain ⟨q0, q1, v, q2, hv⟩ := hc j hj
    exact ⟨hg.cell q0 hne, hg.cell q1 hne, v, hg.cell q2 hne, hv.keptV hg hr⟩
theorem VoRowT.keptV {w w' : World} {lo hi : Nat} {vs : List VolD} {xs : List Value} {r : Option Nat} (h : VoRowT w lo hi vs xs) (hg : w.grownBy w' r) (hr : Fv w lo r) : VoRowT w' lo hi vs xs := fun j hj => by
  obtain ⟨q0, q1, u, q2, hu, h3⟩ := h j hj
  exact ⟨q0, q1, u, q2, hu.keptV hg hr, h3⟩
theorem fv_root {w : World} {lo g : Nat} {cs : Array Value} (h : Bx w g cs 25) : Fv w lo (some g) := fun b e _ => by
  cases e
  exact ⟨fun k => by have := k.one h.isT; simp at this, fun k => by have := k.one h.isT; simp at this⟩
theorem own_vol {w : World} {lo : Nat} {o : Value} {n : Nat} {xs : List Value} (h : w.ownsRow lo 51 2 o n xs) (b : Nat) (e : o.ownBlock = some b) : IsT w b 51 := by
  rcases h.2 with ⟨rfl, _⟩ | ⟨g, cap, cur, rfl, _, hg, _⟩
  · cases e
  · cases e
    exact ⟨_, hg⟩
theorem fv_vol {w : World} {lo : Nat} {o : Value} {n : Nat} {xs : List Value} (h : w.ownsRow lo 51 2 o n xs) : Fv w lo o.ownBlock := fun b e _ => by
  have ht := own_vol h b e
  exact ⟨fun k => by have := k.one ht; simp at this, fun k => by have := k.one ht; simp at this⟩
theorem bx_vol {w : World} {lo g : Nat} {cs : Array Value} {o : Value} {n : Nat} {xs : List Value} (h : Bx w g cs 25) (k : w.ownsRow lo 51 2 o n xs) : some g ≠ o.ownBlock := fun e => by
  have := (own_vol k g e.symm).one h.isT
  simp at this
/-- A VOLUME MORE. -/
theorem mid_end {n₀ B q lo hi gO gv gr : Nat} {t : Int} {o : Value} {vs : List VolD} {nm : ByteArray} {bs : List PtrD} {w wa w4 : World} {xs : List Value} {g4 cap4 : Nat} (k : Wh B lo hi gO gv gr) (hlo : w.heap.size ≤ lo) (h : Mid n₀ B q lo hi gO gv gr t o vs nm bs w wa) (hx : VoRowT wa lo hi vs xs)
    (ho : wa.ownsRow lo 51 2 o vs.length xs) (hnm : nm.size ≤ 3) (h4 : w4.ownsRow lo 51 2 (.slice (some ⟨g4, 0, none⟩) (vs.length + 1) cap4) (vs.length + 1) (xs ++ [.string nm, .slice (some ⟨gr, 0, none⟩) 3 3])) (hg : wa.grownBy w4 o.ownBlock) :
    (∃ y, w4.cell? ⟨gO, 1, none⟩ = some y) ∧ w4.frozen? ⟨gO, 1, none⟩ = false ∧ Und n₀ B q lo gO t (.slice (some ⟨g4, 0, none⟩) (vs.length + 1) cap4) (vs ++ [⟨nm, bs⟩]) w (w4.setCell ⟨gO, 1, none⟩ (.slice (some ⟨g4, 0, none⟩) (vs.length + 1) cap4)) := by
  have kb := k.b
  have ko := k.o
  have kv := k.v
  have kh := k.h
  have hbO := h.out.kept hg (bx_vol h.out ho)
  have hbR := h.res.kept hg (bx_vol h.res ho)
  have hgs := gset w4 gO 1 (.slice (some ⟨g4, 0, none⟩) (vs.length + 1) cap4)
  have hfr : Fv w4 lo (some gO) := fv_root hbO
  have hxl := ho.1
  have hhi : hi ≤ w4.heap.size := by have := h.vb.lt; have := k.g; have := hg.size; omega
  have hsz : (w4.setCell ⟨gO, 1, none⟩ (.slice (some ⟨g4, 0, none⟩) (vs.length + 1) cap4)).heap.size = w4.heap.size := by simp
  refine ⟨⟨o, hbO.cell 1⟩, hbO.frozen 1, hbR.kept hgs (fun e => by injection e with e; omega), hbO.set 1 _, ⟨xs ++ [.string nm, .slice (some ⟨gr, 0, none⟩) 3 3], ?_, ?_⟩, (h.rd.kept hg (fun i e => by have := (ho.lt i e).1; omega)).kept hgs (fun i e => by cases e; omega), ?_⟩
  · rw [List.length_append]
    exact h4.kept hgs (.inr (fun e => (bx_vol hbO h4) e.symm))
  · intro j hj
    rw [hsz]
    rw [List.length_append, List.length_singleton] at hj
    by_cases e : j < vs.length
    · obtain ⟨q0, q1, u, q2, hu, h3⟩ := hx j e
      rw [getD_append_left _ _ _ _ e, List.getElem?_append_left (by omega), List.getElem?_append_left (by omega)]
      exact ⟨q0, q1, u, q2, ((hu.keptV hg (fv_vol ho)).keptV hgs hfr).wide hhi, h3⟩
    · obtain rfl : j = vs.length := by omega
      rw [getD_append_right _ _ _ _ (Nat.le_refl _), Nat.sub_self, List.getElem?_append_right (by omega), List.getElem?_append_right (by omega), hxl, Nat.sub_self, show vs.length * 2 + 1 - vs.length * 2 = 1 by omega]
      exact ⟨rfl, hnm, _, rfl, (((h.row.typed h.row.isT.lt).keptV hg (fv_vol ho)).keptV hgs hfr).wide hg.size, h.row.1⟩
  · exact (h.gb.andThen hg (fun i e => .inl (by have := (ho.lt i e).1; omega))).andThen hgs (fun i e => .inl (by cases e; omega))
theorem und_end {n₀ B q lo gO : Nat} {t : Int} {o : Value} {vs : List VolD} {w wr : World} (h : Und n₀ B q lo gO t o vs w wr) (hB : B < lo) (hlo : w.heap.size ≤ lo) :
    OV ((wr.setCell ⟨lo, 0, none⟩ (.int .i64 t)).setCell ⟨lo, 1, none⟩ o) lo ((wr.setCell ⟨lo, 0, none⟩ (.int .i64 t)).setCell ⟨lo, 1, none⟩ o).heap.size o vs ∧ Rd n₀ B q ((wr.setCell ⟨lo, 0, none⟩ (.int .i64 t)).setCell ⟨lo, 1, none⟩ o) ∧ w.grownBy ((wr.setCell ⟨lo, 0, none⟩ (.int .i64 t)).setCell ⟨lo, 1, none⟩ o) (some B) := by
  have hg : wr.grownBy ((wr.setCell ⟨lo, 0, none⟩ (.int .i64 t)).setCell ⟨lo, 1, none⟩ o) (some lo) := (gset _ _ _ _).trans (gset _ _ _ _)
  have hsz : ((wr.setCell ⟨lo, 0, none⟩ (.int .i64 t)).setCell ⟨lo, 1, none⟩ o).heap.size = wr.heap.size := by simp
  obtain ⟨xs, ho, hx⟩ := h.vol
  rw [hsz]
  exact ⟨⟨xs, ho.kept hg (.inr (fun e => (bx_vol h.res ho) e.symm)), hx.keptV hg (fv_root h.res)⟩, h.rd.kept hg (fun i e => by cases e; omega), h.gb.andThen hg (fun i e => .inl (by cases e; omega))⟩

/-- One of all pointers, drawn into the row. -/
theorem r24 {n₀ B q q' lo hi gO gv gr : Nat} {t : Int} {o : Value} {vs : List VolD} {nm : ByteArray} {bs : List PtrD} {w wd w10 : World} {ps : List PtrD} {xs : List Value} {g base cA ix m : Nat} (k : Wh B lo hi gO gv gr) (hlo : w.heap.size ≤ gr) (h : Mid n₀ B q lo hi gO gv gr t o vs nm bs w wd)
    (hX : wd.ownsRow base 54 3 (.slice (some ⟨g, 0, none⟩) ps.length cA) ps.length xs) (hb : B < base) (hrow : PtRowG (TPl wd lo) ps xs) (hix : ix < ps.length) (hm : m < 3) (hg : wd.grownBy w10 (some B)) (hR : Rd n₀ B q' w10) :
    ∃ (z sm : Int) (qs : List PlD) (ua : Option Addr) (un uc : Nat) (y0 y1 y2 : Value), xs[ix * 3]? = some (.int .i64 z) ∧ xs[ix * 3 + 1]? = some (.int .i64 sm) ∧ xs[ix * 3 + 2]? = some (.slice ua un uc) ∧ (∀ j, j < ps.length * 3 → w10.cell? ⟨g, j, none⟩ = xs[j]?) ∧
      w10.cell? ⟨gr, m * 3, none⟩ = some y0 ∧ w10.cell? ⟨gr, m * 3 + 1, none⟩ = some y1 ∧ w10.cell? ⟨gr, m * 3 + 2, none⟩ = some y2 ∧ w10.frozen? ⟨gr, m * 3, none⟩ = false ∧ w10.frozen? ⟨gr, m * 3 + 1, none⟩ = false ∧ w10.frozen? ⟨gr, m * 3 + 2, none⟩ = false ∧
      w10.cell? ⟨gv, 1, none⟩ = some (.slice (some ⟨gr, 0, none⟩) 3 3) ∧
      Mid n₀ B q' lo hi gO gv gr t o vs nm (bs.set m ⟨z, sm, qs⟩) w (((w10.setCell ⟨gr, m * 3, none⟩ (.int .i64 z)).setCell ⟨gr, m * 3 + 1, none⟩ (.int .i64 sm)).setCell ⟨gr, m * 3 + 2, none⟩ (.slice ua un uc)) := by
  have hM := h.grow k hg hR
  have hX10 := hX.kept hg (.inr (fun e => by have := (hX.lt B e).1; omega))
  obtain ⟨r0, r1, u, r2, ⟨ua, un, uc, rfl⟩, r4⟩ := hrow.2 ix hix
  obtain ⟨s0, s1, ⟨su, s2, _⟩, f0, f1, f2⟩ := hM.row.cells m hm
  exact ⟨_, _, _, ua, un, uc, _, _, _, r0, r1, r2, fun j hj => (own_cell hX10 j hj).1, s0, s1, s2, f0, f1, f2, hM.vb.cell 1, hM.store k m hm _ _ _ _ (r4.kept (hi := 0) hg (fr_low k.b)) hlo⟩

/-- WHAT THE STATEMENT THAT MAKES A VOLUME LEAVES. -/
def After5 (n₀ B q lo hi gO : Nat) (t : Int) (o : Value) (vs : List VolD) (w : World) (s7 : Value) (wx : World) : Prop :=
  ∃ (gv gr : Nat) (nm : ByteArray), s7 = .pointer (some ⟨gv, 0, none⟩) ∧ nm.size ≤ 3 ∧ Hid (Wh B lo hi gO gv gr ∧ Mid n₀ B (q + 1) lo hi gO gv gr t o vs nm [ptr0, ptr0, ptr0] w wx)
theorem or_new (W : World) (lo : Nat) (h : lo ≤ W.heap.size) : OR (W.alloc (.cells zer9 54)) lo W.heap.size [ptr0, ptr0, ptr0] := OR.new (own9 W lo h)
theorem or_al {W : World} {lo g : Nat} {bs : List PtrD} (h : OR W lo g bs) (o : Obj) : OR (W.alloc o) lo g bs := h.kept (hi := 0) (World.grownBy_alloc W o none) (by simp) fr_none
theorem fin0 {n₀ B q lo gO gv gr : Nat} {t : Int} {o : Value} {vs : List VolD} {w wr wx : World} {nm : ByteArray} (hU : Und n₀ B q lo gO t o vs w wr) (hB : B < lo) (hO : lo < gO) (hnm : nm.size ≤ 3) (hg : wr.grownBy wx (some B)) (hR : Rd n₀ B (q + 1) wx) (hZ : OR wx lo gr [ptr0, ptr0, ptr0]) (hV : Bx wx gv #[.string nm, .slice (some ⟨gr, 0, none⟩) 3 3] 51) (h1 : wr.heap.size ≤ gr) (h2 : wr.heap.size ≤ gv) :
    After5 n₀ B q lo wr.heap.size gO t o vs w (.pointer (some ⟨gv, 0, none⟩)) wx := by
  have hOl := hU.out.lt
  refine ⟨gv, gr, nm, rfl, hnm, ⟨hB, hO, hOl, h1, h2, fun e => ?_⟩, ⟨hU.res.kept hg (fun e => by injection e with e; omega), hU.out.kept hg (fun e => by injection e with e; omega), hU.vol.kept hg (fr_low hB), hV, hZ, hR, hU.gb.trans hg⟩⟩
  have hT := hZ.isT
  rw [← e] at hT
  have := hT.one hV.isT
  simp at this

def sixC : Array Value := #[.string ⟨#[97]⟩, .string ⟨#[98]⟩, .string ⟨#[99, 100]⟩, .string ⟨#[120, 121, 122]⟩, .string ⟨#[113]⟩, .string ⟨#[122, 122]⟩]
theorem six_cell {W : World} {g : Nat} (h : Bx W g sixC 9) (j : Nat) (hj : j < six.length) : W.cell? ⟨g, j, none⟩ = some (.string (six.getD j ByteArray.empty)) := by
  rw [h.cell]
  match j, hj with
  | 0, _ => rfl
  | 1, _ => rfl
  | 2, _ => rfl
  | 3, _ => rfl
  | 4, _ => rfl
  | 5, _ => rfl
/-- WHAT HAS BEEN DONE of a volume that is made. -/
structure MakeL (n₀ B q lo : Nat) (wr : World) (l : Array Bool) (u7 u24 u25 u26 u27 u28 : Value) (wx : World) : Prop where
  gb : wr.grownBy wx (some B)
  f0 : l.getD 0 false = true → u24 = .pointer (some ⟨B, 0, none⟩)
  f1 : l.getD 1 false = true → ∃ g, u25 = .slice (some ⟨g, 0, none⟩) 6 6 ∧ wr.heap.size ≤ g ∧ Bx wx g sixC 9
  n2 : l.getD 2 false = false → Rd n₀ B q wx
  f2 : l.getD 2 false = true → Rd n₀ B (q + 1) wx ∧ ∃ nm, u26 = .string nm ∧ nm.size ≤ 3
  f3 : l.getD 3 false = true → ∃ gr, u27 = .slice (some ⟨gr, 0, none⟩) 3 3 ∧ wr.heap.size ≤ gr ∧ OR wx lo gr [ptr0, ptr0, ptr0]
  f4 : l.getD 4 false = true → l.getD 2 false = true ∧ l.getD 3 false = true ∧ u28 = .agg #[u26, u27]
  f5 : l.getD 5 false = true → ∃ gv c0 c1, u7 = .pointer (some ⟨gv, 0, none⟩) ∧ wr.heap.size ≤ gv ∧ Bx wx gv #[c0, c1] 51 ∧ (l.getD 6 false = true → c0 = u26 ∧ c1 = u27)
  f6 : l.getD 6 false = true → l.getD 4 false = true ∧ l.getD 5 false = true
def MakeJ (mk : Value → Value → Value → Value → Value → Value → Act) (n₀ B q lo : Nat) (wr : World) (l : Array Bool) (a : Act) (wx : World) : Prop :=
  l.size = 7 ∧ ∃ u7 u24 u25 u26 u27 u28, a = mk u7 u24 u25 u26 u27 u28 ∧ MakeL n₀ B q lo wr l u7 u24 u25 u26 u27 u28 wx
section
variable {n₀ B q lo : Nat} {wr wx wy : World} {l : Array Bool} {u7 u24 u25 u26 u27 u28 : Value}
theorem dn {l : Array Bool} {i j : Nat} (hij : i ≠ j) (h : (l.setIfInBounds i true).getD j false = true) : l.getD j false = true := (gd_ne hij).symm.trans h
theorem dnf {l : Array Bool} {i j : Nat} (hij : i ≠ j) (h : (l.setIfInBounds i true).getD j false = false) : l.getD j false = false := (gd_ne hij).symm.trans h
/-- An operation that only makes memory. -/
theorem MakeL.grow {r : Option Nat} (h : MakeL n₀ B q lo wr l u7 u24 u25 u26 u27 u28 wx) (hg : wx.grownBy wy r) (hr : r = none) : MakeL n₀ B q lo wr l u7 u24 u25 u26 u27 u28 wy := by
  subst hr
  exact ⟨h.gb.andThen hg (fun i e => by cases e), h.f0, fun k => by obtain ⟨g, e, hl, hb⟩ := h.f1 k; exact ⟨g, e, hl, hb.kept hg (by simp)⟩,
    fun k => (h.n2 k).kept hg (fun i e => by cases e), fun k => ⟨(h.f2 k).1.kept hg (fun i e => by cases e), (h.f2 k).2⟩,
    fun k => by obtain ⟨g, e, hl, hb⟩ := h.f3 k; exact ⟨g, e, hl, hb.kept (hi := 0) hg (by simp) fr_none⟩, h.f4,
    fun k => by obtain ⟨g, c0, c1, e, hl, hb, h6⟩ := h.f5 k; exact ⟨g, c0, c1, e, hl, hb.kept hg (by simp), h6⟩, h.f6⟩
theorem MakeL.op0 (h : MakeL n₀ B q lo wr l u7 u24 u25 u26 u27 u28 wx) : MakeL n₀ B q lo wr (l.setIfInBounds 0 true) u7 (.pointer (some ⟨B, 0, none⟩)) u25 u26 u27 u28 wx :=
  ⟨h.gb, fun _ => rfl, fun k => h.f1 (dn (by decide) k), fun k => h.n2 (dnf (by decide) k), fun k => h.f2 (dn (by decide) k), fun k => h.f3 (dn (by decide) k), fun k => have x := h.f4 (dn (by decide) k); ⟨gd_up x.1, gd_up x.2.1, x.2.2⟩,
    fun k => by obtain ⟨g, c0, c1, e, hl, hb, h6⟩ := h.f5 (dn (by decide) k); exact ⟨g, c0, c1, e, hl, hb, fun k => h6 (dn (by decide) k)⟩, fun k => have x := h.f6 (dn (by decide) k); ⟨gd_up x.1, gd_up x.2⟩⟩
theorem MakeL.op1 {g : Nat} (h : MakeL n₀ B q lo wr l u7 u24 u25 u26 u27 u28 wx) (hg : wr.heap.size ≤ g) (hb : Bx wx g sixC 9) : MakeL n₀ B q lo wr (l.setIfInBounds 1 true) u7 u24 (.slice (some ⟨g, 0, none⟩) 6 6) u26 u27 u28 wx :=
  ⟨h.gb, fun k => h.f0 (dn (by decide) k), fun _ => ⟨g, rfl, hg, hb⟩, fun k => h.n2 (dnf (by decide) k), fun k => h.f2 (dn (by decide) k), fun k => h.f3 (dn (by decide) k), fun k => have x := h.f4 (dn (by decide) k); ⟨gd_up x.1, gd_up x.2.1, x.2.2⟩,
    fun k => by obtain ⟨g, c0, c1, e, hl, hb, h6⟩ := h.f5 (dn (by decide) k); exact ⟨g, c0, c1, e, hl, hb, fun k => h6 (dn (by decide) k)⟩, fun k => have x := h.f6 (dn (by decide) k); ⟨gd_up x.1, gd_up x.2⟩⟩
theorem MakeL.op2 {nm : ByteArray} (h : MakeL n₀ B q lo wr l u7 u24 u25 u26 u27 u28 wx) (hB : B < lo) (hlo : lo ≤ wr.heap.size) (hn : l.getD 2 false = false) (hsz : l.size = 7) (hg : wx.grownBy wy (some B)) (hR : Rd n₀ B (q + 1) wy) (hnm : nm.size ≤ 3) : MakeL n₀ B q lo wr (l.setIfInBounds 2 true) u7 u24 u25 (.string nm) u27 u28 wy :=
  ⟨h.gb.trans hg, fun k => h.f0 (dn (by decide) k), fun k => by obtain ⟨g, e, hl, hb⟩ := h.f1 (dn (by decide) k); exact ⟨g, e, hl, hb.kept hg (fun e => by injection e with e; omega)⟩,
    fun k => (by rw [gd_eq (by omega)] at k; cases k), fun _ => ⟨hR, nm, rfl, hnm⟩,
    fun k => by obtain ⟨g, e, hl, hb⟩ := h.f3 (dn (by decide) k); exact ⟨g, e, hl, hb.kept (hi := 0) hg (fun e => by injection e with e; omega) (fr_low hB)⟩, fun k => (by have x := (h.f4 (dn (by decide) k)).1; rw [hn] at x; cases x),
    fun k => by obtain ⟨g, c0, c1, e, hl, hb, h6⟩ := h.f5 (dn (by decide) k); exact ⟨g, c0, c1, e, hl, hb.kept hg (fun e => by injection e with e; omega), fun k => by have x := (h.f4 (h.f6 (dn (by decide) k)).1).1; rw [hn] at x; cases x⟩, fun k => have x := h.f6 (dn (by decide) k); ⟨gd_up x.1, gd_up x.2⟩⟩
theorem MakeL.op3 {g : Nat} (h : MakeL n₀ B q lo wr l u7 u24 u25 u26 u27 u28 wx) (hn : l.getD 3 false = false) (hg : wr.heap.size ≤ g) (hb : OR wx lo g [ptr0, ptr0, ptr0]) : MakeL n₀ B q lo wr (l.setIfInBounds 3 true) u7 u24 u25 u26 (.slice (some ⟨g, 0, none⟩) 3 3) u28 wx :=
  ⟨h.gb, fun k => h.f0 (dn (by decide) k), fun k => h.f1 (dn (by decide) k), fun k => h.n2 (dnf (by decide) k), fun k => h.f2 (dn (by decide) k), fun _ => ⟨g, rfl, hg, hb⟩, fun k => (by have x := (h.f4 (dn (by decide) k)).2.1; rw [hn] at x; cases x),
    fun k => by obtain ⟨g, c0, c1, e, hl, hb, h6⟩ := h.f5 (dn (by decide) k); exact ⟨g, c0, c1, e, hl, hb, fun k => by have x := (h.f4 (h.f6 (dn (by decide) k)).1).2.1; rw [hn] at x; cases x⟩, fun k => have x := h.f6 (dn (by decide) k); ⟨gd_up x.1, gd_up x.2⟩⟩
theorem MakeL.op4 (h : MakeL n₀ B q lo wr l u7 u24 u25 u26 u27 u28 wx) (h2 : l.getD 2 false = true) (h3 : l.getD 3 false = true) : MakeL n₀ B q lo wr (l.setIfInBounds 4 true) u7 u24 u25 u26 u27 (.agg #[u26, u27]) wx :=
  ⟨h.gb, fun k => h.f0 (dn (by decide) k), fun k => h.f1 (dn (by decide) k), fun k => h.n2 (dnf (by decide) k), fun k => h.f2 (dn (by decide) k), fun k => h.f3 (dn (by decide) k), fun _ => ⟨gd_up h2, gd_up h3, rfl⟩,
    fun k => by obtain ⟨g, c0, c1, e, hl, hb, h6⟩ := h.f5 (dn (by decide) k); exact ⟨g, c0, c1, e, hl, hb, fun k => h6 (dn (by decide) k)⟩, fun k => have x := h.f6 (dn (by decide) k); ⟨gd_up x.1, gd_up x.2⟩⟩
theorem MakeL.op5 {g : Nat} {c0 c1 : Value} (h : MakeL n₀ B q lo wr l u7 u24 u25 u26 u27 u28 wx) (hn : l.getD 5 false = false) (hg : wr.heap.size ≤ g) (hb : Bx wx g #[c0, c1] 51) : MakeL n₀ B q lo wr (l.setIfInBounds 5 true) (.pointer (some ⟨g, 0, none⟩)) u24 u25 u26 u27 u28 wx :=
  ⟨h.gb, fun k => h.f0 (dn (by decide) k), fun k => h.f1 (dn (by decide) k), fun k => h.n2 (dnf (by decide) k), fun k => h.f2 (dn (by decide) k), fun k => h.f3 (dn (by decide) k), fun k => have x := h.f4 (dn (by decide) k); ⟨gd_up x.1, gd_up x.2.1, x.2.2⟩,
    fun _ => ⟨g, c0, c1, rfl, hg, hb, fun k => by have x := (h.f6 (dn (by decide) k)).2; rw [hn] at x; cases x⟩, fun k => have x := h.f6 (dn (by decide) k); ⟨gd_up x.1, gd_up x.2⟩⟩
theorem MakeL.op6 {g : Nat} (h : MakeL n₀ B q lo wr l (.pointer (some ⟨g, 0, none⟩)) u24 u25 u26 u27 u28 wx) (hB : B < lo) (hlo : lo ≤ wr.heap.size) (h2 : l.getD 2 false = true) (h4 : l.getD 4 false = true) (h5 : l.getD 5 false = true) : MakeL n₀ B q lo wr (l.setIfInBounds 6 true) (.pointer (some ⟨g, 0, none⟩)) u24 u25 u26 u27 u28 ((wx.setCell ⟨g, 0, none⟩ u26).setCell ⟨g, 1, none⟩ u27) := by
  obtain ⟨g', c0, c1, e, hl, hb, _⟩ := h.f5 h5
  obtain rfl : g' = g := by injection e with e; injection e with e; injection e with e; exact e.symm
  have hgs : wx.grownBy ((wx.setCell ⟨g', 0, none⟩ u26).setCell ⟨g', 1, none⟩ u27) (some g') := (gset _ _ _ _).trans (gset _ _ _ _)
  refine ⟨h.gb.andThen hgs (fun i e => .inl (by cases e; omega)), fun k => h.f0 (dn (by decide) k), fun k => ?_, fun k => ?_, fun k => ?_, fun k => ?_, fun k => have x := h.f4 (dn (by decide) k); ⟨gd_up x.1, gd_up x.2.1, x.2.2⟩, fun _ => ⟨g', u26, u27, rfl, hl, (hb.set 0 _).set 1 _, fun _ => ⟨rfl, rfl⟩⟩, fun _ => ⟨gd_up h4, gd_up h5⟩⟩
  · obtain ⟨y, e, hy, hs⟩ := h.f1 (dn (by decide) k)
    exact ⟨y, e, hy, hs.kept hgs (fun e => by injection e with e; subst e; have := hs.isT.one hb.isT; simp at this)⟩
  · rw [gd_up h2] at k; cases k
  · exact ⟨(h.f2 h2).1.kept hgs (fun i e => by cases e; omega), (h.f2 h2).2⟩
  · obtain ⟨y, e, hy, h3, ys, ho, hx⟩ := h.f3 (dn (by decide) k)
    have hT := IsT.of_own ho
    refine ⟨y, e, hy, h3, ys, ho.kept hgs (.inr (fun e => ?_)), fun j hj => ?_⟩
    · have : y = g' := by simpa [Value.ownBlock] using e
      subst this
      have := hT.one hb.isT
      simp at this
    · obtain ⟨q0, q1, u, q2, hu⟩ := hx j hj
      exact ⟨q0, q1, u, q2, hu.keptV hgs (fun b e _ => by cases e; exact ⟨fun k => by have := k.one hb.isT; simp at this, fun k => by have := k.one hb.isT; simp at this⟩)⟩
end



set_option maxRecDepth 100000 in
set_option maxHeartbeats 8000000 in
theorem l71Root_any (n₀ B p : Nat) (n : Int) (w : World) (hp : p ≤ 600000) (hn : Pool n) (hR : Rd n₀ B p w) :
    Calls Tryz.prog 39 #[.pointer (some ⟨B, 0, none⟩), .int .i64 n] w (RootDrawn n₀ B p 900 w) := by
  have Hn := Lib.hid hn
  have hBlt := hR.lt
  have HR0 := Lib.hid (hR.alloc (.cells #[.int .i64 0, .slice none 0 0] 25))
  clear hn hR
  go_enter Tryz.func39, Tryz.ntmps39
  go_wp2_with fail
  refine (pick_any n₀ B p 9 _ (by omega) HR0.out).mono ?_
  rintro e w1 ⟨t, rfl, _, _, hR1, hg1⟩
  have hz1 : w.heap.size + 1 ≤ w1.heap.size := by have := hg1.size; simp at this; omega
  have hbx1 : Bx w1 w.heap.size #[.int .i64 0, .slice none 0 0] 25 := (Bx.new w _ _).kept hg1 (fun e => by injection e with e; omega)
  have hgw1 : w.grownBy w1 (some B) := (World.grownBy_alloc w _ _).trans hg1
  have hBa : Below w1.heap.size w1 ((w1.alloc (.cells #[] 51)).alloc (.cells #[.int .i64 t, .slice (some ⟨w1.heap.size, 0, none⟩) 0 0] 25)) := ((Below.refl _ _).alloc (Nat.le_refl _) _).alloc (by simp) _
  have hown : ((w1.alloc (.cells #[] 51)).alloc (.cells #[.int .i64 t, .slice (some ⟨w1.heap.size, 0, none⟩) 0 0] 25)).ownsRow w.heap.size 51 2 (.slice (some ⟨w1.heap.size, 0, none⟩) 0 0) 0 [] := own_below (own_mono (World.ownsRow_made (e := 51) (size := 2) w1 #[] 0 (Nat.le_refl _) (by simp [maxLen]) (by simp)) (by omega)) ((Below.refl _ _).alloc (Nat.le_refl _) _)
  have hbxO : Bx ((w1.alloc (.cells #[] 51)).alloc (.cells #[.int .i64 t, .slice (some ⟨w1.heap.size, 0, none⟩) 0 0] 25)) (w1.heap.size + 1) #[.int .i64 t, .slice (some ⟨w1.heap.size, 0, none⟩) 0 0] 25 := by
    have := Bx.new (w1.alloc (.cells #[] 51)) #[.int .i64 t, .slice (some ⟨w1.heap.size, 0, none⟩) 0 0] 25
    simp only [World.size_alloc] at this
    exact this
  have HU0 : Hid (Und n₀ B (p + 1) w.heap.size (w1.heap.size + 1) t (.slice (some ⟨w1.heap.size, 0, none⟩) 0 0) [] w ((w1.alloc (.cells #[] 51)).alloc (.cells #[.int .i64 t, .slice (some ⟨w1.heap.size, 0, none⟩) 0 0] 25))) :=
    ⟨hbx1.kept (grown_of hBa none) (by simp), hbxO, ⟨[], hown, fun j hj => by simp at hj⟩, PtrDrawn.rd hR1 hBa, hgw1.trans (grown_of hBa _)⟩
  have HR1 := Lib.hid (PtrDrawn.rd hR1 hBa)
  clear hR1 hg1 hbx1 hgw1 hBa hown hbxO
  go_wp2_with fail
  generalize hgO : w1.heap.size + 1 = gO at HU0 ⊢
  have hgO1 : w.heap.size + 2 ≤ gO := by omega
  refine (pick_any n₀ B (p + 1) 5 _ (by omega) HR1.out).mono ?_
  rintro e w2 ⟨i0, rfl, hi0, hi5, hR2, hg2⟩
  have hi4 := hi5 (by omega)
  obtain ⟨i0, rfl⟩ := Int.eq_ofNat_of_zero_le hi0
  have HU2 : Hid (Und n₀ B (p + 2) w.heap.size gO t (.slice (some ⟨w1.heap.size, 0, none⟩) 0 0) [] w w2) :=
    ⟨HU0.out.res.kept hg2 (fun e => by injection e with e; omega), HU0.out.out.kept hg2 (fun e => by injection e with e; omega), (HU0.out.vol.kept hg2 (fr_low hBlt)).wide hg2.size, hR2, HU0.out.gb.trans hg2⟩
  clear hi5 hR2 hg2 HU0 HR1 hi0
  generalize (Value.slice (some ⟨w1.heap.size, 0, none⟩) 0 0) = o0 at HU2
  clear hgO
  go_wp2_with fail
  go_loopw [6] (fun s6 wr => ∃ (i q : Nat) (o : Value) (vs : List VolD), s6 = .int .i64 (i : Int) ∧ vs.length + i ≤ 4 ∧ q + i * 200 ≤ p + 802 ∧ Hid (Und n₀ B q w.heap.size gO t o vs w wr)) (fun s6 _ => (intOf s6).toNat)
  case atStart => exact ⟨i0, p + 2, o0, [], rfl, by simp; omega, by omega, HU2⟩
  case round =>
    obtain ⟨i, q, o, vs, rfl, hvi, hqi, hU⟩ := hrel
    by_cases hlt : 0 < i
    · have hO := hU.out.out.lt
      have HRd := Lib.hid hU.out.rd.drew
      have hBr : B < wr.heap.size := hU.out.rd.lt
      have kz : wr.cell? ⟨gO, 0, none⟩ = some (.int .i64 t) := hU.out.out.cell 0
      go_upto_region 5 with (fail)
      go_cut [7] from 20 to 108 (fun s7 wx => After5 n₀ B q w.heap.size wr.heap.size gO t o vs w s7 wx)
      case first =>
        have hmk := make3
        have HRw := Lib.hid hU.out.rd
        have nB0 : ¬wr.heap.size = B := by omega
        have nB1 : ¬wr.heap.size + 1 = B := by omega
        have nB2 : ¬wr.heap.size + 1 + 1 = B := by omega
        have hlow : w.heap.size ≤ wr.heap.size := hU.out.gb.size
        have hO' : w.heap.size < gO := by omega
        refine wp_region_any (by kernel_rfl) ?_
        refine wpAny_inv (MakeJ (fun v7 v24 v25 v26 v27 v28 => { tmps := #[.pointer (some ⟨B, 0, none⟩), .int .i64 n, undef, undef, .pointer (some ⟨w.heap.size, 0, none⟩), .pointer (some ⟨gO, 0, none⟩), .int .i64 (i : Int), v7, u8, u9, u10, u11, u12, u13, .pointer (some ⟨B, 0, none⟩), .int .i64 t, o0, .agg #[.int .i64 t, o0], .pointer (some ⟨B, 0, none⟩), .int .i64 (i0 : Int), .int .i64 (i : Int), .bool true, u22, u23, v24, v25, v26, v27, v28, u29, u30, u31, u32, u33, u34, u35, u36, u37, u38, u39, u40, u41, u42, u43, u44, u45, u46, u47, u48, u49, u50, u51, u52, u53, u54, u55, u56, u57, u58, u59, u60, u61, u62, u63, u64, u65, u66, u67, u68, u69, u70, u71, u72, u73, u74, u75, u76, u77, u78, u79, u80, u81, u82, u83, u84, u85, u86, u87, u88, u89, u90, u91, u92, u93, u94, u95, u96, u97, u98, u99, u100, u101, u102, u103, u104, u105, u106, u107, u108, undef], defers := [] }) n₀ B q w.heap.size wr) ?_ ?_ _ _ _ _ (by decide) ?_
        · intro l a wx hJ hr
          obtain ⟨hsz, v7, v24, v25, v26, v27, v28, rfl, hL⟩ := hJ
          have h6 : l.getD 6 false = true := by
            rcases ready_nil (by kernel_rfl) hr 6 (by decide) with h | h
            · exact h
            · rw [Array.getD_eq_getD_getElem?, Array.getElem?_eq_getElem (by omega)] at h ⊢
              exact h
          obtain ⟨h4, h5⟩ := hL.f6 h6
          obtain ⟨h2, h3, rfl⟩ := hL.f4 h4
          obtain ⟨hR, nm, rfl, hnm⟩ := hL.f2 h2
          obtain ⟨gr, rfl, hgr, hZ⟩ := hL.f3 h3
          obtain ⟨gv, c0, c1, rfl, hgv, hV, hc⟩ := hL.f5 h5
          obtain ⟨rfl, rfl⟩ := hc h6
          have hfin := fin0 hU.out hBlt hO' hnm hL.gb hR hZ hV hgr hgv
          try dsimp only
          go_wp2
          go_meet
          exact hfin
        · intro l a wx i' hJ hi
          obtain ⟨hlt', hnl, _⟩ := ready_spec hi
          obtain ⟨hsz, v7, v24, v25, v26, v27, v28, rfl, hL⟩ := hJ
          have hnl' := gd_not hnl
          have hgbs := hL.gb.size
          have hi7 : i' = 0 ∨ i' = 1 ∨ i' = 2 ∨ i' = 3 ∨ i' = 4 ∨ i' = 5 ∨ i' = 6 := by have : i' < 7 := hlt'; omega
          rcases hi7 with rfl | rfl | rfl | rfl | rfl | rfl | rfl
          · refine wpOp_step (show _ = some _ from rfl) ?_
            intro K' hK'
            go_simp
            exact hK' _ _ ⟨by simpa using hsz, v7, _, v25, v26, v27, v28, rfl, hL.op0⟩
          · refine wpOp_step (show _ = some _ from rfl) ?_
            intro K' hK'
            go_simp
            exact hK' _ _ ⟨by simpa using hsz, v7, v24, _, v26, v27, v28, rfl, (hL.grow (World.grownBy_alloc wx (.cells sixC 9) none) rfl).op1 hgbs (Bx.new wx _ _)⟩
          · have d0 : l.getD 0 false = true := by first | exact dep_at 0 hi (show _ = some _ from rfl) rfl rfl | exact dep_at 1 hi (show _ = some _ from rfl) rfl rfl | exact dep_at 2 hi (show _ = some _ from rfl) rfl rfl | exact dep_at 3 hi (show _ = some _ from rfl) rfl rfl | exact dep_at 4 hi (show _ = some _ from rfl) rfl rfl | exact dep_at 5 hi (show _ = some _ from rfl) rfl rfl | exact dep_at 6 hi (show _ = some _ from rfl) rfl rfl | exact dep_at 7 hi (show _ = some _ from rfl) rfl rfl | exact dep_at 8 hi (show _ = some _ from rfl) rfl rfl
            have d1 : l.getD 1 false = true := by first | exact dep_at 0 hi (show _ = some _ from rfl) rfl rfl | exact dep_at 1 hi (show _ = some _ from rfl) rfl rfl | exact dep_at 2 hi (show _ = some _ from rfl) rfl rfl | exact dep_at 3 hi (show _ = some _ from rfl) rfl rfl | exact dep_at 4 hi (show _ = some _ from rfl) rfl rfl | exact dep_at 5 hi (show _ = some _ from rfl) rfl rfl | exact dep_at 6 hi (show _ = some _ from rfl) rfl rfl | exact dep_at 7 hi (show _ = some _ from rfl) rfl rfl | exact dep_at 8 hi (show _ = some _ from rfl) rfl rfl
            obtain rfl := hL.f0 d0
            obtain ⟨g, rfl, hg1, hgS⟩ := hL.f1 d1
            refine wpOp_step (show _ = some _ from rfl) ?_
            intro K' hK'
            go_simp
            refine (of_any n₀ B q g 6 six wx (by omega) (hL.n2 hnl') (by decide) (by decide) (by omega) (Lib.hid (six_cell hgS))).mono ?_
            rintro e w3 ⟨ix, hix, rfl, hR3, hg3⟩
            exact hK' _ _ ⟨by simpa using hsz, v7, _, _, _, v27, v28, rfl, hL.op2 hBlt hlow hnl' hsz hg3 hR3 (six_short ix)⟩
          · refine wpOp_step (show _ = some _ from rfl) ?_
            intro K' hK'
            go_simp
            exact hK' _ _ ⟨by simpa using hsz, v7, v24, v25, v26, _, v28, rfl, (hL.grow (World.grownBy_alloc wx (.cells zer9 54) none) rfl).op3 hnl' hgbs (or_new wx _ (by omega))⟩
          · have d2 : l.getD 2 false = true := by first | exact dep_at 0 hi (show _ = some _ from rfl) rfl rfl | exact dep_at 1 hi (show _ = some _ from rfl) rfl rfl | exact dep_at 2 hi (show _ = some _ from rfl) rfl rfl | exact dep_at 3 hi (show _ = some _ from rfl) rfl rfl | exact dep_at 4 hi (show _ = some _ from rfl) rfl rfl | exact dep_at 5 hi (show _ = some _ from rfl) rfl rfl | exact dep_at 6 hi (show _ = some _ from rfl) rfl rfl | exact dep_at 7 hi (show _ = some _ from rfl) rfl rfl | exact dep_at 8 hi (show _ = some _ from rfl) rfl rfl
            have d3 : l.getD 3 false = true := by first | exact dep_at 0 hi (show _ = some _ from rfl) rfl rfl | exact dep_at 1 hi (show _ = some _ from rfl) rfl rfl | exact dep_at 2 hi (show _ = some _ from rfl) rfl rfl | exact dep_at 3 hi (show _ = some _ from rfl) rfl rfl | exact dep_at 4 hi (show _ = some _ from rfl) rfl rfl | exact dep_at 5 hi (show _ = some _ from rfl) rfl rfl | exact dep_at 6 hi (show _ = some _ from rfl) rfl rfl | exact dep_at 7 hi (show _ = some _ from rfl) rfl rfl | exact dep_at 8 hi (show _ = some _ from rfl) rfl rfl
            obtain ⟨_, nm, rfl, _⟩ := hL.f2 d2
            obtain ⟨gr, rfl, _, _⟩ := hL.f3 d3
            refine wpOp_step (show _ = some _ from rfl) ?_
            intro K' hK'
            go_simp
            exact hK' _ _ ⟨by simpa using hsz, v7, v24, v25, _, _, _, rfl, hL.op4 d2 d3⟩
          · refine wpOp_step (show _ = some _ from rfl) ?_
            intro K' hK'
            go_simp
            exact hK' _ _ ⟨by simpa using hsz, _, v24, v25, v26, v27, v28, rfl, (hL.grow (World.grownBy_alloc wx (.cells #[.string ByteArray.empty, .slice none 0 0] 51) none) rfl).op5 hnl' hgbs (Bx.new wx _ _)⟩
          · have d4 : l.getD 4 false = true := by first | exact dep_at 0 hi (show _ = some _ from rfl) rfl rfl | exact dep_at 1 hi (show _ = some _ from rfl) rfl rfl | exact dep_at 2 hi (show _ = some _ from rfl) rfl rfl | exact dep_at 3 hi (show _ = some _ from rfl) rfl rfl | exact dep_at 4 hi (show _ = some _ from rfl) rfl rfl | exact dep_at 5 hi (show _ = some _ from rfl) rfl rfl | exact dep_at 6 hi (show _ = some _ from rfl) rfl rfl | exact dep_at 7 hi (show _ = some _ from rfl) rfl rfl | exact dep_at 8 hi (show _ = some _ from rfl) rfl rfl
            have d5 : l.getD 5 false = true := by first | exact dep_at 0 hi (show _ = some _ from rfl) rfl rfl | exact dep_at 1 hi (show _ = some _ from rfl) rfl rfl | exact dep_at 2 hi (show _ = some _ from rfl) rfl rfl | exact dep_at 3 hi (show _ = some _ from rfl) rfl rfl | exact dep_at 4 hi (show _ = some _ from rfl) rfl rfl | exact dep_at 5 hi (show _ = some _ from rfl) rfl rfl | exact dep_at 6 hi (show _ = some _ from rfl) rfl rfl | exact dep_at 7 hi (show _ = some _ from rfl) rfl rfl | exact dep_at 8 hi (show _ = some _ from rfl) rfl rfl
            obtain ⟨d2, d3, rfl⟩ := hL.f4 d4
            obtain ⟨_, nm, rfl, _⟩ := hL.f2 d2
            obtain ⟨gr, rfl, _, _⟩ := hL.f3 d3
            obtain ⟨gv, c0, c1, rfl, hgv, hV, _⟩ := hL.f5 d5
            have y0 : wx.cell? ⟨gv, 0, none⟩ = some c0 := hV.cell 0
            have y1 : wx.cell? ⟨gv, 1, none⟩ = some c1 := hV.cell 1
            have z0 := hV.frozen 0
            have z1 := hV.frozen 1
            have h6 := hL.op6 hBlt hlow d2 d4 d5
            refine wpOp_step (show _ = some _ from rfl) ?_
            intro K' hK'
            go_simp
            exact hK' _ _ ⟨by simpa using hsz, _, v24, v25, _, _, _, rfl, h6⟩
        · have hz : ∀ j, (Array.replicate 7 false).getD j false = false := fun j => by
            rw [Array.getD_eq_getD_getElem?, Array.getElem?_replicate]; split <;> rfl
          have no : ∀ j {p : Prop}, (Array.replicate 7 false).getD j false = true → p := fun j p h => absurd ((hz j).symm.trans h) (by decide)
          exact ⟨by simp, _, _, _, _, _, _, rfl, ⟨grown_of (Below.refl _ _).drew _, no 0, no 1, fun _ => HRd.out, no 2, no 3, no 4, no 5, no 6⟩⟩
      case rest =>
        obtain ⟨wI, eW⟩ : ∃ x, x = wc := ⟨_, rfl⟩
        subst eW
        obtain ⟨gv, gr, nm, rfl, hnm, hM0⟩ := hcut
        generalize wr.heap.size = hi at hM0
        have hW := hM0.out.1
        have HW := Lib.hid hW
        have hwb := hW.b
        have hwo := hW.o
        have hwv := hW.v
        have hwh := hW.h
        have hwg := hW.g
        have HM := Lib.hid hM0.out.2
        clear hM0 hW kz HRd
        obtain ⟨ao, co, rfl, hco1, hco2⟩ := HM.out.vol.slice
        have k0 := HM.out.out.cell 0
        have k1 := HM.out.out.cell 1
        have k2 := HM.out.vb.cell 0
        simp only [List.getElem?_toArray, List.getElem?_cons_zero, List.getElem?_cons_succ] at k0 k1 k2
        have hv4 : vs.length ≤ 4 := by omega
        have HF := Lib.hid (l13Find_any t ao co vs nm wI (by unfold maxLen; omega) (by obtain ⟨a', c', e', _, _, h'⟩ := HM.out.vol.reads; cases e'; exact h'))
        go_wp2_with fail
        refine HF.out.mono ?_
        rintro e w4 ⟨⟨z, rfl, hz⟩, hB4⟩
        have HM4 := Lib.hid (HM.out.below HW.out hB4)
        clear hB4 k0 k1 k2
        by_cases hz0 : 0 ≤ z
        · have d0 : decide (0 ≤ z) = true := by simp; omega
          have HU4 : Hid (Und n₀ B (q + 1) w.heap.size gO t (.slice ao vs.length co) vs w w4) := ⟨HM4.out.res, HM4.out.out, HM4.out.vol.wide (by have := HM4.out.vb.lt; omega), HM4.out.rd, HM4.out.gb⟩
          clear hz
          go_wp2
          exact ⟨⟨i - 1, q + 1, _, vs, by congr 1; omega, by omega, by omega, HU4⟩, by simp [intOf]; omega⟩
        · have d0 : decide (0 ≤ z) = false := by simp; omega
          clear hz
          have hT : Hid (Threes vs) := HM4.out.vol.threes hv4
          have hlen : (allOf vs).length = vs.length * 3 := by have := allTo_length hT.out vs.length (Nat.le_refl _); rw [allTo_all vs _ (Nat.le_refl _)] at this; exact this
          have hm12 : (allOf vs).length ≤ 12 := by omega
          clear hlen
          go_wp2_with fail
          go_loopw [8] (fun s8 w5 => ∃ (k q5 : Nat) (bs : List PtrD), s8 = .int .i64 (k : Int) ∧ k ≤ 3 ∧ q5 ≤ q + 1 + k * 50 ∧ Hid (Mid n₀ B q5 w.heap.size hi gO gv gr t (.slice ao vs.length co) vs nm bs w w5)) (fun s8 _ => 3 - (intOf s8).toNat)
          case atStart => exact ⟨0, q + 1, _, rfl, by omega, by omega, HM4⟩
          case round =>
            obtain ⟨k, q5, bs, rfl, hk, hq5, hM⟩ := hrel
            by_cases hk3 : k < 3
            · go_wp2_with fail
              refine (l71Ptr_any n₀ B q5 n _ (by omega) Hn.out hM.out.rd).mono ?_
              rintro e w5 ⟨⟨z5, s5, ps5⟩, v5, q6, rfl, ho5, hp2, hp10, hq6, hR5, hg5⟩
              simp only at ho5 hp2 hp10 ⊢
              have HM5 := Lib.hid (hM.out.grow HW.out hg5 hR5)
              have hlo5 : w.heap.size ≤ wr.heap.size := hM.out.gb.size
              have HT5 := Lib.hid (ho5.typed hlo5 hp10)
              obtain ⟨a5, c5, rfl, _⟩ := OwnPl.reads ho5
              have hBp : Below w5.heap.size w5 (w5.alloc (.cells #[.int .i64 z5, .int .i64 s5, .slice a5 ps5.length c5] 54)) := (Below.refl _ _).alloc (Nat.le_refl _) _
              have HM5b := Lib.hid (HM5.out.below HW.out hBp)
              have HT5b := Lib.hid (HT5.out.kept (hi := 0) (grown_of hBp none) fr_none)
              have HP5b := Lib.hid (Bx.new w5 #[.int .i64 z5, .int .i64 s5, .slice a5 ps5.length c5] 54)
              have hgp : hi ≤ w5.heap.size ∧ B < w5.heap.size ∧ gr < w5.heap.size := ⟨by have := HM5.out.vb.lt; omega, by have := HM5.out.rd.lt; omega, by have := HM5.out.row.isT.lt; omega⟩
              clear ho5 hR5 hg5 hBp HM5 HT5 hM
              go_wp2_with fail
              generalize w5.alloc (.cells #[.int .i64 z5, .int .i64 s5, .slice a5 ps5.length c5] 54) = w5b at HM5b HT5b HP5b ⊢
              generalize w5.heap.size = gp at HP5b hgp ⊢
              refine (pick_any n₀ B q6 3 _ (by omega) HM5b.out.rd).mono ?_
              rintro e w6 ⟨v6, rfl, hv60, _, hR6, hg6⟩
              have HM6 := Lib.hid (HM5b.out.grow HW.out hg6 hR6)
              have HT6 := Lib.hid (HT5b.out.kept (hi := 0) hg6 (fr_low hwb))
              have HP6 := Lib.hid (HP5b.out.kept hg6 (fun e => by injection e with e; omega))
              clear hR6 hg6 HM5b HT5b HP5b
              have k0 := HM6.out.out.cell 0
              have k1 := HM6.out.out.cell 1
              simp only [List.getElem?_toArray, List.getElem?_cons_zero, List.getElem?_cons_succ] at k0 k1
              go_wp2_with fail
              refine (l2All_G (TPl w6 w.heap.size) t ao co vs _ hT HM6.out.vol.typed).mono ?_
              rintro e w7 ⟨va, xs, rfl, hox, hrow, hB7⟩
              obtain ⟨aA, cA, rfl⟩ : ∃ aA cA, va = .slice aA (allOf vs).length cA := by
                rcases hox.2 with ⟨rfl, hn⟩ | ⟨g, c, _, rfl, _⟩
                · exact ⟨none, 0, by rw [hn]⟩
                · exact ⟨_, c, rfl⟩
              have hB6 : B < w6.heap.size := HM6.out.rd.lt
              have hgr6 : gr < w6.heap.size := HM6.out.row.isT.lt
              have HM7 := Lib.hid (HM6.out.below HW.out hB7)
              have HT7 := Lib.hid (HT6.out.kept (hi := 0) (grown_of hB7 none) fr_none)
              have HP7 := Lib.hid (HP6.out.kept (grown_of hB7 none) (by simp))
              have HX7 := Lib.hid hox
              have HRow : Hid (PtRowG (TPl w7 w.heap.size) (allOf vs) xs) := ⟨hrow.1, fun j hj => by obtain ⟨r0, r1, u, r2, r3, r4⟩ := hrow.2 j hj; exact ⟨r0, r1, u, r2, r3, r4.kept (hi := 0) (grown_of hB7 none) fr_none⟩⟩
              clear hB7 hox hrow k0 k1 HM6 HT6 HP6
              go_wp2_with fail
              go_loopw [10, 12] (fun bv iv w8 => ∃ (b : Bool) (m : Nat), bv = .bool b ∧ iv = .int .i64 (m : Int) ∧ m ≤ (allOf vs).length ∧ Hid (Below w7.heap.size w7 w8)) (fun _ iv _ => (allOf vs).length - (intOf iv).toNat)
              case atStart => exact ⟨decide (0 < v6), 0, rfl, rfl, by omega, Below.refl _ _⟩
              case round =>
                obtain ⟨b, m, rfl, rfl, hm, hB⟩ := hrel
                by_cases hlt3 : m < (allOf vs).length
                · have i1 : (m : Int) < ((allOf vs).length : Int) := by omega
                  have i0' : (0 : Int) ≤ (m : Int) := by omega
                  cases b
                  · go_wp2_with fail
                    refine wp_region_quiet_below (by kernel_rfl) (by kernel_rfl) ?_
                    repeat (go_big_quiet_step (fail))
                    refine wpQuiet_nil ?_
                    intro w9 hw9
                    have HB9 : Hid (Below w7.heap.size w7 w9) := by obtain ⟨p, rfl⟩ := hw9; exact rg_below hB.out _ _
                    clear hw9
                    go_wp2
                    exact ⟨⟨false, m + 1, rfl, by go_num, by omega, HB9⟩, by simp [intOf]; omega⟩
                  · obtain ⟨h1, h2, u, h3, _, hu⟩ := HRow.out.2 m hlt3
                    have hIx := own_below HX7.out hB.out
                    rcases hIx.2 with ⟨hv, hn⟩ | ⟨g, cap', cur, hv, _⟩
                    · omega
                    · cases hv
                      have e0 := (own_cell hIx (m * 3) (by omega)).1
                      have e1 := (own_cell hIx (m * 3 + 1) (by omega)).1
                      have e2 := (own_cell hIx (m * 3 + 2) (by omega)).1
                      rw [h1] at e0
                      rw [h2] at e1
                      rw [h3] at e2
                      have hu' := hu.reads.below hB.out
                      generalize (allOf vs).getD m ptr0 = qq at e0 e1 hu'
                      obtain ⟨z, sm, qs⟩ := qq
                      obtain ⟨a1, c1, rfl, hc1, hm1, hx1⟩ := hu'
                      simp only at e0 e1 e2 hc1 hx1
                      have c0 := cell_below hB.out (HP7.out.cell 0)
                      have c1' := cell_below hB.out (HP7.out.cell 1)
                      have c2 := cell_below hB.out (HP7.out.cell 2)
                      obtain ⟨_, _, ex, _, _, hpx⟩ := HT7.out.reads
                      cases ex
                      have hp1 := hpx.below hB.out
                      have HMt := Lib.hid (fun w' (hw : Below wr.heap.size wr w') => l2Meet_any z5 s5 z sm a5 a1 c5 c1 ps5 qs w' (by unfold maxLen; omega) (by omega) (hp1.below hw) (hx1.below hw))
                      generalize tt (Meet ps5 qs) = b2 at HMt
                      have g0 := cell_regrown e0
                      have g1 := cell_regrown e1
                      have g2 := cell_regrown e2
                      have g3 := cell_regrown c0
                      have g4 := cell_regrown c1'
                      have g5 := cell_regrown c2
                      clear h1 h2 h3 hu hIx e0 e1 e2 c0 c1' c2 hp1 hx1 hpx
                      go_wp2_with fail
                      refine wp_region_quiet_below (by kernel_rfl) (by kernel_rfl) ?_
                      repeat (go_big_quiet_step ((go_at_call 76; with_reducible exact Calls.regrown_of (HMt.out _ (below_regrown _ _ _)))))
                      refine wpQuiet_nil ?_
                      intro w9 hw9
                      have HB9 : Hid (Below w7.heap.size w7 w9) := by obtain ⟨p, rfl⟩ := hw9; exact rg_below hB.out _ _
                      clear hw9
                      go_wp2
                      exact ⟨⟨!b2, m + 1, rfl, by go_num, by omega, HB9⟩, by simp [intOf]; omega⟩
                · have HM8 := Lib.hid (HM7.out.below HW.out hB.out)
                  have HB8 := hB
                  clear hB
                  go_wp2_with fail
                  go_loopw [10, 13] (fun bv iv w9 => ∃ (b : Bool) (m : Nat), bv = .bool b ∧ iv = .int .i64 (m : Int) ∧ m ≤ k ∧ Hid (Below w7.heap.size w7 w9)) (fun _ iv _ => k - (intOf iv).toNat)
                  case atStart => exact ⟨b, 0, rfl, rfl, by omega, HB8⟩
                  case round =>
                    obtain ⟨b, m, rfl, rfl, hm, hB⟩ := hrel
                    have hMr := HM7.out.below HW.out hB.out
                    by_cases hlt4 : m < k
                    · have i1 : (m : Int) < 3 := by omega
                      have i0' : (0 : Int) ≤ (m : Int) := by omega
                      cases b
                      · go_wp2_with fail
                        refine wp_region_quiet_below (by kernel_rfl) (by kernel_rfl) ?_
                        repeat (go_big_quiet_step (fail))
                        refine wpQuiet_nil ?_
                        intro w9 hw9
                        have HB9 : Hid (Below w7.heap.size w7 w9) := by obtain ⟨p, rfl⟩ := hw9; exact rg_below hB.out _ _
                        clear hw9
                        go_wp2
                        exact ⟨⟨false, m + 1, rfl, by go_num, by omega, HB9⟩, by simp [intOf]; omega⟩
                      · obtain ⟨e0, e1, ⟨u, e2, hu⟩, _⟩ := hMr.row.cells m (by omega)
                        have hu' := hu.reads
                        have hpl : (bs.getD m ptr0).places.length ≤ maxLen := by obtain ⟨_, _, _, h1, h2, _⟩ := hu'; omega
                        generalize bs.getD m ptr0 = qq at e0 e1 hu' hpl
                        obtain ⟨z, sm, qs⟩ := qq
                        obtain ⟨a1, c1, rfl, hc1, hm1, hx1⟩ := hu'
                        simp only at e0 e1 e2 hc1 hx1 hpl
                        have c0 := cell_below hB.out (HP7.out.cell 0)
                        have c1' := cell_below hB.out (HP7.out.cell 1)
                        have c2 := cell_below hB.out (HP7.out.cell 2)
                        have t1 : wr.cell? ⟨gv, 1, none⟩ = some (.slice (some ⟨gr, 0, none⟩) 3 3) := hMr.vb.cell 1
                        obtain ⟨_, _, ex, _, _, hpx⟩ := HT7.out.reads
                        cases ex
                        have hp1 := hpx.below hB.out
                        have HMt := Lib.hid (fun w' (hw : Below wr.heap.size wr w') => l2Meet_any z5 s5 z sm a5 a1 c5 c1 ps5 qs w' (by unfold maxLen; omega) hpl (hp1.below hw) (hx1.below hw))
                        generalize tt (Meet ps5 qs) = b2 at HMt
                        have g0 := cell_regrown e0
                        have g1 := cell_regrown e1
                        have g2 := cell_regrown e2
                        have g3 := cell_regrown c0
                        have g4 := cell_regrown c1'
                        have g5 := cell_regrown c2
                        have g6 := cell_regrown t1
                        clear hu e0 e1 e2 c0 c1' c2 t1 hp1 hx1 hpx hMr
                        go_wp2_with fail
                        refine wp_region_quiet_below (by kernel_rfl) (by kernel_rfl) ?_
                        repeat (go_big_quiet_step ((go_at_call 76; with_reducible exact Calls.regrown_of (HMt.out _ (below_regrown _ _ _)))))
                        refine wpQuiet_nil ?_
                        intro w9 hw9
                        have HB9 : Hid (Below w7.heap.size w7 w9) := by obtain ⟨p, rfl⟩ := hw9; exact rg_below hB.out _ _
                        clear hw9
                        go_wp2
                        exact ⟨⟨!b2, m + 1, rfl, by go_num, by omega, HB9⟩, by simp [intOf]; omega⟩
                    · obtain rfl : m = k := by omega
                      have hTr := HT7.out.kept (hi := 0) (grown_of hB.out none) fr_none
                      cases b
                      · by_cases hA : (allOf vs).length = 0
                        · have dA : decide (0 < ((allOf vs).length : Int)) = false := decide_eq_false (by omega)
                          have HMr := Lib.hid hMr
                          clear hMr hTr
                          go_wp2
                          exact ⟨⟨m + 1, q6 + 1, bs, by go_num, by omega, by omega, HMr⟩, by simp [intOf]; omega⟩
                        · have dA : decide (0 < ((allOf vs).length : Int)) = true := decide_eq_true (by omega)
                          have HMr := Lib.hid hMr
                          clear hMr hTr
                          go_wp2_with fail
                          refine (pick_any n₀ B (q6 + 1) 2 _ (by omega) HMr.out.rd).mono ?_
                          rintro e w9 ⟨v9, rfl, hv90, hv9n, hR9, hg9⟩
                          have HM9 := Lib.hid (HMr.out.grow HW.out hg9 hR9)
                          by_cases hv9 : v9 = 0
                          · subst hv9
                            have hBd : Below w9.heap.size w9 w9.drew := (Below.refl _ _).drew
                            have HMd := Lib.hid (HM9.out.below HW.out hBd)
                            have hX9 := (own_below HX7.out hB.out).kept hg9 (.inr (fun e => by have := (HX7.out.lt B e).1; omega))
                            have HRow9 : Hid (PtRowG (TPl w9 w.heap.size) (allOf vs) xs) := ⟨HRow.out.1, fun j hj => by obtain ⟨r0, r1, u, r2, r3, r4⟩ := HRow.out.2 j hj; exact ⟨r0, r1, u, r2, r3, (r4.kept (hi := 0) (grown_of hB.out none) fr_none).kept (hi := 0) hg9 (fr_low hwb)⟩⟩
                            rcases hX9.2 with ⟨hv, hn⟩ | ⟨g, cap', cur, hv, hgb, _⟩
                            · omega
                            · cases hv
                              have HXd : Hid (w9.drew.ownsRow w6.heap.size 54 3 (.slice (some ⟨g, 0, none⟩) (allOf vs).length cA) (allOf vs).length xs) := hX9
                              have HRd9 : Hid (PtRowG (TPl w9.drew w.heap.size) (allOf vs) xs) := HRow9.out
                              have t1 : w9.cell? ⟨gv, 1, none⟩ = some (.slice (some ⟨gr, 0, none⟩) 3 3) := HM9.out.vb.cell 1
                              have a9 : ∀ j, j < (allOf vs).length * 3 → w9.cell? ⟨g, j, none⟩ = xs[j]? := fun j hj => (own_cell hX9 j hj).1
                              have hvr : gv ≠ gr := HW.out.ne
                              have hgr9 : g ≠ gr := fun e => by have := hgb; omega
                              have im : (m : Int) < 3 := by omega
                              have im0 : (0 : Int) ≤ (m : Int) := by omega
                              have hq9 : q6 + 2 ≤ 1000000 := by omega
                              have HP9 := Lib.hid (fun x => pick_any n₀ B (q6 + 2) x _ hq9 HMd.out.rd)
                              have hlo9 : w.heap.size ≤ gr := by omega
                              have hA1 : 1 ≤ ((allOf vs).length : Int) := by omega
                              have HFx : Hid (∀ (v10 : Int) w10, 0 ≤ v10 → (1 ≤ ((allOf vs).length : Int) → v10 < ((allOf vs).length : Int)) → Rd n₀ B (q6 + 2 + 1) w10 → w9.drew.grownBy w10 (some B) → ∃ ix : Nat, v10 = (ix : Int) ∧ ix < (allOf vs).length ∧ ∃ (z sm : Int) (qs : List PlD) (ua : Option Addr) (un uc : Nat) (y0 y1 y2 : Value), xs[ix * 3]? = some (.int .i64 z) ∧ xs[ix * 3 + 1]? = some (.int .i64 sm) ∧ xs[ix * 3 + 2]? = some (.slice ua un uc) ∧ (∀ j, j < (allOf vs).length * 3 → w10.cell? ⟨g, j, none⟩ = xs[j]?) ∧
                                  w10.cell? ⟨gr, m * 3, none⟩ = some y0 ∧ w10.cell? ⟨gr, m * 3 + 1, none⟩ = some y1 ∧ w10.cell? ⟨gr, m * 3 + 2, none⟩ = some y2 ∧ w10.frozen? ⟨gr, m * 3, none⟩ = false ∧ w10.frozen? ⟨gr, m * 3 + 1, none⟩ = false ∧ w10.frozen? ⟨gr, m * 3 + 2, none⟩ = false ∧
                                  w10.cell? ⟨gv, 1, none⟩ = some (.slice (some ⟨gr, 0, none⟩) 3 3) ∧
                                  Mid n₀ B (q6 + 2 + 1) w.heap.size hi gO gv gr t (.slice ao vs.length co) vs nm (bs.set m ⟨z, sm, qs⟩) w (((w10.setCell ⟨gr, m * 3, none⟩ (.int .i64 z)).setCell ⟨gr, m * 3 + 1, none⟩ (.int .i64 sm)).setCell ⟨gr, m * 3 + 2, none⟩ (.slice ua un uc))) := fun v10 w10 h0 h1 hR hg => by
                                obtain ⟨ix, rfl⟩ := Int.eq_ofNat_of_zero_le h0
                                have hix : ix < (allOf vs).length := by have := h1 hA1; omega
                                exact ⟨ix, rfl, hix, r24 HW.out hlo9 HMd.out HXd.out hB6 HRd9.out hix hk3 hg hR⟩
                              clear hv90 hv9n hR9 hg9 hX9 hBd hA1
                              go_wp2_with fail
                              go_region_held3 (fun w' => w'.cell? ⟨gv, 1, none⟩ = some (.slice (some ⟨gr, 0, none⟩) 3 3) ∧ ∀ j, j < (allOf vs).length * 3 → w'.cell? ⟨g, j, none⟩ = xs[j]?) (first | exact ⟨t10, a10⟩ | exact ⟨set3_cell t10 hvr, fun j hj => set3_cell (a10 j hj) hgr9⟩ | exact ⟨t1, a9⟩ | go_keep)
                                (first
                                  | (go_at_call 40; (with_reducible refine (HP9.out _).mono ?_); rintro e w10 ⟨v10, rfl, hv100, hv10n, hR10, hg10⟩; obtain ⟨ix, rfl, hix, z, sm, qs, ua, un, uc, y0, y1, y2, e0, e1, e2, a10, s0, s1, s2, f0, f1, f2, t10, hN⟩ := HFx.out v10 w10 hv100 hv10n hR10 hg10; have j0 : ix * 3 < (allOf vs).length * 3 := (by omega); have j1 : ix * 3 + 1 < (allOf vs).length * 3 := (by omega); have j2 : ix * 3 + 2 < (allOf vs).length * 3 := (by omega); have ji : (ix : Int) < ((allOf vs).length : Int) := (by omega); have ji0 : (0 : Int) ≤ (ix : Int) := (by omega); have HN := Lib.hid hN; clear hN hv100 hv10n hR10 hg10))
                              all_goals
                                go_wp2
                                exact ⟨⟨m + 1, q6 + 3, _, by go_num, by omega, by omega, HN⟩, by simp [intOf]; omega⟩
                          · have d9 : (v9 == 0) = false := by simp [hv9]
                            clear hv9 hv90 hv9n hR9 hg9
                            go_wp2
                            exact ⟨⟨m + 1, q6 + 2, bs, by go_num, by omega, by omega, HM9⟩, by simp [intOf]; omega⟩
                      · obtain ⟨e0, e1, ⟨u, e2, _⟩, f0, f1, f2⟩ := hMr.row.cells m hk3
                        have c0 := cell_below hB.out (HP7.out.cell 0)
                        have c1' := cell_below hB.out (HP7.out.cell 1)
                        have c2 := cell_below hB.out (HP7.out.cell 2)
                        have t1 : wr.cell? ⟨gv, 1, none⟩ = some (.slice (some ⟨gr, 0, none⟩) 3 3) := hMr.vb.cell 1
                        have HN := Lib.hid (hMr.store HW.out m hk3 z5 s5 _ ps5 hTr (by omega))
                        generalize (bs.getD m ptr0).size = y0 at e0
                        generalize (bs.getD m ptr0).sum = y1 at e1
                        clear hMr hTr
                        go_wp2
                        exact ⟨⟨m + 1, q6 + 1, _, by go_num, by omega, by omega, HN⟩, by simp [intOf]; omega⟩
            · obtain rfl : k = 3 := by omega
              obtain ⟨xs, hown, hvx⟩ := hM.out.vol
              have k1 : wr.cell? ⟨gO, 1, none⟩ = some (.slice ao vs.length co) := hM.out.out.cell 1
              have m0 : wr.cell? ⟨gv, 0, none⟩ = some (.string nm) := hM.out.vb.cell 0
              have m1 : wr.cell? ⟨gv, 1, none⟩ = some (.slice (some ⟨gr, 0, none⟩) 3 3) := hM.out.vb.cell 1
              have hBa : Below wr.heap.size wr (wr.alloc (.cells #[.string nm, .slice (some ⟨gr, 0, none⟩) 3 3] 51)) := (Below.refl _ _).alloc (Nat.le_refl _) _
              have hown' := own_below hown hBa
              have hnews := news_two wr (.string nm) (.slice (some ⟨gr, 0, none⟩) 3 3) 51 wr.heap.size rfl
              have hbase : w.heap.size ≤ (wr.alloc (.cells #[.string nm, .slice (some ⟨gr, 0, none⟩) 3 3] 51)).heap.size := by have := hM.out.gb.size; simp; omega
              have HX : Hid (∀ g4 cap4 w4, w4.ownsRow w.heap.size 51 2 (.slice (some ⟨g4, 0, none⟩) (vs.length + 1) cap4) (vs.length + 1) (xs ++ [.string nm, .slice (some ⟨gr, 0, none⟩) 3 3]) → (wr.alloc (.cells #[.string nm, .slice (some ⟨gr, 0, none⟩) 3 3] 51)).grownBy w4 (Value.slice ao vs.length co).ownBlock →
                  (∃ y, w4.cell? ⟨gO, 1, none⟩ = some y) ∧ w4.frozen? ⟨gO, 1, none⟩ = false ∧ Und n₀ B q5 w.heap.size gO t (.slice (some ⟨g4, 0, none⟩) (vs.length + 1) cap4) (vs ++ [⟨nm, bs⟩]) w (w4.setCell ⟨gO, 1, none⟩ (.slice (some ⟨g4, 0, none⟩) (vs.length + 1) cap4))) := fun g4 cap4 w4 h4 hg4 =>
                mid_end HW.out (Nat.le_refl _) (hM.out.below HW.out hBa) (hvx.kept (grown_of hBa none) fr_none) hown' hnm h4 hg4
              obtain ⟨i0, hi0, hz0, hz1, hz2⟩ := info_parts infoVoD
              clear hM hown hvx hBa
              go_wp2_with (at_builtin; refine wpList_append_lies _ rfl _ _ 23 rfl w.heap.size 51 i0 _ 2 40 Tryz.underlying23 hi0 hz0 hz1 hz2 rfl (by omega) _ vs.length xs rfl hown' ⟨_, 0, none⟩ 1 1 [.string nm, .slice (some ⟨gr, 0, none⟩) 3 3] rfl rfl hnews (by simp [Value.oneCell']) (by omega) (by simp [maxLen]; omega) (by omega) hbase _ rfl ?_; intro g4 cap4 w9 hown4 hgrow4 hat4 hlt4; obtain ⟨⟨yy, hy⟩, hfy, hUn⟩ := HX.out g4 cap4 w9 hown4 hgrow4; have HUn := Lib.hid hUn; clear hown4 hgrow4 hat4 hlt4 hUn)
              exact ⟨⟨i - 1, q5, _, vs ++ [⟨nm, bs⟩], by congr 1; omega, by simp; omega, by omega, HUn⟩, by simp [intOf]; omega⟩
    · obtain rfl : i = 0 := by omega
      have k0 : wr.cell? ⟨gO, 0, none⟩ = some (.int .i64 t) := hU.out.out.cell 0
      have k1 : wr.cell? ⟨gO, 1, none⟩ = some o := hU.out.out.cell 1
      have m0 : wr.cell? ⟨w.heap.size, 0, none⟩ = some (.int .i64 0) := hU.out.res.cell 0
      have m1 : wr.cell? ⟨w.heap.size, 1, none⟩ = some (.slice none 0 0) := hU.out.res.cell 1
      have f0 := hU.out.res.frozen 0
      have f1 := hU.out.res.frozen 1
      obtain ⟨ao, co, rfl, _⟩ := hU.out.vol.slice
      have HE := Lib.hid (und_end hU.out hBlt (Nat.le_refl _))
      go_wp2
      refine bodyPost_ret (v := .agg #[.int .i64 t, .slice ao vs.length co]) (by simp [results, Tryz.results39, go_sem, m0, m1]) rfl ⟨t, _, vs, q, rfl, HE.out.1, by omega, by omega, HE.out.2.1, HE.out.2.2⟩

end Go.Proofs.YtliadobopideaaaGreatDoor
