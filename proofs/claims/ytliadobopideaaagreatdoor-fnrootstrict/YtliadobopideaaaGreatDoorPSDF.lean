/- A drawn root, some spoilt. Conditions: the reader's place is small. -/
import Derived.Test.YtliadobopideaaaGreatDoorPSDE
import Derived.Test.YtliadobopideaaaGreatDoorPKRG
import Derived.Test.YtliadobopideaaaGreatDoorPKD8
import Derived.Deep.AppendLies
import Derived.Deep.RegionLaw
namespace Go.Proofs.YtliadobopideaaaGreatDoor
open Go.RowKit Go.Sort

theorem TPl.low {w : World} {lo lo' : Nat} {v : Value} {ps : List PlD} (h : TPl w lo v ps) (hl : lo' ≤ lo) : TPl w lo' v ps := by
  obtain ⟨a, cap, e, h1, h2, h3⟩ := h
  refine ⟨a, cap, e, h1, h2, ?_⟩
  rcases h3 with h | ⟨b, off, e, hb, rest⟩
  · exact .inl h
  · exact .inr ⟨b, off, e, by omega, rest⟩
theorem TPt.low {w : World} {lo lo' hi : Nat} {u : Value} {bs : List PtrD} (h : TPt w lo hi u bs) (hl : lo' ≤ lo) : TPt w lo' hi u bs := by
  obtain ⟨a, c, e, h1, h2, h3⟩ := h
  refine ⟨a, c, e, h1, h2, ?_⟩
  rcases h3 with h | ⟨b, e, hb, hb', ht, hc⟩
  · exact .inl h
  · refine .inr ⟨b, e, by omega, hb', ht, fun j hj => ?_⟩
    obtain ⟨q0, q1, v, q2, hv⟩ := hc j hj
    exact ⟨q0, q1, v, q2, hv.low hl⟩
theorem OV.low {w : World} {lo lo' hi : Nat} {o : Value} {vs : List VolD} (h : OV w lo hi o vs) (hl : lo' ≤ lo) : OV w lo' hi o vs := by
  obtain ⟨xs, ho, hx⟩ := h
  refine ⟨xs, own_mono ho hl, fun j hj => ?_⟩
  obtain ⟨q0, q1, u, q2, hu, h3⟩ := hx j hj
  exact ⟨q0, q1, u, q2, hu.low hl, h3⟩

/-- PLACES that lie from lo on, not many. -/
def LowQ (w : World) (lo : Nat) (v : Value) (ps : List PlD) : Prop := LowPl w lo v ps ∧ ps.length ≤ 10
theorem LowQ.kept {w w' : World} {lo : Nat} {v : Value} {ps : List PlD} {r : Option Nat} (h : LowQ w lo v ps) (hg : w.grownBy w' r) (hr : ∀ k, r = some k → k < lo) : LowQ w' lo v ps := ⟨h.1.kept hg hr, h.2⟩
theorem LowQ.mono {w : World} {lo lo' : Nat} {v : Value} {ps : List PlD} (h : LowQ w lo v ps) (hl : lo' ≤ lo) : LowQ w lo' v ps := ⟨h.1.mono hl, h.2⟩
theorem LowQ.reads {w : World} {lo : Nat} {v : Value} {ps : List PlD} (h : LowQ w lo v ps) : PlacesV w v ps := h.1.reads
theorem TPl.lowp {w : World} {lo : Nat} {v : Value} {ps : List PlD} (h : TPl w lo v ps) : LowQ w lo v ps := by
  refine ⟨?_, h.len⟩
  obtain ⟨a, cap, e, h1, h2, h3⟩ := h
  refine ⟨a, cap, e, h1, h2.1, ?_⟩
  rcases h3 with h | ⟨b, off, e, hb, _, hc⟩
  · exact .inl h
  · exact .inr ⟨b, off, e, hb, hc⟩
/-- The box of the result lies below all that. -/
theorem TPl.up {w : World} {lo : Nat} {v : Value} {ps : List PlD} {cs : Array Value} (h : TPl w lo v ps) (hB : Bx w lo cs 25) : TPl w (lo + 1) v ps := by
  obtain ⟨a, cap, e, h1, h2, h3⟩ := h
  refine ⟨a, cap, e, h1, h2, ?_⟩
  rcases h3 with h | ⟨b, off, e, hb, ht, rest⟩
  · exact .inl h
  · have hne : b ≠ lo := fun e => by subst e; have := ht.one hB.isT; simp at this
    exact .inr ⟨b, off, e, by omega, ht, rest⟩
theorem TPt.up {w : World} {lo hi : Nat} {u : Value} {bs : List PtrD} {cs : Array Value} (h : TPt w lo hi u bs) (hB : Bx w lo cs 25) : TPt w (lo + 1) hi u bs := by
  obtain ⟨a, c, e, h1, h2, h3⟩ := h
  refine ⟨a, c, e, h1, h2, ?_⟩
  rcases h3 with h | ⟨b, e, hb, hb', ht, hc⟩
  · exact .inl h
  · have hne : b ≠ lo := fun e => by subst e; have := ht.one hB.isT; simp at this
    refine .inr ⟨b, e, by omega, hb', ht, fun j hj => ?_⟩
    obtain ⟨q0, q1, v, q2, hv⟩ := hc j hj
    exact ⟨q0, q1, v, q2, hv.up hB⟩
theorem OV.up {w : World} {lo hi : Nat} {o : Value} {vs : List VolD} {cs : Array Value} (h : OV w lo hi o vs) (hB : Bx w lo cs 25) : OV w (lo + 1) hi o vs := by
  obtain ⟨xs, ho, hx⟩ := h
  refine ⟨xs, ?_, fun j hj => ?_⟩
  · have hb := bx_vol hB ho
    rcases ho with ⟨h1, ⟨rfl, h2⟩ | ⟨g, cap, cur, rfl, h3, h4⟩⟩
    · exact ⟨h1, .inl ⟨rfl, h2⟩⟩
    · have : lo ≠ g := fun e => hb (by rw [e]; rfl)
      exact ⟨h1, .inr ⟨g, cap, cur, rfl, by omega, h4⟩⟩
  · obtain ⟨q0, q1, u, q2, hu, h3⟩ := hx j hj
    exact ⟨q0, q1, u, q2, hu.up hB, h3⟩

/-- POINTERS AND VOLUMES that lie from lo on, anywhere in their rows. -/
def LPt (w : World) (lo : Nat) (u : Value) (bs : List PtrD) : Prop :=
  ∃ a c, u = .slice a bs.length c ∧ bs.length ≤ c ∧ c ≤ maxLen ∧ (bs = [] ∨ ∃ b off, a = some ⟨b, off, none⟩ ∧ lo ≤ b ∧ ∀ j, j < bs.length → w.cell? ⟨b, off + j * 3, none⟩ = some (.int .i64 (bs.getD j ptr0).size) ∧ w.cell? ⟨b, off + j * 3 + 1, none⟩ = some (.int .i64 (bs.getD j ptr0).sum) ∧
    ∃ v, w.cell? ⟨b, off + j * 3 + 2, none⟩ = some v ∧ LowQ w lo v (bs.getD j ptr0).places)
def LV (w : World) (lo : Nat) (o : Value) (vs : List VolD) : Prop :=
  ∃ a c, o = .slice a vs.length c ∧ vs.length ≤ c ∧ c ≤ maxLen ∧ (vs = [] ∨ ∃ b off, a = some ⟨b, off, none⟩ ∧ lo ≤ b ∧ ∀ j, j < vs.length → w.cell? ⟨b, off + j * 2, none⟩ = some (.string (vs.getD j vol0).name) ∧ ((vs.getD j vol0).name.size ≤ 3 ∧ (vs.getD j vol0).blocks.length ≤ 3) ∧
    ∃ u, w.cell? ⟨b, off + j * 2 + 1, none⟩ = some u ∧ LPt w lo u (vs.getD j vol0).blocks)
theorem TPt.lpt {w : World} {lo hi : Nat} {u : Value} {bs : List PtrD} (h : TPt w lo hi u bs) : LPt w lo u bs := by
  obtain ⟨a, c, e, h1, h2, h3⟩ := h
  refine ⟨a, c, e, h1, h2, ?_⟩
  rcases h3 with h | ⟨b, e, hb, hb', ht, hc⟩
  · exact .inl h
  · exact .inr ⟨b, 0, e, hb, fun j hj => by obtain ⟨q0, q1, v, q2, hv⟩ := hc j hj; exact ⟨q0, q1, v, q2, hv.lowp⟩⟩
theorem OV.lv {w : World} {lo hi : Nat} {o : Value} {vs : List VolD} (h : OV w lo hi o vs) : LV w lo o vs := by
  obtain ⟨a, c, rfl, h1, h2⟩ := h.slice
  refine ⟨a, c, rfl, h1, h2, ?_⟩
  have hc := h.cells
  obtain ⟨xs, ho, hx⟩ := h
  rcases hc with hc | ⟨b, rfl, hc⟩
  · exact .inl hc
  · refine .inr ⟨b, 0, rfl, (ho.lt b rfl).1, fun j hj => ?_⟩
    obtain ⟨q0, u, q2, hu⟩ := hc j hj
    obtain ⟨_, n1, _, _, _, n3⟩ := hx j hj
    exact ⟨q0, ⟨n1, Nat.le_of_eq n3⟩, u, q2, hu.lpt⟩
theorem LPt.kept {w w' : World} {lo : Nat} {u : Value} {bs : List PtrD} {r : Option Nat} (h : LPt w lo u bs) (hg : w.grownBy w' r) (hr : ∀ b, r = some b → b < lo) : LPt w' lo u bs := by
  obtain ⟨a, c, e, h1, h2, h3⟩ := h
  refine ⟨a, c, e, h1, h2, ?_⟩
  rcases h3 with h | ⟨b, off, e, hb, hc⟩
  · exact .inl h
  · have hne : some b ≠ r := fun e => by have := hr b e.symm; omega
    refine .inr ⟨b, off, e, hb, fun j hj => ?_⟩
    obtain ⟨q0, q1, v, q2, hv⟩ := hc j hj
    exact ⟨hg.cell q0 hne, hg.cell q1 hne, v, hg.cell q2 hne, hv.kept hg hr⟩
theorem LV.kept {w w' : World} {lo : Nat} {o : Value} {vs : List VolD} {r : Option Nat} (h : LV w lo o vs) (hg : w.grownBy w' r) (hr : ∀ b, r = some b → b < lo) : LV w' lo o vs := by
  obtain ⟨a, c, e, h1, h2, h3⟩ := h
  refine ⟨a, c, e, h1, h2, ?_⟩
  rcases h3 with h | ⟨b, off, e, hb, hc⟩
  · exact .inl h
  · have hne : some b ≠ r := fun e => by have := hr b e.symm; omega
    refine .inr ⟨b, off, e, hb, fun j hj => ?_⟩
    obtain ⟨q0, q1, v, q2, hv⟩ := hc j hj
    exact ⟨hg.cell q0 hne, q1, v, hg.cell q2 hne, hv.kept hg hr⟩
theorem LPt.low {w : World} {lo lo' : Nat} {u : Value} {bs : List PtrD} (h : LPt w lo u bs) (hl : lo' ≤ lo) : LPt w lo' u bs := by
  obtain ⟨a, c, e, h1, h2, h3⟩ := h
  refine ⟨a, c, e, h1, h2, ?_⟩
  rcases h3 with h | ⟨b, off, e, hb, hc⟩
  · exact .inl h
  · exact .inr ⟨b, off, e, by omega, fun j hj => by obtain ⟨q0, q1, v, q2, hv⟩ := hc j hj; exact ⟨q0, q1, v, q2, hv.mono hl⟩⟩
theorem LV.low {w : World} {lo lo' : Nat} {o : Value} {vs : List VolD} (h : LV w lo o vs) (hl : lo' ≤ lo) : LV w lo' o vs := by
  obtain ⟨a, c, e, h1, h2, h3⟩ := h
  refine ⟨a, c, e, h1, h2, ?_⟩
  rcases h3 with h | ⟨b, off, e, hb, hc⟩
  · exact .inl h
  · exact .inr ⟨b, off, e, by omega, fun j hj => by obtain ⟨q0, q1, v, q2, hv⟩ := hc j hj; exact ⟨q0, q1, v, q2, hv.low hl⟩⟩
theorem LPt.reads {w : World} {lo : Nat} {u : Value} {bs : List PtrD} (h : LPt w lo u bs) : PtrsV w u bs := by
  obtain ⟨a, c, e, h1, h2, h3⟩ := h
  refine ⟨a, c, e, h1, h2, ?_⟩
  rcases h3 with h | ⟨b, off, e, _, hc⟩
  · exact .inl h
  · refine .inr ⟨b, off, e, fun j hj => ?_⟩
    obtain ⟨q0, q1, v, q2, hv⟩ := hc j hj
    exact ⟨q0, q1, v, q2, hv.reads⟩
theorem LV.reads {w : World} {lo : Nat} {o : Value} {vs : List VolD} (h : LV w lo o vs) : VolsV w o vs ∧ ∀ j, j < vs.length → (vs.getD j vol0).name.size ≤ 3 := by
  obtain ⟨a, c, e, h1, h2, h3⟩ := h
  rcases h3 with h | ⟨b, off, e', _, hc⟩
  · exact ⟨⟨a, c, e, h1, h2, .inl h⟩, fun j hj => by rw [h] at hj; simp at hj⟩
  · refine ⟨⟨a, c, e, h1, h2, .inr ⟨b, off, e', fun j hj => ?_⟩⟩, fun j hj => (hc j hj).2.1.1⟩
    obtain ⟨q0, _, v, q2, hv⟩ := hc j hj
    exact ⟨q0, v, q2, hv.reads⟩
/-- How much there is. -/
def FewV (vs : List VolD) : Prop := ∀ i, i < vs.length → ((vs.getD i vol0).name.size ≤ 3 ∧ (vs.getD i vol0).blocks.length ≤ 3) ∧ ∀ j, j < (vs.getD i vol0).blocks.length → ((vs.getD i vol0).blocks.getD j ptr0).places.length ≤ 10
theorem LV.few {w : World} {lo : Nat} {o : Value} {vs : List VolD} (h : LV w lo o vs) : FewV vs := by
  intro i hi
  obtain ⟨a, c, e, h1, h2, h3⟩ := h
  rcases h3 with h | ⟨b, off, e', _, hc⟩
  · rw [h] at hi; simp at hi
  · obtain ⟨_, q1, u, _, hu⟩ := hc i hi
    refine ⟨q1, fun j hj => ?_⟩
    obtain ⟨a, c, e, h1, h2, h3⟩ := hu
    rcases h3 with h | ⟨b, off, e', _, hc⟩
    · rw [h] at hj; simp at hj
    · obtain ⟨_, _, v, _, hv⟩ := hc j hj
      exact hv.2

/-- A BLOCK LESS of the first volume. -/
theorem off2 {w4 : World} {lo hi b co : Nat} {vs : List VolD} (h : OV w4 lo hi (.slice (some ⟨b, 0, none⟩) vs.length co) vs) (hv : 0 < vs.length) :
    ∃ rb uc, w4.cell? ⟨b, 1, none⟩ = some (.slice (some ⟨rb, 0, none⟩) 3 uc) ∧ 3 ≤ uc ∧ uc ≤ maxLen ∧ w4.frozen? ⟨b, 1, none⟩ = false ∧ lo ≤ b ∧ ∃ vs', vs'.length = vs.length ∧ LV (w4.setCell ⟨b, 1, none⟩ (.slice (some ⟨rb, 3, none⟩) 2 (uc - 1))) lo (.slice (some ⟨b, 0, none⟩) vs.length co) vs' := by
  obtain ⟨a', c', e', hc1, hc2⟩ := h.slice
  cases e'
  obtain ⟨xs, ho, hx⟩ := h
  have hxl := ho.1
  obtain ⟨q0, q1, u, q2, hu, h3⟩ := hx 0 hv
  obtain ⟨a, uc, rfl, h1, h2, hh⟩ := hu
  rcases hh with hh | ⟨rb, rfl, hb, hb', ht, hc⟩
  · rw [hh] at h3; simp at h3
  obtain ⟨y1, f1, _⟩ := own_cell ho 1 (by omega)
  rw [h3] at q2 h1
  have hgs := gset w4 b 1 (.slice (some ⟨rb, 3, none⟩) 2 (uc - 1))
  have hne : some rb ≠ some b := fun e => by injection e with e; subst e; have := ht.one (own_vol ho rb rfl); simp at this
  have ho' := own_set ho 1 (.slice (some ⟨rb, 3, none⟩) 2 (uc - 1))
  refine ⟨rb, uc, y1.trans q2, h1, h2, f1, (ho.lt b rfl).1, vs.set 0 ⟨(vs.getD 0 vol0).name, (vs.getD 0 vol0).blocks.drop 1⟩, by simp, some ⟨b, 0, none⟩, co, by simp, by simpa using hc1, hc2, .inr ⟨b, 0, rfl, (ho.lt b rfl).1, fun j hj => ?_⟩⟩
  rw [List.length_set] at hj
  obtain ⟨z0, _⟩ := own_cell ho' (j * 2) (by omega)
  obtain ⟨z1, _⟩ := own_cell ho' (j * 2 + 1) (by omega)
  rw [Nat.zero_add]
  by_cases e : j = 0
  · subst e
    rw [getD_set_self hv]
    rw [List.getElem?_set_ne (by omega)] at z0
    rw [List.getElem?_set_self (by omega)] at z1
    have hd : ((vs.getD 0 vol0).blocks.drop 1).length = 2 := by rw [List.length_drop, h3]
    refine ⟨z0.trans q0, ⟨q1, by show ((vs.getD 0 vol0).blocks.drop 1).length ≤ 3; omega⟩, _, z1, some ⟨rb, 3, none⟩, uc - 1, congrArg (fun k => Value.slice (some ⟨rb, 3, none⟩) k (uc - 1)) hd.symm, Nat.le_trans (Nat.le_of_eq hd) (by omega), by omega, .inr ⟨rb, 3, rfl, hb, fun j hj => ?_⟩⟩
    have hj : j < 2 := Nat.lt_of_lt_of_eq hj hd
    obtain ⟨p0, p1, v, p2, hv⟩ := hc (j + 1) (by omega)
    have eg : ((vs.getD 0 vol0).blocks.drop 1).getD j ptr0 = (vs.getD 0 vol0).blocks.getD (j + 1) ptr0 := by simp only [List.getD, List.getElem?_drop]; rw [Nat.add_comm]
    rw [eg, show 3 + j * 3 = 0 + (j + 1) * 3 by omega]
    exact ⟨hgs.cell p0 hne, hgs.cell p1 hne, v, hgs.cell p2 hne, (hv.keptV hgs (fv_vol ho)).lowp⟩
  · rw [getD_set_ne e]
    obtain ⟨q0, q1, u, q2, hu, h3⟩ := hx j hj
    rw [List.getElem?_set_ne (by omega)] at z0 z1
    exact ⟨z0.trans q0, ⟨q1, Nat.le_of_eq h3⟩, u, z1.trans q2, (hu.keptV hgs (fv_vol ho)).lpt⟩
theorem set_other (w : World) (b o o' : Nat) (v : Value) (h : o ≠ o') : (w.setCell ⟨b, o, none⟩ v).cell? ⟨b, o', none⟩ = w.cell? ⟨b, o', none⟩ := World.cell?_setCell_other _ _ _ _ (fun e => h (by cases e; rfl))
theorem set_same {w : World} {b o : Nat} {v u : Value} (h : w.cell? ⟨b, o, none⟩ = some u) : (w.setCell ⟨b, o, none⟩ v).cell? ⟨b, o, none⟩ = some v := World.cell?_setCell_same _ _ _ h
/-- ANOTHER POINTER in a row. -/
theorem lpt_store {w5 : World} {lo hi rb : Nat} {u v y0 y1 y2 : Value} {bs : List PtrD} {z s : Int} {ps : List PlD} (hu : TPt w5 lo hi u bs) (hT : IsT w5 rb 54) (hlo : lo ≤ rb) (hlt : rb < hi) (hl : LowQ w5 hi v ps) (h0 : w5.cell? ⟨rb, 0, none⟩ = some y0) (h1 : w5.cell? ⟨rb, 1, none⟩ = some y1) (h2 : w5.cell? ⟨rb, 2, none⟩ = some y2) :
    ∃ bs', bs'.length = bs.length ∧ LPt (((w5.setCell ⟨rb, 0, none⟩ (.int .i64 z)).setCell ⟨rb, 1, none⟩ (.int .i64 s)).setCell ⟨rb, 2, none⟩ v) lo u bs' := by
  have hg : w5.grownBy (((w5.setCell ⟨rb, 0, none⟩ (.int .i64 z)).setCell ⟨rb, 1, none⟩ (.int .i64 s)).setCell ⟨rb, 2, none⟩ v) (some rb) := ((gset _ _ _ _).trans (gset _ _ _ _)).trans (gset _ _ _ _)
  have hfr : Fr w5 lo 0 (some rb) := fun b e _ => by cases e; exact ⟨hT, Nat.zero_le _⟩
  obtain ⟨a, c, rfl, k1, k2, k3⟩ := hu
  rcases k3 with rfl | ⟨b, rfl, hb, hb', ht, hc⟩
  · exact ⟨[], rfl, a, c, rfl, k1, k2, .inl rfl⟩
  · by_cases e : b = rb
    · subst e
      have hW := hl.kept hg (fun k e => by cases e; exact hlt)
      refine ⟨bs.set 0 ⟨z, s, ps⟩, List.length_set, _, c, by rw [List.length_set], by rw [List.length_set]; exact k1, k2, .inr ⟨b, 0, rfl, hb, fun j hj => ?_⟩⟩
      rw [List.length_set] at hj
      by_cases ej : j = 0
      · subst ej
        rw [getD_set_self hj]
        refine ⟨?_, ?_, v, ?_, hW.mono (by omega)⟩
        · show World.cell? _ ⟨b, 0, none⟩ = _
          rw [set_other _ _ _ _ _ (by omega), set_other _ _ _ _ _ (by omega)]
          exact set_same h0
        · show World.cell? _ ⟨b, 1, none⟩ = _
          rw [set_other _ _ _ _ _ (by omega)]
          exact set_same (by rw [set_other _ _ _ _ _ (by omega)]; exact h1)
        · show World.cell? _ ⟨b, 2, none⟩ = _
          exact set_same (by rw [set_other _ _ _ _ _ (by omega), set_other _ _ _ _ _ (by omega)]; exact h2)
      · rw [getD_set_ne ej]
        obtain ⟨p0, p1, v', p2, hv⟩ := hc j hj
        have far : ∀ o, 2 < o → (((w5.setCell ⟨b, 0, none⟩ (.int .i64 z)).setCell ⟨b, 1, none⟩ (.int .i64 s)).setCell ⟨b, 2, none⟩ v).cell? ⟨b, o, none⟩ = w5.cell? ⟨b, o, none⟩ := fun o ho => by
          rw [set_other _ _ _ _ _ (by omega), set_other _ _ _ _ _ (by omega), set_other _ _ _ _ _ (by omega)]
        exact ⟨(far _ (by omega)).trans p0, (far _ (by omega)).trans p1, v', (far _ (by omega)).trans p2, (hv.kept hg hfr).lowp⟩
    · have hne : some b ≠ some rb := fun x => e (by injection x)
      exact ⟨bs, rfl, _, c, rfl, k1, k2, .inr ⟨b, 0, rfl, hb, fun j hj => by
        obtain ⟨p0, p1, v', p2, hv⟩ := hc j hj
        exact ⟨hg.cell p0 hne, hg.cell p1 hne, v', hg.cell p2 hne, (hv.kept hg hfr).lowp⟩⟩⟩
theorem isT_frozen {w : World} {b : Nat} {T : TypeId} (h : IsT w b T) (o : Nat) : w.frozen? ⟨b, o, none⟩ = false := by
  obtain ⟨c, h⟩ := h
  exact Bx.frozen (cs := c) h o
theorem off3 {w5 : World} {lo hi b co rb uc : Nat} {vs : List VolD} (h : OV w5 lo hi (.slice (some ⟨b, 0, none⟩) vs.length co) vs) (hv : 0 < vs.length) (hcell : w5.cell? ⟨b, 1, none⟩ = some (.slice (some ⟨rb, 0, none⟩) 3 uc)) :
    (∃ y0 y1 y2, w5.cell? ⟨rb, 0, none⟩ = some (.int .i64 y0) ∧ w5.cell? ⟨rb, 1, none⟩ = some (.int .i64 y1) ∧ w5.cell? ⟨rb, 2, none⟩ = some y2) ∧ (∀ o, w5.frozen? ⟨rb, o, none⟩ = false) ∧ IsT w5 rb 54 ∧ lo ≤ rb ∧ rb < hi ∧
    ∀ z s v ps, LowQ w5 hi v ps → ∃ vs', vs'.length = vs.length ∧ LV (((w5.setCell ⟨rb, 0, none⟩ (.int .i64 z)).setCell ⟨rb, 1, none⟩ (.int .i64 s)).setCell ⟨rb, 2, none⟩ v) lo (.slice (some ⟨b, 0, none⟩) vs.length co) vs' := by
  obtain ⟨a', c', e', hc1, hc2⟩ := h.slice
  cases e'
  obtain ⟨xs, ho, hx⟩ := h
  have hxl := ho.1
  obtain ⟨q0, q1, u, q2, hu, h3⟩ := hx 0 hv
  obtain ⟨y1, f1, _⟩ := own_cell ho 1 (by omega)
  obtain rfl : u = .slice (some ⟨rb, 0, none⟩) 3 uc := by
    rw [y1.trans q2] at hcell
    exact Option.some.inj hcell
  obtain ⟨a, c, e, k1, k2, k3⟩ := hu
  injection e with e1 e2 e3
  subst e1
  rcases k3 with k3 | ⟨b', e4, hb, hb', ht, hc⟩
  · rw [k3] at h3; simp at h3
  obtain rfl : b' = rb := by injection e4 with e4; injection e4 with e4; exact e4.symm
  obtain ⟨p0, p1, v0, p2, _⟩ := hc 0 (by omega)
  have p0' : w5.cell? ⟨b', 0, none⟩ = _ := p0
  have p1' : w5.cell? ⟨b', 1, none⟩ = _ := p1
  have p2' : w5.cell? ⟨b', 2, none⟩ = _ := p2
  refine ⟨⟨_, _, v0, p0', p1', p2'⟩, isT_frozen ht, ht, hb, hb', fun z s v ps hl => ?_⟩
  have hg : w5.grownBy (((w5.setCell ⟨b', 0, none⟩ (.int .i64 z)).setCell ⟨b', 1, none⟩ (.int .i64 s)).setCell ⟨b', 2, none⟩ v) (some b') := ((gset _ _ _ _).trans (gset _ _ _ _)).trans (gset _ _ _ _)
  have ho' := ho.kept hg (.inr (fun e => by have := ht.one (own_vol ho b' e); simp at this))
  obtain ⟨vs', hl', hP⟩ := choose_list vol0 vs.length (fun j V => xs[j * 2]? = some (.string V.name) ∧ (V.name.size ≤ 3 ∧ V.blocks.length ≤ 3) ∧ ∃ u, xs[j * 2 + 1]? = some u ∧ LPt (((w5.setCell ⟨b', 0, none⟩ (.int .i64 z)).setCell ⟨b', 1, none⟩ (.int .i64 s)).setCell ⟨b', 2, none⟩ v) lo u V.blocks) (fun j hj => by
    obtain ⟨q0, q1, u, q2, hu, n3⟩ := hx j hj
    obtain ⟨bs', hl3, hb'⟩ := lpt_store (z := z) (s := s) hu ht hb hb' hl p0' p1' p2'
    exact ⟨⟨_, bs'⟩, q0, ⟨q1, Nat.le_of_eq (hl3.trans n3)⟩, u, q2, hb'⟩)
  refine ⟨vs', hl', some ⟨b, 0, none⟩, co, by rw [hl'], by rw [hl']; exact hc1, hc2, .inr ⟨b, 0, rfl, (ho.lt b rfl).1, fun j hj => ?_⟩⟩
  rw [hl'] at hj
  obtain ⟨r0, r1, u, r2, hu⟩ := hP j hj
  rw [Nat.zero_add]
  exact ⟨(own_cell ho' (j * 2) (by omega)).1.trans r0, r1, u, (own_cell ho' (j * 2 + 1) (by omega)).1.trans r2, hu⟩

/-- WHAT l71Off ANSWERS. -/
def OffDrawn (n₀ B p m : Nat) (w : World) (e : Ending) (w' : World) : Prop :=
  ∃ (t : Int) (o : Value) (vs : List VolD) (q : Nat), e = .returned (.agg #[.int .i64 t, o]) ∧ LV w' w.heap.size o vs ∧ vs.length ≤ 5 ∧ q ≤ p + m ∧ Rd n₀ B q w' ∧ w.grownBy w' (some B)

/-- A VOLUME MORE, given by its value. -/
theorem und_more {n₀ B q lo gO : Nat} {t : Int} {o u : Value} {vs : List VolD} {nm : ByteArray} {bs : List PtrD} {w wa w4 : World} {xs : List Value} {g4 cap4 : Nat} (hB : B < lo) (hO : lo < gO) (h : Und n₀ B q lo gO t o vs w wa) (hlo : w.heap.size ≤ lo) (hx : VoRowT wa lo wa.heap.size vs xs)
    (ho : wa.ownsRow lo 51 2 o vs.length xs) (hnm : nm.size ≤ 3) (hu : TPt wa lo wa.heap.size u bs) (h3 : bs.length = 3) (h4 : w4.ownsRow lo 51 2 (.slice (some ⟨g4, 0, none⟩) (vs.length + 1) cap4) (vs.length + 1) (xs ++ [.string nm, u])) (hg : wa.grownBy w4 o.ownBlock) :
    (∃ y, w4.cell? ⟨gO, 1, none⟩ = some y) ∧ w4.frozen? ⟨gO, 1, none⟩ = false ∧ Und n₀ B q lo gO t (.slice (some ⟨g4, 0, none⟩) (vs.length + 1) cap4) (vs ++ [⟨nm, bs⟩]) w (w4.setCell ⟨gO, 1, none⟩ (.slice (some ⟨g4, 0, none⟩) (vs.length + 1) cap4)) := by
  have hbO := h.out.kept hg (bx_vol h.out ho)
  have hbR := h.res.kept hg (bx_vol h.res ho)
  have hgs := gset w4 gO 1 (.slice (some ⟨g4, 0, none⟩) (vs.length + 1) cap4)
  have hfr : Fv w4 lo (some gO) := fv_root hbO
  have hxl := ho.1
  have hhi : wa.heap.size ≤ w4.heap.size := hg.size
  have hsz : (w4.setCell ⟨gO, 1, none⟩ (.slice (some ⟨g4, 0, none⟩) (vs.length + 1) cap4)).heap.size = w4.heap.size := by simp
  refine ⟨⟨o, hbO.cell 1⟩, hbO.frozen 1, hbR.kept hgs (fun e => by injection e with e; omega), hbO.set 1 _, ⟨xs ++ [.string nm, u], ?_, ?_⟩, (h.rd.kept hg (fun i e => by have := (ho.lt i e).1; omega)).kept hgs (fun i e => by cases e; omega), ?_⟩
  · rw [List.length_append]
    exact h4.kept hgs (.inr (fun e => (bx_vol hbO h4) e.symm))
  · intro j hj
    rw [hsz]
    rw [List.length_append, List.length_singleton] at hj
    by_cases e : j < vs.length
    · obtain ⟨q0, q1, u, q2, hu, h3⟩ := hx j e
      rw [getD_append_left _ _ _ _ e, List.getElem?_append_left (by omega), List.getElem?_append_left (by omega)]
      exact ⟨q0, q1, u, q2, ((hu.keptV hg (fv_vol ho)).keptV hgs hfr).wide hhi, h3⟩
    · obtain rfl : j = vs.length := by omega
      rw [getD_append_right _ _ _ _ (Nat.le_refl _), Nat.sub_self, List.getElem?_append_right (by omega), List.getElem?_append_right (by omega), hxl, Nat.sub_self, show vs.length * 2 + 1 - vs.length * 2 = 1 by omega]
      exact ⟨rfl, hnm, _, rfl, ((hu.keptV hg (fv_vol ho)).keptV hgs hfr).wide hhi, h3⟩
  · exact (h.gb.andThen hg (fun i e => .inl (by have := (ho.lt i e).1; omega))).andThen hgs (fun i e => .inl (by cases e; omega))

theorem Und.grow {n₀ B q q' lo gO : Nat} {t : Int} {o : Value} {vs : List VolD} {w wr w' : World} (h : Und n₀ B q lo gO t o vs w wr) (hB : B < lo) (hO : lo < gO) (hg : wr.grownBy w' (some B)) (hR : Rd n₀ B q' w') : Und n₀ B q' lo gO t o vs w w' :=
  ⟨h.res.kept hg (fun e => by injection e with e; omega), h.out.kept hg (fun e => by injection e with e; omega), (h.vol.kept hg (fr_low hB)).wide hg.size, hR, h.gb.trans hg⟩
theorem tpt_new (W : World) (lo : Nat) (h : lo ≤ W.heap.size) (o : Obj) : TPt ((W.alloc (.cells zer9 54)).alloc o) lo ((W.alloc (.cells zer9 54)).alloc o).heap.size (.slice (some ⟨W.heap.size, 0, none⟩) 3 3) [ptr0, ptr0, ptr0] :=
  (or_al (or_new W lo h) o).typed (by simp; omega)

end Go.Proofs.YtliadobopideaaaGreatDoor
