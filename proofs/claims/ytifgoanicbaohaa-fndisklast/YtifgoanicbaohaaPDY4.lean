/- What is drawn: frames of a disk in its box. Conditions: each theorem names its own. -/
import Derived.Test.YtifgoanicbaohaaPDY3
import Derived.Test.YtifgoanicbaohaaPDV8
import Derived.Deep.AppendLies
namespace Go.Proofs.Ytifgoanicbaohaa
open Go.RowKit Go.Sort

theorem FrY.five {n₀ B q : Nat} {w : World} {D : Nat} {z0 z1 z2 z3 z4 : Value} {wx : World} (h : FrY n₀ B q w D #[z0, z1, z2, z3, z4] wx) :
    wx.cell? ⟨D, 0, none⟩ = some z0 ∧ wx.cell? ⟨D, 1, none⟩ = some z1 ∧ wx.cell? ⟨D, 2, none⟩ = some z2 ∧ wx.cell? ⟨D, 3, none⟩ = some z3 ∧ wx.cell? ⟨D, 4, none⟩ = some z4 ∧
      wx.frozen? ⟨D, 0, none⟩ = false ∧ wx.frozen? ⟨D, 1, none⟩ = false ∧ wx.frozen? ⟨D, 2, none⟩ = false ∧ wx.frozen? ⟨D, 3, none⟩ = false ∧ wx.frozen? ⟨D, 4, none⟩ = false :=
  have K := h.2.2.2.2.2
  ⟨K.cell 0, K.cell 1, K.cell 2, K.cell 3, K.cell 4, K.frozen 0, K.frozen 1, K.frozen 2, K.frozen 3, K.frozen 4⟩
theorem Dr.put {n₀ B q : Nat} {w : World} {D : Nat} {z0 z1 z2 z3 z4 : Value} {wx : World} {d : DiskD} {v1 v2 v3 v4 : Value} (h : FrY n₀ B q w D #[z0, z1, z2, z3, z4] wx) (ho : Own4 wx w.heap.size v1 v2 v3 v4 d) (hg : Good d) :
    Dr n₀ B q w D d (((((wx.setCell ⟨D, 0, none⟩ (.int .i64 d.state)).setCell ⟨D, 1, none⟩ v1).setCell ⟨D, 2, none⟩ v2).setCell ⟨D, 3, none⟩ v3).setCell ⟨D, 4, none⟩ v4) :=
  ⟨v1, v2, v3, v4, h.set5 _ _ _ _ _, own4_sets ho h.2.2.2.2.2, hg⟩
theorem Dr.drew {n₀ B q : Nat} {w : World} {D : Nat} {d : DiskD} {wx : World} (h : Dr n₀ B q w D d wx) : Dr n₀ B q w D d wx.drew := by
  obtain ⟨v1, v2, v3, v4, hf, ho, hg⟩ := h
  exact ⟨v1, v2, v3, v4, hf.drew, ho.below (Below.refl _ _).drew, hg⟩
theorem Dr.grown {n₀ B q q' : Nat} {w : World} {D : Nat} {d : DiskD} {wx wy : World} (h : Dr n₀ B q w D d wx) (hR : Rd n₀ B q' wy) (hg : wx.grownBy wy (some B)) : Dr n₀ B q' w D d wy := by
  obtain ⟨v1, v2, v3, v4, hf, ho, hgd⟩ := h
  exact ⟨v1, v2, v3, v4, hf.grown hR hg, ho.grown hg hf.1, hgd⟩
theorem Dr.rd {n₀ B q : Nat} {w : World} {D : Nat} {d : DiskD} {wx : World} (h : Dr n₀ B q w D d wx) : Rd n₀ B q wx := by
  obtain ⟨v1, v2, v3, v4, hf, _⟩ := h
  exact hf.2.2.1
def tabs (v : Int) : Int := if v = 2 then 2 else if v = 3 then 1 else 0
theorem tabs_ok (v : Int) : StateOk (tabs v) := by unfold tabs StateOk; split <;> (try split) <;> omega
theorem tabs_cell (v : Int) (h0 : 0 ≤ v) (h4 : v < 4) : (#[.int .i64 0, .int .i64 0, .int .i64 2, .int .i64 1] : Array Value)[v.toNat]? = some (.int .i64 (tabs v)) := by
  obtain ⟨n, rfl⟩ := Int.eq_ofNat_of_zero_le h0
  match n, h4 with
  | 0, _ => rfl
  | 1, _ => rfl
  | 2, _ => rfl
  | 3, _ => rfl
  | n + 4, h => omega

/-- The disk in its box, at the end. -/
def Fin (n₀ B q : Nat) (w : World) (D : Nat) (wx : World) : Prop :=
  ∃ (d : DiskD) (a1 a2 a3 a4 : Option Addr) (c1 c2 c3 c4 : Nat), FrY n₀ B q w D #[.int .i64 d.state, .slice a1 d.slots.length c1, .slice a2 d.rings.length c2, .slice a3 d.spoilt.length c3, .slice a4 d.wait.length c4] wx ∧ DiskV wx (.agg #[.int .i64 d.state, .slice a1 d.slots.length c1, .slice a2 d.rings.length c2, .slice a3 d.spoilt.length c3, .slice a4 d.wait.length c4]) d
theorem fin_of {n₀ B q : Nat} {w : World} {D : Nat} {wx : World} {d : DiskD} {v1 v2 v3 v4 : Value} (h : FrY n₀ B q w D #[.int .i64 d.state, v1, v2, v3, v4] wx) (ho : Own4 wx w.heap.size v1 v2 v3 v4 d) : Fin n₀ B q w D wx := by
  have hv : DiskV wx (.agg #[.int .i64 d.state, v1, v2, v3, v4]) d := OwnDisk.reads ⟨_, _, _, _, rfl, ho⟩
  obtain ⟨a1, c1, rfl, _⟩ := OwnTx.reads ho.1
  obtain ⟨a2, c2, rfl, _⟩ := OwnTx.reads ho.2.1
  obtain ⟨a3, c3, rfl, _⟩ := OwnBo.reads ho.2.2.1
  obtain ⟨a4, c4, rfl, _⟩ := OwnPu.reads ho.2.2.2.1
  exact ⟨d, a1, a2, a3, a4, c1, c2, c3, c4, h, hv⟩
theorem others_set {w : World} {g : Nat} {cur : Array Value} {t : TypeId} (hG : Blk w g cur t) (ht : t = 9 ∨ t = 4 ∨ t = 33) (k : Nat) (u : Value) : Others w (w.setCell ⟨g, k, none⟩ u) :=
  fun D cs t' h1 h2 h3 hb => hb.other g k u (fun e => by
    subst e
    have := hG.type hb
    subst this
    rcases ht with h | h | h
    · exact h1 h.symm
    · exact h2 h.symm
    · exact h3 h.symm)
/-- A store into a slot, into a mark. -/
theorem slot_set {w : World} {base : Nat} {g n c k : Nat} {v2 v3 v4 : Value} {d : DiskD} (ho : Own4 w base (.slice (some ⟨g, 0, none⟩) n c) v2 v3 v4 d) (hn : n = d.slots.length) {cur : Array Value} (hG : Blk w g cur 9) (s : ByteArray) :
    Own4 (w.setCell ⟨g, k, none⟩ (.string s)) base (.slice (some ⟨g, 0, none⟩) n c) v2 v3 v4 ⟨d.state, d.slots.set k s, d.rings, d.spoilt, d.wait⟩ :=
  ⟨OwnTx.set ho.1 hn k s, own_other ho.2.1 _ _ _ (ho.2.2.2.2 g rfl), own_other ho.2.2.1 _ _ _ (own_blk_ne ho.2.2.1 hG (by decide)), own_other ho.2.2.2.1 _ _ _ (own_blk_ne ho.2.2.2.1 hG (by decide)), ho.2.2.2.2⟩
theorem mark_set {w : World} {base : Nat} {g n c k : Nat} {v1 v2 v4 : Value} {d : DiskD} (ho : Own4 w base v1 v2 (.slice (some ⟨g, 0, none⟩) n c) v4 d) (hn : n = d.spoilt.length) {cur : Array Value} (hG : Blk w g cur 4) (s : Bool) :
    Own4 (w.setCell ⟨g, k, none⟩ (.bool s)) base v1 v2 (.slice (some ⟨g, 0, none⟩) n c) v4 ⟨d.state, d.slots, d.rings, d.spoilt.set k s, d.wait⟩ :=
  ⟨own_other ho.1 _ _ _ (own_blk_ne ho.1 hG (by decide)), own_other ho.2.1 _ _ _ (own_blk_ne ho.2.1 hG (by decide)), OwnBo.set ho.2.2.1 hn k s, own_other ho.2.2.2.1 _ _ _ (own_blk_ne ho.2.2.2.1 hG (by decide)), ho.2.2.2.2⟩
/-- A write more that waits. -/
theorem app_put {n₀ B q : Nat} {w : World} {D : Nat} {cs : Array Value} {W w4 : World} {v1 v2 v3 v4 v' : Value} {d : DiskD} {p : PutD} (F : FrY n₀ B q w D cs W) (O : Own4 W w.heap.size v1 v2 v3 v4 d) (hg : W.grownBy w4 v4.ownBlock)
    (hown : w4.ownsRow w.heap.size 33 3 v' (d.wait.length + 1) (puC d.wait ++ puC [p])) : FrY n₀ B q w D cs w4 ∧ Own4 w4 w.heap.size v1 v2 v3 v' ⟨d.state, d.slots, d.rings, d.spoilt, d.wait ++ [p]⟩ := by
  have hlt : ∀ k, v4.ownBlock = some k → w.heap.size ≤ k := fun k e => (O.2.2.2.1.lt k e).1
  refine ⟨⟨F.1, F.2.1, F.2.2.1.kept hg (fun k e => by have := hlt k e; have := F.1; omega), F.2.2.2.1.andThen hg (fun i e => .inl (hlt i e)), F.2.2.2.2.1.gb hg (own_blk_ne O.2.2.2.1 F.2.2.2.2.1 (by decide)), F.2.2.2.2.2.gb hg (own_blk_ne O.2.2.2.1 F.2.2.2.2.2 (by decide))⟩, own_gb O.1 hg (own_apart O.2.2.2.1 O.1 (by decide)), own_gb O.2.1 hg (own_apart O.2.2.2.1 O.2.1 (by decide)), own_gb O.2.2.1 hg (own_apart O.2.2.2.1 O.2.2.1 (by decide)), ?_, O.2.2.2.2⟩
  unfold OwnPu
  rw [puC_append, List.length_append, List.length_singleton]
  exact hown
def waitLen (D : Nat) (w : World) : Nat := match w.cell? ⟨D, 4, none⟩ with
  | some (.slice _ n _) => n
  | _ => 0
def tabt (v : Int) : Int := if v = 0 then -1 else if v = 1 then 3 else 1
theorem tabt_cell (v : Int) (h0 : 0 ≤ v) (h4 : v < 3) : (#[.int .i64 (-1), .int .i64 3, .int .i64 1] : Array Value)[v.toNat]? = some (.int .i64 (tabt v)) := by
  obtain ⟨n, rfl⟩ := Int.eq_ofNat_of_zero_le h0
  match n, h4 with
  | 0, _ => rfl
  | 1, _ => rfl
  | 2, _ => rfl
  | n + 3, h => omega

end Go.Proofs.Ytifgoanicbaohaa
