/- A drawn root with too many volumes: one volume more, named by a byte, in whatever order its parts are made. Conditions: none. The draw of a root, some spoilt. Conditions: the reader's place is small. What is drawn for RootOk: a number of disks, and a root; nothing old turns. Conditions: none. -/
import Derived.Test.YtliadobopideaaaGreatDoorPSDF
import Derived.Test.YtliadobopideaaaGreatDoorPKW1
import Derived.Deep.AppendLies
import Derived.Deep.RegionLaw
namespace Go.Proofs.YtliadobopideaaaGreatDoor
open Go.RowKit Go.Sort

section
variable {P : Program} {ops : Array Oper} {Q : Exit → Act → World → Prop} {md : Region.Mode} {l : Array Bool} {i : Nat}
/-- WHAT IS DONE has all done that it waits for. -/
def Closed (md : Region.Mode) (ops : Array Oper) (l : Array Bool) : Prop := ∀ (i : Nat) (o : Oper), ops[i]? = some o → l.getD i false = true → ∀ (j : Nat) (e : Edge), o.after[j]? = some e → Region.binds md e = true → l.getD e.on false = true
theorem Closed.step (h : Closed md ops l) (hi : i ∈ Region.ready md ops l) : Closed md ops (l.setIfInBounds i true) := by
  intro k o ho hk j e he hb
  by_cases e' : i = k
  · subst e'
    exact gd_up (dep_at j hi ho he hb)
  · exact gd_up (h k o ho (by rwa [gd_ne e'] at hk) j e he hb)
theorem dep_of {o : Oper} {e : Edge} (j : Nat) (h : Closed md ops l) (hi : l.getD i false = true) (ho : ops[i]? = some o) (he : o.after[j]? = some e) (hb : Region.binds md e = true) : l.getD e.on false = true := h i o ho hi j e he hb
theorem none_done (m j : Nat) : (Array.replicate m false).getD j false = false := by
  rw [Array.getD_eq_getD_getElem?, Array.getElem?_replicate]; split <;> rfl
theorem closed_none (m : Nat) : Closed md ops (Array.replicate m false) := fun i o _ h => absurd ((none_done m i).symm.trans h) (by decide)
theorem wpAny_closed (J : Array Bool → Act → World → Prop) (hdone : ∀ l a w, J l a w → Closed md ops l → Region.ready md ops l = [] → Q .normal a w)
    (hstep : ∀ l a w i, J l a w → Closed md ops l → i ∈ Region.ready md ops l → wpOp P ops Q i (J (l.setIfInBounds i true)) a w) (fuel : Nat) (l : Array Bool) (a : Act) (w : World) (hf : l.toList.count false ≤ fuel) (hc : Closed md ops l) (hJ : J l a w) : wpAny P md ops Q fuel l a w :=
  wpAny_inv (fun l a w => J l a w ∧ Closed md ops l) (fun l a w h hr => hdone l a w h.1 h.2 hr) (fun l a w i h hi => wpOp_mono (fun _ _ h' => ⟨h', h.2.step hi⟩) (hstep l a w i h.1 h.2 hi)) fuel l a w hf ⟨hJ, hc⟩
end

theorem conv_bx {w : World} {g : Nat} {z : Int} (h : Bx w g #[.int .u8 z] 5) : (convert 22 9 (.slice (some ⟨g, 0, none⟩) 1 1)).run Tryz.prog w = .ok (.string (strOfNums [z])) w := by
  refine run_convert_bytes_arg w 22 5 Tryz.underlying22 Tryz.underlying5 g 0 1 1 [z] rfl (fun i hi => ?_) 9 Tryz.underlying9
  obtain rfl : i = 0 := by simp at hi; exact hi
  exact h.cell 0

/-- WHAT HAS BEEN DONE ahead of the append. -/
structure TooA (lo gO : Nat) (ao : Option Addr) (n co : Nat) (wr : World) (l : Array Bool) (v0 v1 v2 v3 v4 v5 v6 v7 v8 v9 v10 v11 v13 : Value) (wx : World) : Prop where
  bl : Below wr.heap.size wr wx
  f0 : l.getD 0 false = true → v0 = .pointer (some ⟨gO, 1, none⟩)
  f1 : l.getD 1 false = true → v1 = .slice ao n co
  f2 : l.getD 2 false = true → v2 = .pointer (some ⟨gO, 1, none⟩)
  f3 : l.getD 3 false = true → v3 = .slice ao n co
  f4 : l.getD 4 false = true → v4 = .int .i64 (n : Int)
  f5 : l.getD 5 false = true → v5 = .int .i64 (107 + (n : Int))
  f6 : l.getD 6 false = true → v6 = .int .u8 (107 + (n : Int))
  f7 : l.getD 7 false = true → ∃ g, v7 = .slice (some ⟨g, 0, none⟩) 1 1 ∧ Bx wx g #[.int .u8 (107 + (n : Int))] 5
  f8 : l.getD 8 false = true → ∃ nm, v8 = .string nm ∧ nm.size ≤ 3
  f9 : l.getD 9 false = true → ∃ g, v9 = .slice (some ⟨g, 0, none⟩) 3 3 ∧ OR wx lo g [ptr0, ptr0, ptr0]
  f10 : l.getD 10 false = true → v10 = .agg #[v8, v9]
  f11 : l.getD 11 false = true → ∃ g, v11 = .slice (some ⟨g, 0, none⟩) 1 1 ∧ Bx wx g #[v8, v9] 51
  f13 : l.getD 13 false = true → v13 = .pointer (some ⟨gO, 1, none⟩)
section
variable {lo gO : Nat} {ao : Option Addr} {n co : Nat} {wr wx : World} {l : Array Bool} {v0 v1 v2 v3 v4 v5 v6 v7 v8 v9 v10 v11 v13 : Value}
theorem TooA.al (h : TooA lo gO ao n co wr l v0 v1 v2 v3 v4 v5 v6 v7 v8 v9 v10 v11 v13 wx) (o : Obj) : TooA lo gO ao n co wr l v0 v1 v2 v3 v4 v5 v6 v7 v8 v9 v10 v11 v13 (wx.alloc o) :=
  ⟨h.bl.alloc h.bl.size o, h.f0, h.f1, h.f2, h.f3, h.f4, h.f5, h.f6, fun k => by obtain ⟨g, e, hb⟩ := h.f7 k; exact ⟨g, e, hb.kept (World.grownBy_alloc wx o none) (by simp)⟩, h.f8,
    fun k => by obtain ⟨g, e, hb⟩ := h.f9 k; exact ⟨g, e, or_al hb o⟩, h.f10, fun k => by obtain ⟨g, e, hb⟩ := h.f11 k; exact ⟨g, e, hb.kept (World.grownBy_alloc wx o none) (by simp)⟩, h.f13⟩
theorem TooA.op0  (h : TooA lo gO ao n co wr l v0 v1 v2 v3 v4 v5 v6 v7 v8 v9 v10 v11 v13 wx) : TooA lo gO ao n co wr (l.setIfInBounds 0 true) (.pointer (some ⟨gO, 1, none⟩)) v1 v2 v3 v4 v5 v6 v7 v8 v9 v10 v11 v13 wx :=
  ⟨h.bl, fun _ => rfl, fun k => h.f1 (dn (by decide) k), fun k => h.f2 (dn (by decide) k), fun k => h.f3 (dn (by decide) k), fun k => h.f4 (dn (by decide) k), fun k => h.f5 (dn (by decide) k), fun k => h.f6 (dn (by decide) k), fun k => h.f7 (dn (by decide) k), fun k => h.f8 (dn (by decide) k), fun k => h.f9 (dn (by decide) k), fun k => h.f10 (dn (by decide) k), fun k => h.f11 (dn (by decide) k), fun k => h.f13 (dn (by decide) k)⟩
theorem TooA.op1  (h : TooA lo gO ao n co wr l v0 v1 v2 v3 v4 v5 v6 v7 v8 v9 v10 v11 v13 wx) : TooA lo gO ao n co wr (l.setIfInBounds 1 true) v0 (.slice ao n co) v2 v3 v4 v5 v6 v7 v8 v9 v10 v11 v13 wx :=
  ⟨h.bl, fun k => h.f0 (dn (by decide) k), fun _ => rfl, fun k => h.f2 (dn (by decide) k), fun k => h.f3 (dn (by decide) k), fun k => h.f4 (dn (by decide) k), fun k => h.f5 (dn (by decide) k), fun k => h.f6 (dn (by decide) k), fun k => h.f7 (dn (by decide) k), fun k => h.f8 (dn (by decide) k), fun k => h.f9 (dn (by decide) k), fun k => h.f10 (dn (by decide) k), fun k => h.f11 (dn (by decide) k), fun k => h.f13 (dn (by decide) k)⟩
theorem TooA.op2  (h : TooA lo gO ao n co wr l v0 v1 v2 v3 v4 v5 v6 v7 v8 v9 v10 v11 v13 wx) : TooA lo gO ao n co wr (l.setIfInBounds 2 true) v0 v1 (.pointer (some ⟨gO, 1, none⟩)) v3 v4 v5 v6 v7 v8 v9 v10 v11 v13 wx :=
  ⟨h.bl, fun k => h.f0 (dn (by decide) k), fun k => h.f1 (dn (by decide) k), fun _ => rfl, fun k => h.f3 (dn (by decide) k), fun k => h.f4 (dn (by decide) k), fun k => h.f5 (dn (by decide) k), fun k => h.f6 (dn (by decide) k), fun k => h.f7 (dn (by decide) k), fun k => h.f8 (dn (by decide) k), fun k => h.f9 (dn (by decide) k), fun k => h.f10 (dn (by decide) k), fun k => h.f11 (dn (by decide) k), fun k => h.f13 (dn (by decide) k)⟩
theorem TooA.op3  (h : TooA lo gO ao n co wr l v0 v1 v2 v3 v4 v5 v6 v7 v8 v9 v10 v11 v13 wx) : TooA lo gO ao n co wr (l.setIfInBounds 3 true) v0 v1 v2 (.slice ao n co) v4 v5 v6 v7 v8 v9 v10 v11 v13 wx :=
  ⟨h.bl, fun k => h.f0 (dn (by decide) k), fun k => h.f1 (dn (by decide) k), fun k => h.f2 (dn (by decide) k), fun _ => rfl, fun k => h.f4 (dn (by decide) k), fun k => h.f5 (dn (by decide) k), fun k => h.f6 (dn (by decide) k), fun k => h.f7 (dn (by decide) k), fun k => h.f8 (dn (by decide) k), fun k => h.f9 (dn (by decide) k), fun k => h.f10 (dn (by decide) k), fun k => h.f11 (dn (by decide) k), fun k => h.f13 (dn (by decide) k)⟩
theorem TooA.op4  (h : TooA lo gO ao n co wr l v0 v1 v2 v3 v4 v5 v6 v7 v8 v9 v10 v11 v13 wx) : TooA lo gO ao n co wr (l.setIfInBounds 4 true) v0 v1 v2 v3 (.int .i64 (n : Int)) v5 v6 v7 v8 v9 v10 v11 v13 wx :=
  ⟨h.bl, fun k => h.f0 (dn (by decide) k), fun k => h.f1 (dn (by decide) k), fun k => h.f2 (dn (by decide) k), fun k => h.f3 (dn (by decide) k), fun _ => rfl, fun k => h.f5 (dn (by decide) k), fun k => h.f6 (dn (by decide) k), fun k => h.f7 (dn (by decide) k), fun k => h.f8 (dn (by decide) k), fun k => h.f9 (dn (by decide) k), fun k => h.f10 (dn (by decide) k), fun k => h.f11 (dn (by decide) k), fun k => h.f13 (dn (by decide) k)⟩
theorem TooA.op5  (h : TooA lo gO ao n co wr l v0 v1 v2 v3 v4 v5 v6 v7 v8 v9 v10 v11 v13 wx) : TooA lo gO ao n co wr (l.setIfInBounds 5 true) v0 v1 v2 v3 v4 (.int .i64 (107 + (n : Int))) v6 v7 v8 v9 v10 v11 v13 wx :=
  ⟨h.bl, fun k => h.f0 (dn (by decide) k), fun k => h.f1 (dn (by decide) k), fun k => h.f2 (dn (by decide) k), fun k => h.f3 (dn (by decide) k), fun k => h.f4 (dn (by decide) k), fun _ => rfl, fun k => h.f6 (dn (by decide) k), fun k => h.f7 (dn (by decide) k), fun k => h.f8 (dn (by decide) k), fun k => h.f9 (dn (by decide) k), fun k => h.f10 (dn (by decide) k), fun k => h.f11 (dn (by decide) k), fun k => h.f13 (dn (by decide) k)⟩
theorem TooA.op6  (h : TooA lo gO ao n co wr l v0 v1 v2 v3 v4 v5 v6 v7 v8 v9 v10 v11 v13 wx) : TooA lo gO ao n co wr (l.setIfInBounds 6 true) v0 v1 v2 v3 v4 v5 (.int .u8 (107 + (n : Int))) v7 v8 v9 v10 v11 v13 wx :=
  ⟨h.bl, fun k => h.f0 (dn (by decide) k), fun k => h.f1 (dn (by decide) k), fun k => h.f2 (dn (by decide) k), fun k => h.f3 (dn (by decide) k), fun k => h.f4 (dn (by decide) k), fun k => h.f5 (dn (by decide) k), fun _ => rfl, fun k => h.f7 (dn (by decide) k), fun k => h.f8 (dn (by decide) k), fun k => h.f9 (dn (by decide) k), fun k => h.f10 (dn (by decide) k), fun k => h.f11 (dn (by decide) k), fun k => h.f13 (dn (by decide) k)⟩
theorem TooA.op7 {g : Nat} (hb : Bx wx g #[.int .u8 (107 + (n : Int))] 5) (h : TooA lo gO ao n co wr l v0 v1 v2 v3 v4 v5 v6 v7 v8 v9 v10 v11 v13 wx) : TooA lo gO ao n co wr (l.setIfInBounds 7 true) v0 v1 v2 v3 v4 v5 v6 (.slice (some ⟨g, 0, none⟩) 1 1) v8 v9 v10 v11 v13 wx :=
  ⟨h.bl, fun k => h.f0 (dn (by decide) k), fun k => h.f1 (dn (by decide) k), fun k => h.f2 (dn (by decide) k), fun k => h.f3 (dn (by decide) k), fun k => h.f4 (dn (by decide) k), fun k => h.f5 (dn (by decide) k), fun k => h.f6 (dn (by decide) k), fun _ => ⟨g, rfl, hb⟩, fun k => h.f8 (dn (by decide) k), fun k => h.f9 (dn (by decide) k), fun k => h.f10 (dn (by decide) k), fun k => h.f11 (dn (by decide) k), fun k => h.f13 (dn (by decide) k)⟩
theorem TooA.op8 {nm : ByteArray} (hn10 : l.getD 10 false = false) (hn11 : l.getD 11 false = false) (hnm : nm.size ≤ 3) (h : TooA lo gO ao n co wr l v0 v1 v2 v3 v4 v5 v6 v7 v8 v9 v10 v11 v13 wx) : TooA lo gO ao n co wr (l.setIfInBounds 8 true) v0 v1 v2 v3 v4 v5 v6 v7 (.string nm) v9 v10 v11 v13 wx :=
  ⟨h.bl, fun k => h.f0 (dn (by decide) k), fun k => h.f1 (dn (by decide) k), fun k => h.f2 (dn (by decide) k), fun k => h.f3 (dn (by decide) k), fun k => h.f4 (dn (by decide) k), fun k => h.f5 (dn (by decide) k), fun k => h.f6 (dn (by decide) k), fun k => h.f7 (dn (by decide) k), fun _ => ⟨nm, rfl, hnm⟩, fun k => h.f9 (dn (by decide) k), fun k => absurd ((dn (by decide) k).symm.trans hn10) (by decide), fun k => absurd ((dn (by decide) k).symm.trans hn11) (by decide), fun k => h.f13 (dn (by decide) k)⟩
theorem TooA.op9 {g : Nat} (hn10 : l.getD 10 false = false) (hn11 : l.getD 11 false = false) (hb : OR wx lo g [ptr0, ptr0, ptr0]) (h : TooA lo gO ao n co wr l v0 v1 v2 v3 v4 v5 v6 v7 v8 v9 v10 v11 v13 wx) : TooA lo gO ao n co wr (l.setIfInBounds 9 true) v0 v1 v2 v3 v4 v5 v6 v7 v8 (.slice (some ⟨g, 0, none⟩) 3 3) v10 v11 v13 wx :=
  ⟨h.bl, fun k => h.f0 (dn (by decide) k), fun k => h.f1 (dn (by decide) k), fun k => h.f2 (dn (by decide) k), fun k => h.f3 (dn (by decide) k), fun k => h.f4 (dn (by decide) k), fun k => h.f5 (dn (by decide) k), fun k => h.f6 (dn (by decide) k), fun k => h.f7 (dn (by decide) k), fun k => h.f8 (dn (by decide) k), fun _ => ⟨g, rfl, hb⟩, fun k => absurd ((dn (by decide) k).symm.trans hn10) (by decide), fun k => absurd ((dn (by decide) k).symm.trans hn11) (by decide), fun k => h.f13 (dn (by decide) k)⟩
theorem TooA.op10  (h : TooA lo gO ao n co wr l v0 v1 v2 v3 v4 v5 v6 v7 v8 v9 v10 v11 v13 wx) : TooA lo gO ao n co wr (l.setIfInBounds 10 true) v0 v1 v2 v3 v4 v5 v6 v7 v8 v9 (.agg #[v8, v9]) v11 v13 wx :=
  ⟨h.bl, fun k => h.f0 (dn (by decide) k), fun k => h.f1 (dn (by decide) k), fun k => h.f2 (dn (by decide) k), fun k => h.f3 (dn (by decide) k), fun k => h.f4 (dn (by decide) k), fun k => h.f5 (dn (by decide) k), fun k => h.f6 (dn (by decide) k), fun k => h.f7 (dn (by decide) k), fun k => h.f8 (dn (by decide) k), fun k => h.f9 (dn (by decide) k), fun _ => rfl, fun k => h.f11 (dn (by decide) k), fun k => h.f13 (dn (by decide) k)⟩
theorem TooA.op11 {g : Nat} (hb : Bx wx g #[v8, v9] 51) (h : TooA lo gO ao n co wr l v0 v1 v2 v3 v4 v5 v6 v7 v8 v9 v10 v11 v13 wx) : TooA lo gO ao n co wr (l.setIfInBounds 11 true) v0 v1 v2 v3 v4 v5 v6 v7 v8 v9 v10 (.slice (some ⟨g, 0, none⟩) 1 1) v13 wx :=
  ⟨h.bl, fun k => h.f0 (dn (by decide) k), fun k => h.f1 (dn (by decide) k), fun k => h.f2 (dn (by decide) k), fun k => h.f3 (dn (by decide) k), fun k => h.f4 (dn (by decide) k), fun k => h.f5 (dn (by decide) k), fun k => h.f6 (dn (by decide) k), fun k => h.f7 (dn (by decide) k), fun k => h.f8 (dn (by decide) k), fun k => h.f9 (dn (by decide) k), fun k => h.f10 (dn (by decide) k), fun _ => ⟨g, rfl, hb⟩, fun k => h.f13 (dn (by decide) k)⟩
theorem TooA.op13  (h : TooA lo gO ao n co wr l v0 v1 v2 v3 v4 v5 v6 v7 v8 v9 v10 v11 v13 wx) : TooA lo gO ao n co wr (l.setIfInBounds 13 true) v0 v1 v2 v3 v4 v5 v6 v7 v8 v9 v10 v11 (.pointer (some ⟨gO, 1, none⟩)) wx :=
  ⟨h.bl, fun k => h.f0 (dn (by decide) k), fun k => h.f1 (dn (by decide) k), fun k => h.f2 (dn (by decide) k), fun k => h.f3 (dn (by decide) k), fun k => h.f4 (dn (by decide) k), fun k => h.f5 (dn (by decide) k), fun k => h.f6 (dn (by decide) k), fun k => h.f7 (dn (by decide) k), fun k => h.f8 (dn (by decide) k), fun k => h.f9 (dn (by decide) k), fun k => h.f10 (dn (by decide) k), fun k => h.f11 (dn (by decide) k), fun _ => rfl⟩
end

/-- WHAT HAS BEEN DONE, ahead of the append, behind it, behind the store. -/
def TooP (n₀ B q lo gO : Nat) (t : Int) (ao : Option Addr) (co : Nat) (vs : List VolD) (w wr : World) (l : Array Bool) (v0 v1 v2 v3 v4 v5 v6 v7 v8 v9 v10 v11 v12 v13 : Value) (wx : World) : Prop :=
  (l.getD 12 false = false ∧ TooA lo gO ao vs.length co wr l v0 v1 v2 v3 v4 v5 v6 v7 v8 v9 v10 v11 v13 wx) ∨
  (l.getD 12 false = true ∧ l.getD 14 false = false ∧ (l.getD 13 false = true → v13 = .pointer (some ⟨gO, 1, none⟩)) ∧ ∃ g4 cap4 nm bs, v12 = .slice (some ⟨g4, 0, none⟩) (vs.length + 1) cap4 ∧ (∃ y, wx.cell? ⟨gO, 1, none⟩ = some y) ∧ wx.frozen? ⟨gO, 1, none⟩ = false ∧ Und n₀ B q lo gO t (.slice (some ⟨g4, 0, none⟩) (vs.length + 1) cap4) (vs ++ [⟨nm, bs⟩]) w (wx.setCell ⟨gO, 1, none⟩ (.slice (some ⟨g4, 0, none⟩) (vs.length + 1) cap4))) ∨
  (l.getD 14 false = true ∧ ∃ g4 cap4 nm bs, Und n₀ B q lo gO t (.slice (some ⟨g4, 0, none⟩) (vs.length + 1) cap4) (vs ++ [⟨nm, bs⟩]) w wx)
def TooJ (mk : Value → Value → Value → Value → Value → Value → Value → Value → Value → Value → Value → Value → Value → Value →  Act) (n₀ B q lo gO : Nat) (t : Int) (ao : Option Addr) (co : Nat) (vs : List VolD) (w wr : World) (l : Array Bool) (a : Act) (wx : World) : Prop :=
  l.size = 15 ∧ ∃ v0 v1 v2 v3 v4 v5 v6 v7 v8 v9 v10 v11 v12 v13, a = mk v0 v1 v2 v3 v4 v5 v6 v7 v8 v9 v10 v11 v12 v13 ∧ TooP n₀ B q lo gO t ao co vs w wr l v0 v1 v2 v3 v4 v5 v6 v7 v8 v9 v10 v11 v12 v13 wx
def volLen (g : Nat) (w : World) : Nat := match w.cell? ⟨g, 1, none⟩ with
  | some (.slice _ n _) => n
  | _ => 0
theorem und_len {n₀ B q lo gO : Nat} {t : Int} {ao : Option Addr} {n co : Nat} {vs : List VolD} {w wr : World} (h : Und n₀ B q lo gO t (.slice ao n co) vs w wr) : volLen gO wr = n := by
  unfold volLen
  rw [show wr.cell? ⟨gO, 1, none⟩ = some (.slice ao n co) from h.out.cell 1]

end Go.Proofs.YtliadobopideaaaGreatDoor

namespace Go.Proofs.YtliadobopideaaaGreatDoor
open Go.RowKit Go.Sort

set_option maxRecDepth 100000 in
set_option maxHeartbeats 16000000 in
theorem l71Off_any (n₀ B p : Nat) (n : Int) (w : World) (hp : p ≤ 500000) (hn : Pool n) (hR : Rd n₀ B p w) :
    Calls Tryz.prog 42 #[.pointer (some ⟨B, 0, none⟩), .int .i64 n] w (OffDrawn n₀ B p 1000 w) := by
  have Hn := Lib.hid hn
  have hBlt := hR.lt
  have HR0 := Lib.hid (hR.alloc (.cells #[.int .i64 0, .slice none 0 0] 25))
  clear hn hR
  go_enter Tryz.func42, Tryz.ntmps42
  go_wp2_with fail
  refine (l71Root_any n₀ B p n _ (by omega) Hn.out HR0.out).mono ?_
  rintro e w1 ⟨t, o, vs, q, rfl, hO1, hv4, hq, hR1, hg1⟩
  have hz1 : w.heap.size + 1 ≤ w1.heap.size := by have := hg1.size; simp at this; omega
  have hbx1 : Bx w1 w.heap.size #[.int .i64 0, .slice none 0 0] 25 := (Bx.new w _ _).kept hg1 (fun e => by injection e with e; omega)
  have HU : Hid (Und n₀ B q w.heap.size w1.heap.size t o vs w (w1.alloc (.cells #[.int .i64 t, o] 25))) :=
    ⟨hbx1.kept (World.grownBy_alloc w1 _ none) (by simp), Bx.new _ _ _, ((hO1.low (by simp)).kept (World.grownBy_alloc w1 _ none) fr_none).wide (by simp), hR1.alloc _, ((World.grownBy_alloc w _ _).trans hg1).trans (World.grownBy_alloc w1 _ _)⟩
  obtain ⟨ao, co, rfl, hco⟩ := hO1.slice
  clear hO1 hR1 hg1 hbx1 HR0
  go_wp2_with fail
  generalize hgO : w1.heap.size = gO at HU ⊢
  generalize w1.alloc (.cells #[.int .i64 t, .slice ao vs.length co] 25) = w2 at HU ⊢
  have hgO1 : w.heap.size < gO := by omega
  clear hgO hz1
  refine (pick_any n₀ B q 12 _ (by omega) HU.out.rd).mono ?_
  rintro e w3 ⟨c, rfl, hc0, hc12, hR3, hg3⟩
  have hU3 : Hid (Und n₀ B (q + 1) w.heap.size gO t (.slice ao vs.length co) vs w w3) :=
    ⟨HU.out.res.kept hg3 (fun e => by injection e with e; omega), HU.out.out.kept hg3 (fun e => by injection e with e; omega), (HU.out.vol.kept hg3 (fr_low hBlt)).wide hg3.size, hR3, HU.out.gb.trans hg3⟩
  clear HU hR3 hg3 hc12
  by_cases hc : 0 < c
  · have hc' : decide (0 < c) = true := by simpa using hc
    have k0 : w3.cell? ⟨gO, 0, none⟩ = some (.int .i64 t) := hU3.out.out.cell 0
    have k1 : w3.cell? ⟨gO, 1, none⟩ = some (.slice ao vs.length co) := hU3.out.out.cell 1
    have m0 : w3.cell? ⟨w.heap.size, 0, none⟩ = some (.int .i64 0) := hU3.out.res.cell 0
    have m1 : w3.cell? ⟨w.heap.size, 1, none⟩ = some (.slice none 0 0) := hU3.out.res.cell 1
    have f0 := hU3.out.res.frozen 0
    have f1 := hU3.out.res.frozen 1
    have HE := Lib.hid (und_end hU3.out hBlt (Nat.le_refl _))
    go_wp2
    exact bodyPost_ret (v := .agg #[.int .i64 t, (.slice ao vs.length co)]) (by simp [results, Tryz.results42, go_sem, m0, m1]) rfl ⟨t, _, vs, q + 1, rfl, HE.out.1.lv, by first | omega | (simp; omega), by omega, HE.out.2.1, HE.out.2.2⟩
  · obtain rfl : c = 0 := by omega
    go_wp2_with fail
    refine (pick_any n₀ B (q + 1) 6 _ (by omega) hU3.out.rd).mono ?_
    rintro e w4 ⟨d, rfl, hd0, hd6, hR4, hg4⟩
    have HU : Hid (Und n₀ B (q + 2) w.heap.size gO t (.slice ao vs.length co) vs w w4) :=
      ⟨hU3.out.res.kept hg4 (fun e => by injection e with e; omega), hU3.out.out.kept hg4 (fun e => by injection e with e; omega), (hU3.out.vol.kept hg4 (fr_low hBlt)).wide hg4.size, hR4, hU3.out.gb.trans hg4⟩
    have hd6' := hd6 (by omega)
    clear hU3 hR4 hg4 hd6
    have hd : d = 0 ∨ d = 1 ∨ d = 2 ∨ d = 3 ∨ d = 4 ∨ d = 5 := by omega
    clear hd0 hd6' hc
    rcases hd with rfl | rfl | rfl | rfl | rfl | rfl
    · -- another count
      go_wp2_with fail
      refine (pick_any n₀ B (q + 2) 3 _ (by omega) (HU.out.rd.alloc _)).mono ?_
      rintro e w5 ⟨d, rfl, hd0, hd3, hR5, hg5⟩
      have hd3' := hd3 (by omega)
      obtain ⟨k, rfl⟩ := Int.eq_ofNat_of_zero_le hd0
      have hsz4 : w4.heap.size + 1 ≤ w5.heap.size := by have := hg5.size; simp at this; omega
      have hB4 := HU.out.rd.lt
      have hO4 := HU.out.out.lt
      have hgT : w4.grownBy w5 (some B) := (World.grownBy_alloc _ _ _).trans hg5
      have HU5 : Hid (Und n₀ B (q + 3) w.heap.size gO t (.slice ao vs.length co) vs w w5) :=
        ⟨HU.out.res.kept hgT (fun e => by injection e with e; omega), HU.out.out.kept hgT (fun e => by injection e with e; omega), (HU.out.vol.kept hgT (fr_low hBlt)).wide hgT.size, hR5, HU.out.gb.trans hgT⟩
      have hbx : Bx w5 w4.heap.size #[.int .i64 (-1), .int .i64 100000, .int .i64 100001] 3 := (Bx.new w4 _ _).kept hg5 (fun e => by injection e with e; omega)
      obtain ⟨z, hz⟩ : ∃ z, w5.cell? ⟨w4.heap.size, k, none⟩ = some (.int .i64 z) := by
        have hk : k = 0 ∨ k = 1 ∨ k = 2 := by omega
        rcases hk with rfl | rfl | rfl
        · exact ⟨_, hbx.cell 0⟩
        · exact ⟨_, hbx.cell 1⟩
        · exact ⟨_, hbx.cell 2⟩
      have kk0 : w5.cell? ⟨gO, 0, none⟩ = some (.int .i64 t) := HU5.out.out.cell 0
      have ff0 := HU5.out.out.frozen 0
      have hgs := gset w5 gO 0 (.int .i64 z)
      have HX : Hid (Und n₀ B (q + 3) w.heap.size gO z (.slice ao vs.length co) vs w (w5.setCell ⟨gO, 0, none⟩ (.int .i64 z))) := by
        obtain ⟨xs, ho, hx⟩ := HU5.out.vol
        refine ⟨HU5.out.res.kept hgs (fun e => by injection e with e; omega), HU5.out.out.set 0 _, ⟨xs, ho.kept hgs (.inr (fun e => (bx_vol HU5.out.out ho) e.symm)), ?_⟩, HU5.out.rd.kept hgs (fun i e => by cases e; omega), HU5.out.gb.andThen hgs (fun i e => .inl (by cases e; omega))⟩
        simpa using hx.keptV hgs (fv_root HU5.out.out)
      clear HU HU5 hbx hgT hg5 hR5 hd3 hgs
      have k0 : (w5.setCell ⟨gO, 0, none⟩ (.int .i64 z)).cell? ⟨gO, 0, none⟩ = some (.int .i64 z) := HX.out.out.cell 0
      have k1 : (w5.setCell ⟨gO, 0, none⟩ (.int .i64 z)).cell? ⟨gO, 1, none⟩ = some (.slice ao vs.length co) := HX.out.out.cell 1
      have m0 : (w5.setCell ⟨gO, 0, none⟩ (.int .i64 z)).cell? ⟨w.heap.size, 0, none⟩ = some (.int .i64 0) := HX.out.res.cell 0
      have m1 : (w5.setCell ⟨gO, 0, none⟩ (.int .i64 z)).cell? ⟨w.heap.size, 1, none⟩ = some (.slice none 0 0) := HX.out.res.cell 1
      have f0 := HX.out.res.frozen 0
      have f1 := HX.out.res.frozen 1
      have HE := Lib.hid (und_end HX.out hBlt (Nat.le_refl _))
      go_wp2
      exact bodyPost_ret (v := .agg #[.int .i64 z, (.slice ao vs.length co)]) (by simp [results, Tryz.results42, go_sem, m0, m1]) rfl ⟨z, _, vs, q + 3, rfl, HE.out.1.lv, by first | omega | (simp; omega), by omega, HE.out.2.1, HE.out.2.2⟩
    · -- a volume that is named wrongly
      have hmk := make3
      obtain ⟨i0, hi0, hz0, hz1, hz2⟩ := info_parts infoVoD
      obtain ⟨xs, hown, hvx⟩ := HU.out.vol
      have k1 : w4.cell? ⟨gO, 1, none⟩ = some (.slice ao vs.length co) := HU.out.out.cell 1
      have hlow : w.heap.size ≤ w4.heap.size := HU.out.gb.size
      have hO4 := HU.out.out.lt
      have hBa : Below w4.heap.size w4 ((w4.drew.alloc (.cells zer9 54)).alloc (.cells #[.string ⟨#[65]⟩, .slice (some ⟨w4.heap.size, 0, none⟩) 3 3] 51)) := ((Below.refl _ _).drew.alloc (Nat.le_refl _) _).alloc (by simp) _
      have hown' := own_below hown hBa
      have hnews := news_two (w4.drew.alloc (.cells zer9 54)) (.string ⟨#[65]⟩) (.slice (some ⟨w4.heap.size, 0, none⟩) 3 3) 51 (w4.heap.size + 1) (by simp)
      have hbase : w.heap.size ≤ ((w4.drew.alloc (.cells zer9 54)).alloc (.cells #[.string ⟨#[65]⟩, .slice (some ⟨w4.heap.size, 0, none⟩) 3 3] 51)).heap.size := by simp; omega
      have HX := Lib.hid (fun g4 cap4 w9 h4 hg4 => und_more (g4 := g4) (cap4 := cap4) (w4 := w9) (nm := ⟨#[65]⟩) hBlt hgO1 (HU.out.grow hBlt hgO1 (grown_of hBa _) (PtrDrawn.rd HU.out.rd hBa)) (Nat.le_refl _) ((hvx.kept (grown_of hBa none) fr_none).wide hBa.size) hown' (by decide) (tpt_new w4.drew w.heap.size hlow _) rfl h4 hg4)
      clear HU hown hvx hBa
      go_wp2_with fail
      go_region_law (first
        | (refine step_append_lies _ (by rfl) _ _ _ (by rfl) w.heap.size 51 i0 _ 2 40 Tryz.underlying23 hi0 hz0 hz1 hz2 rfl (by omega) _ vs.length xs (by rfl) hown' ⟨_, 0, none⟩ 1 1 [.string ⟨#[65]⟩, .slice (some ⟨w4.heap.size, 0, none⟩) 3 3] (by rfl) rfl hnews (by simp [Value.oneCell']) (by omega) (by simp [maxLen]; omega) (by omega) hbase _ rfl ?_; intro g4 cap4 w9 hown4 hgrow4 hat4 hlt4; obtain ⟨⟨yy, hy⟩, hfy, hUn⟩ := HX.out g4 cap4 w9 hown4 hgrow4; have HUn := Lib.hid hUn; clear hown4 hgrow4 hat4 hlt4 hUn))
      all_goals
        generalize hW9 : w9.setCell ⟨gO, 1, none⟩ (.slice (some ⟨g4, 0, none⟩) (vs.length + 1) cap4) = W9 at HUn ⊢
        clear hW9
        have kk0 : W9.cell? ⟨gO, 0, none⟩ = some (.int .i64 t) := HUn.out.out.cell 0
        have kk1 : W9.cell? ⟨gO, 1, none⟩ = some (.slice (some ⟨g4, 0, none⟩) (vs.length + 1) cap4) := HUn.out.out.cell 1
        have m0 : W9.cell? ⟨w.heap.size, 0, none⟩ = some (.int .i64 0) := HUn.out.res.cell 0
        have m1 : W9.cell? ⟨w.heap.size, 1, none⟩ = some (.slice none 0 0) := HUn.out.res.cell 1
        have f0 := HUn.out.res.frozen 0
        have f1 := HUn.out.res.frozen 1
        have HE := Lib.hid (und_end HUn.out hBlt (Nat.le_refl _))
        go_wp2
        exact bodyPost_ret (v := .agg #[.int .i64 t, .slice (some ⟨g4, 0, none⟩) (vs.length + 1) cap4]) (by simp [results, Tryz.results42, go_sem, m0, m1]) rfl ⟨t, _, _, q + 2, rfl, HE.out.1.lv, by simp; omega, by omega, HE.out.2.1, HE.out.2.2⟩
    · -- a block less
      by_cases hv0 : vs = []
      · subst hv0
        have k1 : w4.cell? ⟨gO, 1, none⟩ = some (.slice ao 0 co) := HU.out.out.cell 1
        have k0 : w4.cell? ⟨gO, 0, none⟩ = some (.int .i64 t) := HU.out.out.cell 0
        have m0 : w4.cell? ⟨w.heap.size, 0, none⟩ = some (.int .i64 0) := HU.out.res.cell 0
        have m1 : w4.cell? ⟨w.heap.size, 1, none⟩ = some (.slice none 0 0) := HU.out.res.cell 1
        have f0 := HU.out.res.frozen 0
        have f1 := HU.out.res.frozen 1
        have HE := Lib.hid (und_end HU.out hBlt (Nat.le_refl _))
        go_wp2
        exact bodyPost_ret (v := .agg #[.int .i64 t, .slice ao 0 co]) (by simp [results, Tryz.results42, go_sem, m0, m1]) rfl ⟨t, _, [], q + 2, rfl, HE.out.1.lv, by simp, by omega, HE.out.2.1, HE.out.2.2⟩
      · have hvl : 0 < vs.length := List.length_pos_iff.2 hv0
        have hvi : (0 : Int) < (vs.length : Int) := by omega
        rcases HU.out.vol.cells with hc | ⟨b, rfl, hc⟩
        · exact absurd hc hv0
        have k0 : w4.cell? ⟨gO, 0, none⟩ = some (.int .i64 t) := HU.out.out.cell 0
        have k1 : w4.cell? ⟨gO, 1, none⟩ = some (.slice (some ⟨b, 0, none⟩) vs.length co) := HU.out.out.cell 1
        have hup := HU.out.vol.up HU.out.res
        obtain ⟨rb, uc, y1, hu3, hum, fy, hlb, vs', hl', hLV⟩ := off2 hup hvl
        obtain ⟨xs, ho, _⟩ := HU.out.vol
        have hbO := bx_vol HU.out.out ho
        have hbR := bx_vol HU.out.res ho
        have hneO : gO ≠ b := fun e => hbO (by rw [e]; rfl)
        have hgs := gset w4 b 1 (.slice (some ⟨rb, 3, none⟩) 2 (uc - 1))
        have hgR : (w4.setCell ⟨b, 1, none⟩ (.slice (some ⟨rb, 3, none⟩) 2 (uc - 1))).grownBy (((w4.setCell ⟨b, 1, none⟩ (.slice (some ⟨rb, 3, none⟩) 2 (uc - 1))).setCell ⟨w.heap.size, 0, none⟩ (.int .i64 t)).setCell ⟨w.heap.size, 1, none⟩ (.slice (some ⟨b, 0, none⟩) vs.length co)) (some w.heap.size) := (gset _ _ _ _).trans (gset _ _ _ _)
        have HE := Lib.hid ((hLV.kept hgR (fun b e => by cases e; omega)).low (Nat.le_succ _))
        have HR := Lib.hid ((HU.out.rd.kept hgs (fun i e => by cases e; omega)).kept hgR (fun i e => by cases e; omega))
        have HG := Lib.hid ((HU.out.gb.andThen hgs (fun i e => .inl (by cases e; omega))).andThen hgR (fun i e => .inl (by cases e; omega)))
        have hbX := HU.out.res.kept hgs hbR
        have hbY := HU.out.out.kept hgs hbO
        have kk0 : (w4.setCell ⟨b, 1, none⟩ (.slice (some ⟨rb, 3, none⟩) 2 (uc - 1))).cell? ⟨gO, 0, none⟩ = some (.int .i64 t) := hbY.cell 0
        have kk1 : (w4.setCell ⟨b, 1, none⟩ (.slice (some ⟨rb, 3, none⟩) 2 (uc - 1))).cell? ⟨gO, 1, none⟩ = some (.slice (some ⟨b, 0, none⟩) vs.length co) := hbY.cell 1
        have m0 : (w4.setCell ⟨b, 1, none⟩ (.slice (some ⟨rb, 3, none⟩) 2 (uc - 1))).cell? ⟨w.heap.size, 0, none⟩ = some (.int .i64 0) := hbX.cell 0
        have m1 : (w4.setCell ⟨b, 1, none⟩ (.slice (some ⟨rb, 3, none⟩) 2 (uc - 1))).cell? ⟨w.heap.size, 1, none⟩ = some (.slice none 0 0) := hbX.cell 1
        have f0 := hbX.frozen 0
        have f1 := hbX.frozen 1
        have hui : (1 : Int) ≤ (uc : Int) ∧ (3 : Int) ≤ (uc : Int) := by omega
        clear HU hup hLV ho hgs hgR hc hbX hbY
        go_wp2_with fail
        go_region_law (fail)
        all_goals
          go_wp2
          exact bodyPost_ret (v := .agg #[.int .i64 t, .slice (some ⟨b, 0, none⟩) vs.length co]) (by simp [results, Tryz.results42, go_sem, m0, m1]) rfl ⟨t, _, vs', q + 2, rfl, HE.out, by omega, by omega, HR.out, HG.out.trans (grown_of (Below.refl _ _).drew _)⟩
    · -- another pointer
      by_cases hv0 : vs = []
      · subst hv0
        have k1 : w4.cell? ⟨gO, 1, none⟩ = some (.slice ao 0 co) := HU.out.out.cell 1
        have k0 : w4.cell? ⟨gO, 0, none⟩ = some (.int .i64 t) := HU.out.out.cell 0
        have m0 : w4.cell? ⟨w.heap.size, 0, none⟩ = some (.int .i64 0) := HU.out.res.cell 0
        have m1 : w4.cell? ⟨w.heap.size, 1, none⟩ = some (.slice none 0 0) := HU.out.res.cell 1
        have f0 := HU.out.res.frozen 0
        have f1 := HU.out.res.frozen 1
        have HE := Lib.hid (und_end HU.out hBlt (Nat.le_refl _))
        go_wp2
        exact bodyPost_ret (v := .agg #[.int .i64 t, .slice ao 0 co]) (by simp [results, Tryz.results42, go_sem, m0, m1]) rfl ⟨t, _, [], q + 2, rfl, HE.out.1.lv, by simp, by omega, HE.out.2.1, HE.out.2.2⟩
      · have hvl : 0 < vs.length := List.length_pos_iff.2 hv0
        have hvi : (0 : Int) < (vs.length : Int) := by omega
        rcases HU.out.vol.cells with hc | ⟨b, rfl, hc⟩
        · exact absurd hc hv0
        have k1 : w4.cell? ⟨gO, 1, none⟩ = some (.slice (some ⟨b, 0, none⟩) vs.length co) := HU.out.out.cell 1
        obtain ⟨rb, uc, y1, hu3, hum, _, hlb, _⟩ := off2 HU.out.vol hvl
        have HRd := Lib.hid HU.out.rd.drew
        have hBb : b ≠ B := by omega
        have hOB : gO ≠ B := by omega
        clear hc
        go_wp2_with fail
        go_region_law (first
          | (go_simp; go_at_call 77; refine (l71Some_any n₀ B (q + 2) n _ (by omega) Hn.out HRd.out).mono ?_; rintro e w5 ⟨d5, v5, q5, rfl, hl5, hd5, hq5, hR5, hg5⟩; have hgT : w4.grownBy w5 (some B) := (grown_of (Below.refl _ _).drew _).trans hg5; have HU5 := Lib.hid (HU.out.grow hBlt hgO1 hgT hR5); have x1 : w5.cell? ⟨gO, 1, none⟩ = some (.slice (some ⟨b, 0, none⟩) vs.length co) := HU5.out.out.cell 1; have x2 := hgT.cell (a := ⟨b, 1, none⟩) y1 (fun e => hBb (by injection e)); obtain ⟨⟨s0, s1, s2, p0, p1, p2⟩, pf, hTR, hlr, hhr, hst⟩ := off3 ((HU.out.vol.up HU.out.res).kept hgT (fr_low (by omega))) hvl x2; obtain ⟨vs', hl', hLV⟩ := hst d5.size d5.sum v5 d5.places ⟨hl5, hd5⟩; have pf0 := pf 0; have pf1 := pf 1; have pf2 := pf 2; have HLV := Lib.hid hLV; have Hpf := Lib.hid pf; obtain ⟨av, cv, rfl, _⟩ := hl5; clear pf hst hLV hR5 hg5))
        all_goals
          generalize hv5 : Value.slice av d5.places.length cv = v5 at HLV ⊢
          obtain ⟨W, hW⟩ : ∃ W, W = ((w5.setCell ⟨rb, 0, none⟩ (.int .i64 d5.size)).setCell ⟨rb, 1, none⟩ (.int .i64 d5.sum)).setCell ⟨rb, 2, none⟩ v5 := ⟨_, rfl⟩
          have hgs : w5.grownBy W (some rb) := by rw [hW]; exact ((gset _ _ _ _).trans (gset _ _ _ _)).trans (gset _ _ _ _)
          rw [← hW] at HLV ⊢
          clear hW
          have hbX := HU5.out.res.kept hgs (fun e => by injection e with e; omega)
          have hbY := HU5.out.out.kept hgs (fun e => by injection e with e; subst e; have := hTR.one HU5.out.out.isT; simp at this)
          have kk0 : W.cell? ⟨gO, 0, none⟩ = some (.int .i64 t) := hbY.cell 0
          have kk1 : W.cell? ⟨gO, 1, none⟩ = some (.slice (some ⟨b, 0, none⟩) vs.length co) := hbY.cell 1
          have m0 : W.cell? ⟨w.heap.size, 0, none⟩ = some (.int .i64 0) := hbX.cell 0
          have m1 : W.cell? ⟨w.heap.size, 1, none⟩ = some (.slice none 0 0) := hbX.cell 1
          have f0 := hbX.frozen 0
          have f1 := hbX.frozen 1
          have hgR : W.grownBy ((W.setCell ⟨w.heap.size, 0, none⟩ (.int .i64 t)).setCell ⟨w.heap.size, 1, none⟩ (.slice (some ⟨b, 0, none⟩) vs.length co)) (some w.heap.size) := (gset _ _ _ _).trans (gset _ _ _ _)
          have HE := Lib.hid ((HLV.out.kept hgR (fun b e => by cases e; omega)).low (Nat.le_succ _))
          have HR := Lib.hid ((HU5.out.rd.kept hgs (fun i e => by cases e; omega)).kept hgR (fun i e => by cases e; omega))
          have HG := Lib.hid ((HU5.out.gb.andThen hgs (fun i e => .inl (by cases e; omega))).andThen hgR (fun i e => .inl (by cases e; omega)))
          clear hbX hbY HU HU5 HLV hgs hgR
          go_wp2
          exact bodyPost_ret (v := .agg #[.int .i64 t, .slice (some ⟨b, 0, none⟩) vs.length co]) (by simp [results, Tryz.results42, go_sem, m0, m1]) rfl ⟨t, _, vs', q5, rfl, HE.out, by omega, by omega, HR.out, HG.out⟩
    · -- a volume twice
      by_cases hv0 : vs = []
      · subst hv0
        have k1 : w4.cell? ⟨gO, 1, none⟩ = some (.slice ao 0 co) := HU.out.out.cell 1
        have k0 : w4.cell? ⟨gO, 0, none⟩ = some (.int .i64 t) := HU.out.out.cell 0
        have m0 : w4.cell? ⟨w.heap.size, 0, none⟩ = some (.int .i64 0) := HU.out.res.cell 0
        have m1 : w4.cell? ⟨w.heap.size, 1, none⟩ = some (.slice none 0 0) := HU.out.res.cell 1
        have f0 := HU.out.res.frozen 0
        have f1 := HU.out.res.frozen 1
        have HE := Lib.hid (und_end HU.out hBlt (Nat.le_refl _))
        go_wp2
        exact bodyPost_ret (v := .agg #[.int .i64 t, .slice ao 0 co]) (by simp [results, Tryz.results42, go_sem, m0, m1]) rfl ⟨t, _, [], q + 2, rfl, HE.out.1.lv, by simp, by omega, HE.out.2.1, HE.out.2.2⟩
      · have hvl : 0 < vs.length := List.length_pos_iff.2 hv0
        have hvi : (0 : Int) < (vs.length : Int) := by omega
        obtain ⟨i0, hi0, hz0, hz1, hz2⟩ := info_parts infoVoD
        rcases HU.out.vol.cells with hc | ⟨b, rfl, hc⟩
        · exact absurd hc hv0
        obtain ⟨c0, u, c1, hu⟩ := hc 0 hvl
        obtain ⟨xs, hown, hvx⟩ := HU.out.vol
        obtain ⟨_, hnm, _, _, _, hl3⟩ := hvx 0 hvl
        rw [Nat.zero_mul, Nat.zero_add] at c0 c1
        generalize (vs.getD 0 vol0).name = nm at c0 hnm
        generalize (vs.getD 0 vol0).blocks = bs at hu hl3
        have hus : ∃ a c, u = .slice a 3 c := by obtain ⟨a, c, e, _⟩ := hu; exact ⟨a, c, by rw [e, hl3]⟩
        obtain ⟨ua, uc, rfl⟩ := hus
        have k1 : w4.cell? ⟨gO, 1, none⟩ = some (.slice (some ⟨b, 0, none⟩) vs.length co) := HU.out.out.cell 1
        have hlow : w.heap.size ≤ w4.heap.size := HU.out.gb.size
        have hO4 := HU.out.out.lt
        have hBa : Below w4.heap.size w4 (w4.drew.alloc (.cells #[.string nm, .slice ua 3 uc] 51)) := (Below.refl _ _).drew.alloc (Nat.le_refl _) _
        have hown' := own_below hown hBa
        have hnews := news_two w4.drew (.string nm) (.slice ua 3 uc) 51 w4.heap.size rfl
        have hbase : w.heap.size ≤ (w4.drew.alloc (.cells #[.string nm, .slice ua 3 uc] 51)).heap.size := by simp; omega
        have HX := Lib.hid (fun g4 cap4 w9 h4 hg4 => und_more (g4 := g4) (cap4 := cap4) (w4 := w9) (nm := nm) hBlt hgO1 (HU.out.grow hBlt hgO1 (grown_of hBa _) (PtrDrawn.rd HU.out.rd hBa)) (Nat.le_refl _) ((hvx.kept (grown_of hBa none) fr_none).wide hBa.size) hown' hnm ((hu.kept (grown_of hBa none) fr_none).wide hBa.size) hl3 h4 hg4)
        clear HU hown hvx hBa hc hu hl3
        go_wp2_with fail
        go_region_law (first
          | (refine step_append_lies _ (by rfl) _ _ _ (by rfl) w.heap.size 51 i0 _ 2 40 Tryz.underlying23 hi0 hz0 hz1 hz2 rfl (by omega) _ vs.length xs (by rfl) hown' ⟨_, 0, none⟩ 1 1 [.string nm, .slice ua 3 uc] (by rfl) rfl hnews (by simp [Value.oneCell']) (by omega) (by simp [maxLen]; omega) (by omega) hbase _ rfl ?_; intro g4 cap4 w9 hown4 hgrow4 hat4 hlt4; obtain ⟨⟨yy, hy⟩, hfy, hUn⟩ := HX.out g4 cap4 w9 hown4 hgrow4; have HUn := Lib.hid hUn; clear hown4 hgrow4 hat4 hlt4 hUn))
        all_goals
          generalize hW9 : w9.setCell ⟨gO, 1, none⟩ (.slice (some ⟨g4, 0, none⟩) (vs.length + 1) cap4) = W9 at HUn ⊢
          clear hW9
          have kk0 : W9.cell? ⟨gO, 0, none⟩ = some (.int .i64 t) := HUn.out.out.cell 0
          have kk1 : W9.cell? ⟨gO, 1, none⟩ = some (.slice (some ⟨g4, 0, none⟩) (vs.length + 1) cap4) := HUn.out.out.cell 1
          have m0 : W9.cell? ⟨w.heap.size, 0, none⟩ = some (.int .i64 0) := HUn.out.res.cell 0
          have m1 : W9.cell? ⟨w.heap.size, 1, none⟩ = some (.slice none 0 0) := HUn.out.res.cell 1
          have f0 := HUn.out.res.frozen 0
          have f1 := HUn.out.res.frozen 1
          have HE := Lib.hid (und_end HUn.out hBlt (Nat.le_refl _))
          go_wp2
          exact bodyPost_ret (v := .agg #[.int .i64 t, .slice (some ⟨g4, 0, none⟩) (vs.length + 1) cap4]) (by simp [results, Tryz.results42, go_sem, m0, m1]) rfl ⟨t, _, _, q + 2, rfl, HE.out.1.lv, by simp; omega, by omega, HE.out.2.1, HE.out.2.2⟩
    · -- too many
      have hv4' : vs.length ≤ 5 := by omega
      go_wp2_with fail
      go_loopw [] (fun wr => ∃ (a' : Option Addr) (c' : Nat) (vs' : List VolD), vs'.length ≤ 5 ∧ Hid (Und n₀ B (q + 2) w.heap.size gO t (.slice a' vs'.length c') vs' w wr)) (fun wr => 5 - volLen gO wr)
      case atStart => exact ⟨ao, co, vs, hv4', HU⟩
      case round =>
        clear HU hv4 hv4' hco
        obtain ⟨a', c', vs', hl5, hU⟩ := hrel
        have hm := Lib.hid (und_len hU.out)
        have k1 : wr.cell? ⟨gO, 1, none⟩ = some (.slice a' vs'.length c') := hU.out.out.cell 1
        by_cases hlt : vs'.length ≤ 4
        · have hli : (vs'.length : Int) ≤ 4 := by omega
          go_upto_region 6 with (fail)
          obtain ⟨i0, hi0, hz0, hz1, hz2⟩ := info_parts infoVoD
          have hlow : w.heap.size ≤ wr.heap.size := hU.out.gb.size
          have hw5 : IntKind.i64.wrap (107 + (vs'.length : Int)) = 107 + (vs'.length : Int) := by rw [IntKind.wrap_i64]; omega
          have hw6 : IntKind.u8.wrap (107 + (vs'.length : Int)) = 107 + (vs'.length : Int) := by rw [IntKind.wrap_u8]; omega
          have hmk := make3
          obtain ⟨xs, hown, hvx⟩ := hU.out.vol
          refine wp_region_any (by kernel_rfl) ?_
          refine wpAny_closed (TooJ (fun v0 v1 v2 v3 v4 v5 v6 v7 v8 v9 v10 v11 v12 v13 => { tmps := #[.pointer (some ⟨B, 0, none⟩), .int .i64 n, undef, undef, .pointer (some ⟨w.heap.size, 0, none⟩), .pointer (some ⟨gO, 0, none⟩), .pointer (some ⟨B, 0, none⟩), .int .i64 n, .agg #[.int .i64 t, .slice ao vs.length co], .pointer (some ⟨B, 0, none⟩), .int .i64 0, .bool false, undef, .pointer (some ⟨B, 0, none⟩), .int .i64 5, .pointer (some ⟨gO, 1, none⟩), .slice a' vs'.length c', .int .i64 (vs'.length : Int), .bool true, v0, v1, v2, v3, v4, v5, v6, v7, v8, v9, v10, v11, v12, v13, .bool false, .bool false, undef, undef, undef, undef, undef, undef, .bool false, .bool false, undef, undef, undef, undef, undef, undef, undef, .bool false, .bool false, undef, undef, undef, undef, undef, undef, undef, undef, undef, undef, undef, undef, undef, undef, .bool false, .bool false, undef, undef, undef, undef, undef, undef, undef, undef, undef, undef, undef, undef, undef, .bool false, .bool false, undef, undef, undef, undef, undef, undef, undef, undef, undef, undef, undef, undef, undef, undef], defers := [] }) n₀ B (q + 2) w.heap.size gO t a' c' vs' w wr) ?_ ?_ _ _ _ _ (by decide) (closed_none _) ?_
          · intro l a wx hJ hC hr
            obtain ⟨hsz, v0, v1, v2, v3, v4, v5, v6, v7, v8, v9, v10, v11, v12, v13, rfl, hP⟩ := hJ
            have h14 : l.getD 14 false = true := by
              rcases ready_nil (by kernel_rfl) hr 14 (by decide) with h | h
              · exact h
              · rw [Array.getD_eq_getD_getElem?, Array.getElem?_eq_getElem (by omega)] at h ⊢
                exact h
            have h12 : l.getD 12 false = true := (fun hh => by first | exact dep_of 0 hC hh (show _ = some _ from rfl) rfl rfl | exact dep_of 1 hC hh (show _ = some _ from rfl) rfl rfl | exact dep_of 2 hC hh (show _ = some _ from rfl) rfl rfl | exact dep_of 3 hC hh (show _ = some _ from rfl) rfl rfl : l.getD 14 false = true → l.getD 12 false = true) h14
            rcases hP with ⟨h, _⟩ | ⟨_, h, _⟩ | ⟨_, g4, cap4, nm, bs, hUn⟩
            · exact absurd (h12.symm.trans h) (by decide)
            · exact absurd (h14.symm.trans h) (by decide)
            · have hm2 := und_len hUn
              have hm1 := hm.out
              try dsimp only
              go_wp2
              have hle : vs'.length + 1 = (vs' ++ [VolD.mk nm bs]).length := by simp
              exact ⟨⟨some ⟨g4, 0, none⟩, cap4, vs' ++ [⟨nm, bs⟩], by simp; omega, hle ▸ hUn⟩, by omega⟩
          · intro l a wx i' hJ hC hi
            obtain ⟨hlt', hnl, _⟩ := ready_spec hi
            obtain ⟨hsz, v0, v1, v2, v3, v4, v5, v6, v7, v8, v9, v10, v11, v12, v13, rfl, hP⟩ := hJ
            have hnl' := gd_not hnl
            have e1_0 : l.getD 1 false = true → l.getD 0 false = true := fun hh => by first | exact dep_of 0 hC hh (show _ = some _ from rfl) rfl rfl | exact dep_of 1 hC hh (show _ = some _ from rfl) rfl rfl | exact dep_of 2 hC hh (show _ = some _ from rfl) rfl rfl | exact dep_of 3 hC hh (show _ = some _ from rfl) rfl rfl
            have e3_2 : l.getD 3 false = true → l.getD 2 false = true := fun hh => by first | exact dep_of 0 hC hh (show _ = some _ from rfl) rfl rfl | exact dep_of 1 hC hh (show _ = some _ from rfl) rfl rfl | exact dep_of 2 hC hh (show _ = some _ from rfl) rfl rfl | exact dep_of 3 hC hh (show _ = some _ from rfl) rfl rfl
            have e4_3 : l.getD 4 false = true → l.getD 3 false = true := fun hh => by first | exact dep_of 0 hC hh (show _ = some _ from rfl) rfl rfl | exact dep_of 1 hC hh (show _ = some _ from rfl) rfl rfl | exact dep_of 2 hC hh (show _ = some _ from rfl) rfl rfl | exact dep_of 3 hC hh (show _ = some _ from rfl) rfl rfl
            have e5_4 : l.getD 5 false = true → l.getD 4 false = true := fun hh => by first | exact dep_of 0 hC hh (show _ = some _ from rfl) rfl rfl | exact dep_of 1 hC hh (show _ = some _ from rfl) rfl rfl | exact dep_of 2 hC hh (show _ = some _ from rfl) rfl rfl | exact dep_of 3 hC hh (show _ = some _ from rfl) rfl rfl
            have e6_5 : l.getD 6 false = true → l.getD 5 false = true := fun hh => by first | exact dep_of 0 hC hh (show _ = some _ from rfl) rfl rfl | exact dep_of 1 hC hh (show _ = some _ from rfl) rfl rfl | exact dep_of 2 hC hh (show _ = some _ from rfl) rfl rfl | exact dep_of 3 hC hh (show _ = some _ from rfl) rfl rfl
            have e7_6 : l.getD 7 false = true → l.getD 6 false = true := fun hh => by first | exact dep_of 0 hC hh (show _ = some _ from rfl) rfl rfl | exact dep_of 1 hC hh (show _ = some _ from rfl) rfl rfl | exact dep_of 2 hC hh (show _ = some _ from rfl) rfl rfl | exact dep_of 3 hC hh (show _ = some _ from rfl) rfl rfl
            have e8_7 : l.getD 8 false = true → l.getD 7 false = true := fun hh => by first | exact dep_of 0 hC hh (show _ = some _ from rfl) rfl rfl | exact dep_of 1 hC hh (show _ = some _ from rfl) rfl rfl | exact dep_of 2 hC hh (show _ = some _ from rfl) rfl rfl | exact dep_of 3 hC hh (show _ = some _ from rfl) rfl rfl
            have e10_8 : l.getD 10 false = true → l.getD 8 false = true := fun hh => by first | exact dep_of 0 hC hh (show _ = some _ from rfl) rfl rfl | exact dep_of 1 hC hh (show _ = some _ from rfl) rfl rfl | exact dep_of 2 hC hh (show _ = some _ from rfl) rfl rfl | exact dep_of 3 hC hh (show _ = some _ from rfl) rfl rfl
            have e10_9 : l.getD 10 false = true → l.getD 9 false = true := fun hh => by first | exact dep_of 0 hC hh (show _ = some _ from rfl) rfl rfl | exact dep_of 1 hC hh (show _ = some _ from rfl) rfl rfl | exact dep_of 2 hC hh (show _ = some _ from rfl) rfl rfl | exact dep_of 3 hC hh (show _ = some _ from rfl) rfl rfl
            have e11_10 : l.getD 11 false = true → l.getD 10 false = true := fun hh => by first | exact dep_of 0 hC hh (show _ = some _ from rfl) rfl rfl | exact dep_of 1 hC hh (show _ = some _ from rfl) rfl rfl | exact dep_of 2 hC hh (show _ = some _ from rfl) rfl rfl | exact dep_of 3 hC hh (show _ = some _ from rfl) rfl rfl
            have e12_1 : l.getD 12 false = true → l.getD 1 false = true := fun hh => by first | exact dep_of 0 hC hh (show _ = some _ from rfl) rfl rfl | exact dep_of 1 hC hh (show _ = some _ from rfl) rfl rfl | exact dep_of 2 hC hh (show _ = some _ from rfl) rfl rfl | exact dep_of 3 hC hh (show _ = some _ from rfl) rfl rfl
            have e12_11 : l.getD 12 false = true → l.getD 11 false = true := fun hh => by first | exact dep_of 0 hC hh (show _ = some _ from rfl) rfl rfl | exact dep_of 1 hC hh (show _ = some _ from rfl) rfl rfl | exact dep_of 2 hC hh (show _ = some _ from rfl) rfl rfl | exact dep_of 3 hC hh (show _ = some _ from rfl) rfl rfl
            have e14_12 : l.getD 14 false = true → l.getD 12 false = true := fun hh => by first | exact dep_of 0 hC hh (show _ = some _ from rfl) rfl rfl | exact dep_of 1 hC hh (show _ = some _ from rfl) rfl rfl | exact dep_of 2 hC hh (show _ = some _ from rfl) rfl rfl | exact dep_of 3 hC hh (show _ = some _ from rfl) rfl rfl
            have e14_13 : l.getD 14 false = true → l.getD 13 false = true := fun hh => by first | exact dep_of 0 hC hh (show _ = some _ from rfl) rfl rfl | exact dep_of 1 hC hh (show _ = some _ from rfl) rfl rfl | exact dep_of 2 hC hh (show _ = some _ from rfl) rfl rfl | exact dep_of 3 hC hh (show _ = some _ from rfl) rfl rfl
            have all12 : l.getD 12 false = true → ∀ j, j < 12 → l.getD j false = true := fun h j hj => by
              have h1 := e12_1 h
              have h11 := e12_11 h
              have h10 := e11_10 h11
              have h8 := e10_8 h10
              have h9 := e10_9 h10
              have h7 := e8_7 h8
              have h6 := e7_6 h7
              have h5 := e6_5 h6
              have h4 := e5_4 h5
              have h3 := e4_3 h4
              have h2 := e3_2 h3
              have h0 := e1_0 h1
              match j, hj with
              | 0, _ => exact h0
              | 1, _ => exact h1
              | 2, _ => exact h2
              | 3, _ => exact h3
              | 4, _ => exact h4
              | 5, _ => exact h5
              | 6, _ => exact h6
              | 7, _ => exact h7
              | 8, _ => exact h8
              | 9, _ => exact h9
              | 10, _ => exact h10
              | 11, _ => exact h11
            have hi15 : i' < 15 := hlt'
            rcases hP with ⟨h12, hA⟩ | ⟨h12, h14, hp13, g4, cap4, nm, bs, rfl, ⟨yy, hy⟩, hfy, hUn⟩ | ⟨h14, _⟩
            · have hbx := cell_below hA.bl k1
              have hi' : i' = 0 ∨ i' = 1 ∨ i' = 2 ∨ i' = 3 ∨ i' = 4 ∨ i' = 5 ∨ i' = 6 ∨ i' = 7 ∨ i' = 8 ∨ i' = 9 ∨ i' = 10 ∨ i' = 11 ∨ i' = 12 ∨ i' = 13 ∨ i' = 14 := by omega
              rcases hi' with rfl | rfl | rfl | rfl | rfl | rfl | rfl | rfl | rfl | rfl | rfl | rfl | rfl | rfl | rfl
              · refine wpOp_step (show _ = some _ from rfl) ?_
                intro K' hK'
                go_simp
                exact hK' _ _ ⟨by simpa using hsz, _, v1, v2, v3, v4, v5, v6, v7, v8, v9, v10, v11, v12, v13, rfl, .inl ⟨(gd_ne (by decide)).trans h12, hA.op0⟩⟩
              · have d0 : l.getD 0 false = true := by first | exact dep_at 0 hi (show _ = some _ from rfl) rfl rfl | exact dep_at 1 hi (show _ = some _ from rfl) rfl rfl | exact dep_at 2 hi (show _ = some _ from rfl) rfl rfl | exact dep_at 3 hi (show _ = some _ from rfl) rfl rfl
                obtain rfl := hA.f0 d0
                refine wpOp_step (show _ = some _ from rfl) ?_
                intro K' hK'
                go_simp
                exact hK' _ _ ⟨by simpa using hsz, _, _, v2, v3, v4, v5, v6, v7, v8, v9, v10, v11, v12, v13, rfl, .inl ⟨(gd_ne (by decide)).trans h12, hA.op1⟩⟩
              · refine wpOp_step (show _ = some _ from rfl) ?_
                intro K' hK'
                go_simp
                exact hK' _ _ ⟨by simpa using hsz, v0, v1, _, v3, v4, v5, v6, v7, v8, v9, v10, v11, v12, v13, rfl, .inl ⟨(gd_ne (by decide)).trans h12, hA.op2⟩⟩
              · have d2 : l.getD 2 false = true := by first | exact dep_at 0 hi (show _ = some _ from rfl) rfl rfl | exact dep_at 1 hi (show _ = some _ from rfl) rfl rfl | exact dep_at 2 hi (show _ = some _ from rfl) rfl rfl | exact dep_at 3 hi (show _ = some _ from rfl) rfl rfl
                obtain rfl := hA.f2 d2
                refine wpOp_step (show _ = some _ from rfl) ?_
                intro K' hK'
                go_simp
                exact hK' _ _ ⟨by simpa using hsz, v0, v1, _, _, v4, v5, v6, v7, v8, v9, v10, v11, v12, v13, rfl, .inl ⟨(gd_ne (by decide)).trans h12, hA.op3⟩⟩
              · have d3 : l.getD 3 false = true := by first | exact dep_at 0 hi (show _ = some _ from rfl) rfl rfl | exact dep_at 1 hi (show _ = some _ from rfl) rfl rfl | exact dep_at 2 hi (show _ = some _ from rfl) rfl rfl | exact dep_at 3 hi (show _ = some _ from rfl) rfl rfl
                obtain rfl := hA.f3 d3
                refine wpOp_step (show _ = some _ from rfl) ?_
                intro K' hK'
                go_simp
                exact hK' _ _ ⟨by simpa using hsz, v0, v1, v2, _, _, v5, v6, v7, v8, v9, v10, v11, v12, v13, rfl, .inl ⟨(gd_ne (by decide)).trans h12, hA.op4⟩⟩
              · have d4 : l.getD 4 false = true := by first | exact dep_at 0 hi (show _ = some _ from rfl) rfl rfl | exact dep_at 1 hi (show _ = some _ from rfl) rfl rfl | exact dep_at 2 hi (show _ = some _ from rfl) rfl rfl | exact dep_at 3 hi (show _ = some _ from rfl) rfl rfl
                obtain rfl := hA.f4 d4
                refine wpOp_step (show _ = some _ from rfl) ?_
                intro K' hK'
                go_simp
                try rw [hw5]
                exact hK' _ _ ⟨by simpa using hsz, v0, v1, v2, v3, _, _, v6, v7, v8, v9, v10, v11, v12, v13, rfl, .inl ⟨(gd_ne (by decide)).trans h12, hA.op5⟩⟩
              · have d5 : l.getD 5 false = true := by first | exact dep_at 0 hi (show _ = some _ from rfl) rfl rfl | exact dep_at 1 hi (show _ = some _ from rfl) rfl rfl | exact dep_at 2 hi (show _ = some _ from rfl) rfl rfl | exact dep_at 3 hi (show _ = some _ from rfl) rfl rfl
                obtain rfl := hA.f5 d5
                refine wpOp_step (show _ = some _ from rfl) ?_
                intro K' hK'
                go_simp
                try rw [hw6]
                exact hK' _ _ ⟨by simpa using hsz, v0, v1, v2, v3, v4, _, _, v7, v8, v9, v10, v11, v12, v13, rfl, .inl ⟨(gd_ne (by decide)).trans h12, hA.op6⟩⟩
              · have d6 : l.getD 6 false = true := by first | exact dep_at 0 hi (show _ = some _ from rfl) rfl rfl | exact dep_at 1 hi (show _ = some _ from rfl) rfl rfl | exact dep_at 2 hi (show _ = some _ from rfl) rfl rfl | exact dep_at 3 hi (show _ = some _ from rfl) rfl rfl
                obtain rfl := hA.f6 d6
                refine wpOp_step (show _ = some _ from rfl) ?_
                intro K' hK'
                go_simp
                exact hK' _ _ ⟨by simpa using hsz, v0, v1, v2, v3, v4, v5, _, _, v8, v9, v10, v11, v12, v13, rfl, .inl ⟨(gd_ne (by decide)).trans h12, (hA.al (.cells #[.int .u8 (107 + (vs'.length : Int))] 5)).op7 (Bx.new wx _ _)⟩⟩
              · have d7 : l.getD 7 false = true := by first | exact dep_at 0 hi (show _ = some _ from rfl) rfl rfl | exact dep_at 1 hi (show _ = some _ from rfl) rfl rfl | exact dep_at 2 hi (show _ = some _ from rfl) rfl rfl | exact dep_at 3 hi (show _ = some _ from rfl) rfl rfl
                obtain ⟨g, rfl, hgB⟩ := hA.f7 d7
                have hconv := conv_bx hgB
                refine wpOp_step (show _ = some _ from rfl) ?_
                intro K' hK'
                go_simp
                exact hK' _ _ ⟨by simpa using hsz, v0, v1, v2, v3, v4, v5, v6, _, _, v9, v10, v11, v12, v13, rfl, .inl ⟨(gd_ne (by decide)).trans h12, hA.op8 (by cases hx : l.getD 10 false with | false => rfl | true => exact absurd ((e10_8 hx).symm.trans hnl') (by decide)) (by cases hx : l.getD 11 false with | false => rfl | true => exact absurd ((e10_8 (e11_10 hx)).symm.trans hnl') (by decide)) (by rw [strOfNums_size]; simp)⟩⟩
              · refine wpOp_step (show _ = some _ from rfl) ?_
                intro K' hK'
                go_simp
                exact hK' _ _ ⟨by simpa using hsz, v0, v1, v2, v3, v4, v5, v6, v7, v8, _, v10, v11, v12, v13, rfl, .inl ⟨(gd_ne (by decide)).trans h12, (hA.al (.cells zer9 54)).op9 (by cases hx : l.getD 10 false with | false => rfl | true => exact absurd ((e10_9 hx).symm.trans hnl') (by decide)) (by cases hx : l.getD 11 false with | false => rfl | true => exact absurd ((e10_9 (e11_10 hx)).symm.trans hnl') (by decide)) (or_new wx _ (by have := hA.bl.size; omega))⟩⟩
              · have d8 : l.getD 8 false = true := by first | exact dep_at 0 hi (show _ = some _ from rfl) rfl rfl | exact dep_at 1 hi (show _ = some _ from rfl) rfl rfl | exact dep_at 2 hi (show _ = some _ from rfl) rfl rfl | exact dep_at 3 hi (show _ = some _ from rfl) rfl rfl
                have d9 : l.getD 9 false = true := by first | exact dep_at 0 hi (show _ = some _ from rfl) rfl rfl | exact dep_at 1 hi (show _ = some _ from rfl) rfl rfl | exact dep_at 2 hi (show _ = some _ from rfl) rfl rfl | exact dep_at 3 hi (show _ = some _ from rfl) rfl rfl
                obtain ⟨nm, rfl, hnm⟩ := hA.f8 d8
                obtain ⟨gr, rfl, hgr⟩ := hA.f9 d9
                refine wpOp_step (show _ = some _ from rfl) ?_
                intro K' hK'
                go_simp
                exact hK' _ _ ⟨by simpa using hsz, v0, v1, v2, v3, v4, v5, v6, v7, _, _, _, v11, v12, v13, rfl, .inl ⟨(gd_ne (by decide)).trans h12, hA.op10⟩⟩
              · have d10 : l.getD 10 false = true := by first | exact dep_at 0 hi (show _ = some _ from rfl) rfl rfl | exact dep_at 1 hi (show _ = some _ from rfl) rfl rfl | exact dep_at 2 hi (show _ = some _ from rfl) rfl rfl | exact dep_at 3 hi (show _ = some _ from rfl) rfl rfl
                have d8 := e10_8 d10
                have d9 := e10_9 d10
                obtain ⟨nm, rfl, hnm⟩ := hA.f8 d8
                obtain ⟨gr, rfl, hgr⟩ := hA.f9 d9
                obtain rfl := hA.f10 d10
                refine wpOp_step (show _ = some _ from rfl) ?_
                intro K' hK'
                go_simp
                exact hK' _ _ ⟨by simpa using hsz, v0, v1, v2, v3, v4, v5, v6, v7, _, _, _, _, v12, v13, rfl, .inl ⟨(gd_ne (by decide)).trans h12, (hA.al (.cells #[.string nm, .slice (some ⟨gr, 0, none⟩) 3 3] 51)).op11 (Bx.new wx _ _)⟩⟩
              · have d1 : l.getD 1 false = true := by first | exact dep_at 0 hi (show _ = some _ from rfl) rfl rfl | exact dep_at 1 hi (show _ = some _ from rfl) rfl rfl | exact dep_at 2 hi (show _ = some _ from rfl) rfl rfl | exact dep_at 3 hi (show _ = some _ from rfl) rfl rfl
                have d11 : l.getD 11 false = true := by first | exact dep_at 0 hi (show _ = some _ from rfl) rfl rfl | exact dep_at 1 hi (show _ = some _ from rfl) rfl rfl | exact dep_at 2 hi (show _ = some _ from rfl) rfl rfl | exact dep_at 3 hi (show _ = some _ from rfl) rfl rfl
                have d10 := e11_10 d11
                obtain ⟨nm, rfl, hnm⟩ := hA.f8 (e10_8 d10)
                obtain ⟨gr, rfl, hgr⟩ := hA.f9 (e10_9 d10)
                obtain rfl := hA.f1 d1
                obtain ⟨gv, rfl, hgv⟩ := hA.f11 d11
                have hown' := own_below hown hA.bl
                have hbase : w.heap.size ≤ wx.heap.size := by have := hA.bl.size; omega
                have h13 : l.getD 13 false = false := by
                  cases hx : l.getD 13 false with
                  | false => rfl
                  | true => exact absurd (((fun hh => by first | exact dep_of 12 hC hh (show _ = some _ from rfl) rfl rfl : l.getD 13 false = true → l.getD 12 false = true) hx).symm.trans h12) (by decide)
                have h14 : l.getD 14 false = false := by
                  cases hx : l.getD 14 false with
                  | false => rfl
                  | true => exact absurd ((e14_12 hx).symm.trans h12) (by decide)
                refine wpOp_step (show _ = some _ from rfl) ?_
                intro K' hK'
                refine step_append_lies _ (by rfl) _ _ _ (by rfl) w.heap.size 51 i0 _ 2 40 Tryz.underlying23 hi0 hz0 hz1 hz2 rfl (by omega) _ vs'.length xs (by rfl) hown' ⟨gv, 0, none⟩ 1 1 [.string nm, .slice (some ⟨gr, 0, none⟩) 3 3] (by rfl) rfl (World.news_of_block hgv) (by simp [Value.oneCell']) (by omega) (by simp [maxLen]; omega) (by omega) hbase _ rfl ?_
                intro g4 cap4 w9 hown4 hgrow4 hat4 hlt4
                have hX := und_more (g4 := g4) (cap4 := cap4) (w4 := w9) (nm := nm) hBlt hgO1 (hU.out.grow hBlt hgO1 (grown_of hA.bl _) (PtrDrawn.rd hU.out.rd hA.bl)) (Nat.le_refl _) ((hvx.kept (grown_of hA.bl none) fr_none).wide hA.bl.size) hown' hnm (hgr.typed hgr.isT.lt) rfl hown4 hgrow4
                exact hK' _ _ ⟨by simpa using hsz, _, _, _, _, _, _, _, _, _, _, _, _, _, _, rfl, .inr (.inl ⟨gd_eq (by omega), (gd_ne (by decide)).trans h14, fun k => absurd ((dn (by decide) k).symm.trans h13) (by decide), g4, cap4, nm, _, rfl, hX.1, hX.2.1, hX.2.2⟩)⟩
              · exact absurd ((by first | exact dep_at 12 hi (show _ = some _ from rfl) rfl rfl : l.getD 12 false = true).symm.trans h12) (by decide)
              · exact absurd ((by first | exact dep_at 0 hi (show _ = some _ from rfl) rfl rfl | exact dep_at 1 hi (show _ = some _ from rfl) rfl rfl | exact dep_at 2 hi (show _ = some _ from rfl) rfl rfl | exact dep_at 3 hi (show _ = some _ from rfl) rfl rfl : l.getD 12 false = true).symm.trans h12) (by decide)
            · have hi' : i' = 13 ∨ i' = 14 := by
                by_cases h : i' < 12
                · exact absurd ((all12 h12 i' h).symm.trans hnl') (by decide)
                · by_cases h' : i' = 12
                  · subst h'; exact absurd (h12.symm.trans hnl') (by decide)
                  · omega
              rcases hi' with rfl | rfl
              · refine wpOp_step (show _ = some _ from rfl) ?_
                intro K' hK'
                go_simp
                exact hK' _ _ ⟨by simpa using hsz, v0, v1, v2, v3, v4, v5, v6, v7, v8, v9, v10, v11, _, _, rfl, .inr (.inl ⟨gd_up h12, (gd_ne (by decide)).trans h14, fun _ => rfl, g4, cap4, nm, bs, rfl, ⟨yy, hy⟩, hfy, hUn⟩)⟩
              · have d13 : l.getD 13 false = true := by first | exact dep_at 0 hi (show _ = some _ from rfl) rfl rfl | exact dep_at 1 hi (show _ = some _ from rfl) rfl rfl | exact dep_at 2 hi (show _ = some _ from rfl) rfl rfl | exact dep_at 3 hi (show _ = some _ from rfl) rfl rfl
                obtain rfl := hp13 d13
                refine wpOp_step (show _ = some _ from rfl) ?_
                intro K' hK'
                go_simp
                exact hK' _ _ ⟨by simpa using hsz, v0, v1, v2, v3, v4, v5, v6, v7, v8, v9, v10, v11, _, _, rfl, .inr (.inr ⟨gd_eq (by omega), g4, cap4, nm, bs, hUn⟩)⟩
            · have h12 := e14_12 h14
              have h13 := e14_13 h14
              by_cases h : i' < 12
              · exact absurd ((all12 h12 i' h).symm.trans hnl') (by decide)
              · by_cases h' : i' = 12
                · subst h'; exact absurd (h12.symm.trans hnl') (by decide)
                · by_cases h' : i' = 13
                  · subst h'; exact absurd (h13.symm.trans hnl') (by decide)
                  · obtain rfl : i' = 14 := by omega
                    exact absurd (h14.symm.trans hnl') (by decide)
          · have no : ∀ j {p : Prop}, (Array.replicate 15 false).getD j false = true → p := fun j p h => absurd ((none_done 15 j).symm.trans h) (by decide)
            exact ⟨by simp, _, _, _, _, _, _, _, _, _, _, _, _, _, _, rfl, .inl ⟨none_done 15 12, ⟨(Below.refl _ _).drew, no 0, no 1, no 2, no 3, no 4, no 5, no 6, no 7, no 8, no 9, no 10, no 11, no 13⟩⟩⟩
        · have hli : decide ((vs'.length : Int) ≤ 4) = false := by simp; omega
          have k0 : wr.cell? ⟨gO, 0, none⟩ = some (.int .i64 t) := hU.out.out.cell 0
          have m0 : wr.cell? ⟨w.heap.size, 0, none⟩ = some (.int .i64 0) := hU.out.res.cell 0
          have m1 : wr.cell? ⟨w.heap.size, 1, none⟩ = some (.slice none 0 0) := hU.out.res.cell 1
          have f0 := hU.out.res.frozen 0
          have f1 := hU.out.res.frozen 1
          have HE := Lib.hid (und_end hU.out hBlt (Nat.le_refl _))
          go_wp2
          exact bodyPost_ret (v := .agg #[.int .i64 t, .slice a' vs'.length c']) (by simp [results, Tryz.results42, go_sem, m0, m1]) rfl ⟨t, _, vs', q + 2, rfl, HE.out.1.lv, by omega, by omega, HE.out.2.1, HE.out.2.2⟩

end Go.Proofs.YtliadobopideaaaGreatDoor

namespace Go.Proofs.YtliadobopideaaaGreatDoor
open Go.RowKit Go.Sort

/-- A DRAWN NUMBER AND ROOT. -/
def DrawnRoot (w : World) (e : Ending) (w' : World) : Prop :=
  ∃ (n t : Int) (a : Option Addr) (c : Nat) (vs : List VolD), e = .returned (.tuple #[.int .i64 n, .agg #[.int .i64 t, .slice a vs.length c]]) ∧ Pool n ∧ LV w' w.heap.size (.slice a vs.length c) vs ∧ vs.length ≤ 5 ∧ Below w.heap.size w w'

set_option maxRecDepth 100000 in
set_option maxHeartbeats 2000000 in
theorem drawRootOk_any (a : Option Addr) (len cap : Nat) (z : List Int) (w : World) (h : IsBytes w a len cap z) :
    Calls Tryz.prog 19 #[.slice a len cap] w (DrawnRoot w) := by
  have hB0 : Below w.heap.size w (w.alloc (.cells #[.int .i64 0, .slice none 0 0] 25)) := (Below.refl _ _).alloc (Nat.le_refl _) _
  have H := Lib.hid (h.below hB0)
  have HB0 := Lib.hid hB0
  have HX0 := Lib.hid (Bx.new w #[.int .i64 0, .slice none 0 0] 25)
  clear h hB0
  go_enter Tryz.func19, Tryz.ntmps19
  go_wp2_with fail
  refine (l6Open_any a len cap z _ H.out).mono ?_
  rintro e w1 ⟨B, rfl, hR1, hB1⟩
  have hB : w.heap.size + 1 ≤ B := by have := hR1.1; simp at this; exact this
  have HX1 : Hid (Bx w1 w.heap.size #[.int .i64 0, .slice none 0 0] 25) := (hB1.block w.heap.size (by simp)).trans HX0.out
  have HB1 := Lib.hid (HB0.out.trans (hB1.mono HB0.out.size))
  have HR1 := Lib.hid hR1
  clear hR1 hB1 HX0 H
  go_wp2_with fail
  refine (l71Disks_any _ B 0 _ (by omega) HR1.out).mono ?_
  rintro e w2 ⟨n, rfl, hn, hR2, hg2⟩
  have HX2 := Lib.hid (HX1.out.kept hg2 (fun e => by injection e with e; omega))
  have HB2 := Lib.hid (HB1.out.trans (Below.ofGrown hg2 (by omega) HB1.out.size))
  have HR2 := Lib.hid hR2
  have Hn := Lib.hid hn
  have hs2 : w.heap.size + 1 ≤ w2.heap.size := HX2.out.lt
  clear hR2 hg2 hn HX1
  go_wp2_with fail
  refine (l71Off_any _ B (0 + 1) n _ (by omega) Hn.out HR2.out).mono ?_
  rintro e w3 ⟨t, o, vs, q, rfl, hL, hv, hq, hR3, hg3⟩
  have hX3 := HX2.out.kept hg3 (fun e => by injection e with e; omega)
  have hB3 := HB2.out.trans (Below.ofGrown hg3 (by omega) HB2.out.size)
  have hL' := hL
  obtain ⟨ao, co, rfl, _⟩ := hL'
  have m0 : w3.cell? ⟨w.heap.size, 0, none⟩ = some (.int .i64 0) := hX3.cell 0
  have m1 : w3.cell? ⟨w.heap.size, 1, none⟩ = some (.slice none 0 0) := hX3.cell 1
  have f0 := hX3.frozen 0
  have f1 := hX3.frozen 1
  have hgR : w3.grownBy ((w3.setCell ⟨w.heap.size, 0, none⟩ (.int .i64 t)).setCell ⟨w.heap.size, 1, none⟩ (.slice ao vs.length co)) (some w.heap.size) := (gset _ _ _ _).trans (gset _ _ _ _)
  have HE := Lib.hid ((hL.kept hgR (fun b e => by cases e; omega)).low (show w.heap.size ≤ w2.heap.size by omega))
  have HW := Lib.hid ((hB3.setCell (p := ⟨w.heap.size, 0, none⟩) (Nat.le_refl _) (.int .i64 t)).setCell (p := ⟨w.heap.size, 1, none⟩) (Nat.le_refl _) (.slice ao vs.length co))
  clear hL hR3 hg3 hX3 hB3 hgR
  go_wp2
  exact bodyPost_ret (v := .tuple #[.int .i64 n, .agg #[.int .i64 t, .slice ao vs.length co]]) (by simp [results, Tryz.results19, go_sem, m0, m1]) rfl ⟨n, t, ao, co, vs, rfl, Hn.out, HE.out, hv, HW.out⟩

end Go.Proofs.YtliadobopideaaaGreatDoor
