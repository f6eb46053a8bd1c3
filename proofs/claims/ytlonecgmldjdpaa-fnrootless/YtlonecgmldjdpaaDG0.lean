/- A drawn root with too many volumes: one volume more, named by a byte, in whatever order its parts are made. Conditions: none. -/
import Derived.Test.YtlonecgmldjdpaaDF
import Derived.Test.YtlonecgmldjdpaaW1
import Derived.Deep.AppendLies
namespace Go.Proofs.Ytlonecgmldjdpaa
open Go.RowKit Go.Sort

section
variable {P : Program} {ops : Array Oper} {Q : Exit → Act → World → Prop} {md : Region.Mode} {l : Array Bool} {i : Nat}
/-- WHAT IS DONE has all done that it waits for. -/
def Closed (md : Region.Mode) (ops : Array Oper) (l : Array Bool) : Prop := ∀ (i : Nat) (o : Oper), ops[i]? = some o → l.getD i false = true → ∀ (j : Nat) (e : Edge), o.after[j]? = some e → Region.binds md e = true → l.getD e.on false = true
theorem Closed.step (h : Closed md ops l) (hi : i ∈ Region.ready md ops l) : Closed md ops (l.setIfInBounds i true) := by
  intro k o ho hk j e he hb
  by_cases e' : i = k
  · subst e'
    exact gd_up (dep_at j hi ho he hb)
  · exact gd_up (h k o ho (by rwa [gd_ne e'] at hk) j e he hb)
theorem dep_of {o : Oper} {e : Edge} (j : Nat) (h : Closed md ops l) (hi : l.getD i false = true) (ho : ops[i]? = some o) (he : o.after[j]? = some e) (hb : Region.binds md e = true) : l.getD e.on false = true := h i o ho hi j e he hb
theorem none_done (m j : Nat) : (Array.replicate m false).getD j false = false := by
  rw [Array.getD_eq_getD_getElem?, Array.getElem?_replicate]; split <;> rfl
theorem closed_none (m : Nat) : Closed md ops (Array.replicate m false) := fun i o _ h => absurd ((none_done m i).symm.trans h) (by decide)
theorem wpAny_closed (J : Array Bool → Act → World → Prop) (hdone : ∀ l a w, J l a w → Closed md ops l → Region.ready md ops l = [] → Q .normal a w)
    (hstep : ∀ l a w i, J l a w → Closed md ops l → i ∈ Region.ready md ops l → wpOp P ops Q i (J (l.setIfInBounds i true)) a w) (fuel : Nat) (l : Array Bool) (a : Act) (w : World) (hf : l.toList.count false ≤ fuel) (hc : Closed md ops l) (hJ : J l a w) : wpAny P md ops Q fuel l a w :=
  wpAny_inv (fun l a w => J l a w ∧ Closed md ops l) (fun l a w h hr => hdone l a w h.1 h.2 hr) (fun l a w i h hi => wpOp_mono (fun _ _ h' => ⟨h', h.2.step hi⟩) (hstep l a w i h.1 h.2 hi)) fuel l a w hf ⟨hJ, hc⟩
end

theorem conv_bx {w : World} {g : Nat} {z : Int} (h : Bx w g #[.int .u8 z] 5) : (convert 22 9 (.slice (some ⟨g, 0, none⟩) 1 1)).run Try.prog w = .ok (.string (strOfNums [z])) w := by
  refine run_convert_bytes_arg w 22 5 Try.underlying22 Try.underlying5 g 0 1 1 [z] rfl (fun i hi => ?_) 9 Try.underlying9
  obtain rfl : i = 0 := by simp at hi; exact hi
  exact h.cell 0

/-- WHAT HAS BEEN DONE ahead of the append. -/
structure TooA (lo gO : Nat) (ao : Option Addr) (n co : Nat) (wr : World) (l : Array Bool) (v0 v1 v2 v3 v4 v5 v6 v7 v8 v9 v10 v11 v13 : Value) (wx : World) : Prop where
  bl : Below wr.heap.size wr wx
  f0 : l.getD 0 false = true → v0 = .pointer (some ⟨gO, 1, none⟩)
  f1 : l.getD 1 false = true → v1 = .slice ao n co
  f2 : l.getD 2 false = true → v2 = .pointer (some ⟨gO, 1, none⟩)
  f3 : l.getD 3 false = true → v3 = .slice ao n co
  f4 : l.getD 4 false = true → v4 = .int .i64 (n : Int)
  f5 : l.getD 5 false = true → v5 = .int .i64 (107 + (n : Int))
  f6 : l.getD 6 false = true → v6 = .int .u8 (107 + (n : Int))
  f7 : l.getD 7 false = true → ∃ g, v7 = .slice (some ⟨g, 0, none⟩) 1 1 ∧ Bx wx g #[.int .u8 (107 + (n : Int))] 5
  f8 : l.getD 8 false = true → ∃ nm, v8 = .string nm ∧ nm.size ≤ 3
  f9 : l.getD 9 false = true → ∃ g, v9 = .slice (some ⟨g, 0, none⟩) 3 3 ∧ OR wx lo g [ptr0, ptr0, ptr0]
  f10 : l.getD 10 false = true → v10 = .agg #[v8, v9]
  f11 : l.getD 11 false = true → ∃ g, v11 = .slice (some ⟨g, 0, none⟩) 1 1 ∧ Bx wx g #[v8, v9] 34
  f13 : l.getD 13 false = true → v13 = .pointer (some ⟨gO, 1, none⟩)
section
variable {lo gO : Nat} {ao : Option Addr} {n co : Nat} {wr wx : World} {l : Array Bool} {v0 v1 v2 v3 v4 v5 v6 v7 v8 v9 v10 v11 v13 : Value}
theorem TooA.al (h : TooA lo gO ao n co wr l v0 v1 v2 v3 v4 v5 v6 v7 v8 v9 v10 v11 v13 wx) (o : Obj) : TooA lo gO ao n co wr l v0 v1 v2 v3 v4 v5 v6 v7 v8 v9 v10 v11 v13 (wx.alloc o) :=
  ⟨h.bl.alloc h.bl.size o, h.f0, h.f1, h.f2, h.f3, h.f4, h.f5, h.f6, fun k => by obtain ⟨g, e, hb⟩ := h.f7 k; exact ⟨g, e, hb.kept (World.grownBy_alloc wx o none) (by simp)⟩, h.f8,
    fun k => by obtain ⟨g, e, hb⟩ := h.f9 k; exact ⟨g, e, or_al hb o⟩, h.f10, fun k => by obtain ⟨g, e, hb⟩ := h.f11 k; exact ⟨g, e, hb.kept (World.grownBy_alloc wx o none) (by simp)⟩, h.f13⟩
theorem TooA.op0  (h : TooA lo gO ao n co wr l v0 v1 v2 v3 v4 v5 v6 v7 v8 v9 v10 v11 v13 wx) : TooA lo gO ao n co wr (l.setIfInBounds 0 true) (.pointer (some ⟨gO, 1, none⟩)) v1 v2 v3 v4 v5 v6 v7 v8 v9 v10 v11 v13 wx :=
  ⟨h.bl, fun _ => rfl, fun k => h.f1 (dn (by decide) k), fun k => h.f2 (dn (by decide) k), fun k => h.f3 (dn (by decide) k), fun k => h.f4 (dn (by decide) k), fun k => h.f5 (dn (by decide) k), fun k => h.f6 (dn (by decide) k), fun k => h.f7 (dn (by decide) k), fun k => h.f8 (dn (by decide) k), fun k => h.f9 (dn (by decide) k), fun k => h.f10 (dn (by decide) k), fun k => h.f11 (dn (by decide) k), fun k => h.f13 (dn (by decide) k)⟩
theorem TooA.op1  (h : TooA lo gO ao n co wr l v0 v1 v2 v3 v4 v5 v6 v7 v8 v9 v10 v11 v13 wx) : TooA lo gO ao n co wr (l.setIfInBounds 1 true) v0 (.slice ao n co) v2 v3 v4 v5 v6 v7 v8 v9 v10 v11 v13 wx :=
  ⟨h.bl, fun k => h.f0 (dn (by decide) k), fun _ => rfl, fun k => h.f2 (dn (by decide) k), fun k => h.f3 (dn (by decide) k), fun k => h.f4 (dn (by decide) k), fun k => h.f5 (dn (by decide) k), fun k => h.f6 (dn (by decide) k), fun k => h.f7 (dn (by decide) k), fun k => h.f8 (dn (by decide) k), fun k => h.f9 (dn (by decide) k), fun k => h.f10 (dn (by decide) k), fun k => h.f11 (dn (by decide) k), fun k => h.f13 (dn (by decide) k)⟩
theorem TooA.op2  (h : TooA lo gO ao n co wr l v0 v1 v2 v3 v4 v5 v6 v7 v8 v9 v10 v11 v13 wx) : TooA lo gO ao n co wr (l.setIfInBounds 2 true) v0 v1 (.pointer (some ⟨gO, 1, none⟩)) v3 v4 v5 v6 v7 v8 v9 v10 v11 v13 wx :=
  ⟨h.bl, fun k => h.f0 (dn (by decide) k), fun k => h.f1 (dn (by decide) k), fun _ => rfl, fun k => h.f3 (dn (by decide) k), fun k => h.f4 (dn (by decide) k), fun k => h.f5 (dn (by decide) k), fun k => h.f6 (dn (by decide) k), fun k => h.f7 (dn (by decide) k), fun k => h.f8 (dn (by decide) k), fun k => h.f9 (dn (by decide) k), fun k => h.f10 (dn (by decide) k), fun k => h.f11 (dn (by decide) k), fun k => h.f13 (dn (by decide) k)⟩
theorem TooA.op3  (h : TooA lo gO ao n co wr l v0 v1 v2 v3 v4 v5 v6 v7 v8 v9 v10 v11 v13 wx) : TooA lo gO ao n co wr (l.setIfInBounds 3 true) v0 v1 v2 (.slice ao n co) v4 v5 v6 v7 v8 v9 v10 v11 v13 wx :=
  ⟨h.bl, fun k => h.f0 (dn (by decide) k), fun k => h.f1 (dn (by decide) k), fun k => h.f2 (dn (by decide) k), fun _ => rfl, fun k => h.f4 (dn (by decide) k), fun k => h.f5 (dn (by decide) k), fun k => h.f6 (dn (by decide) k), fun k => h.f7 (dn (by decide) k), fun k => h.f8 (dn (by decide) k), fun k => h.f9 (dn (by decide) k), fun k => h.f10 (dn (by decide) k), fun k => h.f11 (dn (by decide) k), fun k => h.f13 (dn (by decide) k)⟩
theorem TooA.op4  (h : TooA lo gO ao n co wr l v0 v1 v2 v3 v4 v5 v6 v7 v8 v9 v10 v11 v13 wx) : TooA lo gO ao n co wr (l.setIfInBounds 4 true) v0 v1 v2 v3 (.int .i64 (n : Int)) v5 v6 v7 v8 v9 v10 v11 v13 wx :=
  ⟨h.bl, fun k => h.f0 (dn (by decide) k), fun k => h.f1 (dn (by decide) k), fun k => h.f2 (dn (by decide) k), fun k => h.f3 (dn (by decide) k), fun _ => rfl, fun k => h.f5 (dn (by decide) k), fun k => h.f6 (dn (by decide) k), fun k => h.f7 (dn (by decide) k), fun k => h.f8 (dn (by decide) k), fun k => h.f9 (dn (by decide) k), fun k => h.f10 (dn (by decide) k), fun k => h.f11 (dn (by decide) k), fun k => h.f13 (dn (by decide) k)⟩
theorem TooA.op5  (h : TooA lo gO ao n co wr l v0 v1 v2 v3 v4 v5 v6 v7 v8 v9 v10 v11 v13 wx) : TooA lo gO ao n co wr (l.setIfInBounds 5 true) v0 v1 v2 v3 v4 (.int .i64 (107 + (n : Int))) v6 v7 v8 v9 v10 v11 v13 wx :=
  ⟨h.bl, fun k => h.f0 (dn (by decide) k), fun k => h.f1 (dn (by decide) k), fun k => h.f2 (dn (by decide) k), fun k => h.f3 (dn (by decide) k), fun k => h.f4 (dn (by decide) k), fun _ => rfl, fun k => h.f6 (dn (by decide) k), fun k => h.f7 (dn (by decide) k), fun k => h.f8 (dn (by decide) k), fun k => h.f9 (dn (by decide) k), fun k => h.f10 (dn (by decide) k), fun k => h.f11 (dn (by decide) k), fun k => h.f13 (dn (by decide) k)⟩
theorem TooA.op6  (h : TooA lo gO ao n co wr l v0 v1 v2 v3 v4 v5 v6 v7 v8 v9 v10 v11 v13 wx) : TooA lo gO ao n co wr (l.setIfInBounds 6 true) v0 v1 v2 v3 v4 v5 (.int .u8 (107 + (n : Int))) v7 v8 v9 v10 v11 v13 wx :=
  ⟨h.bl, fun k => h.f0 (dn (by decide) k), fun k => h.f1 (dn (by decide) k), fun k => h.f2 (dn (by decide) k), fun k => h.f3 (dn (by decide) k), fun k => h.f4 (dn (by decide) k), fun k => h.f5 (dn (by decide) k), fun _ => rfl, fun k => h.f7 (dn (by decide) k), fun k => h.f8 (dn (by decide) k), fun k => h.f9 (dn (by decide) k), fun k => h.f10 (dn (by decide) k), fun k => h.f11 (dn (by decide) k), fun k => h.f13 (dn (by decide) k)⟩
theorem TooA.op7 {g : Nat} (hb : Bx wx g #[.int .u8 (107 + (n : Int))] 5) (h : TooA lo gO ao n co wr l v0 v1 v2 v3 v4 v5 v6 v7 v8 v9 v10 v11 v13 wx) : TooA lo gO ao n co wr (l.setIfInBounds 7 true) v0 v1 v2 v3 v4 v5 v6 (.slice (some ⟨g, 0, none⟩) 1 1) v8 v9 v10 v11 v13 wx :=
  ⟨h.bl, fun k => h.f0 (dn (by decide) k), fun k => h.f1 (dn (by decide) k), fun k => h.f2 (dn (by decide) k), fun k => h.f3 (dn (by decide) k), fun k => h.f4 (dn (by decide) k), fun k => h.f5 (dn (by decide) k), fun k => h.f6 (dn (by decide) k), fun _ => ⟨g, rfl, hb⟩, fun k => h.f8 (dn (by decide) k), fun k => h.f9 (dn (by decide) k), fun k => h.f10 (dn (by decide) k), fun k => h.f11 (dn (by decide) k), fun k => h.f13 (dn (by decide) k)⟩
theorem TooA.op8 {nm : ByteArray} (hn10 : l.getD 10 false = false) (hn11 : l.getD 11 false = false) (hnm : nm.size ≤ 3) (h : TooA lo gO ao n co wr l v0 v1 v2 v3 v4 v5 v6 v7 v8 v9 v10 v11 v13 wx) : TooA lo gO ao n co wr (l.setIfInBounds 8 true) v0 v1 v2 v3 v4 v5 v6 v7 (.string nm) v9 v10 v11 v13 wx :=
  ⟨h.bl, fun k => h.f0 (dn (by decide) k), fun k => h.f1 (dn (by decide) k), fun k => h.f2 (dn (by decide) k), fun k => h.f3 (dn (by decide) k), fun k => h.f4 (dn (by decide) k), fun k => h.f5 (dn (by decide) k), fun k => h.f6 (dn (by decide) k), fun k => h.f7 (dn (by decide) k), fun _ => ⟨nm, rfl, hnm⟩, fun k => h.f9 (dn (by decide) k), fun k => absurd ((dn (by decide) k).symm.trans hn10) (by decide), fun k => absurd ((dn (by decide) k).symm.trans hn11) (by decide), fun k => h.f13 (dn (by decide) k)⟩
theorem TooA.op9 {g : Nat} (hn10 : l.getD 10 false = false) (hn11 : l.getD 11 false = false) (hb : OR wx lo g [ptr0, ptr0, ptr0]) (h : TooA lo gO ao n co wr l v0 v1 v2 v3 v4 v5 v6 v7 v8 v9 v10 v11 v13 wx) : TooA lo gO ao n co wr (l.setIfInBounds 9 true) v0 v1 v2 v3 v4 v5 v6 v7 v8 (.slice (some ⟨g, 0, none⟩) 3 3) v10 v11 v13 wx :=
  ⟨h.bl, fun k => h.f0 (dn (by decide) k), fun k => h.f1 (dn (by decide) k), fun k => h.f2 (dn (by decide) k), fun k => h.f3 (dn (by decide) k), fun k => h.f4 (dn (by decide) k), fun k => h.f5 (dn (by decide) k), fun k => h.f6 (dn (by decide) k), fun k => h.f7 (dn (by decide) k), fun k => h.f8 (dn (by decide) k), fun _ => ⟨g, rfl, hb⟩, fun k => absurd ((dn (by decide) k).symm.trans hn10) (by decide), fun k => absurd ((dn (by decide) k).symm.trans hn11) (by decide), fun k => h.f13 (dn (by decide) k)⟩
theorem TooA.op10  (h : TooA lo gO ao n co wr l v0 v1 v2 v3 v4 v5 v6 v7 v8 v9 v10 v11 v13 wx) : TooA lo gO ao n co wr (l.setIfInBounds 10 true) v0 v1 v2 v3 v4 v5 v6 v7 v8 v9 (.agg #[v8, v9]) v11 v13 wx :=
  ⟨h.bl, fun k => h.f0 (dn (by decide) k), fun k => h.f1 (dn (by decide) k), fun k => h.f2 (dn (by decide) k), fun k => h.f3 (dn (by decide) k), fun k => h.f4 (dn (by decide) k), fun k => h.f5 (dn (by decide) k), fun k => h.f6 (dn (by decide) k), fun k => h.f7 (dn (by decide) k), fun k => h.f8 (dn (by decide) k), fun k => h.f9 (dn (by decide) k), fun _ => rfl, fun k => h.f11 (dn (by decide) k), fun k => h.f13 (dn (by decide) k)⟩
theorem TooA.op11 {g : Nat} (hb : Bx wx g #[v8, v9] 34) (h : TooA lo gO ao n co wr l v0 v1 v2 v3 v4 v5 v6 v7 v8 v9 v10 v11 v13 wx) : TooA lo gO ao n co wr (l.setIfInBounds 11 true) v0 v1 v2 v3 v4 v5 v6 v7 v8 v9 v10 (.slice (some ⟨g, 0, none⟩) 1 1) v13 wx :=
  ⟨h.bl, fun k => h.f0 (dn (by decide) k), fun k => h.f1 (dn (by decide) k), fun k => h.f2 (dn (by decide) k), fun k => h.f3 (dn (by decide) k), fun k => h.f4 (dn (by decide) k), fun k => h.f5 (dn (by decide) k), fun k => h.f6 (dn (by decide) k), fun k => h.f7 (dn (by decide) k), fun k => h.f8 (dn (by decide) k), fun k => h.f9 (dn (by decide) k), fun k => h.f10 (dn (by decide) k), fun _ => ⟨g, rfl, hb⟩, fun k => h.f13 (dn (by decide) k)⟩
theorem TooA.op13  (h : TooA lo gO ao n co wr l v0 v1 v2 v3 v4 v5 v6 v7 v8 v9 v10 v11 v13 wx) : TooA lo gO ao n co wr (l.setIfInBounds 13 true) v0 v1 v2 v3 v4 v5 v6 v7 v8 v9 v10 v11 (.pointer (some ⟨gO, 1, none⟩)) wx :=
  ⟨h.bl, fun k => h.f0 (dn (by decide) k), fun k => h.f1 (dn (by decide) k), fun k => h.f2 (dn (by decide) k), fun k => h.f3 (dn (by decide) k), fun k => h.f4 (dn (by decide) k), fun k => h.f5 (dn (by decide) k), fun k => h.f6 (dn (by decide) k), fun k => h.f7 (dn (by decide) k), fun k => h.f8 (dn (by decide) k), fun k => h.f9 (dn (by decide) k), fun k => h.f10 (dn (by decide) k), fun k => h.f11 (dn (by decide) k), fun _ => rfl⟩
end

/-- WHAT HAS BEEN DONE, ahead of the append, behind it, behind the store. -/
def TooP (n₀ B q lo gO : Nat) (t : Int) (ao : Option Addr) (co : Nat) (vs : List VolD) (w wr : World) (l : Array Bool) (v0 v1 v2 v3 v4 v5 v6 v7 v8 v9 v10 v11 v12 v13 : Value) (wx : World) : Prop :=
  (l.getD 12 false = false ∧ TooA lo gO ao vs.length co wr l v0 v1 v2 v3 v4 v5 v6 v7 v8 v9 v10 v11 v13 wx) ∨
  (l.getD 12 false = true ∧ l.getD 14 false = false ∧ (l.getD 13 false = true → v13 = .pointer (some ⟨gO, 1, none⟩)) ∧ ∃ g4 cap4 nm bs, v12 = .slice (some ⟨g4, 0, none⟩) (vs.length + 1) cap4 ∧ (∃ y, wx.cell? ⟨gO, 1, none⟩ = some y) ∧ wx.frozen? ⟨gO, 1, none⟩ = false ∧ Und n₀ B q lo gO t (.slice (some ⟨g4, 0, none⟩) (vs.length + 1) cap4) (vs ++ [⟨nm, bs⟩]) w (wx.setCell ⟨gO, 1, none⟩ (.slice (some ⟨g4, 0, none⟩) (vs.length + 1) cap4))) ∨
  (l.getD 14 false = true ∧ ∃ g4 cap4 nm bs, Und n₀ B q lo gO t (.slice (some ⟨g4, 0, none⟩) (vs.length + 1) cap4) (vs ++ [⟨nm, bs⟩]) w wx)
def TooJ (mk : Value → Value → Value → Value → Value → Value → Value → Value → Value → Value → Value → Value → Value → Value →  Act) (n₀ B q lo gO : Nat) (t : Int) (ao : Option Addr) (co : Nat) (vs : List VolD) (w wr : World) (l : Array Bool) (a : Act) (wx : World) : Prop :=
  l.size = 15 ∧ ∃ v0 v1 v2 v3 v4 v5 v6 v7 v8 v9 v10 v11 v12 v13, a = mk v0 v1 v2 v3 v4 v5 v6 v7 v8 v9 v10 v11 v12 v13 ∧ TooP n₀ B q lo gO t ao co vs w wr l v0 v1 v2 v3 v4 v5 v6 v7 v8 v9 v10 v11 v12 v13 wx
def volLen (g : Nat) (w : World) : Nat := match w.cell? ⟨g, 1, none⟩ with
  | some (.slice _ n _) => n
  | _ => 0
theorem und_len {n₀ B q lo gO : Nat} {t : Int} {ao : Option Addr} {n co : Nat} {vs : List VolD} {w wr : World} (h : Und n₀ B q lo gO t (.slice ao n co) vs w wr) : volLen gO wr = n := by
  unfold volLen
  rw [show wr.cell? ⟨gO, 1, none⟩ = some (.slice ao n co) from h.out.cell 1]

end Go.Proofs.Ytlonecgmldjdpaa
