/- A root with a volume less, in whatever order its parts are made. Conditions: none. -/
import Derived.Test.YtlonecgmldjdpaaDG0
import Derived.Test.YtlonecgmldjdpaaAZ
namespace Go.Proofs.Ytlonecgmldjdpaa
open Go.RowKit Go.Sort

/-- THE CELLS OF VOLUMES, in a row. -/
def VoR (w : World) (vs : List VolD) (xs : List Value) : Prop :=
  xs.length = vs.length * 2 ∧ ∀ j, j < vs.length → xs[j * 2]? = some (.string (vs.getD j vol0).name) ∧ ∃ u, xs[j * 2 + 1]? = some u ∧ PtrsV w u (vs.getD j vol0).blocks
theorem VoR.below {w w' : World} {vs : List VolD} {xs : List Value} (h : VoR w vs xs) (hB : Below w.heap.size w w') : VoR w' vs xs :=
  ⟨h.1, fun j hj => by obtain ⟨h1, u, h3, h4⟩ := h.2 j hj; exact ⟨h1, u, h3, h4.below hB⟩⟩
theorem VoR.append {w : World} {ps qs : List VolD} {xs ys : List Value} (h : VoR w ps xs) (k : VoR w qs ys) : VoR w (ps ++ qs) (xs ++ ys) := by
  refine ⟨by rw [List.length_append, List.length_append, h.1, k.1]; omega, fun j hj => ?_⟩
  rw [List.length_append] at hj
  have hx := h.1
  by_cases hjp : j < ps.length
  · obtain ⟨h1, u, h3, h4⟩ := h.2 j hjp
    rw [getD_append_left _ _ _ _ hjp, List.getElem?_append_left (by omega), List.getElem?_append_left (by omega)]
    exact ⟨h1, u, h3, h4⟩
  · obtain ⟨h1, u, h3, h4⟩ := k.2 (j - ps.length) (by omega)
    rw [getD_append_right _ _ _ _ (by omega), List.getElem?_append_right (by omega), List.getElem?_append_right (by omega), hx,
      show j * 2 - ps.length * 2 = (j - ps.length) * 2 by omega, show j * 2 + 1 - ps.length * 2 = (j - ps.length) * 2 + 1 by omega]
    exact ⟨h1, u, h3, h4⟩
theorem VoR.oneCell {w : World} {vs : List VolD} {xs : List Value} (h : VoR w vs xs) : ∀ v ∈ xs, v.oneCell' = true := by
  intro v hv
  obtain ⟨i, hi, rfl⟩ := List.getElem_of_mem hv
  have hx := h.1
  obtain ⟨h1, u, h3, a, cap, rfl, _⟩ := h.2 (i / 2) (by omega)
  rcases (show i % 2 = 0 ∨ i % 2 = 1 by omega) with e | e
  · rw [show i / 2 * 2 = i by omega, List.getElem?_eq_getElem hi] at h1
    injection h1 with h1; rw [h1]; rfl
  · rw [show i / 2 * 2 + 1 = i by omega, List.getElem?_eq_getElem hi] at h3
    injection h3 with h3; rw [h3]; rfl
theorem add_far (b off j : Nat) : (⟨b, off, none⟩ : Addr).add j = ⟨b, off + j, none⟩ := by
  unfold Addr.add
  by_cases e : j = 0
  · subst e; rfl
  · rw [if_neg e]
theorem voRow_of {w : World} {b off : Nat} {vs : List VolD} (h : VolsAt w (some ⟨b, off, none⟩) vs) : ∃ xs, VoR w vs xs ∧ ∀ j u, xs[j]? = some u → w.cell? ((⟨b, off, none⟩ : Addr).add j) = some u := by
  rcases h with rfl | ⟨b', off', e, hc⟩
  · exact ⟨[], ⟨rfl, fun j hj => by simp at hj⟩, fun j u h => by simp at h⟩
  · injection e with e
    injection e with e1 e2
    subst e1
    subst e2
    have hs : ∀ i, i < vs.length * 2 → ∃ v, w.cell? ⟨b, off + i, none⟩ = some v := fun i hi => by
      obtain ⟨h1, u, h3, _⟩ := hc (i / 2) (by omega)
      rcases (show i % 2 = 0 ∨ i % 2 = 1 by omega) with e | e
      · exact ⟨_, by rw [show off + i = off + i / 2 * 2 by omega]; exact h1⟩
      · exact ⟨_, by rw [show off + i = off + i / 2 * 2 + 1 by omega]; exact h3⟩
    have hg : ∀ i, i < vs.length * 2 → ((List.range (vs.length * 2)).map fun i => (w.cell? ⟨b, off + i, none⟩).getD undef)[i]? = w.cell? ⟨b, off + i, none⟩ := fun i hi => by
      rw [List.getElem?_map, List.getElem?_range hi]
      obtain ⟨v, hv⟩ := hs i hi
      simp [hv]
    refine ⟨(List.range (vs.length * 2)).map fun i => (w.cell? ⟨b, off + i, none⟩).getD undef, ⟨by simp, fun j hj => ?_⟩, fun j u hu => ?_⟩
    · obtain ⟨h1, u, h3, h4⟩ := hc j hj
      rw [hg _ (by omega), hg _ (by omega)]
      exact ⟨h1, u, by rw [← Nat.add_assoc]; exact h3, h4⟩
    · have hj : j < vs.length * 2 := by have := (List.getElem?_eq_some_iff.1 hu).1; simpa using this
      rw [hg j hj] at hu
      rw [add_far]; exact hu
/-- A VOLUME LESS. -/
theorem vo_less {w : World} {vs : List VolD} {xs : List Value} {k : Nat} (h : VoR w vs xs) (hk : k < vs.length) : VoR w (vs.take k ++ vs.drop (k + 1)) (xs.take (k * 2) ++ xs.drop ((k + 1) * 2)) := by
  have hx := h.1
  refine VoR.append ⟨by rw [List.length_take, List.length_take]; omega, fun j hj => ?_⟩ ⟨by rw [List.length_drop, List.length_drop]; omega, fun j hj => ?_⟩
  · rw [List.length_take] at hj
    obtain ⟨h1, u, h3, h4⟩ := h.2 j (by omega)
    have e : (vs.take k).getD j vol0 = vs.getD j vol0 := by simp only [List.getD]; rw [List.getElem?_take_of_lt (by omega)]
    rw [e, List.getElem?_take_of_lt (by omega), List.getElem?_take_of_lt (by omega)]
    exact ⟨h1, u, h3, h4⟩
  · rw [List.length_drop] at hj
    obtain ⟨h1, u, h3, h4⟩ := h.2 (k + 1 + j) (by omega)
    have e : (vs.drop (k + 1)).getD j vol0 = vs.getD (k + 1 + j) vol0 := by simp only [List.getD]; rw [List.getElem?_drop]
    rw [e, List.getElem?_drop, List.getElem?_drop, show (k + 1) * 2 + j * 2 = (k + 1 + j) * 2 by omega, show (k + 1) * 2 + (j * 2 + 1) = (k + 1 + j) * 2 + 1 by omega]
    exact ⟨h1, u, h3, h4⟩
theorem own_reads {w : World} {base : Nat} {v : Value} {vs : List VolD} {n : Nat} {xs : List Value} (h : w.ownsRow base 34 2 v n xs) (hn : vs.length = n) (hr : VoR w vs xs) : VolsV w v vs := by
  subst hn
  have h' := h
  rcases h.2 with ⟨rfl, hk⟩ | ⟨g, cap, cur, rfl, hb, hg, hkc, hcm, hcs, hx⟩
  · have : vs = [] := List.eq_nil_of_length_eq_zero hk
    subst this
    exact ⟨none, 0, rfl, Nat.le_refl _, by simp [maxLen], .inl rfl⟩
  · refine ⟨some ⟨g, 0, none⟩, cap, rfl, hkc, hcm, .inr ⟨g, 0, rfl, fun j hj => ?_⟩⟩
    obtain ⟨h1, u, h3, h4⟩ := hr.2 j hj
    have e0 := (own_cell h' (j * 2) (by omega)).1
    have e1 := (own_cell h' (j * 2 + 1) (by omega)).1
    rw [h1] at e0
    rw [h3] at e1
    exact ⟨by rw [Nat.zero_add]; exact e0, u, by rw [Nat.zero_add]; exact e1, h4⟩
theorem own_news {w : World} {base : Nat} {v : Value} {n : Nat} {xs : List Value} (h : w.ownsRow base 34 2 v n xs) (hn : 0 < n) : ∃ g c, v = .slice (some ⟨g, 0, none⟩) n c ∧ ∀ j u, xs[j]? = some u → w.cell? ((⟨g, 0, none⟩ : Addr).add j) = some u := by
  have h' := h
  have hl := h.1
  rcases h.2 with ⟨rfl, hk⟩ | ⟨g, cap, cur, rfl, hb, hg, hkc, hcm, hcs, hx⟩
  · omega
  · refine ⟨g, cap, rfl, fun j u hu => ?_⟩
    have hj : j < xs.length := (List.getElem?_eq_some_iff.1 hu).1
    rw [add_far, Nat.zero_add, (own_cell h' j (by omega)).1]
    exact hu

theorem step_append_zero {P : Program} {w : World} {ops : Array Oper} {o : Oper} {a : Act} {K : Act → World → Prop} {Q : Exit → Act → World → Prop} {E : Prop} (hgd : o.guard = none) (s x : Operand) (t : TypeId)
    (ho : o.op = .call { callee := .builtin .append, args := #[s, x], argTypes := #[t, t] }) (e : TypeId) (i : TypeInfo) (ht : P.underlying t = some (.slice e)) (hi : P.info? e = some i)
    (ao : Option Addr) (n c : Nat) (hs : a.eval s = .slice ao n c) (hc : n ≤ c) (ax : Option Addr) (c2 : Nat) (hx : a.eval x = .slice ax 0 c2)
    (h : K (a.put o.dst (.slice ao n c)) w) : if Region.wanted o (yielded ops a.tmps) = true then Oper.wp P o a w K Q else E := by
  have hw : Region.wanted o (yielded ops a.tmps) = true := by simp [Region.wanted, hgd]
  rw [if_pos hw]
  have hrun : (Builtin.append_ #[t, t] o.type #[.slice ao n c, .slice ax 0 c2]).run P w = .ok (.slice ao n c) w := by
    cases ao <;> cases ax <;> simp [Builtin.append_, run_underlying ht, sizeOf, typeInfo, hi, Builtin.lenOf, Builtin.firstCells, loadCells, loadCellsFrom, storeCells, hc]
  unfold Oper.wp
  simp [execOp, ho, resolve, invoke, builtin, hs, hx, hrun, Result.andThen]
  exact h
theorem own_slice {w : World} {B : Nat} {T : TypeId} {z : Nat} {v : Value} {n : Nat} {xs : List Value} (h : w.ownsRow B T z v n xs) : ∃ a c, v = .slice a n c ∧ n ≤ c := by
  rcases h.2 with ⟨rfl, hk⟩ | ⟨g, cap, cur, rfl, _, _, hc, _⟩
  · exact ⟨none, 0, by rw [hk], by omega⟩
  · exact ⟨_, _, rfl, hc⟩
theorem newsB {w w' : World} {b off : Nat} {xs : List Value} (h : ∀ j u, xs[j]? = some u → w.cell? ((⟨b, off, none⟩ : Addr).add j) = some u) (hB : Below w.heap.size w w') : ∀ j u, xs[j]? = some u → w'.cell? ((⟨b, off, none⟩ : Addr).add j) = some u := fun j u hu => by
  have := h j u hu
  rw [add_far] at this ⊢
  exact cell_below hB this
theorem growsB {w w' : World} {n : Nat} {wr : World} {r : Option Nat} (h : Below n wr w) (hg : w.grownBy w' r) (hn : n ≤ w.heap.size) (hr : ∀ i, r = some i → n ≤ i) : Below n wr w' := h.grown hg hn hr

/-- WHAT HAS BEEN DONE. -/
structure RL (t : Int) (D b off n c k : Nat) (xsA xsB : List Value) (wr : World) (l : Array Bool) (v0 v1 v2 v3 v4 v5 v6 v7 v8 v9 v10 v11 v12 v13 v14 v15 : Value) (wx : World) : Prop where
  bl : Below wr.heap.size wr wx
  f0 : l.getD 0 false = true → v0 = .pointer (some ⟨D, 0, none⟩)
  f1 : l.getD 1 false = true → v1 = .int .i64 t
  f2 : l.getD 2 false = true → l.getD 7 false = false → wx.ownsRow wr.heap.size 34 2 v2 0 []
  f3 : l.getD 3 false = true → v3 = .pointer (some ⟨D, 1, none⟩)
  f4 : l.getD 4 false = true → v4 = .slice (some ⟨b, off, none⟩) n c
  f5 : l.getD 5 false = true → v5 = .int .i64 (k : Int)
  f6 : l.getD 6 false = true → v6 = .slice (some ⟨b, off, none⟩) k c
  f7 : l.getD 7 false = true → l.getD 13 false = false → wx.ownsRow wr.heap.size 34 2 v7 k xsA
  f8 : l.getD 8 false = true → v8 = .pointer (some ⟨D, 1, none⟩)
  f9 : l.getD 9 false = true → v9 = .slice (some ⟨b, off, none⟩) n c
  f10 : l.getD 10 false = true → v10 = .int .i64 (k : Int)
  f11 : l.getD 11 false = true → v11 = .int .i64 ((k : Int) + 1)
  f12 : l.getD 12 false = true → v12 = .slice (if c = k + 1 then some ⟨b, off, none⟩ else some ⟨b, off + (k + 1) * 2, none⟩) (n - (k + 1)) (c - (k + 1))
  f13 : l.getD 13 false = true → wx.ownsRow wr.heap.size 34 2 v13 (n - 1) (xsA ++ xsB)
  f14 : l.getD 14 false = true → v14 = .agg #[.int .i64 t, v13]
  f15 : l.getD 15 false = true → ∃ g c0 c1, v15 = .pointer (some ⟨g, 0, none⟩) ∧ wr.heap.size ≤ g ∧ Bx wx g #[c0, c1] 25 ∧ (l.getD 16 false = true → c0 = .int .i64 t ∧ c1 = v13)
section
variable {t : Int} {D b off n c k : Nat} {xsA xsB : List Value} {wr wx wy : World} {l : Array Bool} {v0 v1 v2 v3 v4 v5 v6 v7 v8 v9 v10 v11 v12 v13 v14 v15 : Value}
theorem RL.al (h : RL t D b off n c k xsA xsB wr l v0 v1 v2 v3 v4 v5 v6 v7 v8 v9 v10 v11 v12 v13 v14 v15 wx) (o : Obj) : RL t D b off n c k xsA xsB wr l v0 v1 v2 v3 v4 v5 v6 v7 v8 v9 v10 v11 v12 v13 v14 v15 (wx.alloc o) :=
  ⟨h.bl.alloc h.bl.size o, h.f0, h.f1, fun k m => (h.f2 k m).alloc o, h.f3, h.f4, h.f5, h.f6, fun k m => (h.f7 k m).alloc o, h.f8, h.f9, h.f10, h.f11, h.f12, fun k => (h.f13 k).alloc o, h.f14, fun k => by obtain ⟨g, c0, c1, e, hg, hb, h6⟩ := h.f15 k; exact ⟨g, c0, c1, e, hg, hb.kept (World.grownBy_alloc wx o none) (by simp), h6⟩⟩
theorem RL.op0 (h : RL t D b off n c k xsA xsB wr l v0 v1 v2 v3 v4 v5 v6 v7 v8 v9 v10 v11 v12 v13 v14 v15 wx) : RL t D b off n c k xsA xsB wr (l.setIfInBounds 0 true) (.pointer (some ⟨D, 0, none⟩)) v1 v2 v3 v4 v5 v6 v7 v8 v9 v10 v11 v12 v13 v14 v15 wx :=
  ⟨h.bl, fun _ => rfl, fun k => h.f1 (dn (by decide) k), fun k m => h.f2 (dn (by decide) k) (dnf (by decide) m), fun k => h.f3 (dn (by decide) k), fun k => h.f4 (dn (by decide) k), fun k => h.f5 (dn (by decide) k), fun k => h.f6 (dn (by decide) k), fun k m => h.f7 (dn (by decide) k) (dnf (by decide) m), fun k => h.f8 (dn (by decide) k), fun k => h.f9 (dn (by decide) k), fun k => h.f10 (dn (by decide) k), fun k => h.f11 (dn (by decide) k), fun k => h.f12 (dn (by decide) k), fun k => h.f13 (dn (by decide) k), fun k => h.f14 (dn (by decide) k), fun k => by obtain ⟨g, c0, c1, e, hg, hb, h6⟩ := h.f15 (dn (by decide) k); exact ⟨g, c0, c1, e, hg, hb, fun k => h6 (dn (by decide) k)⟩⟩
theorem RL.op1 (h : RL t D b off n c k xsA xsB wr l v0 v1 v2 v3 v4 v5 v6 v7 v8 v9 v10 v11 v12 v13 v14 v15 wx) : RL t D b off n c k xsA xsB wr (l.setIfInBounds 1 true) v0 (.int .i64 t) v2 v3 v4 v5 v6 v7 v8 v9 v10 v11 v12 v13 v14 v15 wx :=
  ⟨h.bl, fun k => h.f0 (dn (by decide) k), fun _ => rfl, fun k m => h.f2 (dn (by decide) k) (dnf (by decide) m), fun k => h.f3 (dn (by decide) k), fun k => h.f4 (dn (by decide) k), fun k => h.f5 (dn (by decide) k), fun k => h.f6 (dn (by decide) k), fun k m => h.f7 (dn (by decide) k) (dnf (by decide) m), fun k => h.f8 (dn (by decide) k), fun k => h.f9 (dn (by decide) k), fun k => h.f10 (dn (by decide) k), fun k => h.f11 (dn (by decide) k), fun k => h.f12 (dn (by decide) k), fun k => h.f13 (dn (by decide) k), fun k => h.f14 (dn (by decide) k), fun k => by obtain ⟨g, c0, c1, e, hg, hb, h6⟩ := h.f15 (dn (by decide) k); exact ⟨g, c0, c1, e, hg, hb, fun k => h6 (dn (by decide) k)⟩⟩
theorem RL.op3 (h : RL t D b off n c k xsA xsB wr l v0 v1 v2 v3 v4 v5 v6 v7 v8 v9 v10 v11 v12 v13 v14 v15 wx) : RL t D b off n c k xsA xsB wr (l.setIfInBounds 3 true) v0 v1 v2 (.pointer (some ⟨D, 1, none⟩)) v4 v5 v6 v7 v8 v9 v10 v11 v12 v13 v14 v15 wx :=
  ⟨h.bl, fun k => h.f0 (dn (by decide) k), fun k => h.f1 (dn (by decide) k), fun k m => h.f2 (dn (by decide) k) (dnf (by decide) m), fun _ => rfl, fun k => h.f4 (dn (by decide) k), fun k => h.f5 (dn (by decide) k), fun k => h.f6 (dn (by decide) k), fun k m => h.f7 (dn (by decide) k) (dnf (by decide) m), fun k => h.f8 (dn (by decide) k), fun k => h.f9 (dn (by decide) k), fun k => h.f10 (dn (by decide) k), fun k => h.f11 (dn (by decide) k), fun k => h.f12 (dn (by decide) k), fun k => h.f13 (dn (by decide) k), fun k => h.f14 (dn (by decide) k), fun k => by obtain ⟨g, c0, c1, e, hg, hb, h6⟩ := h.f15 (dn (by decide) k); exact ⟨g, c0, c1, e, hg, hb, fun k => h6 (dn (by decide) k)⟩⟩
theorem RL.op4 (h : RL t D b off n c k xsA xsB wr l v0 v1 v2 v3 v4 v5 v6 v7 v8 v9 v10 v11 v12 v13 v14 v15 wx) : RL t D b off n c k xsA xsB wr (l.setIfInBounds 4 true) v0 v1 v2 v3 (.slice (some ⟨b, off, none⟩) n c) v5 v6 v7 v8 v9 v10 v11 v12 v13 v14 v15 wx :=
  ⟨h.bl, fun k => h.f0 (dn (by decide) k), fun k => h.f1 (dn (by decide) k), fun k m => h.f2 (dn (by decide) k) (dnf (by decide) m), fun k => h.f3 (dn (by decide) k), fun _ => rfl, fun k => h.f5 (dn (by decide) k), fun k => h.f6 (dn (by decide) k), fun k m => h.f7 (dn (by decide) k) (dnf (by decide) m), fun k => h.f8 (dn (by decide) k), fun k => h.f9 (dn (by decide) k), fun k => h.f10 (dn (by decide) k), fun k => h.f11 (dn (by decide) k), fun k => h.f12 (dn (by decide) k), fun k => h.f13 (dn (by decide) k), fun k => h.f14 (dn (by decide) k), fun k => by obtain ⟨g, c0, c1, e, hg, hb, h6⟩ := h.f15 (dn (by decide) k); exact ⟨g, c0, c1, e, hg, hb, fun k => h6 (dn (by decide) k)⟩⟩
theorem RL.op5 (h : RL t D b off n c k xsA xsB wr l v0 v1 v2 v3 v4 v5 v6 v7 v8 v9 v10 v11 v12 v13 v14 v15 wx) : RL t D b off n c k xsA xsB wr (l.setIfInBounds 5 true) v0 v1 v2 v3 v4 (.int .i64 (k : Int)) v6 v7 v8 v9 v10 v11 v12 v13 v14 v15 wx :=
  ⟨h.bl, fun k => h.f0 (dn (by decide) k), fun k => h.f1 (dn (by decide) k), fun k m => h.f2 (dn (by decide) k) (dnf (by decide) m), fun k => h.f3 (dn (by decide) k), fun k => h.f4 (dn (by decide) k), fun _ => rfl, fun k => h.f6 (dn (by decide) k), fun k m => h.f7 (dn (by decide) k) (dnf (by decide) m), fun k => h.f8 (dn (by decide) k), fun k => h.f9 (dn (by decide) k), fun k => h.f10 (dn (by decide) k), fun k => h.f11 (dn (by decide) k), fun k => h.f12 (dn (by decide) k), fun k => h.f13 (dn (by decide) k), fun k => h.f14 (dn (by decide) k), fun k => by obtain ⟨g, c0, c1, e, hg, hb, h6⟩ := h.f15 (dn (by decide) k); exact ⟨g, c0, c1, e, hg, hb, fun k => h6 (dn (by decide) k)⟩⟩
theorem RL.op6 (h : RL t D b off n c k xsA xsB wr l v0 v1 v2 v3 v4 v5 v6 v7 v8 v9 v10 v11 v12 v13 v14 v15 wx) : RL t D b off n c k xsA xsB wr (l.setIfInBounds 6 true) v0 v1 v2 v3 v4 v5 (.slice (some ⟨b, off, none⟩) k c) v7 v8 v9 v10 v11 v12 v13 v14 v15 wx :=
  ⟨h.bl, fun k => h.f0 (dn (by decide) k), fun k => h.f1 (dn (by decide) k), fun k m => h.f2 (dn (by decide) k) (dnf (by decide) m), fun k => h.f3 (dn (by decide) k), fun k => h.f4 (dn (by decide) k), fun k => h.f5 (dn (by decide) k), fun _ => rfl, fun k m => h.f7 (dn (by decide) k) (dnf (by decide) m), fun k => h.f8 (dn (by decide) k), fun k => h.f9 (dn (by decide) k), fun k => h.f10 (dn (by decide) k), fun k => h.f11 (dn (by decide) k), fun k => h.f12 (dn (by decide) k), fun k => h.f13 (dn (by decide) k), fun k => h.f14 (dn (by decide) k), fun k => by obtain ⟨g, c0, c1, e, hg, hb, h6⟩ := h.f15 (dn (by decide) k); exact ⟨g, c0, c1, e, hg, hb, fun k => h6 (dn (by decide) k)⟩⟩
theorem RL.op8 (h : RL t D b off n c k xsA xsB wr l v0 v1 v2 v3 v4 v5 v6 v7 v8 v9 v10 v11 v12 v13 v14 v15 wx) : RL t D b off n c k xsA xsB wr (l.setIfInBounds 8 true) v0 v1 v2 v3 v4 v5 v6 v7 (.pointer (some ⟨D, 1, none⟩)) v9 v10 v11 v12 v13 v14 v15 wx :=
  ⟨h.bl, fun k => h.f0 (dn (by decide) k), fun k => h.f1 (dn (by decide) k), fun k m => h.f2 (dn (by decide) k) (dnf (by decide) m), fun k => h.f3 (dn (by decide) k), fun k => h.f4 (dn (by decide) k), fun k => h.f5 (dn (by decide) k), fun k => h.f6 (dn (by decide) k), fun k m => h.f7 (dn (by decide) k) (dnf (by decide) m), fun _ => rfl, fun k => h.f9 (dn (by decide) k), fun k => h.f10 (dn (by decide) k), fun k => h.f11 (dn (by decide) k), fun k => h.f12 (dn (by decide) k), fun k => h.f13 (dn (by decide) k), fun k => h.f14 (dn (by decide) k), fun k => by obtain ⟨g, c0, c1, e, hg, hb, h6⟩ := h.f15 (dn (by decide) k); exact ⟨g, c0, c1, e, hg, hb, fun k => h6 (dn (by decide) k)⟩⟩
theorem RL.op9 (h : RL t D b off n c k xsA xsB wr l v0 v1 v2 v3 v4 v5 v6 v7 v8 v9 v10 v11 v12 v13 v14 v15 wx) : RL t D b off n c k xsA xsB wr (l.setIfInBounds 9 true) v0 v1 v2 v3 v4 v5 v6 v7 v8 (.slice (some ⟨b, off, none⟩) n c) v10 v11 v12 v13 v14 v15 wx :=
  ⟨h.bl, fun k => h.f0 (dn (by decide) k), fun k => h.f1 (dn (by decide) k), fun k m => h.f2 (dn (by decide) k) (dnf (by decide) m), fun k => h.f3 (dn (by decide) k), fun k => h.f4 (dn (by decide) k), fun k => h.f5 (dn (by decide) k), fun k => h.f6 (dn (by decide) k), fun k m => h.f7 (dn (by decide) k) (dnf (by decide) m), fun k => h.f8 (dn (by decide) k), fun _ => rfl, fun k => h.f10 (dn (by decide) k), fun k => h.f11 (dn (by decide) k), fun k => h.f12 (dn (by decide) k), fun k => h.f13 (dn (by decide) k), fun k => h.f14 (dn (by decide) k), fun k => by obtain ⟨g, c0, c1, e, hg, hb, h6⟩ := h.f15 (dn (by decide) k); exact ⟨g, c0, c1, e, hg, hb, fun k => h6 (dn (by decide) k)⟩⟩
theorem RL.op10 (h : RL t D b off n c k xsA xsB wr l v0 v1 v2 v3 v4 v5 v6 v7 v8 v9 v10 v11 v12 v13 v14 v15 wx) : RL t D b off n c k xsA xsB wr (l.setIfInBounds 10 true) v0 v1 v2 v3 v4 v5 v6 v7 v8 v9 (.int .i64 (k : Int)) v11 v12 v13 v14 v15 wx :=
  ⟨h.bl, fun k => h.f0 (dn (by decide) k), fun k => h.f1 (dn (by decide) k), fun k m => h.f2 (dn (by decide) k) (dnf (by decide) m), fun k => h.f3 (dn (by decide) k), fun k => h.f4 (dn (by decide) k), fun k => h.f5 (dn (by decide) k), fun k => h.f6 (dn (by decide) k), fun k m => h.f7 (dn (by decide) k) (dnf (by decide) m), fun k => h.f8 (dn (by decide) k), fun k => h.f9 (dn (by decide) k), fun _ => rfl, fun k => h.f11 (dn (by decide) k), fun k => h.f12 (dn (by decide) k), fun k => h.f13 (dn (by decide) k), fun k => h.f14 (dn (by decide) k), fun k => by obtain ⟨g, c0, c1, e, hg, hb, h6⟩ := h.f15 (dn (by decide) k); exact ⟨g, c0, c1, e, hg, hb, fun k => h6 (dn (by decide) k)⟩⟩
theorem RL.op11 (h : RL t D b off n c k xsA xsB wr l v0 v1 v2 v3 v4 v5 v6 v7 v8 v9 v10 v11 v12 v13 v14 v15 wx) : RL t D b off n c k xsA xsB wr (l.setIfInBounds 11 true) v0 v1 v2 v3 v4 v5 v6 v7 v8 v9 v10 (.int .i64 ((k : Int) + 1)) v12 v13 v14 v15 wx :=
  ⟨h.bl, fun k => h.f0 (dn (by decide) k), fun k => h.f1 (dn (by decide) k), fun k m => h.f2 (dn (by decide) k) (dnf (by decide) m), fun k => h.f3 (dn (by decide) k), fun k => h.f4 (dn (by decide) k), fun k => h.f5 (dn (by decide) k), fun k => h.f6 (dn (by decide) k), fun k m => h.f7 (dn (by decide) k) (dnf (by decide) m), fun k => h.f8 (dn (by decide) k), fun k => h.f9 (dn (by decide) k), fun k => h.f10 (dn (by decide) k), fun _ => rfl, fun k => h.f12 (dn (by decide) k), fun k => h.f13 (dn (by decide) k), fun k => h.f14 (dn (by decide) k), fun k => by obtain ⟨g, c0, c1, e, hg, hb, h6⟩ := h.f15 (dn (by decide) k); exact ⟨g, c0, c1, e, hg, hb, fun k => h6 (dn (by decide) k)⟩⟩
theorem RL.op12 (h : RL t D b off n c k xsA xsB wr l v0 v1 v2 v3 v4 v5 v6 v7 v8 v9 v10 v11 v12 v13 v14 v15 wx) : RL t D b off n c k xsA xsB wr (l.setIfInBounds 12 true) v0 v1 v2 v3 v4 v5 v6 v7 v8 v9 v10 v11 (.slice (if c = k + 1 then some ⟨b, off, none⟩ else some ⟨b, off + (k + 1) * 2, none⟩) (n - (k + 1)) (c - (k + 1))) v13 v14 v15 wx :=
  ⟨h.bl, fun k => h.f0 (dn (by decide) k), fun k => h.f1 (dn (by decide) k), fun k m => h.f2 (dn (by decide) k) (dnf (by decide) m), fun k => h.f3 (dn (by decide) k), fun k => h.f4 (dn (by decide) k), fun k => h.f5 (dn (by decide) k), fun k => h.f6 (dn (by decide) k), fun k m => h.f7 (dn (by decide) k) (dnf (by decide) m), fun k => h.f8 (dn (by decide) k), fun k => h.f9 (dn (by decide) k), fun k => h.f10 (dn (by decide) k), fun k => h.f11 (dn (by decide) k), fun _ => rfl, fun k => h.f13 (dn (by decide) k), fun k => h.f14 (dn (by decide) k), fun k => by obtain ⟨g, c0, c1, e, hg, hb, h6⟩ := h.f15 (dn (by decide) k); exact ⟨g, c0, c1, e, hg, hb, fun k => h6 (dn (by decide) k)⟩⟩
theorem RL.op2 {u : Value} (h : RL t D b off n c k xsA xsB wr l v0 v1 v2 v3 v4 v5 v6 v7 v8 v9 v10 v11 v12 v13 v14 v15 wx) (ho : wx.ownsRow wr.heap.size 34 2 u 0 []) : RL t D b off n c k xsA xsB wr (l.setIfInBounds 2 true) v0 v1 u v3 v4 v5 v6 v7 v8 v9 v10 v11 v12 v13 v14 v15 wx :=
  ⟨h.bl, fun k => h.f0 (dn (by decide) k), fun k => h.f1 (dn (by decide) k), fun _ _ => ho, fun k => h.f3 (dn (by decide) k), fun k => h.f4 (dn (by decide) k), fun k => h.f5 (dn (by decide) k), fun k => h.f6 (dn (by decide) k), fun k m => h.f7 (dn (by decide) k) (dnf (by decide) m), fun k => h.f8 (dn (by decide) k), fun k => h.f9 (dn (by decide) k), fun k => h.f10 (dn (by decide) k), fun k => h.f11 (dn (by decide) k), fun k => h.f12 (dn (by decide) k), fun k => h.f13 (dn (by decide) k), fun k => h.f14 (dn (by decide) k), fun k => by obtain ⟨g, c0, c1, e, hg, hb, h6⟩ := h.f15 (dn (by decide) k); exact ⟨g, c0, c1, e, hg, hb, fun k => h6 (dn (by decide) k)⟩⟩
theorem RL.op14 (h : RL t D b off n c k xsA xsB wr l v0 v1 v2 v3 v4 v5 v6 v7 v8 v9 v10 v11 v12 v13 v14 v15 wx) : RL t D b off n c k xsA xsB wr (l.setIfInBounds 14 true) v0 v1 v2 v3 v4 v5 v6 v7 v8 v9 v10 v11 v12 v13 (.agg #[.int .i64 t, v13]) v15 wx :=
  ⟨h.bl, fun k => h.f0 (dn (by decide) k), fun k => h.f1 (dn (by decide) k), fun k m => h.f2 (dn (by decide) k) (dnf (by decide) m), fun k => h.f3 (dn (by decide) k), fun k => h.f4 (dn (by decide) k), fun k => h.f5 (dn (by decide) k), fun k => h.f6 (dn (by decide) k), fun k m => h.f7 (dn (by decide) k) (dnf (by decide) m), fun k => h.f8 (dn (by decide) k), fun k => h.f9 (dn (by decide) k), fun k => h.f10 (dn (by decide) k), fun k => h.f11 (dn (by decide) k), fun k => h.f12 (dn (by decide) k), fun k => h.f13 (dn (by decide) k), fun _ => rfl, fun k => by obtain ⟨g, c0, c1, e, hg, hb, h6⟩ := h.f15 (dn (by decide) k); exact ⟨g, c0, c1, e, hg, hb, fun k => h6 (dn (by decide) k)⟩⟩
theorem RL.op15 {g : Nat} {c0 c1 : Value} (hn16 : l.getD 16 false = false) (hg : wr.heap.size ≤ g) (h : RL t D b off n c k xsA xsB wr l v0 v1 v2 v3 v4 v5 v6 v7 v8 v9 v10 v11 v12 v13 v14 v15 wx) (hb : Bx wx g #[c0, c1] 25) : RL t D b off n c k xsA xsB wr (l.setIfInBounds 15 true) v0 v1 v2 v3 v4 v5 v6 v7 v8 v9 v10 v11 v12 v13 v14 (.pointer (some ⟨g, 0, none⟩)) wx :=
  ⟨h.bl, fun k => h.f0 (dn (by decide) k), fun k => h.f1 (dn (by decide) k), fun k m => h.f2 (dn (by decide) k) (dnf (by decide) m), fun k => h.f3 (dn (by decide) k), fun k => h.f4 (dn (by decide) k), fun k => h.f5 (dn (by decide) k), fun k => h.f6 (dn (by decide) k), fun k m => h.f7 (dn (by decide) k) (dnf (by decide) m), fun k => h.f8 (dn (by decide) k), fun k => h.f9 (dn (by decide) k), fun k => h.f10 (dn (by decide) k), fun k => h.f11 (dn (by decide) k), fun k => h.f12 (dn (by decide) k), fun k => h.f13 (dn (by decide) k), fun k => h.f14 (dn (by decide) k), fun _ => ⟨g, c0, c1, rfl, hg, hb, fun k => absurd ((dn (by decide) k).symm.trans hn16) (by decide)⟩⟩
theorem RL.op7 {u : Value} (hsz : l.size = 17) (hn13 : l.getD 13 false = false) (hn14 : l.getD 14 false = false) (hn16 : l.getD 16 false = false) (h : RL t D b off n c k xsA xsB wr l v0 v1 v2 v3 v4 v5 v6 v7 v8 v9 v10 v11 v12 v13 v14 v15 wx) (h2 : wx.ownsRow wr.heap.size 34 2 v2 0 []) (hg : wx.grownBy wy v2.ownBlock) (ho : wy.ownsRow wr.heap.size 34 2 u k xsA) : RL t D b off n c k xsA xsB wr (l.setIfInBounds 7 true) v0 v1 v2 v3 v4 v5 v6 u v8 v9 v10 v11 v12 v13 v14 v15 wy :=
  ⟨growsB h.bl hg h.bl.size (fun i e => (h2.lt i e).1), fun k => h.f0 (dn (by decide) k), fun k => h.f1 (dn (by decide) k), fun _ m => absurd ((gd_eq (by omega)).symm.trans m) (by decide), fun k => h.f3 (dn (by decide) k), fun k => h.f4 (dn (by decide) k), fun k => h.f5 (dn (by decide) k), fun k => h.f6 (dn (by decide) k), fun _ _ => ho, fun k => h.f8 (dn (by decide) k), fun k => h.f9 (dn (by decide) k), fun k => h.f10 (dn (by decide) k), fun k => h.f11 (dn (by decide) k), fun k => h.f12 (dn (by decide) k), fun k => absurd ((dn (by decide) k).symm.trans hn13) (by decide), fun k => absurd ((dn (by decide) k).symm.trans hn14) (by decide), fun k => by obtain ⟨g, c0, c1, e, hgg, hb, _⟩ := h.f15 (dn (by decide) k); exact ⟨g, c0, c1, e, hgg, hb.kept hg (bx_vol hb h2), fun k => absurd ((dn (by decide) k).symm.trans hn16) (by decide)⟩⟩
theorem RL.op13 {u : Value} (hsz : l.size = 17) (d7 : l.getD 7 false = true) (hn14 : l.getD 14 false = false) (hn16 : l.getD 16 false = false) (h : RL t D b off n c k xsA xsB wr l v0 v1 v2 v3 v4 v5 v6 v7 v8 v9 v10 v11 v12 v13 v14 v15 wx) (h7 : wx.ownsRow wr.heap.size 34 2 v7 k xsA) (hg : wx.grownBy wy v7.ownBlock) (ho : wy.ownsRow wr.heap.size 34 2 u (n - 1) (xsA ++ xsB)) : RL t D b off n c k xsA xsB wr (l.setIfInBounds 13 true) v0 v1 v2 v3 v4 v5 v6 v7 v8 v9 v10 v11 v12 u v14 v15 wy :=
  ⟨growsB h.bl hg h.bl.size (fun i e => (h7.lt i e).1), fun k => h.f0 (dn (by decide) k), fun k => h.f1 (dn (by decide) k), fun _ m => absurd ((gd_up d7).symm.trans m) (by decide), fun k => h.f3 (dn (by decide) k), fun k => h.f4 (dn (by decide) k), fun k => h.f5 (dn (by decide) k), fun k => h.f6 (dn (by decide) k), fun _ m => absurd ((gd_eq (by omega)).symm.trans m) (by decide), fun k => h.f8 (dn (by decide) k), fun k => h.f9 (dn (by decide) k), fun k => h.f10 (dn (by decide) k), fun k => h.f11 (dn (by decide) k), fun k => h.f12 (dn (by decide) k), fun _ => ho, fun k => absurd ((dn (by decide) k).symm.trans hn14) (by decide), fun k => by obtain ⟨g, c0, c1, e, hgg, hb, _⟩ := h.f15 (dn (by decide) k); exact ⟨g, c0, c1, e, hgg, hb.kept hg (bx_vol hb h7), fun k => absurd ((dn (by decide) k).symm.trans hn16) (by decide)⟩⟩
end
/-- WHAT THE STATEMENT LEAVES: a root with a volume less. -/
def After8 (t : Int) (n : Nat) (xs : List Value) (wr : World) (s : Value) (wx : World) : Prop :=
  ∃ (g : Nat) (u : Value), s = .pointer (some ⟨g, 0, none⟩) ∧ Hid (wr.heap.size ≤ g ∧ Bx wx g #[.int .i64 t, u] 25 ∧ wx.ownsRow wr.heap.size 34 2 u (n - 1) xs ∧ Below wr.heap.size wr wx)
def RLJ (mk : Value → Value → Value → Value → Value → Value → Value → Value → Value → Value → Value → Value → Value → Value → Value → Value →  Act) (t : Int) (D b off n c k : Nat) (xsA xsB : List Value) (wr : World) (l : Array Bool) (a : Act) (wx : World) : Prop :=
  l.size = 17 ∧ ∃ v0 v1 v2 v3 v4 v5 v6 v7 v8 v9 v10 v11 v12 v13 v14 v15, a = mk v0 v1 v2 v3 v4 v5 v6 v7 v8 v9 v10 v11 v12 v13 v14 v15 ∧ ((l.getD 16 false = false ∧ RL t D b off n c k xsA xsB wr l v0 v1 v2 v3 v4 v5 v6 v7 v8 v9 v10 v11 v12 v13 v14 v15 wx) ∨ (l.getD 16 false = true ∧ After8 t n (xsA ++ xsB) wr v15 wx))

end Go.Proofs.Ytlonecgmldjdpaa
