/- Arguments that are pointers or roots, opened to plain data. Conditions: none but the row's own bound on sizes. -/
import Derived.Test.YtagfnhgioljfnaaDoorR0
import Derived.Deep.Slices
import Derived.Deep.Fields
import Derived.ChangeSame
import Derived.Lib.SmallJoins
namespace Go.Proofs.YtagfnhgioljfnaaDoor
open Go.Joins Go.ChangeShapes Go.WideShapes Go.RowKit Go.Deep

theorem choose_list {α : Type} (d : α) (len : Nat) (P : Nat → α → Prop) (h : ∀ i, i < len → ∃ x, P i x) : ∃ xs : List α, xs.length = len ∧ ∀ i, i < len → P i (xs.getD i d) := by
  induction len with
  | zero => exact ⟨[], rfl, fun i hi => by omega⟩
  | succ n ih =>
    obtain ⟨xs, hl, hx⟩ := ih (fun i hi => h i (by omega))
    obtain ⟨x, hxn⟩ := h n (by omega)
    refine ⟨xs ++ [x], by simp [hl], fun i hi => ?_⟩
    by_cases e : i = n
    · subst e
      rw [List.getD, List.getElem?_append_right (by omega), hl]
      simpa using hxn
    · have := hx i (by omega)
      rw [List.getD, List.getElem?_append_left (by omega)]
      exact this

theorem addr_plain {w : World} {a : Addr} {v : Value} (h : w.cell? (a.add 0) = some v) : ∃ b off, a = ⟨b, off, none⟩ := by
  obtain ⟨b, off, spot⟩ := a
  cases spot with
  | none => exact ⟨b, off, rfl⟩
  | some s =>
    exfalso
    have e : (⟨b, off, some s⟩ : Addr).add 0 = ⟨b, off, some s⟩ := rfl
    rw [e] at h
    unfold World.cell? at h
    split at h
    · simp at h
    · cases h
theorem add_plain (b off k : Nat) : (⟨b, off, none⟩ : Addr).add k = ⟨b, off + k, none⟩ := by
  unfold Addr.add
  by_cases e : k = 0
  · subst e; rfl
  · rw [if_neg e]

section
variable {H : Type} {enc : TypeId × Value → H} {P : Program} {w : World} {base : Nat} {spare : Nat → Bool} {held : Bool}
/-- A SLICE OF STRUCTS, OPENED TO ITS CELLS. -/
theorem row_cells {t e : TypeId} {fs : Array Field} {fuel : Nat} {v : Value} {x : DataW H × List MemPlace} (ht : P.underlying t = some (.slice e)) (he : P.underlying e = some (.struct fs))
    (hone : oneCellFields P fs = true) (hC : P.cellsOf e = fs.size) (h0 : 0 < fs.size) (h : DataW.trod enc P w base spare held fuel t [v] = some x) :
    ∃ (a : Option Addr) (len cap : Nat), v = .slice a len cap ∧ len ≤ cap ∧ cap ≤ maxLen ∧ ∀ i, i < len → ∃ b off, a = some ⟨b, off, none⟩ ∧ ∀ (j : Nat) (f : Field), fs[j]? = some f → ∃ (u : Value) (y : DataW H × List MemPlace) (n : Nat), w.cell? ⟨b, off + (i * fs.size + j), none⟩ = some u ∧ DataW.trod enc P w base spare held n f.type [u] = some y := by
  rcases open_slice ht h with ⟨h0, _⟩ | ⟨a, len, cap, m, n, D, Pl, hcs, _, hl, hm, hmm, _, hi⟩
  · injection h0 with h0
    exact ⟨none, 0, 0, h0, Nat.le_refl _, by simp [maxLen], fun i hi => by omega⟩
  · injection hcs with hcs
    have key : ∀ i, i < len → ∀ (j : Nat) (f : Field), fs[j]? = some f → ∃ (u : Value) (y : DataW H × List MemPlace) (n : Nat), w.cell? (a.add (i * fs.size + j)) = some u ∧ DataW.trod enc P w base spare held n f.type [u] = some y := by
      intro i hil j f hj
      have him : i < m := by rw [hmm]; split <;> omega
      obtain ⟨cs', hc, ht'⟩ := hi i him
      rw [hC] at hc
      obtain ⟨ys, n', _, _, _, hyl, hf⟩ := DataW.trod_struct he ht'
      obtain ⟨_, hcl, hat⟩ := World.cells?_some hc
      obtain ⟨ho, hk⟩ := hone_of hone j f hj
      have hjl : j < fs.size := (Array.getElem?_eq_some_iff.1 hj).1
      have hv : cs'[j]? = some (cs'[j]'(by omega)) := List.getElem?_eq_getElem (by omega)
      have h1 := hf j f hj
      have h2 : (cs'.drop j).take 1 = [cs'[j]'(by omega)] := by
        rw [List.drop_eq_getElem_cons (by omega)]
        rfl
      rw [ho, hk, h2] at h1
      have hys : ys[j]? = some (ys[j]'(by omega)) := List.getElem?_eq_getElem (by omega)
      refine ⟨_, _, n', ?_, h1.trans hys⟩
      rw [← Go.Deep.add_add, hat j hjl, hv]
    refine ⟨some a, len, cap, hcs, hl, hm, fun i hil => ?_⟩
    obtain ⟨u, y, n', hc0, _⟩ := key 0 (by omega) 0 (fs[0]'h0) (Array.getElem?_eq_getElem h0)
    rw [Nat.zero_mul, Nat.zero_add] at hc0
    obtain ⟨b, off, rfl⟩ := addr_plain hc0
    refine ⟨b, off, rfl, fun j f hj => ?_⟩
    have := key i hil j f hj
    rw [add_plain] at this
    exact this
end

/-- PLACES THAT CAME IN. -/
theorem in_places {H : Type} {enc : TypeId × Value → H} {w : World} {base : Nat} {spare : Nat → Bool} {held : Bool} {fuel : Nat} {v : Value} {x : DataW H × List MemPlace}
    (h : DataW.trod enc Tryd.prog w base spare held fuel 133 [v] = some x) : ∃ ps, PlacesV w v ps := by
  obtain ⟨a, len, cap, rfl, hl, hm, hi⟩ := row_cells Tryd.underlying133 Tryd.underlying148 (by kernel_rfl) (by kernel_rfl) (by decide) h
  obtain ⟨ps, hpl, hps⟩ := choose_list pl0 len (fun i p => ∃ b off, a = some ⟨b, off, none⟩ ∧ w.cell? ⟨b, off + i * 2, none⟩ = some (.int .i64 p.1) ∧ w.cell? ⟨b, off + i * 2 + 1, none⟩ = some (.int .i64 p.2)) (fun i hil => by
    obtain ⟨b, off, rfl, hf⟩ := hi i hil
    obtain ⟨u0, y0, n0, c0, t0⟩ := hf 0 _ rfl
    obtain ⟨u1, y1, n1, c1, t1⟩ := hf 1 _ rfl
    obtain ⟨z0, e0, _⟩ := DataW.trod_int Tryd.underlying3 t0
    obtain ⟨z1, e1, _⟩ := DataW.trod_int Tryd.underlying3 t1
    injection e0 with e0
    injection e1 with e1
    subst e0
    subst e1
    exact ⟨(z0, z1), b, off, rfl, by simpa using c0, by simpa [Nat.add_assoc] using c1⟩)
  subst hpl
  refine ⟨ps, a, cap, rfl, hl, hm, ?_⟩
  by_cases h0 : ps = []
  · exact .inl h0
  · have hp : 0 < ps.length := List.length_pos_iff.2 h0
    obtain ⟨b, off, rfl, _⟩ := hps 0 hp
    refine .inr ⟨b, off, rfl, fun j hj => ?_⟩
    obtain ⟨b', off', e, h1, h2⟩ := hps j hj
    injection e with e
    injection e with e1 e2
    subst e1
    subst e2
    exact ⟨h1, h2⟩

/-- POINTERS THAT CAME IN. -/
theorem in_ptrs {H : Type} {enc : TypeId × Value → H} {w : World} {base : Nat} {spare : Nat → Bool} {held : Bool} {fuel : Nat} {v : Value} {x : DataW H × List MemPlace}
    (h : DataW.trod enc Tryd.prog w base spare held fuel 99 [v] = some x) : ∃ ps, PtrsV w v ps := by
  obtain ⟨a, len, cap, rfl, hl, hm, hi⟩ := row_cells Tryd.underlying99 Tryd.underlying135 (by kernel_rfl) (by kernel_rfl) (by decide) h
  obtain ⟨ps, hpl, hps⟩ := choose_list ptr0 len (fun i p => ∃ b off, a = some ⟨b, off, none⟩ ∧ w.cell? ⟨b, off + i * 3, none⟩ = some (.int .i64 p.size) ∧ w.cell? ⟨b, off + i * 3 + 1, none⟩ = some (.int .i64 p.sum) ∧ ∃ v, w.cell? ⟨b, off + i * 3 + 2, none⟩ = some v ∧ PlacesV w v p.places) (fun i hil => by
    obtain ⟨b, off, rfl, hf⟩ := hi i hil
    obtain ⟨u0, y0, n0, c0, t0⟩ := hf 0 _ rfl
    obtain ⟨u1, y1, n1, c1, t1⟩ := hf 1 _ rfl
    obtain ⟨u2, y2, n2, c2, t2⟩ := hf 2 _ rfl
    obtain ⟨z0, e0, _⟩ := DataW.trod_int Tryd.underlying3 t0
    obtain ⟨z1, e1, _⟩ := DataW.trod_int Tryd.underlying3 t1
    obtain ⟨ps, hp⟩ := in_places t2
    injection e0 with e0
    injection e1 with e1
    subst e0
    subst e1
    exact ⟨⟨z0, z1, ps⟩, b, off, rfl, by simpa using c0, by simpa [Nat.add_assoc] using c1, u2, by simpa [Nat.add_assoc] using c2, hp⟩)
  subst hpl
  refine ⟨ps, a, cap, rfl, hl, hm, ?_⟩
  by_cases h0 : ps = []
  · exact .inl h0
  · have hp : 0 < ps.length := List.length_pos_iff.2 h0
    obtain ⟨b, off, rfl, _⟩ := hps 0 hp
    refine .inr ⟨b, off, rfl, fun j hj => ?_⟩
    obtain ⟨b', off', e, h1, h2, h3⟩ := hps j hj
    injection e with e
    injection e with e1 e2
    subst e1
    subst e2
    exact ⟨h1, h2, h3⟩

/-- VOLUMES THAT CAME IN. -/
theorem in_vols {H : Type} {enc : TypeId × Value → H} {w : World} {base : Nat} {spare : Nat → Bool} {held : Bool} {fuel : Nat} {v : Value} {x : DataW H × List MemPlace}
    (h : DataW.trod enc Tryd.prog w base spare held fuel 39 [v] = some x) : ∃ vs, VolsV w v vs ∧ ∀ j, j < vs.length → (vs.getD j vol0).name.size ≤ maxLen := by
  obtain ⟨a, len, cap, rfl, hl, hm, hi⟩ := row_cells Tryd.underlying39 Tryd.underlying101 (by kernel_rfl) (by kernel_rfl) (by decide) h
  obtain ⟨ps, hpl, hps⟩ := choose_list vol0 len (fun i p => ∃ b off, a = some ⟨b, off, none⟩ ∧ w.cell? ⟨b, off + i * 2, none⟩ = some (.string p.name) ∧ (∃ v, w.cell? ⟨b, off + i * 2 + 1, none⟩ = some v ∧ PtrsV w v p.blocks) ∧ p.name.size ≤ maxLen) (fun i hil => by
    obtain ⟨b, off, rfl, hf⟩ := hi i hil
    obtain ⟨u0, y0, n0, c0, t0⟩ := hf 0 _ rfl
    obtain ⟨u1, y1, n1, c1, t1⟩ := hf 1 _ rfl
    obtain ⟨z0, e0, _, hz⟩ := DataW.trod_string Tryd.underlying9 t0
    obtain ⟨ps, hp⟩ := in_ptrs t1
    injection e0 with e0
    subst e0
    exact ⟨⟨z0, ps⟩, b, off, rfl, by simpa using c0, ⟨u1, by simpa [Nat.add_assoc] using c1, hp⟩, hz⟩)
  subst hpl
  refine ⟨ps, ⟨a, cap, rfl, hl, hm, ?_⟩, fun j hj => by obtain ⟨_, _, _, _, _, hz⟩ := hps j hj; exact hz⟩
  by_cases h0 : ps = []
  · exact .inl h0
  · have hp : 0 < ps.length := List.length_pos_iff.2 h0
    obtain ⟨b, off, rfl, _⟩ := hps 0 hp
    refine .inr ⟨b, off, rfl, fun j hj => ?_⟩
    obtain ⟨b', off', e, h1, h2, _⟩ := hps j hj
    injection e with e
    injection e with e1 e2
    subst e1
    subst e2
    exact ⟨h1, h2⟩

set_option maxRecDepth 100000 in
/-- A POINTER THAT CAME IN. -/
theorem in_ptr {H : Type} {enc : TypeId × Value → H} {w : World} {base : Nat} {spare : Nat → Bool} {held : Bool} {r : Reach} {b0 : Nat} {v : Value} {d : DataW H} {p : List MemPlace}
    (hv : Value.okWide Tryd.prog w r b0 135 v) (h : DataW.Trod enc Tryd.prog w base spare held 135 v d p) : ∃ (p : PtrD) (u : Value), v = .agg #[.int .i64 p.size, .int .i64 p.sum, u] ∧ PlacesV w u p.places := by
  obtain ⟨v0, v1, v2, y0, y1, y2, n, rfl, _, _, t0, t1, t2⟩ := open_agg3 Tryd.underlying135 (by kernel_rfl) (by kernel_rfl) hv h
  obtain ⟨z0, e0, _⟩ := DataW.trod_int Tryd.underlying3 t0
  obtain ⟨z1, e1, _⟩ := DataW.trod_int Tryd.underlying3 t1
  obtain ⟨ps, hp⟩ := in_places t2
  injection e0 with e0
  injection e1 with e1
  subst e0
  subst e1
  exact ⟨⟨z0, z1, ps⟩, v2, rfl, hp⟩
set_option maxRecDepth 100000 in
/-- A ROOT THAT CAME IN. -/
theorem in_root {H : Type} {enc : TypeId × Value → H} {w : World} {base : Nat} {spare : Nat → Bool} {held : Bool} {r : Reach} {b0 : Nat} {v : Value} {d : DataW H} {p : List MemPlace}
    (hv : Value.okWide Tryd.prog w r b0 41 v) (h : DataW.Trod enc Tryd.prog w base spare held 41 v d p) : ∃ (r : RootD) (u : Value), v = .agg #[.int .i64 r.txg, u] ∧ VolsV w u r.vols ∧ ∀ j, j < r.vols.length → (r.vols.getD j vol0).name.size ≤ maxLen := by
  obtain ⟨v0, v1, y0, y1, n, rfl, _, _, t0, t1⟩ := open_agg2 Tryd.underlying41 (by kernel_rfl) (by kernel_rfl) hv h
  obtain ⟨z0, e0, _⟩ := DataW.trod_int Tryd.underlying3 t0
  obtain ⟨vs, hp⟩ := in_vols t1
  injection e0 with e0
  subst e0
  exact ⟨⟨z0, vs⟩, v1, rfl, hp⟩

end Go.Proofs.YtagfnhgioljfnaaDoor
