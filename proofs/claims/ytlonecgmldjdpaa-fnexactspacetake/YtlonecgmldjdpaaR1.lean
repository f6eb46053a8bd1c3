/- Arguments that are pointers or roots, opened to plain data. Conditions: none but the row's own bound on sizes. -/
import Derived.Test.YtlonecgmldjdpaaR0
import Derived.Test.YtlonecgmldjdpaaRG
import Derived.Deep.Slices
import Derived.Deep.Fields
import Derived.ChangeSame
import Derived.Lib.SmallJoins
namespace Go.Proofs.Ytlonecgmldjdpaa
open Go.Joins Go.ChangeShapes Go.WideShapes Go.RowKit Go.Deep

/-- PLACES THAT CAME IN. -/
theorem in_places {H : Type} {enc : TypeId × Value → H} {w : World} {base : Nat} {spare : Nat → Bool} {held : Bool} {fuel : Nat} {v : Value} {x : DataW H × List MemPlace}
    (h : DataW.trod enc Try.prog w base spare held fuel 149 [v] = some x) : ∃ ps, PlacesV w v ps := by
  obtain ⟨a, len, cap, rfl, hl, hm, hi⟩ := row_cells Try.underlying149 Try.underlying159 (by kernel_rfl) (by kernel_rfl) (by decide) h
  obtain ⟨ps, hpl, hps⟩ := choose_list pl0 len (fun i p => ∃ b off, a = some ⟨b, off, none⟩ ∧ w.cell? ⟨b, off + i * 2, none⟩ = some (.int .i64 p.1) ∧ w.cell? ⟨b, off + i * 2 + 1, none⟩ = some (.int .i64 p.2)) (fun i hil => by
    obtain ⟨b, off, rfl, hf⟩ := hi i hil
    obtain ⟨u0, y0, n0, c0, t0⟩ := hf 0 _ rfl
    obtain ⟨u1, y1, n1, c1, t1⟩ := hf 1 _ rfl
    obtain ⟨z0, e0, _⟩ := DataW.trod_int Try.underlying3 t0
    obtain ⟨z1, e1, _⟩ := DataW.trod_int Try.underlying3 t1
    injection e0 with e0
    injection e1 with e1
    subst e0
    subst e1
    exact ⟨(z0, z1), b, off, rfl, by simpa using c0, by simpa [Nat.add_assoc] using c1⟩)
  subst hpl
  refine ⟨ps, a, cap, rfl, hl, hm, ?_⟩
  by_cases h0 : ps = []
  · exact .inl h0
  · have hp : 0 < ps.length := List.length_pos_iff.2 h0
    obtain ⟨b, off, rfl, _⟩ := hps 0 hp
    refine .inr ⟨b, off, rfl, fun j hj => ?_⟩
    obtain ⟨b', off', e, h1, h2⟩ := hps j hj
    injection e with e
    injection e with e1 e2
    subst e1
    subst e2
    exact ⟨h1, h2⟩

/-- POINTERS THAT CAME IN. -/
theorem in_ptrs {H : Type} {enc : TypeId × Value → H} {w : World} {base : Nat} {spare : Nat → Bool} {held : Bool} {fuel : Nat} {v : Value} {x : DataW H × List MemPlace}
    (h : DataW.trod enc Try.prog w base spare held fuel 107 [v] = some x) : ∃ ps, PtrsV w v ps := by
  obtain ⟨a, len, cap, rfl, hl, hm, hi⟩ := row_cells Try.underlying107 Try.underlying151 (by kernel_rfl) (by kernel_rfl) (by decide) h
  obtain ⟨ps, hpl, hps⟩ := choose_list ptr0 len (fun i p => ∃ b off, a = some ⟨b, off, none⟩ ∧ w.cell? ⟨b, off + i * 3, none⟩ = some (.int .i64 p.size) ∧ w.cell? ⟨b, off + i * 3 + 1, none⟩ = some (.int .i64 p.sum) ∧ ∃ v, w.cell? ⟨b, off + i * 3 + 2, none⟩ = some v ∧ PlacesV w v p.places) (fun i hil => by
    obtain ⟨b, off, rfl, hf⟩ := hi i hil
    obtain ⟨u0, y0, n0, c0, t0⟩ := hf 0 _ rfl
    obtain ⟨u1, y1, n1, c1, t1⟩ := hf 1 _ rfl
    obtain ⟨u2, y2, n2, c2, t2⟩ := hf 2 _ rfl
    obtain ⟨z0, e0, _⟩ := DataW.trod_int Try.underlying3 t0
    obtain ⟨z1, e1, _⟩ := DataW.trod_int Try.underlying3 t1
    obtain ⟨ps, hp⟩ := in_places t2
    injection e0 with e0
    injection e1 with e1
    subst e0
    subst e1
    exact ⟨⟨z0, z1, ps⟩, b, off, rfl, by simpa using c0, by simpa [Nat.add_assoc] using c1, u2, by simpa [Nat.add_assoc] using c2, hp⟩)
  subst hpl
  refine ⟨ps, a, cap, rfl, hl, hm, ?_⟩
  by_cases h0 : ps = []
  · exact .inl h0
  · have hp : 0 < ps.length := List.length_pos_iff.2 h0
    obtain ⟨b, off, rfl, _⟩ := hps 0 hp
    refine .inr ⟨b, off, rfl, fun j hj => ?_⟩
    obtain ⟨b', off', e, h1, h2, h3⟩ := hps j hj
    injection e with e
    injection e with e1 e2
    subst e1
    subst e2
    exact ⟨h1, h2, h3⟩

/-- VOLUMES THAT CAME IN. -/
theorem in_vols {H : Type} {enc : TypeId × Value → H} {w : World} {base : Nat} {spare : Nat → Bool} {held : Bool} {fuel : Nat} {v : Value} {x : DataW H × List MemPlace}
    (h : DataW.trod enc Try.prog w base spare held fuel 50 [v] = some x) : ∃ vs, VolsV w v vs ∧ ∀ j, j < vs.length → (vs.getD j vol0).name.size ≤ maxLen := by
  obtain ⟨a, len, cap, rfl, hl, hm, hi⟩ := row_cells Try.underlying50 Try.underlying109 (by kernel_rfl) (by kernel_rfl) (by decide) h
  obtain ⟨ps, hpl, hps⟩ := choose_list vol0 len (fun i p => ∃ b off, a = some ⟨b, off, none⟩ ∧ w.cell? ⟨b, off + i * 2, none⟩ = some (.string p.name) ∧ (∃ v, w.cell? ⟨b, off + i * 2 + 1, none⟩ = some v ∧ PtrsV w v p.blocks) ∧ p.name.size ≤ maxLen) (fun i hil => by
    obtain ⟨b, off, rfl, hf⟩ := hi i hil
    obtain ⟨u0, y0, n0, c0, t0⟩ := hf 0 _ rfl
    obtain ⟨u1, y1, n1, c1, t1⟩ := hf 1 _ rfl
    obtain ⟨z0, e0, _, hz⟩ := DataW.trod_string Try.underlying9 t0
    obtain ⟨ps, hp⟩ := in_ptrs t1
    injection e0 with e0
    subst e0
    exact ⟨⟨z0, ps⟩, b, off, rfl, by simpa using c0, ⟨u1, by simpa [Nat.add_assoc] using c1, hp⟩, hz⟩)
  subst hpl
  refine ⟨ps, ⟨a, cap, rfl, hl, hm, ?_⟩, fun j hj => by obtain ⟨_, _, _, _, _, hz⟩ := hps j hj; exact hz⟩
  by_cases h0 : ps = []
  · exact .inl h0
  · have hp : 0 < ps.length := List.length_pos_iff.2 h0
    obtain ⟨b, off, rfl, _⟩ := hps 0 hp
    refine .inr ⟨b, off, rfl, fun j hj => ?_⟩
    obtain ⟨b', off', e, h1, h2, _⟩ := hps j hj
    injection e with e
    injection e with e1 e2
    subst e1
    subst e2
    exact ⟨h1, h2⟩

set_option maxRecDepth 100000 in
/-- A POINTER THAT CAME IN. -/
theorem in_ptr {H : Type} {enc : TypeId × Value → H} {w : World} {base : Nat} {spare : Nat → Bool} {held : Bool} {r : Reach} {b0 : Nat} {v : Value} {d : DataW H} {p : List MemPlace}
    (hv : Value.okWide Try.prog w r b0 151 v) (h : DataW.Trod enc Try.prog w base spare held 151 v d p) : ∃ (p : PtrD) (u : Value), v = .agg #[.int .i64 p.size, .int .i64 p.sum, u] ∧ PlacesV w u p.places := by
  obtain ⟨v0, v1, v2, y0, y1, y2, n, rfl, _, _, t0, t1, t2⟩ := open_agg3 Try.underlying151 (by kernel_rfl) (by kernel_rfl) hv h
  obtain ⟨z0, e0, _⟩ := DataW.trod_int Try.underlying3 t0
  obtain ⟨z1, e1, _⟩ := DataW.trod_int Try.underlying3 t1
  obtain ⟨ps, hp⟩ := in_places t2
  injection e0 with e0
  injection e1 with e1
  subst e0
  subst e1
  exact ⟨⟨z0, z1, ps⟩, v2, rfl, hp⟩
set_option maxRecDepth 100000 in
/-- A ROOT THAT CAME IN. -/
theorem in_root {H : Type} {enc : TypeId × Value → H} {w : World} {base : Nat} {spare : Nat → Bool} {held : Bool} {r : Reach} {b0 : Nat} {v : Value} {d : DataW H} {p : List MemPlace}
    (hv : Value.okWide Try.prog w r b0 52 v) (h : DataW.Trod enc Try.prog w base spare held 52 v d p) : ∃ (r : RootD) (u : Value), v = .agg #[.int .i64 r.txg, u] ∧ VolsV w u r.vols ∧ ∀ j, j < r.vols.length → (r.vols.getD j vol0).name.size ≤ maxLen := by
  obtain ⟨v0, v1, y0, y1, n, rfl, _, _, t0, t1⟩ := open_agg2 Try.underlying52 (by kernel_rfl) (by kernel_rfl) hv h
  obtain ⟨z0, e0, _⟩ := DataW.trod_int Try.underlying3 t0
  obtain ⟨vs, hp⟩ := in_vols t1
  injection e0 with e0
  subst e0
  exact ⟨⟨z0, vs⟩, v1, rfl, hp⟩

end Go.Proofs.Ytlonecgmldjdpaa
