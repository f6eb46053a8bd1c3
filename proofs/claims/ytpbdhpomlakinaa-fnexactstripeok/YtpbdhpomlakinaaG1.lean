/- Arguments that are writes or disks, opened to plain data. Conditions: none but the row's own bound on sizes. -/
import Derived.Test.YtpbdhpomlakinaaG0
import Derived.Test.YtpbdhpomlakinaaRG
namespace Go.Proofs.Ytpbdhpomlakinaa
open Go.Joins Go.ChangeShapes Go.WideShapes Go.RowKit Go.Deep

section
variable {H : Type} {enc : TypeId × Value → H} {P : Program} {w : World} {base : Nat} {spare : Nat → Bool} {held : Bool}
/-- A SLICE OF VALUES OF ONE CELL, OPENED. -/
theorem row_one {t e : TypeId} {fuel : Nat} {v : Value} {x : DataW H × List MemPlace} (ht : P.underlying t = some (.slice e)) (hC : P.cellsOf e = 1) (h : DataW.trod enc P w base spare held fuel t [v] = some x) :
    ∃ (a : Option Addr) (len cap : Nat), v = .slice a len cap ∧ len ≤ cap ∧ cap ≤ maxLen ∧ ∀ i, i < len → ∃ b off, a = some ⟨b, off, none⟩ ∧ ∃ (u : Value) (y : DataW H × List MemPlace) (n : Nat), w.cell? ⟨b, off + i, none⟩ = some u ∧ DataW.trod enc P w base spare held n e [u] = some y := by
  rcases open_slice ht h with ⟨h0, _⟩ | ⟨a, len, cap, m, n, D, Pl, hcs, _, hl, hm, hmm, _, hi⟩
  · injection h0 with h0
    exact ⟨none, 0, 0, h0, Nat.le_refl _, by simp [maxLen], fun i hi => by omega⟩
  · injection hcs with hcs
    have key : ∀ i, i < len → ∃ (u : Value) (y : DataW H × List MemPlace) (n : Nat), w.cell? (a.add i) = some u ∧ DataW.trod enc P w base spare held n e [u] = some y := by
      intro i hil
      have him : i < m := by rw [hmm]; split <;> omega
      obtain ⟨cs', hc, ht'⟩ := hi i him
      rw [hC] at hc
      obtain ⟨_, hcl, hat⟩ := World.cells?_some hc
      obtain ⟨u, rfl⟩ : ∃ u, cs' = [u] := List.length_eq_one_iff.1 hcl
      refine ⟨u, _, _, ?_, ht'⟩
      have := hat 0 (by omega)
      rw [Go.Deep.add_add, Nat.mul_one, Nat.add_zero] at this
      simpa using this
    refine ⟨some a, len, cap, hcs, hl, hm, fun i hil => ?_⟩
    obtain ⟨u, y, n', hc0, _⟩ := key 0 (by omega)
    obtain ⟨b, off, rfl⟩ := addr_plain hc0
    refine ⟨b, off, rfl, ?_⟩
    have := key i hil
    rw [add_plain] at this
    exact this
/-- A STRUCT OF FIELDS OF ONE CELL, OPENED. -/
theorem agg_cells {r : Reach} {b0 : Nat} {t : TypeId} {fs : Array Field} {v : Value} {d : DataW H} {p : List MemPlace} (hs : P.underlying t = some (.struct fs)) (hone : oneCellFields P fs = true) (hC : P.cellsOf t = fs.size)
    (hv : Value.okWide P w r b0 t v) (h : DataW.Trod enc P w base spare held t v d p) :
    ∃ cs : Array Value, v = .agg cs ∧ cs.size = fs.size ∧ ∀ (j : Nat) (f : Field), fs[j]? = some f → ∃ (u : Value) (y : DataW H × List MemPlace) (n : Nat), cs[j]? = some u ∧ DataW.trod enc P w base spare held n f.type [u] = some y := by
  obtain ⟨cs, rfl, hsz⟩ := okWide_struct hs hv
  rw [hC] at hsz
  obtain ⟨fuel, hf⟩ := h
  obtain ⟨ys, n', _, _, _, hyl, hf⟩ := DataW.trod_struct hs hf
  refine ⟨cs, rfl, hsz, fun j f hj => ?_⟩
  obtain ⟨ho, hk⟩ := hone_of hone j f hj
  have hjl : j < fs.size := (Array.getElem?_eq_some_iff.1 hj).1
  have h1 := hf j f hj
  have hvc : (Value.agg cs).cells = cs := rfl
  have h2 : (cs.toList.drop j).take 1 = [cs[j]'(by omega)] := by
    rw [List.drop_eq_getElem_cons (by simp; omega)]
    simp
  rw [ho, hk] at h1
  rw [show (Value.agg cs).cells.toList = cs.toList from rfl] at h1
  rw [h2] at h1
  have hys : ys[j]? = some (ys[j]'(by omega)) := List.getElem?_eq_getElem (by omega)
  exact ⟨_, _, n', Array.getElem?_eq_getElem (by omega), h1.trans hys⟩
end

section
variable {H : Type} {enc : TypeId × Value → H} {w : World} {base : Nat} {spare : Nat → Bool} {held : Bool} {fuel : Nat} {v : Value} {x : DataW H × List MemPlace}
theorem in_texts (h : DataW.trod enc Try.prog w base spare held fuel 114 [v] = some x) : ∃ xs, TxV w v xs ∧ ∀ j, j < xs.length → (xs.getD j ByteArray.empty).size ≤ maxLen := by
  obtain ⟨a, len, cap, rfl, hl, hm, hi⟩ := row_one Try.underlying114 (by kernel_rfl) h
  obtain ⟨ps, hpl, hps⟩ := choose_list ByteArray.empty len (fun i p => ∃ b off, a = some ⟨b, off, none⟩ ∧ w.cell? ⟨b, off + i, none⟩ = some (.string p) ∧ p.size ≤ maxLen) (fun i hil => by
    obtain ⟨b, off, rfl, u, y, n, c, t⟩ := hi i hil
    obtain ⟨z0, e0, _, hz⟩ := DataW.trod_string Try.underlying9 t
    injection e0 with e0
    subst e0
    exact ⟨z0, b, off, rfl, c, hz⟩)
  subst hpl
  refine ⟨ps, ⟨a, cap, rfl, hl, hm, ?_⟩, fun j hj => by obtain ⟨_, _, _, _, hz⟩ := hps j hj; exact hz⟩
  by_cases h0 : ps = []
  · exact .inl h0
  · have hp : 0 < ps.length := List.length_pos_iff.2 h0
    obtain ⟨b, off, rfl, _⟩ := hps 0 hp
    refine .inr ⟨b, off, rfl, fun j hj => ?_⟩
    obtain ⟨b', off', e, h1, h2⟩ := hps j hj
    injection e with e
    injection e with e1 e2
    subst e1
    subst e2
    exact h1
theorem in_bools (h : DataW.trod enc Try.prog w base spare held fuel 115 [v] = some x) : ∃ xs, BoV w v xs := by
  obtain ⟨a, len, cap, rfl, hl, hm, hi⟩ := row_one Try.underlying115 (by kernel_rfl) h
  obtain ⟨ps, hpl, hps⟩ := choose_list false len (fun i p => ∃ b off, a = some ⟨b, off, none⟩ ∧ w.cell? ⟨b, off + i, none⟩ = some (.bool p)) (fun i hil => by
    obtain ⟨b, off, rfl, u, y, n, c, t⟩ := hi i hil
    obtain ⟨z0, e0, _⟩ := DataW.trod_bool Try.underlying4 t
    injection e0 with e0
    subst e0
    exact ⟨z0, b, off, rfl, c⟩)
  subst hpl
  refine ⟨ps, a, cap, rfl, hl, hm, ?_⟩
  by_cases h0 : ps = []
  · exact .inl h0
  · have hp : 0 < ps.length := List.length_pos_iff.2 h0
    obtain ⟨b, off, rfl, _⟩ := hps 0 hp
    refine .inr ⟨b, off, rfl, fun j hj => ?_⟩
    obtain ⟨b', off', e, h1⟩ := hps j hj
    injection e with e
    injection e with e1 e2
    subst e1
    subst e2
    exact h1
theorem in_puts (h : DataW.trod enc Try.prog w base spare held fuel 116 [v] = some x) : ∃ xs, PuV w v xs ∧ ∀ j, j < xs.length → (xs.getD j put0).text.size ≤ maxLen := by
  obtain ⟨a, len, cap, rfl, hl, hm, hi⟩ := row_cells Try.underlying116 Try.underlying194 (by kernel_rfl) (by kernel_rfl) (by decide) h
  obtain ⟨ps, hpl, hps⟩ := choose_list put0 len (fun i p => ∃ b off, a = some ⟨b, off, none⟩ ∧ (w.cell? ⟨b, off + i * 3, none⟩ = some (.bool p.ring) ∧ w.cell? ⟨b, off + i * 3 + 1, none⟩ = some (.int .i64 p.pos) ∧ w.cell? ⟨b, off + i * 3 + 2, none⟩ = some (.string p.text)) ∧ p.text.size ≤ maxLen) (fun i hil => by
    obtain ⟨b, off, rfl, hf⟩ := hi i hil
    obtain ⟨u0, y0, n0, c0, t0⟩ := hf 0 _ rfl
    obtain ⟨u1, y1, n1, c1, t1⟩ := hf 1 _ rfl
    obtain ⟨u2, y2, n2, c2, t2⟩ := hf 2 _ rfl
    obtain ⟨z0, e0, _⟩ := DataW.trod_bool Try.underlying4 t0
    obtain ⟨z1, e1, _⟩ := DataW.trod_int Try.underlying3 t1
    obtain ⟨z2, e2, _, hz⟩ := DataW.trod_string Try.underlying9 t2
    injection e0 with e0
    injection e1 with e1
    injection e2 with e2
    subst e0
    subst e1
    subst e2
    exact ⟨⟨z0, z1, z2⟩, b, off, rfl, ⟨by simpa using c0, by simpa [Nat.add_assoc] using c1, by simpa [Nat.add_assoc] using c2⟩, hz⟩)
  subst hpl
  refine ⟨ps, ⟨a, cap, rfl, hl, hm, ?_⟩, fun j hj => by obtain ⟨_, _, _, _, hz⟩ := hps j hj; exact hz⟩
  by_cases h0 : ps = []
  · exact .inl h0
  · have hp : 0 < ps.length := List.length_pos_iff.2 h0
    obtain ⟨b, off, rfl, _⟩ := hps 0 hp
    refine .inr ⟨b, off, rfl, fun j hj => ?_⟩
    obtain ⟨b', off', e, h1, h2⟩ := hps j hj
    injection e with e
    injection e with e1 e2
    subst e1
    subst e2
    exact h1
end

/-- SIZES of what came in. -/
def DiskBd (d : DiskD) : Prop := (∀ j, j < d.slots.length → (d.slots.getD j ByteArray.empty).size ≤ maxLen) ∧ (∀ j, j < d.rings.length → (d.rings.getD j ByteArray.empty).size ≤ maxLen) ∧ ∀ j, j < d.wait.length → (d.wait.getD j put0).text.size ≤ maxLen

theorem array3' {α : Type} {cs : Array α} (h : cs.size = 3) : ∃ a b c, cs = #[a, b, c] := ⟨cs[0], cs[1], cs[2], by apply Array.ext' ; rcases cs with ⟨l⟩; match l, h with | [a, b, c], _ => rfl⟩
theorem array5' {α : Type} {cs : Array α} (h : cs.size = 5) : ∃ a b c d e, cs = #[a, b, c, d, e] := ⟨cs[0], cs[1], cs[2], cs[3], cs[4], by apply Array.ext' ; rcases cs with ⟨l⟩; match l, h with | [a, b, c, d, e], _ => rfl⟩

set_option maxRecDepth 100000 in
/-- A WRITE THAT CAME IN. -/
theorem in_put {H : Type} {enc : TypeId × Value → H} {w : World} {base : Nat} {spare : Nat → Bool} {held : Bool} {r : Reach} {b0 : Nat} {v : Value} {d : DataW H} {p : List MemPlace}
    (hv : Value.okWide Try.prog w r b0 194 v) (h : DataW.Trod enc Try.prog w base spare held 194 v d p) : ∃ p : PutD, v = .agg #[.bool p.ring, .int .i64 p.pos, .string p.text] ∧ p.text.size ≤ maxLen := by
  obtain ⟨v0, v1, v2, y0, y1, y2, n, rfl, _, _, t0, t1, t2⟩ := open_agg3 Try.underlying194 (by kernel_rfl) (by kernel_rfl) hv h
  obtain ⟨z0, e0, _⟩ := DataW.trod_bool Try.underlying4 t0
  obtain ⟨z1, e1, _⟩ := DataW.trod_int Try.underlying3 t1
  obtain ⟨z2, e2, _, hz⟩ := DataW.trod_string Try.underlying9 t2
  injection e0 with e0
  injection e1 with e1
  injection e2 with e2
  subst e0
  subst e1
  subst e2
  exact ⟨⟨z0, z1, z2⟩, rfl, hz⟩
set_option maxRecDepth 100000 in
/-- A DISK THAT CAME IN. -/
theorem in_disk {H : Type} {enc : TypeId × Value → H} {w : World} {base : Nat} {spare : Nat → Bool} {held : Bool} {r : Reach} {b0 : Nat} {v : Value} {d : DataW H} {p : List MemPlace}
    (hv : Value.okWide Try.prog w r b0 118 v) (h : DataW.Trod enc Try.prog w base spare held 118 v d p) : ∃ d : DiskD, DiskV w v d ∧ DiskBd d := by
  obtain ⟨cs, rfl, hsz, hf⟩ := agg_cells Try.underlying118 (by kernel_rfl) (by kernel_rfl) hv h
  obtain ⟨c0, c1, c2, c3, c4, rfl⟩ := array5' hsz
  obtain ⟨u0, y0, n0, k0, t0⟩ := hf 0 _ rfl
  obtain ⟨u1, y1, n1, k1, t1⟩ := hf 1 _ rfl
  obtain ⟨u2, y2, n2, k2, t2⟩ := hf 2 _ rfl
  obtain ⟨u3, y3, n3, k3, t3⟩ := hf 3 _ rfl
  obtain ⟨u4, y4, n4, k4, t4⟩ := hf 4 _ rfl
  obtain rfl : c0 = u0 := Option.some.inj k0
  obtain rfl : c1 = u1 := Option.some.inj k1
  obtain rfl : c2 = u2 := Option.some.inj k2
  obtain rfl : c3 = u3 := Option.some.inj k3
  obtain rfl : c4 = u4 := Option.some.inj k4
  obtain ⟨z0, e0, _⟩ := DataW.trod_int Try.underlying3 t0
  injection e0 with e0
  subst e0
  obtain ⟨xs, h1, s1⟩ := in_texts t1
  obtain ⟨ys, h2, s2⟩ := in_texts t2
  obtain ⟨bs, h3⟩ := in_bools t3
  obtain ⟨ps, h4, s4⟩ := in_puts t4
  exact ⟨⟨z0, xs, ys, bs, ps⟩, ⟨c1, c2, c3, c4, rfl, h1, h2, h3, h4⟩, s1, s2, s4⟩

end Go.Proofs.Ytpbdhpomlakinaa
