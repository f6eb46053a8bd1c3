/- A map from names to places in a list of volumes. Conditions: none. -/
import Derived.Test.YtmmckpjapnkepaaI0
import Derived.Maps.OwnSet
import Derived.Maps.OwnOps
import Derived.Maps.Views
import Derived.WalkArith
import Derived.StringKeys
namespace Go.Proofs.Ytmmckpjapnkepaa
open Go.RowKit Go.Sort Go.Lib Go.Maps

theorem keysS : Keyed Try.prog 9 := string_keyed Try.underlying9
theorem zeroN (w : World) : (zeroValue 3).run Try.prog w = .ok (.int .i64 0) w := by kernel_rfl
theorem wfN {d : Nat} (h1 : d < 1000) : (Lit.int .i64 (d : Int)).wf = true := WalkArith.wf_i64 ⟨by omega, by omega⟩
def kN (nm : ByteArray) : Lit := .string nm.data.toList
theorem kN_key {nm : ByteArray} (h : nm.size ≤ maxLen) : keyOf Try.prog 9 (.string nm) = some (kN nm) := Go.WideMaps.keyOf_string_mk Try.underlying9 h
theorem kN_ne {a b : ByteArray} (h : a ≠ b) : kN a ≠ kN b := by
  intro e
  injection e with e
  exact h (ByteArray.ext (Array.toList_inj.1 e))
theorem kN_lit (nm : ByteArray) : WideAt.IsKeyLit (kN nm) := trivial
def zN : DataW Unit := .lit (.int .i64 0)

/-- THE NAMES OF THE FIRST k VOLUMES LEAD TO THEIR PLACES. -/
def PlN (w : World) (b n : Nat) (ss : List ShD) (k : Nat) : Prop :=
  ∃ D, w.ownsMap (H := Unit) Try.prog 9 (plainElem Try.prog 3) b n D ∧ (∀ nm : ByteArray, Maps.has D (kN nm) = true ↔ ∃ j, j < k ∧ nmAt ss j = nm) ∧
    (∀ j, j < k → (∀ i, j < i → i < k → nmAt ss i ≠ nmAt ss j) → D.atKey (kN (nmAt ss j)) zN = .lit (.int .i64 (j : Int))) ∧ Maps.size D ≤ k ∧ (Maps.size D = k ↔ ∀ i j, i < j → j < k → nmAt ss i ≠ nmAt ss j)
theorem PlN.made (w : World) (ss : List ShD) : PlN (w.alloc (.map #[] 0)) w.heap.size 0 ss 0 :=
  ⟨_, World.ownsMap_made _ _ _ _, fun nm => ⟨fun h => by simp [Maps.has] at h, fun ⟨j, hj, _⟩ => by omega⟩, fun j hj => by omega, Nat.le_refl _, ⟨fun _ i j _ hj => by omega, fun _ => rfl⟩⟩
theorem PlN.kept {w w' : World} {b n : Nat} {ss : List ShD} {k : Nat} {r : Option Nat} (h : PlN w b n ss k) (hg : w.grownBy w' r) (hne : some b ≠ r) : PlN w' b n ss k := by
  obtain ⟨D, h1, h2⟩ := h; exact ⟨D, h1.kept hg hne, h2⟩
theorem PlN.setCell {w : World} {b n : Nat} {ss : List ShD} {k : Nat} (h : PlN w b n ss k) {a : Addr} (ha : b ≠ a.block) (u : Value) : PlN (w.setCell a u) b n ss k := by
  obtain ⟨D, h1, h2⟩ := h; exact ⟨D, h1.setCell ha u, h2⟩
theorem PlN.below {w w' : World} {b n : Nat} {ss : List ShD} {k : Nat} (h : PlN w b n ss k) (hB : Below w.heap.size w w') : PlN w' b n ss k :=
  h.kept (r := none) ⟨hB.os, hB.tape, hB.output, hB.size, fun k hk _ => hB.block k hk⟩ (by simp)
theorem PlN.lt {w : World} {b n : Nat} {ss : List ShD} {k : Nat} (h : PlN w b n ss k) : b < w.heap.size := by obtain ⟨D, h1, _⟩ := h; exact h1.lt
/-- Only the names count. -/
theorem PlN.congr {w : World} {b n : Nat} {ss ss' : List ShD} {k : Nat} (h : PlN w b n ss k) (e : ∀ j, j < k → nmAt ss j = nmAt ss' j) : PlN w b n ss' k := by
  obtain ⟨D, h1, h2, h3, h4, h5⟩ := h
  refine ⟨D, h1, fun nm => (h2 nm).trans ⟨fun ⟨j, hj, q⟩ => ⟨j, hj, (e j hj).symm.trans q⟩, fun ⟨j, hj, q⟩ => ⟨j, hj, (e j hj).trans q⟩⟩, fun j hj hl => ?_, h4, h5.trans ⟨fun q i j hij hj => by rw [← e j hj, ← e i (by omega)]; exact q i j hij hj, fun q i j hij hj => by rw [e j hj, e i (by omega)]; exact q i j hij hj⟩⟩
  rw [← e j hj]
  exact h3 j hj (fun i hi hik => by rw [e i hik, e j hj]; exact hl i hi hik)

theorem PlN.look {w : World} {b n : Nat} {ss : List ShD} {k : Nat} (h : PlN w b n ss k) {j : Nat} (hj : j < k) (hl : ∀ i, j < i → i < k → nmAt ss i ≠ nmAt ss j) (hs : (nmAt ss j).size ≤ maxLen) :
    (Instr.lookup 78 (.map (some b)) (.string (nmAt ss j)) true).run Try.prog w = .ok (.tuple #[.int .i64 (j : Int), .bool true]) w := by
  obtain ⟨D, h1, h2, h3, _⟩ := h
  obtain ⟨v, ps, hrun, hv⟩ := h1.look_ok keysS Try.underlying78 (zeroN w) (plainElem_int (H := Unit) Try.underlying3 (wfN (d := 0) (by omega))) (kN_key hs)
  have h3' : D.atKey (kN (nmAt ss j)) (DataW.lit (Lit.int .i64 0)) = .lit (.int .i64 (j : Int)) := h3 j hj hl
  rw [h3'] at hv
  obtain ⟨a, rfl, e, _⟩ := plainElem_int_inv Try.underlying3 hv
  have ha : (j : Int) = a := (Lit.int.inj (DataW.lit.inj (Prod.mk.inj e).1)).2
  subst ha
  rw [(h2 _).2 ⟨j, hj, rfl⟩] at hrun
  exact hrun
theorem PlN.miss {w : World} {b n : Nat} {ss : List ShD} {k : Nat} (h : PlN w b n ss k) {nm : ByteArray} (hn : ¬∃ j, j < k ∧ nmAt ss j = nm) (hs : nm.size ≤ maxLen) :
    (Instr.lookup 78 (.map (some b)) (.string nm) true).run Try.prog w = .ok (.tuple #[.int .i64 0, .bool false]) w := by
  obtain ⟨D, h1, h2, h3, _⟩ := h
  obtain ⟨v, ps, hrun, hv⟩ := h1.look_ok keysS Try.underlying78 (zeroN w) (plainElem_int (H := Unit) Try.underlying3 (wfN (d := 0) (by omega))) (kN_key hs)
  have hf : Maps.has D (kN nm) = false := by
    cases hh : Maps.has D (kN nm)
    · rfl
    · exact (hn ((h2 nm).1 hh)).elim
  rw [atKey_of_not_has hf] at hv
  obtain ⟨a, rfl, e, _⟩ := plainElem_int_inv Try.underlying3 hv
  have ha : (0 : Int) = a := (Lit.int.inj (DataW.lit.inj (Prod.mk.inj e).1)).2
  subst ha
  rw [hf] at hrun
  exact hrun
theorem PlN.put {w : World} {b n : Nat} {ss : List ShD} {k : Nat} (h : PlN w b n ss k) (hn : n < 1000) (hk : k < 1000) (hs : (nmAt ss k).size ≤ maxLen) :
    ∃ w', (Instr.mapUpdate 78 (.map (some b)) (.string (nmAt ss k)) (.int .i64 (k : Int))).run Try.prog w = .ok () w' ∧ PlN w' b (n + 1) ss (k + 1) ∧ w.grownBy w' (some b) := by
  obtain ⟨D, h1, h2, h3, h4, h5⟩ := h
  obtain ⟨w', hrun, hown, hg⟩ := h1.update keysS Try.underlying78 (by unfold maxLen; omega) (kN_key hs) (plainElem_int Try.underlying3 (wfN hk))
  have hsz := size_put (h1.tidy keysS) (k := kN (nmAt ss k)) (.lit (.int .i64 (k : Int)))
  refine ⟨w', hrun, ⟨_, hown, fun nm => ?_, fun j hj hl => ?_, ?_, ?_⟩, hg⟩
  · by_cases e : nm = nmAt ss k
    · subst e
      exact ⟨fun _ => ⟨k, by omega, rfl⟩, fun _ => has_put_same h1.isMap (kN_lit _) _⟩
    · rw [has_put_other (kN_ne e), h2 nm]
      exact ⟨fun ⟨j, hj, q⟩ => ⟨j, by omega, q⟩, fun ⟨j, hj, q⟩ => ⟨j, by
        by_cases ek : j = k
        · subst ek; exact (e q.symm).elim
        · omega, q⟩⟩
  · by_cases e : j = k
    · subst e
      exact atKey_put_same h1.isMap (kN_lit _) _ _
    · rw [atKey_put_other (kN_ne (fun q => hl k (by omega) (by omega) q.symm))]
      exact h3 j (by omega) (fun i hi hik => hl i hi (by omega))
  · rw [hsz]; split <;> omega
  · rw [hsz]
    by_cases hh : Maps.has D (kN (nmAt ss k)) = true
    · rw [if_pos hh]
      obtain ⟨j, hj, q⟩ := (h2 _).1 hh
      exact ⟨fun e => by omega, fun q' => (q' j k hj (by omega) q).elim⟩
    · rw [if_neg hh]
      have hno : ∀ j, j < k → nmAt ss j ≠ nmAt ss k := fun j hj q => hh ((h2 _).2 ⟨j, hj, q⟩)
      refine ⟨fun e i j hij hj => ?_, fun q => ?_⟩
      · have e' := h5.1 (by omega)
        by_cases ej : j = k
        · subst ej; exact hno i hij
        · exact e' i j hij (by omega)
      · rw [h5.2 (fun i j hij hj => q i j hij (by omega))]
theorem PlN.len {w : World} {b n : Nat} {ss : List ShD} (h : PlN w b n ss ss.length) (ty : TypeId) :
    ∃ m : Nat, (Builtin.len_ #[78] ty #[.map (some b)]).run Try.prog w = .ok (.int .i64 (m : Int)) w ∧ m ≤ ss.length ∧ (m = ss.length ↔ Distinct ss) := by
  obtain ⟨D, h1, h2, h3, h4, h5⟩ := h
  exact ⟨_, h1.len Try.underlying78 ty, h4, h5⟩

end Go.Proofs.Ytmmckpjapnkepaa
