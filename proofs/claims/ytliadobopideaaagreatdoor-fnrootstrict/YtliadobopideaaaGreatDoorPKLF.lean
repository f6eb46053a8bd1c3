/- What the world's shape gives: some number in bytealg.MaxLen; that one variable is handed back; how long the text of an ok root is. Conditions: none. -/
import Derived.Test.YtliadobopideaaaGreatDoorPKRU
namespace Go.Proofs.YtliadobopideaaaGreatDoor
open Go.ChangeShapes Go.WideShapes Go.ChangeAt Go.WideMaps Go.WideElems Go.RowKit
set_option maxRecDepth 100000

theorem maxLen_any {W : World} (h : W.ShapedOpen Tryz.prog) : ∃ m, W.cell? ⟨2, 0, none⟩ = some (.int .i64 m) := by
  exact cell_of_shapedOpen_int (zero := #[.int .i64 0]) (t := 3) h (of_decide_eq_true (by kernel_rfl)) (by kernel_rfl) rfl (by kernel_rfl) (by kernel_rfl) Tryz.underlying3
theorem one_var {H : Type} {enc : TypeId × Value → H} {W : World} {sp : Nat → Bool} {n : String} {gs : List (DataW H)} {q : List MemPlace} (h : DataW.TrodVars enc Tryz.prog W sp [n] gs q) : ∃ g, gs = [g] := by
  cases gs with
  | nil => exact h.elim
  | cons g r =>
    cases r with
    | nil => exact ⟨g, rfl⟩
    | cons _ _ =>
      obtain ⟨_, _, _, _, _, _, _, _, _, _, h, _⟩ := h
      exact h.elim

theorem dz_le (k : Nat) {n : Int} (h : n < 10 ^ (k + 1)) : (dz n).length ≤ k + 1 := dec_length k n.toNat (by
  have h1 : n.toNat < 10 ^ (k + 1) := by
    have h2 : (n.toNat : Int) < ((10 ^ (k + 1) : Nat) : Int) := by
      push_cast
      rcases Int.lt_or_le n 0 with h3 | h3
      · have : n.toNat = 0 := by omega
        rw [this]
        have : (0 : Int) < 10 ^ (k + 1) := Int.pow_pos (by decide)
        simpa using this
      · rw [Int.toNat_of_nonneg h3]; exact h
    exact_mod_cast h2
  exact h1)
/-- THE TEXT OF A POINTER of an ok root has at most 37 bytes. -/
theorem ptr_short {n : Int} (hn : Pool n) {p : PtrD} (h : PtrFine n p) : (ptrTx p).length ≤ 37 := by
  rcases h with ⟨h1, _, _⟩ | h
  · unfold ptrTx
    rw [if_pos h1]; decide
  · have hz := h.1
    have hz2 := h.2.1
    have hn1 := hn.1
    have hn2 := hn.2
    have hl := h.2.2.2.2.1
    have h1 := dz_le 0 (n := p.size) (by show p.size < 10; omega)
    have h2 := dz_le 9 (n := p.sum) (by have := h.2.2.2.1; show p.sum < 10000000000; omega)
    have hp : ∀ l : List PlD, (∀ q ∈ l, (0 ≤ q.1 ∧ q.1 ≤ 3) ∧ 0 ≤ q.2 ∧ q.2 ≤ 11) → (placesTx l).length ≤ 5 * l.length := by
      intro l
      induction l with
      | nil => intro _; simp [placesTx]
      | cons q r ih =>
        intro hq
        have hq0 := hq q (by simp)
        have ih := ih (fun x hx => hq x (List.mem_cons_of_mem _ hx))
        have a1 := dz_le 0 (n := q.1) (by show q.1 < 10; omega)
        have a2 := dz_le 1 (n := q.2) (by show q.2 < 100; omega)
        unfold placesTx at ih ⊢
        rw [List.flatMap_cons, List.length_append, List.length_cons]
        have : (placeTx q).length ≤ 5 := by unfold placeTx; simp only [List.length_append, List.length_singleton]; omega
        omega
    have h3 := hp p.places (fun q hq => by
      obtain ⟨j, hj, e⟩ := List.getElem_of_mem hq
      have := (h.2.2.2.2.2 j hj).1
      rw [List.getD, List.getElem?_eq_getElem hj] at this
      simp only [Option.getD_some, e] at this
      omega)
    have h4 : p.places.length ≤ 4 := by omega
    unfold ptrTx
    rw [if_neg (by omega)]
    simp only [List.length_append, List.length_cons, List.length_nil]
    omega
theorem flat_len {α : Type} {f : α → List UInt8} {m : Nat} : ∀ l : List α, (∀ x ∈ l, (f x).length ≤ m) → (l.flatMap f).length ≤ m * l.length
  | [], _ => by simp
  | x :: r, h => by
    have := flat_len r (fun y hy => h y (List.mem_cons_of_mem _ hy))
    have := h x (by simp)
    rw [List.flatMap_cons, List.length_append, List.length_cons, Nat.mul_succ]
    omega
theorem vol_short {n : Int} (hn : Pool n) {v : VolD} (h : VolOne n v) : (volTx v).length ≤ 119 := by
  have h1 := flat_len (f := ptrTx) (m := 37) v.blocks (fun p hp => ptr_short hn (h.2.2 p hp))
  have h2 := h.1.1.2
  have h3 : v.name.data.toList.length = v.name.size := bytes_len _
  have h4 := h.2.1
  unfold volTx volHd blocksTx
  rw [List.take_length]
  simp only [List.length_append, List.length_cons, List.length_nil]
  omega
/-- THE TEXT OF AN OK ROOT is not too long. -/
theorem full_short {n : Int} {r : RootD} (h : RootOkP n r) : (fullT r).size ≤ 700 := by
  have h1 := flat_len (f := volTx) (m := 119) r.vols (fun v hv => vol_short h.1 (vol_one h v hv))
  have h2 : r.vols.length ≤ 4 := h.small.2.1
  have h3 := dz_le 5 (n := r.txg) (by have := h.small.1.2; show r.txg < 1000000; omega)
  have h4 := dz_length (sumT r) (sumT_bd r h.small).2
  have h5 : (fullT r).data.toList.length = (fullT r).size := bytes_len _
  rw [full_text] at h5
  unfold sumLine at h5
  simp only [List.length_append, List.length_cons, List.length_nil] at h5
  omega

end Go.Proofs.YtliadobopideaaaGreatDoor
