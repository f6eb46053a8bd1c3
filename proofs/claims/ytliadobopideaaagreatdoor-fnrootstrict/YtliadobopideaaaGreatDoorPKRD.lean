/- The specification's reader of roots: words of a line, and the places read of them, as data. Conditions: none. A statement that draws the order of its operations, none of which writes into old memory: what is read is read first. Conditions: each theorem names its own. -/
import Derived.Test.YtliadobopideaaaGreatDoorPKRC
import Derived.Test.YtliadobopideaaaGreatDoorPKRB
namespace Go.Proofs.YtliadobopideaaaGreatDoor
open Go.RowKit Go.Sort

theorem cutA_length (c : UInt8) (s : ByteArray) : (cutA c s).length = (cutL c s.data.toList).length := by unfold cutA; rw [List.length_map]
theorem cutA_get {c : UInt8} {s : ByteArray} {i : Nat} (h : i < (cutL c s.data.toList).length) : (cutA c s)[i]? = some (tx ((cutL c s.data.toList).getD i [])) := by
  unfold cutA
  rw [List.getElem?_map, List.getElem?_eq_getElem h]
  simp [List.getD_eq_getElem?_getD, List.getElem?_eq_getElem h]
/-- THE WORDS OF A LINE, as they lie. -/
def Words (w : World) (g : Nat) (L : List (List UInt8)) : Prop := ∀ i, i < L.length → w.cell? ⟨g, i, none⟩ = some (.string (tx (L.getD i [])))
theorem Words.below {w w' : World} {g n : Nat} {L : List (List UInt8)} (h : Words w g L) (hn : n = w.heap.size) (B : Below n w w') : Words w' g L := fun i hi => by
  subst hn
  exact cell_below B (h i hi)
/-- What l2Cut answers: words that lie in a block. -/
theorem words_of {w : World} {base : Nat} {v : Value} {c : UInt8} {s : ByteArray} (h : OwnTx w base v (cutA c s)) :
    ∃ g cap, v = .slice (some ⟨g, 0, none⟩) (cutL c s.data.toList).length cap ∧ (cutL c s.data.toList).length ≤ cap ∧ base ≤ g ∧ Words w g (cutL c s.data.toList) := by
  have hp : 0 < (cutL c s.data.toList).length := List.length_pos_iff.2 (cutL_ne c _)
  have hl := cutA_length c s
  rcases h.2 with ⟨_, h0⟩ | ⟨g, cap, cur, hv, hb, hg, hkc, hcm, hcs, hx⟩
  · omega
  · rw [hl] at hv hkc
    subst hv
    refine ⟨g, cap, rfl, hkc, hb, fun i hi => ?_⟩
    have h2 : w.ownsRow base 9 1 (.slice (some ⟨g, 0, none⟩) (cutL c s.data.toList).length cap) (cutL c s.data.toList).length (txC (cutA c s)) := by
      unfold OwnTx at h; rw [hl] at h; exact h
    have h3 := (own_cell h2 i (by omega)).1
    rw [h3]
    unfold txC
    rw [List.getElem?_map, cutA_get hi]
    rfl
theorem cutL_len (c : UInt8) (s : ByteArray) : (cutL c s.data.toList).length ≤ s.size + 1 := by
  have := cutL_length c s.data.toList
  rw [bytes_len] at this
  exact this
theorem word_size {c : UInt8} {s : ByteArray} (i : Nat) : (tx ((cutL c s.data.toList).getD i [])).size ≤ s.size := by
  rw [tx_size]
  by_cases h : i < (cutL c s.data.toList).length
  · rw [List.getD_eq_getElem?_getD, List.getElem?_eq_getElem h]
    have := cutL_size c s.data.toList _ (List.getElem_mem h)
    rw [bytes_len] at this
    exact this
  · rw [List.getD_eq_getElem?_getD, List.getElem?_eq_none (by omega)]
    exact Nat.zero_le _
/-- The places read by now. -/
def readP (L : List (List UInt8)) (i : Nat) : List PlD := ((L.take i).drop 3).map placeL
theorem readP_three (L : List (List UInt8)) : readP L 3 = [] := by
  unfold readP
  rw [List.drop_eq_nil_of_le (by rw [List.length_take]; omega)]; rfl
theorem readP_next {L : List (List UInt8)} {i : Nat} (h3 : 3 ≤ i) (h : i < L.length) : readP L (i + 1) = readP L i ++ [placeL (L.getD i [])] := by
  unfold readP
  have e : L.take (i + 1) = L.take i ++ [L.getD i []] := by
    rw [List.take_add_one, List.getD_eq_getElem?_getD, List.getElem?_eq_getElem h]; rfl
  rw [e, List.drop_append_of_le_length (by rw [List.length_take]; omega), List.map_append]
  rfl
theorem readP_all (L : List (List UInt8)) : readP L L.length = (L.drop 3).map placeL := by unfold readP; rw [List.take_length]
theorem readP_length {L : List (List UInt8)} {i : Nat} (h3 : 3 ≤ i) (h : i ≤ L.length) : (readP L i).length = i - 3 := by
  unfold readP
  rw [List.length_map, List.length_drop, List.length_take]; omega
theorem ptrL_no {l : List UInt8} (h : (cutL 32 l).getD 0 [] ≠ [112, 116, 114] ∨ (cutL 32 l).length < 3) : ptrL l = ⟨0, 0, []⟩ := by
  unfold ptrL
  rw [if_pos]
  rcases h with h | h
  · refine .inl ?_
    cases hc : cutL 32 l with
    | nil => exact absurd hc (cutL_ne 32 l)
    | cons a r => rw [hc] at h; exact h
  · exact .inr h
theorem ptrL_yes {l : List UInt8} (h0 : (cutL 32 l).getD 0 [] = [112, 116, 114]) (h3 : 3 ≤ (cutL 32 l).length) : ptrL l = ⟨numL ((cutL 32 l).getD 1 []), numL ((cutL 32 l).getD 2 []), readP (cutL 32 l) (cutL 32 l).length⟩ := by
  unfold ptrL
  rw [if_neg, readP_all]
  rintro (h | h)
  · cases hc : cutL 32 l with
    | nil => exact absurd hc (cutL_ne 32 l)
    | cons a r => rw [hc] at h h0; exact h h0
  · omega
/-- A place of a word. -/
theorem placeL_two {x : List UInt8} (h : (cutL 46 x).length = 2) : placeL x = (numL ((cutL 46 x).getD 0 []), numL ((cutL 46 x).getD 1 [])) := by
  unfold placeL
  rw [if_pos h]
  cases hc : cutL 46 x with
  | nil => exact absurd hc (cutL_ne 46 x)
  | cons a r => rfl
theorem placeL_else {x : List UInt8} (h : (cutL 46 x).length ≠ 2) : placeL x = (numL ((cutL 46 x).getD 0 []), -1) := by
  unfold placeL
  rw [if_neg h]
  cases hc : cutL 46 x with
  | nil => exact absurd hc (cutL_ne 46 x)
  | cons a r => rfl
theorem plCells_end (ps : List PlD) (q : PlD) : plCells (ps ++ [q]) = plCells ps ++ [.int .i64 q.1, .int .i64 q.2] := by
  refine List.ext_getElem? fun i => ?_
  have hl := plCells_length ps
  by_cases hi : i < ps.length * 2
  · rw [plCells_get _ _ (by rw [List.length_append]; omega), List.getElem?_append_left (by omega), plCells_get _ _ hi]
    unfold plCell
    rw [show (ps ++ [q]).getD (i / 2) pl0 = ps.getD (i / 2) pl0 by rw [List.getD_eq_getElem?_getD, List.getElem?_append_left (by omega), ← List.getD_eq_getElem?_getD]]
  · by_cases h0 : i = ps.length * 2
    · subst h0
      rw [plCells_get _ _ (by rw [List.length_append, List.length_singleton]; omega), plCell_0, List.getElem?_append_right (by omega), hl]
      simp [List.getD]
    · by_cases h1 : i = ps.length * 2 + 1
      · subst h1
        rw [plCells_get _ _ (by rw [List.length_append, List.length_singleton]; omega), plCell_1, List.getElem?_append_right (by omega), hl, show ps.length * 2 + 1 - ps.length * 2 = 1 by omega]
        simp [List.getD]
      · rw [List.getElem?_eq_none (by rw [plCells_length]; simp; omega), List.getElem?_eq_none (by simp [hl]; omega)]

end Go.Proofs.YtliadobopideaaaGreatDoor

namespace Go.Proofs.YtliadobopideaaaGreatDoor
open Go.RowKit

section
variable {P : Program} {ops : Array Oper} {Q : Exit → Act → World → Prop} {md : Region.Mode} {S : World → Prop}
/-- WHATEVER ORDER IS DRAWN, and S holds all along. -/
def AnyT (P : Program) (md : Region.Mode) (ops : Array Oper) (Q : Exit → Act → World → Prop) (S : World → Prop) : Nat → Array Bool → Act → World → Prop
  | 0, done, a, w => Region.ready md ops done = [] ∧ Q .normal a w
  | n + 1, done, a, w => (∀ k ∈ Region.ready md ops done, wpOp P ops Q k (fun a' w' => AnyT P md ops Q S n (done.setIfInBounds k true) a' w' ∧ S w') a w) ∧ (Region.ready md ops done = [] → Q .normal a w)
theorem AnyT.any : ∀ (n : Nat) (done : Array Bool) (a : Act) (w : World), AnyT P md ops Q S n done a w → wpAny P md ops Q n done a w := by
  intro n
  induction n with
  | zero => intro done a w h; exact h
  | succ n ih => intro done a w h; exact ⟨h.2, fun k hk => wpOp_mono (fun a' w' h' => ih _ a' w' h'.1) (h.1 k hk)⟩
theorem AnyT.start {id : Nat} {a : Act} {w : World} (hm : P.follows .mixedOrders = true) (h : AnyT P .any ops Q S ops.size (Array.replicate ops.size false) a w.drew) : (Code.region id ops true).wp P Q a w :=
  wp_region_any hm (AnyT.any _ _ _ _ h)
theorem AnyT.before {i : Nat} {oi : Oper} {v : Value} (hi : ops[i]? = some oi) (hsel : ∀ (j : Nat) (o : Oper) cs b, ops[j]? = some o → o.op ≠ .select cs b) (hQ : ∀ c a w, Q (.panic c) (a.put oi.dst v) w → Q (.panic c) a w) :
    ∀ (n : Nat) (done : Array Bool) (a : Act) (w : World), (∀ j oj, ops[j]? = some oj → j ≠ i → done.getD j true = false → (∀ e ∈ oj.after, Region.binds md e = true → e.on ≠ i) → oi.apart ops oj = true) →
      i ∈ Region.ready md ops done → YieldsIf P ops S oi v a → S w → AnyT P md ops Q S n (done.setIfInBounds i true) (a.put oi.dst v) w → AnyT P md ops Q S (n + 1) done a w := by
  intro n
  induction n with
  | zero =>
    intro done a w _ hr hy hS h
    refine ⟨fun j hj => ?_, fun h0 => by rw [h0] at hr; cases hr⟩
    by_cases e : j = i
    · subst e; exact hy.wpOp hi hS ⟨h, hS⟩
    · have hj' := ready_mono hj e
      rw [h.1] at hj'
      cases hj'
  | succ n ih =>
    intro done a w hfr hr hy hS h
    refine ⟨fun j hj => ?_, fun h0 => by rw [h0] at hr; cases hr⟩
    by_cases e : j = i
    · subst e; exact hy.wpOp hi hS ⟨h, hS⟩
    · obtain ⟨hun, oj, hoj, hdeps⟩ := mem_ready.1 hj
      have hiu := getD_both (mem_ready.1 hr).1
      have hne : ∀ d ∈ oj.after, Region.binds md d = true → d.on ≠ i := fun d hd hb heq => by
        have := hdeps d hd hb
        rw [heq, hiu] at this
        cases this
      refine wpOp_mono (fun a' w' h3 => ?_) (wpOp_putIf hoj (hfr j oj hoj e hun hne) (fun cs b => hsel i oi cs b hi) (fun cs b => hsel j oj cs b hoj) hQ hy (h.1 j (ready_mono hj e)))
      obtain ⟨hy', hA, hS'⟩ := h3
      refine ⟨ih _ a' w' (fun k ok hk hki hku hno => hfr k ok hk hki ?_ hno) (ready_mono hr (fun q => e q.symm)) hy' hS' ?_, hS'⟩
      · by_cases ejk : j = k
        · subst ejk; exact hun
        · rwa [getD_set_ne true ejk] at hku
      · rw [Array.setIfInBounds_comm _ _ e]
        exact hA
/-- What is ready and only reads is taken first. -/
theorem AnyT.take (i : Nat) {d : Option Tmp} {oi : Oper} {v : Value} {n : Nat} {done : Array Bool} {a : Act} {w : World} (hi : ops[i]? = some oi) (hd : oi.dst = d) (hs : Region.noSelect ops = true) (hf : Region.free md ops done i = true) (hr : (Region.ready md ops done).contains i = true) 
    (hQ : ∀ c a w, Q (.panic c) (a.put d v) w → Q (.panic c) a w) (hS : S w) (hy : Region.wanted oi (yielded ops a.tmps) = true) (hrun : ∀ w, S w → (execOp a.eval oi).run P w = .ok (.value v) w)
    (h : AnyT P md ops Q S n (done.setIfInBounds i true) (a.put d v) w) : AnyT P md ops Q S (n + 1) done a w := by
  subst hd
  exact AnyT.before hi (Region.noSelect_spec hs) hQ n done a w (Region.free_spec hi hf) (by simpa using hr) (.inl ⟨hy, hrun⟩) hS h
/-- One alone is ready. -/
theorem AnyT.one (i : Nat) {o : Oper} {n : Nat} {done : Array Bool} {a : Act} {w : World} (hr : Region.ready md ops done = [i]) (ho : ops[i]? = some o)
    (h : ∀ K' : Act → World → Prop, (∀ a w, AnyT P md ops Q S n (done.setIfInBounds i true) a w ∧ S w → K' a w) → if Region.wanted o (yielded ops a.tmps) = true then Oper.wp P o a w K' Q else K' (a.put o.dst undef) w) : AnyT P md ops Q S (n + 1) done a w := by
  refine ⟨fun k hk => ?_, fun h0 => by rw [hr] at h0; cases h0⟩
  rw [hr] at hk
  obtain rfl : k = i := by simpa using hk
  exact wpOp_step ho h
theorem AnyT.done {n : Nat} {done : Array Bool} {a : Act} {w : World} (hr : Region.ready md ops done = []) (h : Q .normal a w) : AnyT P md ops Q S n done a w := by
  cases n with
  | zero => exact ⟨hr, h⟩
  | succ n => exact ⟨fun k hk => (by rw [hr] at hk; cases hk), fun _ => h⟩
end

end Go.Proofs.YtliadobopideaaaGreatDoor
