/- The specification's reader of roots: volumes read by now, of one's own, the last one's pointers in the newest row. Conditions: none. -/
import Derived.Test.YtliadobopideaaaGreatDoorPKRF
namespace Go.Proofs.YtliadobopideaaaGreatDoor
open Go.RowKit Go.Sort

/-- The block r holds nothing of type T. -/
def NotT (w : World) (r : Option Nat) (T : TypeId) : Prop := ∀ p, r = some p → ∀ cs t fr, w.heap[p]? = some (.cells cs t fr) → t ≠ T
theorem own_keptT {w w' : World} {base K n : Nat} {e : TypeId} {v : Value} {xs : List Value} {r : Option Nat} (h : w.ownsRow base e K v n xs) (G : w.grownBy w' r) (hr : NotT w r e) : w'.ownsRow base e K v n xs := by
  refine h.kept G ?_
  rcases h.2 with ⟨rfl, _⟩ | ⟨g, cap, cur, rfl, hb, hg, _⟩
  · exact .inl rfl
  · exact .inr (fun e => hr g e.symm _ _ _ hg rfl)
theorem NotT.none (w : World) (T : TypeId) : NotT w none T := fun _ e => by cases e
theorem NotT.row {w : World} {base K n : Nat} {e T : TypeId} {v : Value} {xs : List Value} (h : w.ownsRow base e K v n xs) (hne : e ≠ T) : NotT w v.ownBlock T := by
  intro p hp cs t fr hg
  rcases h.2 with ⟨rfl, _⟩ | ⟨g, cap, cur, rfl, hb, hgg, _⟩
  · cases hp
  · simp only [Value.ownBlock, Option.some.injEq] at hp
    subst hp
    rw [hgg] at hg
    cases hg
    exact hne
theorem NotT.box {w : World} {D : Nat} {cs : Array Value} {t T : TypeId} (h : Blk w D cs t) (hne : t ≠ T) : NotT w (some D) T := by
  intro p hp cs' t' fr hg
  cases hp
  unfold Blk at h
  rw [h] at hg
  cases hg
  exact hne
theorem grown_set (w : World) (B o : Nat) (v : Value) : w.grownBy (w.setCell ⟨B, o, none⟩ v) (some B) :=
  ⟨rfl, rfl, rfl, by rw [World.size_setCell]; exact Nat.le_refl _, fun k _ hne => Below.heap_setCell _ _ _ _ (fun e => hne (by rw [e]))⟩
theorem OwnPl.keptT {w w' : World} {base : Nat} {v : Value} {ps : List PlD} {r : Option Nat} (h : OwnPl w base v ps) (G : w.grownBy w' r) (hr : NotT w r 83) : OwnPl w' base v ps := own_keptT h G hr
theorem OwnPtD.keptP {w w' : World} {base : Nat} {v : Value} {ps : List PtrD} {r : Option Nat} (h : OwnPtD w base v ps) (G : w.grownBy w' r) (hne : v.ownBlock = none ∨ v.ownBlock ≠ r) (hr : NotT w r 83) : OwnPtD w' base v ps := by
  obtain ⟨xs, h1, h2⟩ := h
  exact ⟨xs, h1.kept G hne, h2.1, fun j hj => by obtain ⟨a, b, u, c, d⟩ := h2.2 j hj; exact ⟨a, b, u, c, d.keptT G hr⟩⟩
theorem OwnPtD.keptT {w w' : World} {base : Nat} {v : Value} {ps : List PtrD} {r : Option Nat} (h : OwnPtD w base v ps) (G : w.grownBy w' r) (hp : NotT w r 54) (hr : NotT w r 83) : OwnPtD w' base v ps := by
  obtain ⟨xs, h1, h2⟩ := h
  exact ⟨xs, own_keptT h1 G hp, h2.1, fun j hj => by obtain ⟨a, b, u, c, d⟩ := h2.2 j hj; exact ⟨a, b, u, c, d.keptT G hr⟩⟩
theorem OwnPtD.low {w : World} {base : Nat} {v : Value} {ps : List PtrD} (h : OwnPtD w base v ps) {b : Nat} (hb : v.ownBlock = some b) : base ≤ b ∧ b < w.heap.size := by
  obtain ⟨xs, h1, _⟩ := h
  exact h1.lt b hb

/-- VOLUMES READ BY NOW: the last one's pointers lie in a row behind b2, those of all others ahead of it. -/
structure VoX (w : World) (base : Nat) (v : Value) (vs : List VolD) (xs : List Value) (b2 : Nat) : Prop where
  row : w.ownsRow base 51 2 v vs.length xs
  each : VoRowD w base vs vs.length xs
  low : base ≤ b2
  high : b2 ≤ w.heap.size
  old : ∀ j, j + 1 < vs.length → ∀ u, xs[j * 2 + 1]? = some u → ∀ b, u.ownBlock = some b → b < b2
  last : ∀ j, j + 1 = vs.length → ∀ u, xs[j * 2 + 1]? = some u → OwnPtD w b2 u (vs.getD j vol0).blocks
theorem VoRowD.keptT {w w' : World} {base : Nat} {vs : List VolD} {k : Nat} {xs : List Value} {r : Option Nat} (h : VoRowD w base vs k xs) (G : w.grownBy w' r) (hp : NotT w r 54) (hr : NotT w r 83) : VoRowD w' base vs k xs :=
  ⟨h.1, fun j hj => by obtain ⟨a, u, b, c⟩ := h.2 j hj; exact ⟨a, u, b, c.keptT G hp hr⟩⟩
theorem VoX.keptT {w w' : World} {base b2 : Nat} {v : Value} {vs : List VolD} {xs : List Value} {r : Option Nat} (h : VoX w base v vs xs b2) (G : w.grownBy w' r) (hv : NotT w r 51) (hp : NotT w r 54) (hr : NotT w r 83) : VoX w' base v vs xs b2 :=
  ⟨own_keptT h.row G hv, h.each.keptT G hp hr, h.low, Nat.le_trans h.high G.size, h.old, fun j hj u hu => (h.last j hj u hu).keptT G hp hr⟩
theorem VoX.below {w w' : World} {base b2 : Nat} {v : Value} {vs : List VolD} {xs : List Value} (h : VoX w base v vs xs b2) (B : Below w.heap.size w w') : VoX w' base v vs xs b2 :=
  h.keptT (r := none) ⟨B.os, B.tape, B.output, B.size, fun k hk _ => B.block k hk⟩ (.none _ _) (.none _ _) (.none _ _)
theorem VoX.begin {w : World} {base g : Nat} (hg : Blk w g #[] 51) (hb : base ≤ g) (hs : base ≤ w.heap.size) : VoX w base (.slice (some ⟨g, 0, none⟩) 0 0) [] [] base :=
  ⟨⟨rfl, .inr ⟨g, 0, #[], rfl, hb, hg, Nat.le_refl _, by simp [maxLen], rfl, rfl⟩⟩, ⟨rfl, fun j hj => absurd hj (Nat.not_lt_zero _)⟩, Nat.le_refl _, hs, fun j hj => by simp at hj, fun j hj => by simp at hj⟩
theorem VoX.own {w : World} {base b2 : Nat} {v : Value} {vs : List VolD} {xs : List Value} (h : VoX w base v vs xs b2) : OwnVoD w base v vs := ⟨xs, h.row, h.each⟩
theorem at_end {α : Type} (xs ys : List α) (k : Nat) {n : Nat} (hn : xs.length = n) : (xs ++ ys)[n + k]? = ys[k]? := by
  rw [List.getElem?_append_right (by omega)]; congr 1; omega
theorem getD_left {α : Type} {xs ys : List α} {j : Nat} {d : α} (h : j < xs.length) : (xs ++ ys).getD j d = xs.getD j d := by
  rw [List.getD, List.getElem?_append_left h, ← List.getD]
theorem getD_end {α : Type} (xs : List α) (y d : α) : (xs ++ [y]).getD xs.length d = y := by
  rw [List.getD, List.getElem?_append_right (Nat.le_refl _)]; simp
/-- A VOLUME MORE. -/
theorem VoX.vol {W w9 : World} {base b2 D g4 cap4 : Nat} {t : Int} {v : Value} {vs : List VolD} {nm : ByteArray} {xs : List Value} (h : VoX W base v vs xs b2) (KD : Blk W D #[.int .i64 t, v] 25)
    (ho : w9.ownsRow base 51 2 (.slice (some ⟨g4, 0, none⟩) (vs.length + 1) cap4) (vs.length + 1) (xs ++ [.string nm, .slice (some ⟨W.heap.size, 0, none⟩) 0 0]))
    (hg : ((W.alloc (.cells #[] 54)).alloc (.cells #[.string nm, .slice (some ⟨W.heap.size, 0, none⟩) 0 0] 51)).grownBy w9 v.ownBlock) :
    Blk (w9.setCell ⟨D, 1, none⟩ (.slice (some ⟨g4, 0, none⟩) (vs.length + 1) cap4)) D #[.int .i64 t, .slice (some ⟨g4, 0, none⟩) (vs.length + 1) cap4] 25 ∧
      VoX (w9.setCell ⟨D, 1, none⟩ (.slice (some ⟨g4, 0, none⟩) (vs.length + 1) cap4)) base (.slice (some ⟨g4, 0, none⟩) (vs.length + 1) cap4) (vs ++ [⟨nm, []⟩]) (xs ++ [.string nm, .slice (some ⟨W.heap.size, 0, none⟩) 0 0]) W.heap.size := by
  have B1 : Below W.heap.size W ((W.alloc (.cells #[] 54)).alloc (.cells #[.string nm, .slice (some ⟨W.heap.size, 0, none⟩) 0 0] 51)) :=
    ((Below.refl _ _).alloc (Nat.le_refl _) _).alloc (by simp) _
  have KE : Blk ((W.alloc (.cells #[] 54)).alloc (.cells #[.string nm, .slice (some ⟨W.heap.size, 0, none⟩) 0 0] 51)) W.heap.size #[] 54 :=
    (Blk.new W #[] 54).below ((Below.refl _ _).alloc (Nat.le_refl _) _) (by simp)
  have X1 := h.below B1
  have K1 := KD.below B1 KD.lt
  generalize ((W.alloc (.cells #[] 54)).alloc (.cells #[.string nm, .slice (some ⟨W.heap.size, 0, none⟩) 0 0] 51)) = W1 at *
  have nP : NotT W1 v.ownBlock 54 := .row X1.row (by decide)
  have nL : NotT W1 v.ownBlock 83 := .row X1.row (by decide)
  have e9 : VoRowD w9 base vs vs.length xs := X1.each.keptT hg nP nL
  have K9 : Blk w9 D #[.int .i64 t, v] 25 := grown_blk K1 hg (own_kind X1.row K1 (by decide))
  have hEne : some W.heap.size ≠ v.ownBlock := own_kind X1.row KE (by decide)
  have E9 : Blk w9 W.heap.size #[] 54 := grown_blk KE hg hEne
  have hDE : D ≠ W.heap.size := by have := KD.lt; omega
  have G := grown_set w9 D 1 (.slice (some ⟨g4, 0, none⟩) (vs.length + 1) cap4)
  have sV : NotT w9 (some D) 51 := .box K9 (by decide)
  have sP : NotT w9 (some D) 54 := .box K9 (by decide)
  have sL : NotT w9 (some D) 83 := .box K9 (by decide)
  have hl : xs.length = vs.length * 2 := h.each.1
  have hO : OwnPtD (w9.setCell ⟨D, 1, none⟩ (.slice (some ⟨g4, 0, none⟩) (vs.length + 1) cap4)) W.heap.size (.slice (some ⟨W.heap.size, 0, none⟩) 0 0) [] :=
    ⟨[], ⟨rfl, .inr ⟨W.heap.size, 0, #[], rfl, Nat.le_refl _, E9.other D 1 _ hDE, Nat.le_refl _, by simp [maxLen], rfl, rfl⟩⟩, rfl, fun j hj => absurd hj (Nat.not_lt_zero _)⟩
  refine ⟨K9.set 1 _, ⟨?_, ⟨by simp [hl]; omega, fun j hj => ?_⟩, Nat.le_trans h.low h.high, Nat.le_trans B1.size (Nat.le_trans hg.size G.size), fun j hj u hu b hb => ?_, fun j hj u hu => ?_⟩⟩
  · rw [List.length_append, List.length_singleton]; exact own_keptT ho G sV
  · rw [List.length_append, List.length_singleton] at hj
    by_cases e : j < vs.length
    · obtain ⟨a, u, b, c⟩ := e9.2 j e
      rw [getD_left e, List.getElem?_append_left (by omega), List.getElem?_append_left (by omega)]
      exact ⟨a, u, b, c.keptT G sP sL⟩
    · obtain rfl : j = vs.length := by omega
      rw [getD_end, show vs.length * 2 = vs.length * 2 + 0 by omega, at_end _ _ _ hl, show vs.length * 2 + 0 + 1 = vs.length * 2 + 1 by omega, at_end _ _ _ hl]
      exact ⟨rfl, _, rfl, hO.mono (Nat.le_trans h.low h.high)⟩
  · rw [List.length_append, List.length_singleton] at hj
    rw [List.getElem?_append_left (by omega)] at hu
    obtain ⟨_, u', b', c⟩ := h.each.2 j (by omega)
    rw [b'] at hu
    cases hu
    exact (c.low hb).2
  · rw [List.length_append, List.length_singleton] at hj
    obtain rfl : j = vs.length := by omega
    rw [show vs.length * 2 + 1 = vs.length * 2 + 1 from rfl, at_end _ _ _ hl] at hu
    cases hu
    rw [getD_end]
    exact hO
/-- A BLOCK MORE, of the last volume. -/
theorem VoX.block {W w9 : World} {base b2 D gv n cap g4 cap4 : Nat} {t z s : Int} {vs : List VolD} {xs ys : List Value} {u pv : Value} {ps : List PlD} (h : VoX W base (.slice (some ⟨gv, 0, none⟩) (n + 1) cap) vs xs b2) (hn : vs.length = n + 1)
    (KD : Blk W D #[.int .i64 t, .slice (some ⟨gv, 0, none⟩) (n + 1) cap] 25) (hu : xs[n * 2 + 1]? = some u) (hy : W.ownsRow b2 54 3 u (vs.getD n vol0).blocks.length ys) (hyr : PtRowD W b2 (vs.getD n vol0).blocks (vs.getD n vol0).blocks.length ys)
    (hpv : OwnPl W b2 pv ps)
    (ho : w9.ownsRow b2 54 3 (.slice (some ⟨g4, 0, none⟩) ((vs.getD n vol0).blocks.length + 1) cap4) ((vs.getD n vol0).blocks.length + 1) (ys ++ [.int .i64 z, .int .i64 s, pv]))
    (hg : (W.alloc (.cells #[.int .i64 z, .int .i64 s, pv] 54)).grownBy w9 u.ownBlock) :
    Blk (w9.setCell ⟨gv, n * 2 + 1, none⟩ (.slice (some ⟨g4, 0, none⟩) ((vs.getD n vol0).blocks.length + 1) cap4)) D #[.int .i64 t, .slice (some ⟨gv, 0, none⟩) (n + 1) cap] 25 ∧
      VoX (w9.setCell ⟨gv, n * 2 + 1, none⟩ (.slice (some ⟨g4, 0, none⟩) ((vs.getD n vol0).blocks.length + 1) cap4)) base (.slice (some ⟨gv, 0, none⟩) (n + 1) cap) (addBlock vs ⟨z, s, ps⟩) (xs.set (n * 2 + 1) (.slice (some ⟨g4, 0, none⟩) ((vs.getD n vol0).blocks.length + 1) cap4)) b2 := by
  have B1 : Below W.heap.size W (W.alloc (.cells #[.int .i64 z, .int .i64 s, pv] 54)) := (Below.refl _ _).alloc (Nat.le_refl _) _
  have X1 := h.below B1
  have K1 := KD.below B1 KD.lt
  have P1 := hpv.below B1
  have Y1 := own_below hy B1
  have YR1 := hyr.below B1
  generalize (W.alloc (.cells #[.int .i64 z, .int .i64 s, pv] 54)) = W1 at *
  have nV : NotT W1 u.ownBlock 51 := .row Y1 (by decide)
  have nL : NotT W1 u.ownBlock 83 := .row Y1 (by decide)
  have K9 : Blk w9 D #[.int .i64 t, .slice (some ⟨gv, 0, none⟩) (n + 1) cap] 25 := grown_blk K1 hg (own_kind Y1 K1 (by decide))
  have R9 := own_keptT X1.row hg nV
  rw [hn] at R9
  have hl : xs.length = vs.length * 2 := h.each.1
  have sP : NotT w9 (some gv) 54 := (NotT.row (T := 54) R9 (by decide))
  have sL : NotT w9 (some gv) 83 := (NotT.row (T := 83) R9 (by decide))
  have hDg : gv ≠ D := fun e => own_kind R9 K9 (by decide) (by rw [e]; rfl)
  have G := grown_set w9 gv (n * 2 + 1) (.slice (some ⟨g4, 0, none⟩) ((vs.getD n vol0).blocks.length + 1) cap4)
  have hal : (addBlock vs ⟨z, s, ps⟩).length = vs.length := by unfold addBlock; rw [List.length_set]
  have hat : ∀ j, j < n → (addBlock vs ⟨z, s, ps⟩).getD j vol0 = vs.getD j vol0 := fun j hj => by
    unfold addBlock
    rw [List.getD, List.getElem?_set_ne (by omega), ← List.getD]
  have hend : (addBlock vs ⟨z, s, ps⟩).getD n vol0 = ⟨(vs.getD n vol0).name, (vs.getD n vol0).blocks ++ [⟨z, s, ps⟩]⟩ := by
    unfold addBlock
    rw [show vs.length - 1 = n by omega, List.getD, List.getElem?_set_self (by omega)]; rfl
  have hO : OwnPtD (w9.setCell ⟨gv, n * 2 + 1, none⟩ (.slice (some ⟨g4, 0, none⟩) ((vs.getD n vol0).blocks.length + 1) cap4)) b2 (.slice (some ⟨g4, 0, none⟩) ((vs.getD n vol0).blocks.length + 1) cap4) ((vs.getD n vol0).blocks ++ [⟨z, s, ps⟩]) := by
    have hly := hyr.1
    refine ⟨ys ++ [.int .i64 z, .int .i64 s, pv], by rw [List.length_append, List.length_singleton]; exact own_keptT ho G sP, by simp [hly]; omega, fun j hj => ?_⟩
    rw [List.length_append, List.length_singleton] at hj
    by_cases e : j < (vs.getD n vol0).blocks.length
    · obtain ⟨a, b, u', c, d⟩ := YR1.2 j e
      rw [getD_left e, List.getElem?_append_left (by omega), List.getElem?_append_left (by omega), List.getElem?_append_left (by omega)]
      exact ⟨a, b, u', c, (d.keptT hg nL).keptT G sL⟩
    · obtain rfl : j = (vs.getD n vol0).blocks.length := by omega
      rw [getD_end]
      generalize (vs.getD n vol0).blocks.length = m at *
      refine ⟨?_, ?_, pv, ?_, (P1.keptT hg nL).keptT G sL⟩
      · rw [show m * 3 = m * 3 + 0 by omega, at_end _ _ _ hly]; rfl
      · rw [at_end _ _ _ hly]; rfl
      · rw [at_end _ _ _ hly]; rfl
  have hlow : ∀ j, j < n → ∀ u', xs[j * 2 + 1]? = some u' → u'.ownBlock = none ∨ u'.ownBlock ≠ u.ownBlock := fun j hj u' hu' => by
    cases hb : u'.ownBlock with
    | none => exact .inl rfl
    | some b =>
      refine .inr (fun e => ?_)
      have h1 := h.old j (by omega) u' hu' b hb
      have h2 := (hy.lt b e.symm).1
      omega
  refine ⟨K9.other gv _ _ hDg, ⟨?_, ⟨by rw [List.length_set, hal]; exact hl, fun j hj => ?_⟩, h.low, Nat.le_trans h.high (Nat.le_trans B1.size (Nat.le_trans hg.size G.size)), fun j hj u' hu' => ?_, fun j hj u' hu' => ?_⟩⟩
  · rw [hal, hn]
    exact own_set R9 _ _
  · rw [hal, hn] at hj
    by_cases e : j < n
    · obtain ⟨a, u', b, c⟩ := X1.each.2 j (by omega)
      rw [hat j e, List.getElem?_set_ne (by omega), List.getElem?_set_ne (by omega)]
      exact ⟨a, u', b, (c.keptP hg (hlow j e u' b) nL).keptT G sP sL⟩
    · obtain rfl : j = n := by omega
      obtain ⟨a, _⟩ := X1.each.2 j (by omega)
      rw [hend, List.getElem?_set_ne (by omega), List.getElem?_set_self (by omega)]
      exact ⟨a, _, rfl, hO.mono h.low⟩
  · rw [hal, hn] at hj
    rw [List.getElem?_set_ne (by omega)] at hu'
    exact h.old j (by omega) u' hu'
  · rw [hal, hn] at hj
    obtain rfl : j = n := by omega
    rw [List.getElem?_set_self (by omega)] at hu'
    cases hu'
    rw [hend]
    exact hO
/-- The names that are read are words, and no more blocks are read than lines. -/
def NamesIn (N m : Nat) (vs : List VolD) : Prop := vs.length ≤ m ∧ ∀ j, j < vs.length → (vs.getD j vol0).name.size ≤ N ∧ (vs.getD j vol0).blocks.length ≤ m
theorem read_names {N : Nat} {L : List (List UInt8)} (hL : ∀ i, (L.getD i []).length ≤ N) : ∀ i, NamesIn N i (readR L i).vols := by
  have hw : ∀ i k, (tx ((cutL 32 (L.getD i [])).getD k [])).size ≤ N := fun i k => by
    have h1 := hL i
    have h2 := word_size (c := 32) (s := tx (L.getD i [])) k
    rw [tx_list, tx_size (L.getD i [])] at h2
    omega
  have step : ∀ (out : RootD) (i m : Nat), NamesIn N m out.vols → NamesIn N (m + 1) (stepR out (L.getD i [])).vols := by
    intro out i m ⟨hm, hn⟩
    unfold stepR
    split
    · simp only
      refine ⟨by rw [List.length_append, List.length_singleton]; omega, fun j hj => ?_⟩
      rw [List.length_append, List.length_singleton] at hj
      by_cases e : j < out.vols.length
      · rw [getD_left e]; exact ⟨(hn j e).1, by have := (hn j e).2; omega⟩
      · obtain rfl : j = out.vols.length := by omega
        rw [getD_end]; exact ⟨hw i 1, by simp⟩
    · split
      · rename_i hv
        unfold addBlock
        simp only
        refine ⟨by rw [List.length_set]; omega, fun j hj => ?_⟩
        rw [List.length_set] at hj
        by_cases e : j = out.vols.length - 1
        · subst e
          rw [List.getD, List.getElem?_set_self (by omega)]
          have h := hn (out.vols.length - 1) (by omega)
          exact ⟨h.1, by show (_ ++ [_]).length ≤ _; rw [List.length_append, List.length_singleton]; omega⟩
        · rw [List.getD, List.getElem?_set_ne (by omega), ← List.getD]; exact ⟨(hn j hj).1, by have := (hn j hj).2; omega⟩
      · exact ⟨by omega, fun j hj => ⟨(hn j hj).1, by have := (hn j hj).2; omega⟩⟩
  intro i
  induction i with
  | zero => exact ⟨Nat.le_refl _, fun j hj => absurd hj (Nat.not_lt_zero _)⟩
  | succ i ih =>
    cases i with
    | zero =>
      show NamesIn N 1 (firstR _).vols
      unfold firstR
      split
      · exact ⟨by simp, fun j hj => absurd hj (Nat.not_lt_zero _)⟩
      · exact step ⟨0, []⟩ 0 0 ⟨Nat.le_refl _, fun j hj => absurd hj (Nat.not_lt_zero _)⟩
    | succ i => exact step _ (i + 1) (i + 1) ih
/-- Words that lie in a block of texts. -/
def WordsT (w : World) (g : Nat) (L : List (List UInt8)) : Prop := ∃ cur, Blk w g cur 9 ∧ ∀ i, i < L.length → cur[i]? = some (.string (tx (L.getD i [])))
theorem WordsT.cell {w : World} {g : Nat} {L : List (List UInt8)} (h : WordsT w g L) (i : Nat) (hi : i < L.length) : w.cell? ⟨g, i, none⟩ = some (.string (tx (L.getD i []))) := by
  obtain ⟨cur, k, hc⟩ := h
  exact (k.cell i).trans (hc i hi)
theorem WordsT.keptT {w w' : World} {g : Nat} {L : List (List UInt8)} {r : Option Nat} (h : WordsT w g L) (G : w.grownBy w' r) (hr : NotT w r 9) : WordsT w' g L := by
  obtain ⟨cur, k, hc⟩ := h
  exact ⟨cur, grown_blk k G (fun e => hr g e.symm _ _ _ k rfl), hc⟩
theorem WordsT.below {w w' : World} {g : Nat} {L : List (List UInt8)} (h : WordsT w g L) (B : Below w.heap.size w w') : WordsT w' g L := by
  obtain ⟨cur, k, hc⟩ := h
  exact ⟨cur, k.below B k.lt, hc⟩
theorem words_ofT {w : World} {base : Nat} {v : Value} {c : UInt8} {s : ByteArray} (h : OwnTx w base v (cutA c s)) :
    ∃ g cap, v = .slice (some ⟨g, 0, none⟩) (cutL c s.data.toList).length cap ∧ (cutL c s.data.toList).length ≤ cap ∧ base ≤ g ∧ WordsT w g (cutL c s.data.toList) := by
  have hp : 0 < (cutL c s.data.toList).length := List.length_pos_iff.2 (cutL_ne c _)
  have hl := cutA_length c s
  rcases h.2 with ⟨_, h0⟩ | ⟨g, cap, cur, hv, hb, hg, hkc, hcm, hcs, hx⟩
  · omega
  · rw [hl] at hv hkc hx
    subst hv
    refine ⟨g, cap, rfl, hkc, hb, cur, hg, fun i hi => ?_⟩
    have e : (cur.toList.take ((cutL c s.data.toList).length * 1))[i]? = (txC (cutA c s))[i]? := by rw [hx]
    rw [List.getElem?_take, if_pos (by omega), Array.getElem?_toList] at e
    rw [e]
    unfold txC
    rw [List.getElem?_map, cutA_get hi]
    rfl
theorem VoX.slice {w : World} {base b2 : Nat} {v : Value} {vs : List VolD} {xs : List Value} (h : VoX w base v vs xs b2) : ∃ a c, v = .slice a vs.length c := by
  rcases h.row.2 with ⟨e, hz⟩ | ⟨g, cap, _, e, _⟩
  · exact ⟨none, 0, by rw [e, hz]⟩
  · exact ⟨_, cap, e⟩
theorem VoX.slice1 {w : World} {base b2 q : Nat} {v : Value} {vs : List VolD} {xs : List Value} (h : VoX w base v vs xs b2) (hm : vs.length = q + 1) : ∃ g c, v = .slice (some ⟨g, 0, none⟩) (q + 1) c := by
  rcases h.row.2 with ⟨e, hz⟩ | ⟨g, cap, _, e, _⟩
  · omega
  · exact ⟨g, cap, by rw [e, hm]⟩
theorem VoX.end_of {w : World} {base b2 q : Nat} {v : Value} {vs : List VolD} {xs : List Value} (h : VoX w base v vs xs b2) (hm : vs.length = q + 1) :
    ∃ nm u, xs[q * 2]? = some (.string nm) ∧ xs[q * 2 + 1]? = some u ∧ OwnPtD w b2 u (vs.getD q vol0).blocks := by
  obtain ⟨h1, u, h2, _⟩ := h.each.2 q (by omega)
  exact ⟨_, u, h1, h2, h.last q (by omega) u h2⟩
theorem VoX.vol' {W w9 : World} {base b2 D g4 cap4 m : Nat} {t : Int} {v : Value} {vs : List VolD} {nm : ByteArray} {xs : List Value} (h : VoX W base v vs xs b2) (hm : vs.length = m) (KD : Blk W D #[.int .i64 t, v] 25)
    (ho : w9.ownsRow base 51 2 (.slice (some ⟨g4, 0, none⟩) (m + 1) cap4) (m + 1) (xs ++ [.string nm, .slice (some ⟨W.heap.size, 0, none⟩) 0 0]))
    (hg : ((W.alloc (.cells #[] 54)).alloc (.cells #[.string nm, .slice (some ⟨W.heap.size, 0, none⟩) 0 0] 51)).grownBy w9 v.ownBlock) :
    Blk (w9.setCell ⟨D, 1, none⟩ (.slice (some ⟨g4, 0, none⟩) (m + 1) cap4)) D #[.int .i64 t, .slice (some ⟨g4, 0, none⟩) (m + 1) cap4] 25 ∧
      VoX (w9.setCell ⟨D, 1, none⟩ (.slice (some ⟨g4, 0, none⟩) (m + 1) cap4)) base (.slice (some ⟨g4, 0, none⟩) (m + 1) cap4) (vs ++ [⟨nm, []⟩]) (xs ++ [.string nm, .slice (some ⟨W.heap.size, 0, none⟩) 0 0]) W.heap.size := by
  subst hm
  exact h.vol KD ho hg

end Go.Proofs.YtliadobopideaaaGreatDoor
