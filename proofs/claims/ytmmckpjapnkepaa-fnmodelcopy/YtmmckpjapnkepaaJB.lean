/- What stands of a model half drawn: its volumes are the call's own, only the reader's own block turns. Conditions: none. -/
import Derived.Test.YtmmckpjapnkepaaJA
namespace Go.Proofs.Ytmmckpjapnkepaa
open Go.RowKit Go.Sort

theorem gset_by (w : World) (B o : Nat) (v : Value) : w.grownBy (w.setCell ⟨B, o, none⟩ v) (some B) :=
  ⟨rfl, rfl, rfl, by rw [World.size_setCell]; exact Nat.le_refl _, fun k _ hne => Below.heap_setCell _ _ _ _ (fun e => hne (by rw [e]))⟩
theorem news_pair (W : World) (a b : Value) (t : TypeId) : ∀ j u, [a, b][j]? = some u → (W.alloc (.cells #[a, b] t)).cell? ((⟨W.heap.size, 0, none⟩ : Addr).add j) = some u :=
  World.news_of_block (cs := #[a, b]) (t := t) (fr := (0, 0)) (heap_alloc_new W _)
theorem own_typed {w : World} {base K : Nat} {e : TypeId} {v : Value} {n : Nat} {xs : List Value} (h : w.ownsRow base e K v n xs) (i : Nat) (hi : v.ownBlock = some i) : ∃ cur, w.heap[i]? = some (.cells cur e (0, 0)) := by
  rcases h.2 with ⟨rfl, _⟩ | ⟨g, cap, cur, rfl, _, hg, _⟩
  · cases hi
  · simp only [Value.ownBlock, Option.some.injEq] at hi
    subst hi
    exact ⟨cur, hg⟩
/-- The reader's own block. -/
theorem Rd.blk {n₀ B p : Nat} {w : World} (h : Rd n₀ B p w) : ∃ cs, Blk w B cs 90 := by
  obtain ⟨_, a, len, cap, _, hb, _⟩ := h
  exact ⟨_, hb⟩
/-- What the reader turns leaves volumes. -/
theorem OwnSh.rd {n₀ B p : Nat} {w w' : World} {base : Nat} {v : Value} {ss : List ShD} (h : OwnSh w base v ss) (hR : Rd n₀ B p w) (hg : w.grownBy w' (some B)) : OwnSh w' base v ss := by
  obtain ⟨cs, hb⟩ := hR.blk
  refine h.gb hg (fun i e => ?_)
  cases e
  rintro ⟨cs', t, fr, hb', ht⟩
  rw [hb] at hb'
  injection hb' with hb'
  injection hb' with _ hb'
  subst hb'
  rcases ht with ht | ht <;> exact absurd ht (by decide)

/-- A VOLUME THAT WAS DRAWN. -/
def ShS (s : ShD) : Prop := s.name.size ≤ 10 ∧ s.blocks.length = 3 ∧ AllTx Short9 s.blocks
/-- A MODEL HALF DRAWN, in block D; its answer's box in block base. -/
structure MdI (n₀ B q base D : Nat) (v : Value) (ss : List ShD) (w0 w : World) : Prop where
  rd : Rd n₀ B q w
  box : Blk w D #[v] 25
  res : Blk w base #[.slice none 0 0] 25
  own : OwnSh w base v ss
  gb : w0.grownBy w (some B)
  fine : AllSh ShS ss
/-- A VOLUME HALF DRAWN, in block S. -/
structure MdM (n₀ B q lo S : Nat) (nm : ByteArray) (v : Value) (xs : List ByteArray) (wr w : World) : Prop where
  rd : Rd n₀ B q w
  box : Blk w S #[.string nm, v] 35
  own : OwnTx w lo v xs
  gb : wr.grownBy w (some B)
  fine : AllTx Short9 xs
theorem MdI.grow {n₀ B q q' base D : Nat} {v : Value} {ss : List ShD} {w0 w w' : World} (h : MdI n₀ B q base D v ss w0 w) (hB : B < base) (hD : base < D) (hg : w.grownBy w' (some B)) (hR : Rd n₀ B q' w') : MdI n₀ B q' base D v ss w0 w' :=
  ⟨hR, h.box.gb hg (fun e => by injection e with e; omega), h.res.gb hg (fun e => by injection e with e; omega), h.own.rd h.rd hg, h.gb.trans hg, h.fine⟩
theorem MdM.grow {n₀ B q q' lo S : Nat} {nm : ByteArray} {v : Value} {xs : List ByteArray} {wr w w' : World} (h : MdM n₀ B q lo S nm v xs wr w) (hB : B < lo) (hS : B < S) (hg : w.grownBy w' (some B)) (hR : Rd n₀ B q' w') : MdM n₀ B q' lo S nm v xs wr w' :=
  ⟨hR, h.box.gb hg (fun e => by injection e with e; omega), own_gb h.own hg (fun i e k => by cases e; have := (h.own.lt _ k).1; omega), h.gb.trans hg, h.fine⟩
theorem allTx_snoc {P : ByteArray → Prop} {xs : List ByteArray} {t : ByteArray} (h : AllTx P xs) (ht : P t) : AllTx P (xs ++ [t]) := by
  intro j hj
  rw [List.length_append, List.length_singleton] at hj
  by_cases e : j < xs.length
  · rw [getD_snoc_lt _ _ _ _ e]; exact h j e
  · obtain rfl : j = xs.length := by omega
    rw [getD_snoc_eq]; exact ht
/-- A TEXT MORE in a volume half drawn. -/
theorem MdM.more {n₀ B q q' lo S : Nat} {nm t : ByteArray} {v : Value} {xs : List ByteArray} {wr w w3 : World} (h : MdM n₀ B q lo S nm v xs wr w) (hB : B < lo) (hS : B < S) (hSl : wr.heap.size ≤ S) (hlo : wr.heap.size ≤ lo) (hg : w.grownBy w3 (some B)) (hR : Rd n₀ B q' w3) (ht : t.size ≤ 9) :
    (w3.alloc (.cells #[.string t] 9)).ownsRow lo 9 1 v xs.length (txC xs) ∧
    ∀ g4 cap4 w4, w4.ownsRow lo 9 1 (.slice (some ⟨g4, 0, none⟩) (xs.length + 1) cap4) (xs.length + 1) (txC xs ++ [.string t]) → (w3.alloc (.cells #[.string t] 9)).grownBy w4 v.ownBlock →
      Blk w4 S #[.string nm, v] 35 ∧ MdM n₀ B q' lo S nm (.slice (some ⟨g4, 0, none⟩) (xs.length + 1) cap4) (xs ++ [t]) wr (w4.setCell ⟨S, 1, none⟩ (.slice (some ⟨g4, 0, none⟩) (xs.length + 1) cap4)) := by
  have h3 := h.grow hB hS hg hR
  have ha : w3.grownBy (w3.alloc (.cells #[.string t] 9)) (some B) := World.grownBy_alloc _ _ _
  have h4 := h3.grow hB hS ha (hR.alloc _)
  have hown : (w3.alloc (.cells #[.string t] 9)).ownsRow lo 9 1 v xs.length (txC xs) := h4.own
  refine ⟨hown, fun g4 cap4 w4 ho4 hg4 => ?_⟩
  have hb4 : Blk w4 S #[.string nm, v] 35 := h4.box.gb hg4 (own_blk_ne hown h4.box (by decide))
  have ho5 : OwnTx w4 lo (.slice (some ⟨g4, 0, none⟩) (xs ++ [t]).length cap4) (xs ++ [t]) := by
    unfold OwnTx
    rw [List.length_append, List.length_singleton]
    have e : txC (xs ++ [t]) = txC xs ++ [.string t] := by simp [txC]
    rw [e]; exact ho4
  refine ⟨hb4, ⟨?_, ?_, ?_, ?_, allTx_snoc h.fine ht⟩⟩
  · exact ((hR.alloc _).kept hg4 (fun k e => by have := (hown.lt k e).1; omega)).kept (gset_by _ _ _ _) (fun k e => by cases e; exact hS)
  · exact hb4.set 1 _
  · have := own_other ho5 S 1 (.slice (some ⟨g4, 0, none⟩) (xs.length + 1) cap4) (own_blk_ne ho5 hb4 (by decide))
    rw [List.length_append, List.length_singleton] at this
    unfold OwnTx
    rw [List.length_append, List.length_singleton]
    exact this
  · exact (h4.gb.andThen hg4 (fun i e => .inl (by have := (hown.lt i e).1; omega))).andThen (gset_by _ _ _ _) (fun i e => .inl (by cases e; exact hSl))
theorem allSh_snoc {P : ShD → Prop} {ss : List ShD} {s : ShD} (h : AllSh P ss) (hs : P s) : AllSh P (ss ++ [s]) := by
  intro j hj
  rw [List.length_append, List.length_singleton] at hj
  by_cases e : j < ss.length
  · rw [getD_app_lt e]; exact h j e
  · obtain rfl : j = ss.length := by omega
    rw [getD_app_eq]; exact hs
/-- A VOLUME MORE in a model half drawn. -/
theorem MdI.more {n₀ B q q' base D S gx cx : Nat} {v : Value} {ss : List ShD} {w0 wr w : World} {nm : ByteArray} {xs : List ByteArray} (hB : B < base) (hD : base < D) (hbs : base ≤ wr.heap.size) (hw0 : w0.heap.size ≤ base) (h : MdI n₀ B q base D v ss w0 wr)
    (hM : MdM n₀ B q' wr.heap.size S nm (.slice (some ⟨gx, 0, none⟩) xs.length cx) xs wr w) (hn : nm.size ≤ 10) (h3 : xs.length = 3) :
    ∃ ys : List Value, (w.alloc (.cells #[.string nm, .slice (some ⟨gx, 0, none⟩) xs.length cx] 35)).ownsRow base 35 2 v ss.length ys ∧
    ∀ g4 cap4 w4, w4.ownsRow base 35 2 (.slice (some ⟨g4, 0, none⟩) (ss.length + 1) cap4) (ss.length + 1) (ys ++ [.string nm, .slice (some ⟨gx, 0, none⟩) xs.length cx]) → (w.alloc (.cells #[.string nm, .slice (some ⟨gx, 0, none⟩) xs.length cx] 35)).grownBy w4 v.ownBlock →
      Blk w4 D #[v] 25 ∧ MdI n₀ B q' base D (.slice (some ⟨g4, 0, none⟩) (ss.length + 1) cap4) (ss ++ [⟨nm, xs⟩]) w0 (w4.setCell ⟨D, 0, none⟩ (.slice (some ⟨g4, 0, none⟩) (ss.length + 1) cap4)) := by
  obtain ⟨ys, g, k1, k2, k3, k4⟩ := h.own.rows
  have hr : ∀ i, (some B : Option Nat) = some i → v.ownBlock ≠ some i := fun i e k => by cases e; have := (k1.lt _ k).1; omega
  have hI2 := h.grow hB hD hM.gb hM.rd
  have ha : w.grownBy (w.alloc (.cells #[.string nm, .slice (some ⟨gx, 0, none⟩) xs.length cx] 35)) (some B) := World.grownBy_alloc _ _ _
  have hI3 := hI2.grow hB hD ha (hM.rd.alloc _)
  have hown := own_gb (own_gb k1 hM.gb hr) ha hr
  have hC : ∀ j, j < ss.length → ShC (w.alloc (.cells #[.string nm, .slice (some ⟨gx, 0, none⟩) xs.length cx] 35)) base ss g ys j := fun j hj => by
    have hl := (k2 j hj).lt.1
    exact ((k2 j hj).gb hM.gb (fun e => by injection e with e; omega)).gb ha (fun e => by injection e with e; omega)
  have hX : OwnTx (w.alloc (.cells #[.string nm, .slice (some ⟨gx, 0, none⟩) xs.length cx] 35)) wr.heap.size (.slice (some ⟨gx, 0, none⟩) xs.length cx) xs :=
    own_gb hM.own ha (fun i e k => by cases e; have := (hM.own.lt _ k).1; have := h.rd.lt; omega)
  refine ⟨ys, hown, fun g4 cap4 w4 ho4 hg4 => ?_⟩
  have hD4 : Blk w4 D #[v] 25 := hI3.box.gb hg4 (own_blk_ne hown hI3.box (by decide))
  have hR4 : Blk w4 base #[.slice none 0 0] 25 := hI3.res.gb hg4 (own_blk_ne hown hI3.res (by decide))
  have hO4 : OwnSh w4 base (.slice (some ⟨g4, 0, none⟩) (ss.length + 1) cap4) (ss ++ [⟨nm, xs⟩]) :=
    OwnSh.more (w0 := wr) (base' := wr.heap.size) hC k3 k4 k1.1 hX (Nat.le_refl _) hbs ho4 hg4 (own_typed hown)
  refine ⟨hD4, ⟨?_, hD4.set 0 _, hR4.other _ _ _ (by omega), hO4.other hD4 (by decide) (by decide) 0 _, ?_, allSh_snoc h.fine ⟨hn, h3, hM.fine⟩⟩⟩
  · exact (hI3.rd.kept hg4 (fun k e => by have := (hown.lt k e).1; omega)).kept (gset_by _ _ _ _) (fun k e => by cases e; omega)
  · exact (hI3.gb.andThen hg4 (fun i e => .inl (by have := (hown.lt i e).1; omega))).andThen (gset_by _ _ _ _) (fun i e => .inl (by cases e; omega))

/-- A block in which no text lies: what is read is not in it. -/
def NoStr (w : World) (B : Nat) : Prop := ∀ k t, w.cell? ⟨B, k, none⟩ ≠ some (.string t)
theorem Rd.noStr {n₀ B p : Nat} {w : World} (h : Rd n₀ B p w) : NoStr w B := by
  intro k t hk
  obtain ⟨_, a, len, cap, _, hb, _⟩ := h
  simp only [World.cell?, hb] at hk
  match k, hk with
  | 0, hk => simp at hk
  | 1, hk => simp at hk
  | k + 2, hk => simp at hk
theorem Blk.noStr {w : World} {D : Nat} {a : Option Addr} {n c : Nat} {t : TypeId} (h : Blk w D #[.slice a n c] t) : NoStr w D := by
  intro k s hk
  rw [h.cell k] at hk
  match k, hk with
  | 0, hk => simp at hk
  | k + 1, hk => simp at hk
theorem TxAt.aside {w w' : World} {B : Nat} {a : Option Addr} {xs : List ByteArray} (h : TxAt w a xs) (hn : NoStr w B) (hg : w.grownBy w' (some B)) : TxAt w' a xs := by
  rcases h with h | ⟨b, off, e, hc⟩
  · exact .inl h
  · refine .inr ⟨b, off, e, fun j hj => hg.cell (hc j hj) (fun e => ?_)⟩
    simp only [Option.some.injEq] at e
    subst e
    exact hn _ _ (hc j hj)
theorem ShAt.aside {w w' : World} {B : Nat} {a : Option Addr} {ss : List ShD} (h : ShAt w a ss) (hn : NoStr w B) (hg : w.grownBy w' (some B)) : ShAt w' a ss := by
  rcases h with h | ⟨b, off, e, hc⟩
  · exact .inl h
  · refine .inr ⟨b, off, e, fun j hj => ?_⟩
    obtain ⟨h1, v, h3, a', cap, ev, h4, h5, h6⟩ := hc j hj
    have hne : b ≠ B := fun e => by subst e; exact hn _ _ h1
    exact ⟨hg.cell h1 (by simp; exact hne), v, hg.cell h3 (by simp; exact hne), a', cap, ev, h4, h5, h6.aside hn hg⟩
theorem ShV.aside {w w' : World} {B : Nat} {v : Value} {ss : List ShD} (h : ShV w v ss) (hn : NoStr w B) (hg : w.grownBy w' (some B)) : ShV w' v ss := by
  obtain ⟨a, cap, e, h1, h2, h3⟩ := h; exact ⟨a, cap, e, h1, h2, h3.aside hn hg⟩

/-- WHAT l73Model ANSWERS. -/
def MdDrawn (n₀ B p : Nat) (w : World) (e : Ending) (w' : World) : Prop :=
  ∃ (v : Value) (ss : List ShD) (q : Nat), e = .returned (.agg #[v]) ∧ ShV w' v ss ∧ ss.length ≤ 5 ∧ MdSmall ss ∧ q ≤ p + 300 ∧ Rd n₀ B q w' ∧ w.grownBy w' (some B)
theorem ShS.small {s : ShD} (h : ShS s) : ShSmall s := ⟨by have := h.1; omega, by have := h.2.1; omega, fun j hj => by have := h.2.2 j hj; unfold Short9 at this; omega⟩
/-- WHAT STANDS AHEAD OF THE ANSWER. -/
def Fin0 (n₀ B p base D : Nat) (v : Value) (w0 w : World) : Prop :=
  w.cell? ⟨D, 0, none⟩ = some v ∧ w.cell? ⟨base, 0, none⟩ = some (.slice none 0 0) ∧ w.frozen? ⟨base, 0, none⟩ = false ∧ MdDrawn n₀ B p w0 (.returned (.agg #[v])) (w.setCell ⟨base, 0, none⟩ v)
theorem fin0 {n₀ B q p base D : Nat} {v : Value} {ss : List ShD} {w0 w : World} (hB : B < base) (hw0 : w0.heap.size ≤ base) (hR : Rd n₀ B q w) (hb : Blk w D #[v] 25) (hr : Blk w base #[.slice none 0 0] 25) (hg0 : w0.grownBy w (some B))
    (hv : ShV w v ss) (hs : AllSh ShSmall ss) (h5 : ss.length ≤ 5) (hq : q ≤ p + 300) : Fin0 n₀ B p base D v w0 w := by
  have hg := gset_by w base 0 v
  exact ⟨hb.cell 0, hr.cell 0, hr.frozen 0, v, ss, q, rfl, hv.aside hr.noStr hg, h5, ⟨by omega, hs⟩, hq, hR.kept hg (fun k e => by cases e; exact hB), hg0.andThen hg (fun i e => .inl (by cases e; exact hw0))⟩
/-- As it was drawn. -/
theorem MdI.plain {n₀ B q p base D : Nat} {v : Value} {ss : List ShD} {w0 w : World} (hB : B < base) (hw0 : w0.heap.size ≤ base) (h : MdI n₀ B q base D v ss w0 w) (h5 : ss.length ≤ 5) (hq : q ≤ p + 300) : Fin0 n₀ B p base D v w0 w :=
  fin0 hB hw0 h.rd h.box h.res h.gb h.own.reads (fun j hj => (h.fine j hj).small) h5 hq
/-- VOLUMES THAT LIE IN A ROW, by its cells. -/
theorem shV_row {w : World} {base : Nat} {v : Value} {ss : List ShD} {ys : List Value} (h1 : w.ownsRow base 35 2 v ss.length ys) (h2 : ∀ j, j < ss.length → ys[j * 2]? = some (.string (ss.getD j sh0).name) ∧ ∃ u, ys[j * 2 + 1]? = some u ∧ TxV w u (ss.getD j sh0).blocks) : ShV w v ss := by
  have h1' := h1
  rcases h1.2 with ⟨rfl, hk⟩ | ⟨b, cap, cur, rfl, hb, hg, hkc, hcm, hcs, hx⟩
  · have : ss = [] := List.eq_nil_of_length_eq_zero hk
    subst this
    exact ⟨none, 0, rfl, Nat.le_refl _, by simp [maxLen], .inl rfl⟩
  · refine ⟨some ⟨b, 0, none⟩, cap, rfl, hkc, hcm, .inr ⟨b, 0, rfl, fun j hj => ?_⟩⟩
    obtain ⟨q0, c, q1, q2⟩ := h2 j hj
    have e0 := (own_cell h1' (j * 2) (by omega)).1
    have e1 := (own_cell h1' (j * 2 + 1) (by omega)).1
    rw [q0] at e0
    rw [q1] at e1
    rw [Nat.zero_add]
    exact ⟨e0, _, e1, q2⟩

/-- THE FIRST VOLUME of a model that was drawn, and what comes of it. -/
structure First (n₀ B q p base D : Nat) (v : Value) (ss : List ShD) (w0 w : World) (gr cap g0 c0 : Nat) : Prop where
  eq : v = .slice (some ⟨gr, 0, none⟩) ss.length cap
  n0 : w.cell? ⟨gr, 0, none⟩ = some (.string (nmAt ss 0))
  n1 : w.cell? ⟨gr, 1, none⟩ = some (.slice (some ⟨g0, 0, none⟩) 3 c0)
  f0 : w.frozen? ⟨gr, 0, none⟩ = false
  f1 : w.frozen? ⟨gr, 1, none⟩ = false
  t0 : ∃ t, w.cell? ⟨g0, 0, none⟩ = some (.string t)
  z0 : w.frozen? ⟨g0, 0, none⟩ = false
  c3 : 3 ≤ c0 ∧ c0 ≤ maxLen
  named : ∀ A : ByteArray, A.size ≤ 10 → Fin0 n₀ B p base D v w0 (w.setCell ⟨gr, 0, none⟩ (.string A))
  cut : Fin0 n₀ B p base D v w0 (w.setCell ⟨gr, 1, none⟩ (.slice (some ⟨g0, 1, none⟩) 2 (c0 - 1)))
  long : ∀ T : ByteArray, T.size ≤ 10 → Fin0 n₀ B p base D v w0 (w.setCell ⟨g0, 0, none⟩ (.string T))
  twice : ∃ ys : List Value, (w.alloc (.cells #[.string (nmAt ss 0), .slice (some ⟨g0, 0, none⟩) 3 c0] 35)).ownsRow base 35 2 v ss.length ys ∧
    ∀ g4 cap4 w4, w4.ownsRow base 35 2 (.slice (some ⟨g4, 0, none⟩) (ss.length + 1) cap4) (ss.length + 1) (ys ++ [.string (nmAt ss 0), .slice (some ⟨g0, 0, none⟩) 3 c0]) → (w.alloc (.cells #[.string (nmAt ss 0), .slice (some ⟨g0, 0, none⟩) 3 c0] 35)).grownBy w4 v.ownBlock →
      Blk w4 D #[v] 25 ∧ Fin0 n₀ B p base D (.slice (some ⟨g4, 0, none⟩) (ss.length + 1) cap4) w0 (w4.setCell ⟨D, 0, none⟩ (.slice (some ⟨g4, 0, none⟩) (ss.length + 1) cap4))

end Go.Proofs.Ytmmckpjapnkepaa
