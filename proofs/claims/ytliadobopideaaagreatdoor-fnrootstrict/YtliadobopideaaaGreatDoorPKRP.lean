/- The program's reader of roots: a pointer. Conditions: the variables that the reader looks at lie there; the text is short. -/
import Derived.Test.YtliadobopideaaaGreatDoorPKRT
import Derived.Deep.DeepCutAuto
namespace Go.Proofs.YtliadobopideaaaGreatDoor
open Go.RowKit Go.Sort

theorem OwnPl.empty (w : World) (base : Nat) : OwnPl w base (.slice none 0 0) [] := ⟨rfl, .inl ⟨rfl, rfl⟩⟩
theorem grown_row {w W w9 : World} {r r2 : Option Nat} (h : w.grownBy W r) (k : W.grownBy w9 r2) (hr : ∀ b, r2 = some b → w.heap.size ≤ b) : w.grownBy w9 r :=
  ⟨k.os.trans h.os, k.tape.trans h.tape, k.output.trans h.output, Nat.le_trans h.size k.size, fun j hj hne => (k.block j (Nat.lt_of_lt_of_le hj h.size) (fun e => by have := hr j e.symm; omega)).trans (h.block j hj hne)⟩
theorem Blk.kept {w w' : World} {D R : Nat} {cs : Array Value} {t : TypeId} (h : Blk w D cs t) (G : w.grownBy w' (some R)) (hne : D ≠ R) : Blk w' D cs t := grown_blk h G (fun e => by injection e with e; exact hne e)
theorem own_keptR {w w' : World} {base K n R : Nat} {e t : TypeId} {v : Value} {xs : List Value} {cs : Array Value} (h : w.ownsRow base e K v n xs) (G : w.grownBy w' (some R)) (k : Blk w R cs t) (hne : t ≠ e) : w'.ownsRow base e K v n xs := own_keptT h G (.box k hne)
theorem below_row {n : Nat} {w w' : World} {r : Option Nat} (G : w.grownBy w' r) (h2 : n ≤ w.heap.size) (h1 : ∀ b, r = some b → n ≤ b) : Below n w w' :=
  ⟨G.os, G.tape, G.output, G.size, fun k hk => G.block k (by omega) (fun e => by have := h1 k e.symm; omega)⟩
theorem below_far {n R D : Nat} {A : Addr} {w wx : World} (_ : Env n wx A) (_ : w.grownBy wx (some R)) (hR : R < w.heap.size) (hn : n ≤ R) (hD : w.heap.size ≤ D) (o : Nat) (v : Value) : Below n wx (wx.setCell ⟨D, o, none⟩ v) :=
  (Below.refl _ _).setCell (p := ⟨D, o, none⟩) (by show n ≤ D; omega) _
theorem grown_drewX {w w' : World} {r : Option Nat} (h : w.grownBy w' r) : w.grownBy w'.drew r := ⟨h.os, h.tape, h.output, h.size, h.block⟩
/-- A place more. -/
theorem place_end {W w9 : World} {D base g4 cap4 : Nat} {x y a b : Int} {v : Value} {ps : List PlD} (KD : Blk W D #[.int .i64 x, .int .i64 y, v] 54) (OP : OwnPl W base v ps)
    (ho : w9.ownsRow base 83 2 (.slice (some ⟨g4, 0, none⟩) (ps.length + 1) cap4) (ps.length + 1) (plCells ps ++ [.int .i64 a, .int .i64 b])) (hg : (W.alloc (.cells #[.int .i64 a, .int .i64 b] 83)).grownBy w9 v.ownBlock) :
    Blk w9 D #[.int .i64 x, .int .i64 y, v] 54 ∧ Blk (w9.setCell ⟨D, 2, none⟩ (.slice (some ⟨g4, 0, none⟩) (ps.length + 1) cap4)) D #[.int .i64 x, .int .i64 y, .slice (some ⟨g4, 0, none⟩) (ps.length + 1) cap4] 54 ∧ OwnPl (w9.setCell ⟨D, 2, none⟩ (.slice (some ⟨g4, 0, none⟩) (ps.length + 1) cap4)) base (.slice (some ⟨g4, 0, none⟩) (ps.length + 1) cap4) (ps ++ [(a, b)]) := by
  have hal : Below W.heap.size W (W.alloc (.cells #[.int .i64 a, .int .i64 b] 83)) := (Below.refl _ _).alloc (Nat.le_refl _) _
  have KD' := KD.below hal KD.lt
  have OP' := own_below OP hal
  have KD9 := grown_blk KD' hg (own_kind OP' KD' (by decide))
  refine ⟨KD9, KD9.set 2 _, ?_⟩
  have ho2 : OwnPl w9 base (.slice (some ⟨g4, 0, none⟩) (ps.length + 1) cap4) (ps ++ [(a, b)]) := by
    unfold OwnPl
    rw [List.length_append, List.length_singleton, plCells_end]
    exact ho
  exact own_other ho2 D 2 _ (fun e => own_kind ho2 KD9 (by decide) e.symm)

/-! ### what stands next, as data -/
theorem ptrTx_told {p : PtrD} (h : 1 ≤ p.size) (t : List UInt8) : ptrTx p ++ t = [112, 116, 114, 32] ++ (dz p.size ++ ([32] ++ (dz p.sum ++ (placesTx p.places ++ 10 :: t)))) := by
  unfold ptrTx
  rw [if_neg (by omega)]
  simp
theorem ptrTx_zero {p : PtrD} (h : p.size = 0) (t : List UInt8) : ptrTx p ++ t = [110, 111, 110, 101, 10] ++ t := by
  unfold ptrTx
  rw [if_pos h]
theorem nofig_places (ps : List PlD) (t : List UInt8) : NoFig (placesTx ps ++ 10 :: t) := by
  intro b r e
  cases ps with
  | nil => simp [placesTx] at e; rw [← e.1]; decide
  | cons q r' => simp [placesTx, placeTx] at e; rw [← e.1]; decide
theorem place_next (q : PlD) (ps : List PlD) (t : List UInt8) : placesTx (q :: ps) ++ 10 :: t = [32] ++ (dz q.1 ++ 46 :: (dz q.2 ++ (placesTx ps ++ 10 :: t))) := by
  simp [placesTx, placeTx]
/-- HOW FAR a pointer is read. -/
def PtrMid (bad0 : Bool) (l0 : List UInt8) (z s : Int) (ps : List PlD) (l : List UInt8) (bad : Bool) : Prop :=
  bad0 = false → ∀ (N : Int) (p0 : PtrD) (t : List UInt8), Pool N → Told N p0 → l0 = ptrTx p0 ++ t → p0.size = z ∧ p0.sum = s ∧ bad = false ∧ ∃ k, k ≤ p0.places.length ∧ ps = p0.places.take k ∧ l = placesTx (p0.places.drop k) ++ 10 :: t
/-- WHAT IS READ of a pointer's text. -/
def PtrEnd (bad0 : Bool) (l0 : List UInt8) (p : PtrD) (l : List UInt8) (bad : Bool) : Prop :=
  bad0 = false → ∀ (N : Int) (p0 : PtrD) (t : List UInt8), Pool N → PtrFine N p0 → l0 = ptrTx p0 ++ t → p = p0 ∧ l = t ∧ bad = false
def NumRel (l : List UInt8) (bad : Bool) (z : Int) (bad' : Bool) : Prop := bad = false → ∀ (k : Int) (t : List UInt8), 0 ≤ k → k ≤ 1000000000 → NoFig t → l = dz k ++ t → z = k ∧ bad' = false
theorem mid_begin {bad0 b2 b4 : Bool} {l0 : List UInt8} {z s : Int} (h1 : NumRel (Lib.trimPrefix l0 [112, 116, 114, 32]) (bad0 || !Lib.hasPrefix l0 [112, 116, 114, 32]) z b2)
    (h2 : NumRel (Lib.trimPrefix (restN (Lib.trimPrefix l0 [112, 116, 114, 32])) [32]) (b2 || !Lib.hasPrefix (restN (Lib.trimPrefix l0 [112, 116, 114, 32])) [32]) s b4) :
    PtrMid bad0 l0 z s [] (restN (Lib.trimPrefix (restN (Lib.trimPrefix l0 [112, 116, 114, 32])) [32])) b4 := by
  intro hb N p0 t hN hp el
  have hz := hp.1
  have hz2 := hp.2.1
  have hn2 := hN.2
  rw [ptrTx_told hz] at el
  have nf1 : NoFig ([32] ++ (dz p0.sum ++ (placesTx p0.places ++ 10 :: t))) := fun b r e => by injection e with e _; subst e; decide
  have e1 : Lib.trimPrefix l0 [112, 116, 114, 32] = dz p0.size ++ ([32] ++ (dz p0.sum ++ (placesTx p0.places ++ 10 :: t))) := by rw [el, trim_self]
  have e2 : Lib.hasPrefix l0 [112, 116, 114, 32] = true := by rw [el, pre_self]
  obtain ⟨rfl, hb2⟩ := h1 (by rw [hb, e2]; rfl) p0.size _ (by omega) (by omega) nf1 e1
  have e3 : restN (Lib.trimPrefix l0 [112, 116, 114, 32]) = [32] ++ (dz p0.sum ++ (placesTx p0.places ++ 10 :: t)) := by rw [e1, rest_dz nf1]
  have e4 : Lib.trimPrefix (restN (Lib.trimPrefix l0 [112, 116, 114, 32])) [32] = dz p0.sum ++ (placesTx p0.places ++ 10 :: t) := by rw [e3, trim_self]
  have e5 : Lib.hasPrefix (restN (Lib.trimPrefix l0 [112, 116, 114, 32])) [32] = true := by rw [e3, pre_self]
  obtain ⟨rfl, hb4⟩ := h2 (by rw [hb2, e5]; rfl) p0.sum _ hp.2.2.1 hp.2.2.2.1 (nofig_places _ _) e4
  exact ⟨rfl, rfl, hb4, 0, Nat.zero_le _, rfl, by rw [e4, rest_dz (nofig_places _ _), List.drop_zero]⟩
theorem mid_next {bad0 bad b' : Bool} {l0 l l' : List UInt8} {z s d sl : Int} {ps : List PlD} (h : PtrMid bad0 l0 z s ps l bad) (hp : Lib.hasPrefix l [32] = true)
    (hq : bad = false → ∀ (q : PlD) (t : List UInt8), ((0 ≤ q.1 ∧ q.1 ≤ 1000000000) ∧ 0 ≤ q.2 ∧ q.2 ≤ 1000000000) → NoFig t → Lib.trimPrefix l [32] = dz q.1 ++ 46 :: (dz q.2 ++ t) → (d, sl) = q ∧ l' = t ∧ b' = false) : PtrMid bad0 l0 z s (ps ++ [(d, sl)]) l' b' := by
  intro hb N p0 t hN hp0 el
  obtain ⟨h1, h2, h3, k, hk, h4, h5⟩ := h hb N p0 t hN hp0 el
  cases hd : p0.places.drop k with
  | nil =>
    rw [h5, hd] at hp
    exact absurd hp (by simp [placesTx, Lib.hasPrefix])
  | cons q r =>
    have hkl : k < p0.places.length := by
      rcases Nat.lt_or_ge k p0.places.length with h' | h'
      · exact h'
      · rw [List.drop_eq_nil_of_le h'] at hd; cases hd
    have hqk : p0.places[k] = q ∧ p0.places.drop (k + 1) = r := by
      have := List.drop_eq_getElem_cons hkl
      rw [hd] at this
      injection this with a b
      exact ⟨a.symm, b.symm⟩
    rw [hd, place_next] at h5
    have hin : q ∈ p0.places := by rw [← hqk.1]; exact List.getElem_mem hkl
    obtain ⟨e1, e2, e3⟩ := hq h3 q (placesTx r ++ 10 :: t) (told_places hN hp0 q hin) (nofig_places _ _) (by rw [h5, trim_self])
    exact ⟨h1, h2, e3, k + 1, hkl, by rw [List.take_succ_eq_append_getElem hkl, hqk.1, h4, e1], by rw [hqk.2, e2]⟩
theorem mid_endR {bad0 bad : Bool} {l0 l : List UInt8} {z s : Int} {ps : List PlD} (h : PtrMid bad0 l0 z s ps l bad) (hp : Lib.hasPrefix l [32] = false) (hno : Lib.hasPrefix l0 [110, 111, 110, 101, 10] = false) :
    PtrEnd bad0 l0 ⟨z, s, ps⟩ (Lib.trimPrefix l [10]) (bad || !Lib.hasPrefix l [10]) := by
  intro hb N p0 t hN hf el
  rcases hf with h0 | hf
  · rw [el, ptrTx_zero h0.1, pre_self] at hno; cases hno
  · obtain ⟨h1, h2, h3, k, hk, h4, h5⟩ := h hb N p0 t hN hf el
    cases hd : p0.places.drop k with
    | nil =>
      have hkl : k = p0.places.length := by
        have := congrArg List.length hd
        rw [List.length_drop, List.length_nil] at this
        omega
      rw [hd] at h5
      have e : l = [10] ++ t := h5
      rw [hkl, List.take_length] at h4
      rw [e, trim_self, pre_self, h3, h4, ← h1, ← h2]
      exact ⟨rfl, rfl, rfl⟩
    | cons q r =>
      rw [h5, hd, place_next, pre_self] at hp
      cases hp
theorem none_end {bad0 : Bool} {l0 : List UInt8} (hno : Lib.hasPrefix l0 [110, 111, 110, 101, 10] = true) : PtrEnd bad0 l0 ⟨0, 0, []⟩ (Lib.trimPrefix l0 [110, 111, 110, 101, 10]) bad0 := by
  intro hb N p0 t hN hf el
  rcases hf with ⟨h1, h2, h3⟩ | hf
  · rw [el, ptrTx_zero h1, trim_self]
    obtain ⟨a, b, c⟩ := p0
    simp only at h1 h2 h3
    subst h1; subst h2; subst h3
    exact ⟨rfl, rfl, hb⟩
  · rw [el, ptrTx_told hf.1] at hno
    exact absurd hno (by simp [Lib.hasPrefix])

/-- A pointer is read. -/
def PtrRd (n R : Nat) (A : Addr) (l : List UInt8) (bad : Bool) (w : World) (e : Ending) (w' : World) : Prop :=
  ∃ (p : PtrD) (l' : List UInt8) (bad' : Bool) (v : Value), e = .returned (.agg #[.int .i64 p.size, .int .i64 p.sum, v]) ∧ OwnPl w' w.heap.size v p.places ∧ Rdd n R A w l' bad' w' ∧ p.places.length + l'.length ≤ l.length ∧ (bad = true → bad' = true) ∧ PtrEnd bad l p l' bad'
theorem line_none : lineT [⟨#[110, 111, 110, 101]⟩] = ⟨#[110, 111, 110, 101, 10]⟩ := rfl
def restLen (R : Nat) (w : World) : Nat := match w.cell? ⟨R, 0, none⟩ with | some (.string t) => t.size | _ => 0
theorem rest_len {R : Nat} {w : World} {l : List UInt8} {A : Addr} {bad : Bool} (h : RdAt w R l A bad) : restLen R w = l.length := by
  have := Blk.cell h 0
  unfold restLen
  rw [this]
  exact tx_size l

set_option linter.unusedSimpArgs false in
set_option linter.unusedVariables false in
set_option maxRecDepth 100000 in
set_option maxHeartbeats 20000000 in
theorem ptr_any (n R : Nat) (A : Addr) (l : List UInt8) (bad : Bool) (w : World) (hn : n ≤ R) (hl : l.length ≤ 1000) (hE : Env n w A) (hb : RdAt w R l A bad) :
    Calls Tryz.prog 94 #[.pointer (some ⟨R, 0, none⟩)] w (PtrRd n R A l bad w) := by
  obtain ⟨i0, hi0, hz0, hz1, hz2⟩ := info_parts infoPl
  have HN := Lib.hid (show ∀ e w', (∃ (p : PtrD) (l' : List UInt8) (bad' : Bool) (v : Value), e = .returned (.agg #[.int .i64 p.size, .int .i64 p.sum, v]) ∧ OwnPl w' w.heap.size v p.places ∧ Rdd n R A w l' bad' w' ∧ p.places.length + l'.length ≤ l.length ∧ (bad = true → bad' = true) ∧ PtrEnd bad l p l' bad') → PtrRd n R A l bad w e w' from fun _ _ h => h)
  generalize PtrRd n R A l bad w = PR at HN ⊢
  have hRl : R < w.heap.size := Blk.lt hb
  have hB0 : Below w.heap.size w ((w.alloc (.cells #[.int .i64 0, .int .i64 0, .slice none 0 0] 54)).alloc (.cells #[.string ⟨#[110, 111, 110, 101]⟩] 9)) := ((Below.refl _ _).alloc (Nat.le_refl _) _).alloc (by simp) _
  have K0 := Lib.hid (show Blk ((w.alloc (.cells #[.int .i64 0, .int .i64 0, .slice none 0 0] 54)).alloc (.cells #[.string ⟨#[110, 111, 110, 101]⟩] 9)) w.heap.size #[.int .i64 0, .int .i64 0, .slice none 0 0] 54 from (Blk.new w #[.int .i64 0, .int .i64 0, .slice none 0 0] 54).below ((Below.refl _ _).alloc (Nat.le_refl _) _) (by simp))
  have HW : Hid (WordsAt ((w.alloc (.cells #[.int .i64 0, .int .i64 0, .slice none 0 0] 54)).alloc (.cells #[.string ⟨#[110, 111, 110, 101]⟩] 9)) (w.heap.size + 1) 0 [⟨#[110, 111, 110, 101]⟩]) := by
    intro j x hj
    have h := (Blk.new (w.alloc (.cells #[.int .i64 0, .int .i64 0, .slice none 0 0] 54)) #[.string ⟨#[110, 111, 110, 101]⟩] 9).cell j
    rw [World.size_alloc] at h
    rw [Nat.zero_add, h]
    cases j with
    | zero => simp at hj; subst hj; rfl
    | succ j => simp at hj
  have HL := Lib.hid (lineOf_any (w.heap.size + 1) 0 1 [⟨#[110, 111, 110, 101]⟩] _ HW (by simp) (by simp) (by simp) (by rw [line_none]; unfold Hid; decide))
  rw [line_none] at HL
  have HE0 := Lib.hid (hE.on (hB0.mono hE.size))
  have HB0 := Lib.hid (hb.below hB0)
  have HG0 := Lib.hid (grown_below' (some R) hB0)
  clear hB0 hE hb HW
  go_enter Tryz.func94, Tryz.ntmps94
  go_wp2_with fail
  generalize (w.alloc (.cells #[.int .i64 0, .int .i64 0, .slice none 0 0] 54)).alloc (.cells #[.string ⟨#[110, 111, 110, 101]⟩] 9) = w0 at K0 HE0 HB0 HG0 HL ⊢
  refine HL.out.mono ?_
  rintro e w1 ⟨rfl, hB1⟩
  have HE1 := Lib.hid (HE0.out.on (hB1.mono HE0.out.size))
  have HB1 := Lib.hid (HB0.out.below hB1)
  have HG1 := Lib.hid (grown_trans HG0.out (grown_below' _ hB1))
  have K1 := Lib.hid (K0.out.below hB1 K0.out.lt)
  clear hB1 HE0 HB0 HG0 K0 HL
  have HH := Lib.hid (has_any n R A l bad ⟨#[110, 111, 110, 101, 10]⟩ w1 hn HE1.out HB1.out)
  have HH' : Hid (Calls Tryz.prog 60 #[.pointer (some ⟨R, 0, none⟩), .string ⟨#[110, 111, 110, 101, 10]⟩] w1 fun e w' => e = .returned (.bool (Lib.hasPrefix l [110, 111, 110, 101, 10])) ∧ Rdd n R A w1 (Lib.trimPrefix l [110, 111, 110, 101, 10]) bad w') := HH
  clear HH
  cases hno : Lib.hasPrefix l [110, 111, 110, 101, 10] with
  | true =>
    rw [hno] at HH'
    have HQ := Lib.hid (none_end (bad0 := bad) hno)
    have hlt := Lib.hid (trim_lt hno (by simp))
    clear hno
    go_wp2_with fail
    refine HH'.out.mono ?_
    rintro e w2 ⟨rfl, h2⟩
    have HB2 := Lib.hid h2.box
    have HG2 := Lib.hid (grown_trans HG1.out h2.grown)
    have K2 := Lib.hid (K1.out.kept h2.grown (by omega))
    clear h2 HB1 HG1 K1 HH'
    have k0 : w2.cell? ⟨w.heap.size, 0, none⟩ = some (.int .i64 0) := K2.out.cell 0
    have k1 : w2.cell? ⟨w.heap.size, 1, none⟩ = some (.int .i64 0) := K2.out.cell 1
    have k2 : w2.cell? ⟨w.heap.size, 2, none⟩ = some (.slice none 0 0) := K2.out.cell 2
    have f0 := K2.out.frozen 0
    have f1 := K2.out.frozen 1
    have f2 := K2.out.frozen 2
    have hne : w.heap.size ≠ R := by omega
    have HZ := Lib.hid (show RdAt (((w2.setCell ⟨w.heap.size, 0, none⟩ (.int .i64 0)).setCell ⟨w.heap.size, 1, none⟩ (.int .i64 0)).setCell ⟨w.heap.size, 2, none⟩ (.slice none 0 0)) R _ A bad from Blk.other (Blk.other (Blk.other HB2.out _ 0 _ hne) _ 1 _ hne) _ 2 _ hne)
    have HGZ := Lib.hid (grown_far (grown_far (grown_far HG2.out (Nat.le_refl _) 0 (.int .i64 0)) (Nat.le_refl _) 1 (.int .i64 0)) (Nat.le_refl _) 2 (.slice none 0 0))
    have KZ := ((K2.out.set 0 (.int .i64 0)).set 1 (.int .i64 0)).set 2 (.slice none 0 0)
    have e0 := KZ.cell 0
    have e1 := KZ.cell 1
    have e2 := KZ.cell 2
    clear KZ hne HB2 HG2
    go_wp2_with fail
    refine bodyPost_ret (v := .agg #[.int .i64 0, .int .i64 0, .slice none 0 0]) (by simp [results, Tryz.results94, go_sem, e0, e1, e2]) rfl (HN.out _ _ ⟨⟨0, 0, []⟩, _, bad, .slice none 0 0, rfl, OwnPl.empty _ _, ⟨HZ.out, HGZ.out⟩, by have := hlt.out; simp only [List.length_nil]; omega, fun h => h, HQ.out⟩)
  | false =>
    rw [hno] at HH'
    have HNO := Lib.hid hno
    have htr : Lib.trimPrefix l [110, 111, 110, 101, 10] = l := by unfold Lib.trimPrefix; rw [if_neg (by rw [hno]; decide)]
    rw [htr] at HH'
    clear hno htr
    go_wp2_with fail
    refine HH'.out.mono ?_
    rintro e w2 ⟨rfl, h2⟩
    have hal : Below w2.heap.size w2 (w2.alloc (.cells #[.int .i64 0, .int .i64 0, .slice none 0 0] 54)) := (Below.refl _ _).alloc (Nat.le_refl _) _
    have HE2 := Lib.hid ((h2.env HE1.out hn).on (hal.mono (h2.env HE1.out hn).size))
    have HB2 := Lib.hid (h2.box.below hal)
    have HG2 := Lib.hid (grown_trans (grown_trans HG1.out h2.grown) (grown_below' _ hal))
    have K2 := Lib.hid ((K1.out.kept h2.grown (by omega)).below hal (K1.out.kept h2.grown (by omega)).lt)
    have D2 := Lib.hid (Blk.new w2 #[.int .i64 0, .int .i64 0, .slice none 0 0] 54)
    have hDs : w.heap.size < w2.heap.size := (K1.out.kept h2.grown (by omega)).lt
    clear h2 hal HE1 HB1 HG1 K1 HH'
    go_upto_region 4 with (fail)
    generalize w2.alloc (.cells #[.int .i64 0, .int .i64 0, .slice none 0 0] 54) = w3 at HE2 HB2 HG2 K2 D2 ⊢
    generalize w2.heap.size = D at D2 hDs ⊢
    have hDR : D ≠ R := by omega
    have hS : w.heap.size ≠ R := by omega
    go_wp2_with fail
    refine (must_any n R A l bad ⟨#[112, 116, 114, 32]⟩ w3 HE2.out HB2.out).mono ?_
    rintro e w4 ⟨rfl, h⟩
    have HE4 := Lib.hid (h.env HE2.out hn)
    have HB4 := Lib.hid h.box
    have HG4 := Lib.hid (grown_trans HG2.out h.grown)
    have K4 := Lib.hid (K2.out.kept h.grown hS)
    have D4 := Lib.hid (D2.out.kept h.grown hDR)
    clear h HE2 HB2 HG2 K2 D2
    have l4 := trim_le l [112, 116, 114, 32]
    have HB4 := Lib.hid (show RdAt w4 R (Lib.trimPrefix l [112, 116, 114, 32]) A (bad || !Lib.hasPrefix l [112, 116, 114, 32]) from HB4.out)
    go_wp2_with fail
    refine (number_any n R A _ _ w4 hn (by omega) HE4.out HB4.out).mono ?_
    rintro e w5 ⟨z, b5, rfl, h, m5, p5⟩
    have HE5 := Lib.hid (h.env HE4.out hn)
    have HB5 := Lib.hid h.box
    have HG5 := Lib.hid (grown_trans HG4.out h.grown)
    have K5 := Lib.hid (K4.out.kept h.grown hS)
    have D5 := Lib.hid (D4.out.kept h.grown hDR)
    clear h HE4 HB4 HG4 K4 D4
    have l5 := restN_le (Lib.trimPrefix l [112, 116, 114, 32])
    have P5 := Lib.hid p5
    have M5 := Lib.hid (show bad = true → b5 = true from fun h => m5 (by rw [h]; rfl))
    clear p5 m5
    have d0 : w5.cell? ⟨D, 0, none⟩ = some (.int .i64 0) := D5.out.cell 0
    have f0 := D5.out.frozen 0
    have HE5 := Lib.hid (HE5.out.on (below_far HE5.out HG5.out hRl hn (Nat.le_of_lt hDs) 0 (.int .i64 z)))
    have HB5 := Lib.hid (show RdAt (w5.setCell ⟨D, 0, none⟩ (.int .i64 z)) R _ A b5 from Blk.other HB5.out D 0 _ hDR)
    have HG5 := Lib.hid (grown_far HG5.out (Nat.le_of_lt hDs) 0 (.int .i64 z))
    have K5 := Lib.hid (K5.out.other D 0 (.int .i64 z) (by omega))
    have D5 := Lib.hid (show Blk (w5.setCell ⟨D, 0, none⟩ (.int .i64 z)) D #[.int .i64 z, .int .i64 0, .slice none 0 0] 54 from D5.out.set 0 (.int .i64 z))
    go_upto_region 6 with (fail)
    clear d0 f0
    generalize w5.setCell ⟨D, 0, none⟩ (.int .i64 z) = w5' at HE5 HB5 HG5 K5 D5 ⊢
    go_wp2_with fail
    refine (must_any n R A _ _ ⟨#[32]⟩ w5' HE5.out HB5.out).mono ?_
    rintro e w6 ⟨rfl, h⟩
    have HE6 := Lib.hid (h.env HE5.out hn)
    have HB6 := Lib.hid h.box
    have HG6 := Lib.hid (grown_trans HG5.out h.grown)
    have K6 := Lib.hid (K5.out.kept h.grown hS)
    have D6 := Lib.hid (D5.out.kept h.grown hDR)
    clear h HE5 HB5 HG5 K5 D5
    have l6 := trim_le (restN (Lib.trimPrefix l [112, 116, 114, 32])) [32]
    have HB6 := Lib.hid (show RdAt w6 R (Lib.trimPrefix (restN (Lib.trimPrefix l [112, 116, 114, 32])) [32]) A (b5 || !Lib.hasPrefix (restN (Lib.trimPrefix l [112, 116, 114, 32])) [32]) from HB6.out)
    go_wp2_with fail
    refine (number_any n R A _ _ w6 hn (by omega) HE6.out HB6.out).mono ?_
    rintro e w7 ⟨s, b7, rfl, h, m7, p7⟩
    have HE7 := Lib.hid (h.env HE6.out hn)
    have HB7 := Lib.hid h.box
    have HG7 := Lib.hid (grown_trans HG6.out h.grown)
    have K7 := Lib.hid (K6.out.kept h.grown hS)
    have D7 := Lib.hid (D6.out.kept h.grown hDR)
    clear h HE6 HB6 HG6 K6 D6
    have l7 := restN_le (Lib.trimPrefix (restN (Lib.trimPrefix l [112, 116, 114, 32])) [32])
    have HMID := Lib.hid (mid_begin P5.out p7)
    have M7 := Lib.hid (show bad = true → b7 = true from fun h => m7 (by rw [M5.out h]; rfl))
    clear p7 m7 P5 M5
    generalize restN (Lib.trimPrefix (restN (Lib.trimPrefix l [112, 116, 114, 32])) [32]) = l8 at HB7 HMID l7
    have l8l : l8.length ≤ l.length := by omega
    clear l4 l5 l6 l7
    have d1 : w7.cell? ⟨D, 1, none⟩ = some (.int .i64 0) := D7.out.cell 1
    have f1 := D7.out.frozen 1
    have HE7 := Lib.hid (HE7.out.on (below_far HE7.out HG7.out hRl hn (Nat.le_of_lt hDs) 1 (.int .i64 s)))
    have HB7 := Lib.hid (show RdAt (w7.setCell ⟨D, 1, none⟩ (.int .i64 s)) R _ A b7 from Blk.other HB7.out D 1 _ hDR)
    have HG7 := Lib.hid (grown_far HG7.out (Nat.le_of_lt hDs) 1 (.int .i64 s))
    have K7 := Lib.hid (K7.out.other D 1 (.int .i64 s) (by omega))
    have D7 := Lib.hid (show Blk (w7.setCell ⟨D, 1, none⟩ (.int .i64 s)) D #[.int .i64 z, .int .i64 s, .slice none 0 0] 54 from D7.out.set 1 (.int .i64 s))
    go_upto_region 8 with (fail)
    clear d1 f1
    generalize w7.setCell ⟨D, 1, none⟩ (.int .i64 s) = w8 at HE7 HB7 HG7 K7 D7 ⊢
    go_loopw [] (fun wr => ∃ (lr : List UInt8) (br : Bool) (ps : List PlD) (v : Value), Hid (Env n wr A) ∧ Hid (RdAt wr R lr A br) ∧ Hid (w.grownBy wr (some R)) ∧ Hid (Blk wr w.heap.size #[.int .i64 0, .int .i64 0, .slice none 0 0] 54) ∧ Hid (Blk wr D #[.int .i64 z, .int .i64 s, v] 54) ∧ Hid (OwnPl wr w.heap.size v ps) ∧ ps.length + lr.length ≤ l.length ∧ Hid (bad = true → br = true) ∧ Hid (PtrMid bad l z s ps lr br)) (fun wr => restLen R wr)
    case atStart => exact ⟨l8, b7, [], .slice none 0 0, HE7, HB7, HG7, K7, D7, OwnPl.empty _ _, by simpa using l8l, M7, HMID⟩
    case round =>
      obtain ⟨lr, br, ps, v, HE, HB, HG, K, DD, OP, hlen, M, MID⟩ := hrel
      clear HE7 HB7 HG7 K7 D7 M7 HMID l8l
      have hnb := HE.out.size
      have HH : Hid (Calls Tryz.prog 60 #[.pointer (some ⟨R, 0, none⟩), .string ⟨#[32]⟩] wr fun e w' => e = .returned (.bool (Lib.hasPrefix lr [32])) ∧ Rdd n R A wr (Lib.trimPrefix lr [32]) br w') := has_any n R A lr br ⟨#[32]⟩ wr hn HE.out HB.out
      have hrest := Lib.hid (rest_len HB.out)
      cases hsp : Lib.hasPrefix lr [32] with
      | true =>
        rw [hsp] at HH
        have hlt := trim_lt hsp (by simp)
        have HSP := Lib.hid hsp
        clear hsp
        go_wp2_with fail
        refine HH.out.mono ?_
        rintro e w2 ⟨rfl, h⟩
        have HE2 := Lib.hid ((h.env HE.out hn).on (Below.refl _ _).drew)
        have HB2 := Lib.hid (show RdAt w2.drew R _ A br from h.box)
        have HG2 := Lib.hid (show w.grownBy w2.drew (some R) from grown_drewX (grown_trans HG.out h.grown))
        have K2 := Lib.hid (K.out.kept (grown_drewX h.grown) hS)
        have D2 := Lib.hid (DD.out.kept (grown_drewX h.grown) hDR)
        have O2 := Lib.hid (show OwnPl w2.drew w.heap.size v ps from own_below (own_keptR OP.out h.grown HB.out (by decide)) (Below.refl _ _).drew)
        clear h HH HE HB HG K DD OP
        have sD : w2.drew.cell? ⟨D, 2, none⟩ = some v := D2.out.cell 2
        go_upto_region 9 with (fail)
        refine AnyS.start (S := (fun w' : World => w'.cell? ⟨D, 2, none⟩ = some v)) (L := 7) (by kernel_rfl) ?_
        generalize w2.drew = W at HE2 HB2 HG2 K2 D2 O2 sD ⊢
        refine AnyS.take 0 (show _ = some _ from rfl) rfl (by kernel_rfl) (by kernel_rfl) (by kernel_rfl) (by kernel_rfl) (fun _ _ _ h => h) sD (by rfl) (fun w' hSw => by have s1 := hSw; go_simp; try with_reducible rfl) ?_
        try simp only [Act.put, List.setIfInBounds_toArray, List.set_cons_zero, List.set_cons_succ]
        refine AnyS.take 1 (show _ = some _ from rfl) rfl (by kernel_rfl) (by kernel_rfl) (by kernel_rfl) (by kernel_rfl) (fun _ _ _ h => h) sD (by rfl) (fun w' hSw => by have s1 := hSw; go_simp; try with_reducible rfl) ?_
        try simp only [Act.put, List.setIfInBounds_toArray, List.set_cons_zero, List.set_cons_succ]
        refine AnyS.take 2 (show _ = some _ from rfl) rfl (by kernel_rfl) (by kernel_rfl) (by kernel_rfl) (by kernel_rfl) (fun _ _ _ h => h) sD (by rfl) (fun w' hSw => by have s1 := hSw; go_simp; try with_reducible rfl) ?_
        try simp only [Act.put, List.setIfInBounds_toArray, List.set_cons_zero, List.set_cons_succ]
        refine AnyS.one 3 (by kernel_rfl) (show _ = some _ from rfl) (fun K' hK' => ?_)
        go_simp
        go_at_call 125
        refine (place_any n R A _ br W hn (by omega) HE2.out HB2.out).mono ?_
        rintro e w3 ⟨pd, psl, l3, b3, rfl, h, hl3, m3, q3⟩
        have HE3 := Lib.hid (h.env HE2.out hn)
        have HB3 := Lib.hid h.box
        have HG3 := Lib.hid (grown_trans HG2.out h.grown)
        have K3 := Lib.hid (K2.out.kept h.grown hS)
        have D3 := Lib.hid (D2.out.kept h.grown hDR)
        have O3 := Lib.hid (own_keptR O2.out h.grown HB2.out (by decide))
        have MID3 := Lib.hid (mid_next MID.out HSP.out q3)
        have M3 := Lib.hid (show bad = true → b3 = true from fun hh => m3 (M.out hh))
        have sD3 : w3.cell? ⟨D, 2, none⟩ = some v := D3.out.cell 2
        clear h m3 q3 HE2 HB2 HG2 K2 D2 O2 MID M HSP sD
        go_simp
        refine hK' _ _ ⟨?_, fun _ => sD3⟩
        clear hK' K'
        try simp only [Act.put, List.setIfInBounds_toArray, List.set_cons_zero, List.set_cons_succ]
        have hal : Below w3.heap.size w3 (w3.alloc (.cells #[.int .i64 pd, .int .i64 psl] 83)) := (Below.refl _ _).alloc (Nat.le_refl _) _
        have sD4 := cell_below hal sD3
        have hown := own_below O3.out hal
        have hnews := news_twoR w3 (.int .i64 pd) (.int .i64 psl) 83
        have hbase : w.heap.size ≤ (w3.alloc (.cells #[.int .i64 pd, .int .i64 psl] 83)).heap.size := Nat.le_trans HG3.out.size hal.size
        have hplb : ps.length ≤ 1000 := by omega
        have HE4 := Lib.hid (HE3.out.on (hal.mono HE3.out.size))
        have HB4 := Lib.hid (HB3.out.below hal)
        have K4 := Lib.hid (K3.out.below hal K3.out.lt)
        have HG4 := Lib.hid (grown_trans HG3.out (grown_below' _ hal))
        clear hal
        refine AnyS.one 4 (by kernel_rfl) (show _ = some _ from rfl) (fun K' hK' => ?_)
        go_simp
        refine hK' _ _ ⟨?_, fun _ => sD4⟩
        clear hK' K'
        try simp only [Act.put, List.setIfInBounds_toArray, List.set_cons_zero, List.set_cons_succ]
        refine AnyS.one 5 (by kernel_rfl) (show _ = some _ from rfl) (fun K' hK' => ?_)
        refine step_append_lies _ (by rfl) _ _ 52 (by rfl) w.heap.size 83 i0 _ 2 16 Tryz.underlying52 hi0 hz0 hz1 hz2 rfl (by omega) _ ps.length (plCells ps) (by rfl) hown ⟨_, 0, none⟩ 1 1 [.int .i64 pd, .int .i64 psl] (by rfl) rfl hnews (by simp [Value.oneCell']) (by omega) (by unfold maxLen; omega) (by omega) hbase _ rfl ?_
        intro g4 cap4 w9 hown4 hgrow4 hat4 hlt4
        obtain ⟨D9, DN, ON⟩ := place_end D3.out O3.out hown4 hgrow4
        have sD9 : w9.cell? ⟨D, 2, none⟩ = some v := D9.cell 2
        have f9 := D9.frozen 2
        have B9 := grown_blk HB4.out hgrow4 (own_kind hown HB4.out (by decide))
        have HB9 := Lib.hid (show RdAt (w9.setCell ⟨D, 2, none⟩ (.slice (some ⟨g4, 0, none⟩) (ps.length + 1) cap4)) R l3 A b3 from Blk.other B9 D 2 _ hDR)
        have K9 := Lib.hid ((grown_blk K4.out hgrow4 (own_kind hown K4.out (by decide))).other D 2 (.slice (some ⟨g4, 0, none⟩) (ps.length + 1) cap4) (by omega))
        have hge := fun b e => (hown.lt b e).1
        have G9 := grown_row HG4.out hgrow4 hge
        have HG9 := Lib.hid (grown_far G9 (Nat.le_of_lt hDs) 2 (.slice (some ⟨g4, 0, none⟩) (ps.length + 1) cap4))
        have E9 := HE4.out.on (below_row hgrow4 HE4.out.size (fun b e => by have := hge b e; omega))
        have HE9 := Lib.hid (E9.on (below_far E9 G9 hRl hn (Nat.le_of_lt hDs) 2 (.slice (some ⟨g4, 0, none⟩) (ps.length + 1) cap4)))
        have HDN := Lib.hid DN
        have HON := Lib.hid ON
        clear D9 DN ON B9 hge G9 E9 hown4 hgrow4 hat4 hlt4
        refine hK' _ _ ⟨?_, fun _ => sD9⟩
        clear hK' K'
        try simp only [Act.put, List.setIfInBounds_toArray, List.set_cons_zero, List.set_cons_succ]
        refine AnyS.one 6 (by kernel_rfl) (show _ = some _ from rfl) (fun K' hK' => ?_)
        go_simp
        refine hK' _ _ ⟨?_, fun _ => sD9⟩
        clear hK' K'
        try simp only [Act.put, List.setIfInBounds_toArray, List.set_cons_zero, List.set_cons_succ]
        refine AnyS.one 7 (by kernel_rfl) (show _ = some _ from rfl) (fun K' hK' => ?_)
        go_simp
        refine hK' _ _ ⟨AnyS.done (by kernel_rfl) ?_, fun h => absurd rfl h⟩
        clear hK' K'
        try simp only [Act.put, List.setIfInBounds_toArray, List.set_cons_zero, List.set_cons_succ]
        go_wp2_with fail
        exact ⟨⟨l3, b3, _, _, HE9, HB9, HG9, K9, HDN, HON, by rw [List.length_append, List.length_singleton]; omega, M3, MID3⟩, by rw [rest_len HB9.out, hrest.out]; omega⟩
      | false =>
        rw [hsp] at HH
        have htr : Lib.trimPrefix lr [32] = lr := by unfold Lib.trimPrefix; rw [if_neg (by rw [hsp]; decide)]
        rw [htr] at HH
        have HEND := Lib.hid (mid_endR MID.out hsp HNO.out)
        clear hsp htr MID
        go_wp2_with fail
        refine HH.out.mono ?_
        rintro e w2 ⟨rfl, h⟩
        have HE2 := Lib.hid (h.env HE.out hn)
        have HB2 := Lib.hid h.box
        have HG2 := Lib.hid (grown_trans HG.out h.grown)
        have K2 := Lib.hid (K.out.kept h.grown hS)
        have D2 := Lib.hid (DD.out.kept h.grown hDR)
        have O2 := Lib.hid (own_keptR OP.out h.grown HB.out (by decide))
        clear h HH HE HB HG K DD OP
        go_wp2_with fail
        refine (must_any n R A lr br ⟨#[10]⟩ w2 HE2.out HB2.out).mono ?_
        rintro e w3 ⟨rfl, h⟩
        have hl3 := trim_le lr [10]
        have HB3 := Lib.hid (show RdAt w3 R (Lib.trimPrefix lr [10]) A (br || !Lib.hasPrefix lr [10]) from h.box)
        have HG3 := Lib.hid (grown_trans HG2.out h.grown)
        have K3 := Lib.hid (K2.out.kept h.grown hS)
        have D3 := Lib.hid (D2.out.kept h.grown hDR)
        have O3 := Lib.hid (own_keptR O2.out h.grown HB2.out (by decide))
        clear h HE2 HB2 HG2 K2 D2 O2
        obtain ⟨av, nv, cv, rfl⟩ : ∃ a n c, v = .slice a n c := by
          rcases O3.out.2 with ⟨e, _⟩ | ⟨_, _, _, e, _⟩
          · exact ⟨_, _, _, e⟩
          · exact ⟨_, _, _, e⟩
        have d0 : w3.cell? ⟨D, 0, none⟩ = some (.int .i64 z) := D3.out.cell 0
        have d1 : w3.cell? ⟨D, 1, none⟩ = some (.int .i64 s) := D3.out.cell 1
        have d2 : w3.cell? ⟨D, 2, none⟩ = some (.slice av nv cv) := D3.out.cell 2
        have k0 : w3.cell? ⟨w.heap.size, 0, none⟩ = some (.int .i64 0) := K3.out.cell 0
        have k1 : w3.cell? ⟨w.heap.size, 1, none⟩ = some (.int .i64 0) := K3.out.cell 1
        have k2 : w3.cell? ⟨w.heap.size, 2, none⟩ = some (.slice none 0 0) := K3.out.cell 2
        have f0 := K3.out.frozen 0
        have f1 := K3.out.frozen 1
        have f2 := K3.out.frozen 2
        have KZ := ((K3.out.set 0 (.int .i64 z)).set 1 (.int .i64 s)).set 2 (.slice av nv cv)
        have e0 := KZ.cell 0
        have e1 := KZ.cell 1
        have e2 := KZ.cell 2
        have HZ := Lib.hid (show RdAt (((w3.setCell ⟨w.heap.size, 0, none⟩ (.int .i64 z)).setCell ⟨w.heap.size, 1, none⟩ (.int .i64 s)).setCell ⟨w.heap.size, 2, none⟩ (.slice av nv cv)) R _ A _ from Blk.other (Blk.other (Blk.other HB3.out _ 0 _ hS) _ 1 _ hS) _ 2 _ hS)
        have HGZ := Lib.hid (grown_far (grown_far (grown_far HG3.out (Nat.le_refl _) 0 (.int .i64 z)) (Nat.le_refl _) 1 (.int .i64 s)) (Nat.le_refl _) 2 (.slice av nv cv))
        have hkt : 54 ≠ 83 := by decide
        have O4 := own_keptT (own_keptT (own_keptT O3.out (grown_set w3 w.heap.size 0 (.int .i64 z)) (.box K3.out hkt)) (grown_set _ w.heap.size 1 (.int .i64 s)) (.box (K3.out.set 0 (.int .i64 z)) hkt)) (grown_set _ w.heap.size 2 (.slice av nv cv)) (.box ((K3.out.set 0 (.int .i64 z)).set 1 (.int .i64 s)) hkt)
        have HOZ := Lib.hid (show OwnPl (((w3.setCell ⟨w.heap.size, 0, none⟩ (.int .i64 z)).setCell ⟨w.heap.size, 1, none⟩ (.int .i64 s)).setCell ⟨w.heap.size, 2, none⟩ (.slice av nv cv)) w.heap.size (.slice av nv cv) ps from O4)
        have HMM := Lib.hid (show bad = true → (br || !Lib.hasPrefix lr [10]) = true from fun h => by rw [M.out h]; rfl)
        clear KZ O4 HB3 HG3 O3 hkt M
        go_wp2_with fail
        refine bodyPost_ret (v := .agg #[.int .i64 z, .int .i64 s, .slice av nv cv]) (by simp [results, Tryz.results94, go_sem, e0, e1, e2]) rfl (HN.out _ _ ⟨⟨z, s, ps⟩, _, _, _, rfl, HOZ.out, ⟨HZ.out, HGZ.out⟩, by simp only; omega, HMM.out, HEND.out⟩)

end Go.Proofs.YtliadobopideaaaGreatDoor
