/- The program's reader of roots: a root. Conditions: the variables that the reader looks at lie there; the text is short. -/
import Derived.Test.YtliadobopideaaaGreatDoorPKRQ
namespace Go.Proofs.YtliadobopideaaaGreatDoor
open Go.RowKit Go.Sort

/-- VOLUMES READ BY NOW: all that is of one lies between two bounds. -/
structure VoY (w : World) (base : Nat) (v : Value) (vs : List VolD) (xs : List Value) (lo : Nat → Nat) : Prop where
  row : w.ownsRow base 51 2 v vs.length xs
  each : ∀ j, j < vs.length → xs[j * 2]? = some (.string (vs.getD j vol0).name) ∧ ∃ u ys, xs[j * 2 + 1]? = some u ∧ PtX w (lo j) u (vs.getD j vol0).blocks ys ∧ (∀ b, u.ownBlock = some b → b < lo (j + 1)) ∧
    ∀ i, i < (vs.getD j vol0).blocks.length → ∀ p b, ys[i * 3 + 2]? = some p → p.ownBlock = some b → b < lo (j + 1)
  low : ∀ j, j ≤ vs.length → base ≤ lo j
  asc : ∀ j, j < vs.length → lo j ≤ lo (j + 1)
  high : lo vs.length ≤ w.heap.size
theorem VoY.keptT {w w' : World} {base : Nat} {v : Value} {vs : List VolD} {xs : List Value} {lo : Nat → Nat} {r : Option Nat} (h : VoY w base v vs xs lo) (G : w.grownBy w' r) (hv : NotT w r 51) (hp : NotT w r 54) (hr : NotT w r 83) : VoY w' base v vs xs lo :=
  ⟨own_keptT h.row G hv, fun j hj => by obtain ⟨a, u, ys, b, c, d, e⟩ := h.each j hj; exact ⟨a, u, ys, b, c.keptT G hp hr, d, e⟩, h.low, h.asc, Nat.le_trans h.high G.size⟩
theorem VoY.below {w w' : World} {base : Nat} {v : Value} {vs : List VolD} {xs : List Value} {lo : Nat → Nat} (h : VoY w base v vs xs lo) (B : Below w.heap.size w w') : VoY w' base v vs xs lo :=
  h.keptT (r := none) ⟨B.os, B.tape, B.output, B.size, fun k hk _ => B.block k hk⟩ (.none _ _) (.none _ _) (.none _ _)
theorem VoY.empty {w : World} {base : Nat} (hb : base ≤ w.heap.size) : VoY w base (.slice none 0 0) [] [] (fun _ => base) :=
  ⟨⟨rfl, .inl ⟨rfl, rfl⟩⟩, fun _ hj => absurd hj (Nat.not_lt_zero _), fun _ _ => Nat.le_refl _, fun _ _ => Nat.le_refl _, hb⟩
theorem VoY.own {w : World} {base : Nat} {v : Value} {vs : List VolD} {xs : List Value} {lo : Nat → Nat} (h : VoY w base v vs xs lo) : OwnVoD w base v vs :=
  ⟨xs, h.row, h.row.1, fun j hj => by obtain ⟨a, u, ys, b, c, _⟩ := h.each j hj; exact ⟨a, u, b, c.own.mono (h.low j (Nat.le_of_lt hj))⟩⟩
theorem PtX.high {w : World} {base : Nat} {v : Value} {ps : List PtrD} {ys : List Value} (h : PtX w base v ps ys) : (∀ b, v.ownBlock = some b → b < w.heap.size) ∧ ∀ i, i < ps.length → ∀ p b, ys[i * 3 + 2]? = some p → p.ownBlock = some b → b < w.heap.size := by
  refine ⟨fun b e => (h.row.lt b e).2, fun i hi p b hp e => ?_⟩
  obtain ⟨_, _, u, c, d⟩ := h.each.2 i hi
  rw [c] at hp
  cases hp
  exact (d.lt b e).2
/-- A volume more. -/
theorem VoY.more {V W w9 : World} {D base g4 cap4 : Nat} {t : Int} {nm : ByteArray} {v u : Value} {vs : List VolD} {xs ys : List Value} {bs : List PtrD} {lo : Nat → Nat} (h0 : VoY V base v vs xs lo) (hVW : V.heap.size ≤ W.heap.size) (h : VoY W base v vs xs lo) (KD : Blk W D #[.int .i64 t, v] 25) (hp : PtX W V.heap.size u bs ys)
    (ho : w9.ownsRow base 51 2 (.slice (some ⟨g4, 0, none⟩) (vs.length + 1) cap4) (vs.length + 1) (xs ++ [.string nm, u])) (hg : (W.alloc (.cells #[.string nm, u] 51)).grownBy w9 v.ownBlock) :
    Blk w9 D #[.int .i64 t, v] 25 ∧ Blk (w9.setCell ⟨D, 1, none⟩ (.slice (some ⟨g4, 0, none⟩) (vs.length + 1) cap4)) D #[.int .i64 t, .slice (some ⟨g4, 0, none⟩) (vs.length + 1) cap4] 25 ∧
      ∃ lo', VoY (w9.setCell ⟨D, 1, none⟩ (.slice (some ⟨g4, 0, none⟩) (vs.length + 1) cap4)) base (.slice (some ⟨g4, 0, none⟩) (vs.length + 1) cap4) (vs ++ [⟨nm, bs⟩]) (xs ++ [.string nm, u]) lo' := by
  have hh := hp.high
  have hWs := h0.high
  have hal : Below W.heap.size W (W.alloc (.cells #[.string nm, u] 51)) := (Below.refl _ _).alloc (Nat.le_refl _) _
  have hW1 := hal.size
  have K1 := KD.below hal KD.lt
  have X1 := h.below hal
  have P1 := hp.below hal
  generalize (W.alloc (.cells #[.string nm, u] 51)) = W1 at *
  have nP : NotT W1 v.ownBlock 54 := .row X1.row (by decide)
  have nL : NotT W1 v.ownBlock 83 := .row X1.row (by decide)
  have K9 := grown_blk K1 hg (own_kind X1.row K1 (by decide))
  have G := grown_set w9 D 1 (.slice (some ⟨g4, 0, none⟩) (vs.length + 1) cap4)
  have sV : NotT w9 (some D) 51 := .box K9 (by decide)
  have sP : NotT w9 (some D) 54 := .box K9 (by decide)
  have sL : NotT w9 (some D) 83 := .box K9 (by decide)
  have hl : xs.length = vs.length * 2 := h.row.1
  have hlo := h.low
  have hasc := h.asc
  refine ⟨K9, K9.set 1 _, fun j => if j ≤ vs.length then lo j else W.heap.size, ⟨?_, fun j hj => ?_, fun j hj => ?_, fun j hj => ?_, ?_⟩⟩
  · rw [List.length_append, List.length_singleton]; exact own_keptT ho G sV
  · rw [List.length_append, List.length_singleton] at hj
    by_cases e : j < vs.length
    · obtain ⟨a, u', ys', b, c, d, d2⟩ := X1.each j e
      rw [getD_left e, List.getElem?_append_left (by omega), List.getElem?_append_left (by omega), if_pos (show j ≤ vs.length by omega), if_pos (show j + 1 ≤ vs.length by omega)]
      exact ⟨a, u', ys', b, (c.keptT hg nP nL).keptT G sP sL, d, d2⟩
    · obtain rfl : j = vs.length := by omega
      rw [getD_end, if_pos (Nat.le_refl _), if_neg (show ¬vs.length + 1 ≤ vs.length by omega), show vs.length * 2 = vs.length * 2 + 0 by omega, at_end _ _ _ hl, show vs.length * 2 + 0 + 1 = vs.length * 2 + 1 by omega, at_end _ _ _ hl]
      exact ⟨rfl, u, ys, rfl, ((P1.mono hWs).keptT hg nP nL).keptT G sP sL, hh.1, hh.2⟩
  · rw [List.length_append, List.length_singleton] at hj
    split
    · exact hlo j (by omega)
    · have := hlo vs.length (Nat.le_refl _); omega
  · rw [List.length_append, List.length_singleton] at hj
    rw [if_pos (show j ≤ vs.length by omega)]
    split
    · exact hasc j (by omega)
    · obtain rfl : j = vs.length := by omega
      omega
  · rw [List.length_append, List.length_singleton, if_neg (show ¬vs.length + 1 ≤ vs.length by omega)]
    exact Nat.le_trans hW1 (Nat.le_trans hg.size G.size)

/-! ### what stands next, as data -/
def sumLine (r : RootD) : List UInt8 := [115, 117, 109] ++ 32 :: dz (sumT r) ++ [10]
theorem full_text (r : RootD) : (fullT r).data.toList = [114, 111, 111, 116, 32] ++ (dz r.txg ++ ([10] ++ (r.vols.flatMap volTx ++ sumLine r))) := by
  unfold fullT bodyT roT sumLine
  simp [ByteArray.data_append, tx, rootHd, volsTx]
def RootMid (l0 : List UInt8) (z : Int) (vs : List VolD) (l : List UInt8) (bad : Bool) : Prop :=
  ∀ (N : Int) (r0 : RootD), RootOkP N r0 → l0 = (fullT r0).data.toList → r0.txg = z ∧ bad = false ∧ ∃ k, k ≤ r0.vols.length ∧ vs = r0.vols.take k ∧ l = (r0.vols.drop k).flatMap volTx ++ sumLine r0
def RootEnd (l0 : List UInt8) (r : RootD) (bad : Bool) : Prop := ∀ (N : Int) (r0 : RootD), RootOkP N r0 → l0 = (fullT r0).data.toList → r = r0 ∧ bad = false
theorem root_begin {l0 : List UInt8} {z : Int} {b2 : Bool} (h1 : NumRel (Lib.trimPrefix l0 [114, 111, 111, 116, 32]) (false || !Lib.hasPrefix l0 [114, 111, 111, 116, 32]) z b2) :
    RootMid l0 z [] (Lib.trimPrefix (restN (Lib.trimPrefix l0 [114, 111, 111, 116, 32])) [10]) (b2 || !Lib.hasPrefix (restN (Lib.trimPrefix l0 [114, 111, 111, 116, 32])) [10]) := by
  intro N r0 hr el
  rw [full_text] at el
  have ht := hr.2.1
  have nf : NoFig ([10] ++ (r0.vols.flatMap volTx ++ sumLine r0)) := fun b r e => by injection e with e _; subst e; decide
  have e1 : Lib.trimPrefix l0 [114, 111, 111, 116, 32] = dz r0.txg ++ ([10] ++ (r0.vols.flatMap volTx ++ sumLine r0)) := by rw [el, trim_self]
  have e2 : Lib.hasPrefix l0 [114, 111, 111, 116, 32] = true := by rw [el, pre_self]
  obtain ⟨rfl, hb⟩ := h1 (by rw [e2]; rfl) r0.txg _ ht.1 (by omega) nf e1
  rw [e1, rest_dz nf, trim_self, pre_self, hb]
  exact ⟨rfl, rfl, 0, Nat.zero_le _, rfl, by rw [List.drop_zero]⟩
theorem root_next {l0 l l' : List UInt8} {z : Int} {vs : List VolD} {bad b' : Bool} {v : VolD} (h : RootMid l0 z vs l bad) (hp : Lib.hasPrefix l [118, 111, 108, 32] = true) (hv : VolEnd bad (Lib.trimPrefix l [118, 111, 108, 32]) v l' b') : RootMid l0 z (vs ++ [v]) l' b' := by
  intro N r0 hr el
  obtain ⟨h1, h2, k, hk, h4, h5⟩ := h N r0 hr el
  rcases Nat.lt_or_ge k r0.vols.length with hlt | hge
  · have hd := List.drop_eq_getElem_cons hlt
    rw [hd, List.flatMap_cons, List.append_assoc, volTx_rest] at h5
    obtain ⟨e1, e2, e3⟩ := hv h2 N _ _ hr.1 (vol_one hr _ (List.getElem_mem hlt)) (by rw [h5, trim_self])
    exact ⟨h1, e3, k + 1, hlt, by rw [List.take_succ_eq_append_getElem hlt, ← h4, e1], e2⟩
  · rw [List.drop_eq_nil_of_le hge] at h5
    rw [h5] at hp
    exact absurd hp (by simp [sumLine, Lib.hasPrefix])
theorem root_end {l0 l : List UInt8} {z : Int} {vs : List VolD} {bad : Bool} (h : RootMid l0 z vs l bad) (hp : Lib.hasPrefix l [118, 111, 108, 32] = false) : RootEnd l0 ⟨z, vs⟩ bad := by
  intro N r0 hr el
  obtain ⟨h1, h2, k, hk, h4, h5⟩ := h N r0 hr el
  rcases Nat.lt_or_ge k r0.vols.length with hlt | hge
  · have hd := List.drop_eq_getElem_cons hlt
    rw [hd, List.flatMap_cons, List.append_assoc, volTx_rest] at h5
    rw [h5, pre_self] at hp
    cases hp
  · obtain rfl : k = r0.vols.length := by omega
    rw [List.take_length] at h4
    obtain ⟨a, b⟩ := r0
    simp only at h1 h4
    subst h1; subst h4
    exact ⟨rfl, h2⟩

/-- How great a root is that was read. -/
def RootSz (N : Nat) (vs : List VolD) : Prop := vs.length ≤ N ∧ ∀ v ∈ vs, v.name.size ≤ N ∧ v.blocks.length = 3 ∧ ∀ p ∈ v.blocks, p.places.length ≤ N
/-- A root is read. -/
def RootRd (n R : Nat) (A : Addr) (l : List UInt8) (w : World) (e : Ending) (w' : World) : Prop :=
  ∃ (r : RootD) (l' : List UInt8) (bad' : Bool) (v : Value) (xs : List Value) (lo : Nat → Nat), e = .returned (.tuple #[.agg #[.int .i64 r.txg, v], errV A bad']) ∧ VoY w' w.heap.size v r.vols xs lo ∧ Rdd n R A w l' bad' w' ∧ RootSz l.length r.vols ∧ (l = [] → bad' = true) ∧ RootEnd l r bad'

set_option linter.unusedSimpArgs false in
set_option linter.unusedVariables false in
set_option maxRecDepth 100000 in
set_option maxHeartbeats 20000000 in
theorem root_any (n R : Nat) (A : Addr) (l : List UInt8) (w : World) (hn : n ≤ R) (hl : l.length ≤ 1000) (hE : Env n w A) (hb : RdAt w R l A false) :
    Calls Tryz.prog 30 #[.pointer (some ⟨R, 0, none⟩)] w (RootRd n R A l w) := by
  obtain ⟨i0, hi0, hz0, hz1, hz2⟩ := info_parts infoVoR
  have HN := Lib.hid (show ∀ e w', (∃ (r : RootD) (l' : List UInt8) (bad' : Bool) (v : Value) (xs : List Value) (lo : Nat → Nat), e = .returned (.tuple #[.agg #[.int .i64 r.txg, v], errV A bad']) ∧ VoY w' w.heap.size v r.vols xs lo ∧ Rdd n R A w l' bad' w' ∧ RootSz l.length r.vols ∧ (l = [] → bad' = true) ∧ RootEnd l r bad') → RootRd n R A l w e w' from fun _ _ h => h)
  generalize RootRd n R A l w = PR at HN ⊢
  have hRl : R < w.heap.size := Blk.lt hb
  have hB0 : Below w.heap.size w ((w.alloc (.cells #[.int .i64 0, .slice none 0 0] 25)).alloc (.cells #[.int .i64 0, .slice none 0 0] 25)) := ((Below.refl _ _).alloc (Nat.le_refl _) _).alloc (by simp) _
  have K0 := Lib.hid (show Blk ((w.alloc (.cells #[.int .i64 0, .slice none 0 0] 25)).alloc (.cells #[.int .i64 0, .slice none 0 0] 25)) w.heap.size #[.int .i64 0, .slice none 0 0] 25 from (Blk.new w #[.int .i64 0, .slice none 0 0] 25).below ((Below.refl _ _).alloc (Nat.le_refl _) _) (by simp))
  have D0 := Lib.hid (show Blk ((w.alloc (.cells #[.int .i64 0, .slice none 0 0] 25)).alloc (.cells #[.int .i64 0, .slice none 0 0] 25)) (w.heap.size + 1) #[.int .i64 0, .slice none 0 0] 25 from by
    have h := Blk.new (w.alloc (.cells #[.int .i64 0, .slice none 0 0] 25)) #[.int .i64 0, .slice none 0 0] 25
    rw [World.size_alloc] at h
    exact h)
  have HE0 := Lib.hid (hE.on (hB0.mono hE.size))
  have HB0 := Lib.hid (hb.below hB0)
  have HG0 := Lib.hid (grown_below' (some R) hB0)
  clear hB0 hE hb
  have hS : w.heap.size ≠ R := by omega
  go_enter Tryz.func30, Tryz.ntmps30
  go_upto_region 2 with (fail)
  generalize (w.alloc (.cells #[.int .i64 0, .slice none 0 0] 25)).alloc (.cells #[.int .i64 0, .slice none 0 0] 25) = w0 at K0 D0 HE0 HB0 HG0 ⊢
  generalize hDD : w.heap.size + 1 = D at D0 ⊢
  have hDs : w.heap.size < D := by omega
  have hDR : D ≠ R := by omega
  clear hDD
  go_wp2_with fail
  refine (must_any n R A l false ⟨#[114, 111, 111, 116, 32]⟩ w0 HE0.out HB0.out).mono ?_
  rintro e w4 ⟨rfl, h⟩
  have HE4 := Lib.hid (h.env HE0.out hn)
  have HB4 := Lib.hid h.box
  have HG4 := Lib.hid (grown_trans HG0.out h.grown)
  have K4 := Lib.hid (K0.out.kept h.grown hS)
  have D4 := Lib.hid (D0.out.kept h.grown hDR)
  clear h HE0 HB0 HG0 K0 D0
  have l4 := trim_le l [114, 111, 111, 116, 32]
  have HB4 := Lib.hid (show RdAt w4 R (Lib.trimPrefix l [114, 111, 111, 116, 32]) A (false || !Lib.hasPrefix l [114, 111, 111, 116, 32]) from HB4.out)
  go_wp2_with fail
  refine (number_any n R A _ _ w4 hn (by omega) HE4.out HB4.out).mono ?_
  rintro e w5 ⟨z, b5, rfl, h, m5, p5⟩
  have HE5 := Lib.hid (h.env HE4.out hn)
  have HB5 := Lib.hid h.box
  have HG5 := Lib.hid (grown_trans HG4.out h.grown)
  have K5 := Lib.hid (K4.out.kept h.grown hS)
  have D5 := Lib.hid (D4.out.kept h.grown hDR)
  clear h HE4 HB4 HG4 K4 D4
  have l5 := restN_le (Lib.trimPrefix l [114, 111, 111, 116, 32])
  have HBEG := Lib.hid (root_begin p5)
  have M5 := Lib.hid (show l = [] → b5 = true from fun h => m5 (by rw [h]; rfl))
  clear p5 m5
  have d0 : w5.cell? ⟨D, 0, none⟩ = some (.int .i64 0) := D5.out.cell 0
  have f0 := D5.out.frozen 0
  have HE5 := Lib.hid (HE5.out.on (below_far HE5.out HG5.out hRl hn (Nat.le_of_lt hDs) 0 (.int .i64 z)))
  have HB5 := Lib.hid (show RdAt (w5.setCell ⟨D, 0, none⟩ (.int .i64 z)) R _ A b5 from Blk.other HB5.out D 0 _ hDR)
  have HG5 := Lib.hid (grown_far HG5.out (Nat.le_of_lt hDs) 0 (.int .i64 z))
  have K5 := Lib.hid (K5.out.other D 0 (.int .i64 z) (by omega))
  have D5 := Lib.hid (show Blk (w5.setCell ⟨D, 0, none⟩ (.int .i64 z)) D #[.int .i64 z, .slice none 0 0] 25 from D5.out.set 0 (.int .i64 z))
  go_upto_region 4 with (fail)
  clear d0 f0
  generalize w5.setCell ⟨D, 0, none⟩ (.int .i64 z) = w5' at HE5 HB5 HG5 K5 D5 ⊢
  go_wp2_with fail
  refine (must_any n R A _ _ ⟨#[10]⟩ w5' HE5.out HB5.out).mono ?_
  rintro e w7 ⟨rfl, h⟩
  have HE7 := Lib.hid (h.env HE5.out hn)
  have HB7 := Lib.hid h.box
  have HG7 := Lib.hid (grown_trans HG5.out h.grown)
  have K7 := Lib.hid (K5.out.kept h.grown hS)
  have D7 := Lib.hid (D5.out.kept h.grown hDR)
  clear h HE5 HB5 HG5 K5 D5
  have l7 := trim_le (restN (Lib.trimPrefix l [114, 111, 111, 116, 32])) [10]
  have HB7 := Lib.hid (show RdAt w7 R (Lib.trimPrefix (restN (Lib.trimPrefix l [114, 111, 111, 116, 32])) [10]) A (b5 || !Lib.hasPrefix (restN (Lib.trimPrefix l [114, 111, 111, 116, 32])) [10]) from HB7.out)
  have M7 := Lib.hid (show l = [] → (b5 || !Lib.hasPrefix (restN (Lib.trimPrefix l [114, 111, 111, 116, 32])) [10]) = true from fun h => by rw [M5.out h]; rfl)
  generalize (b5 || !Lib.hasPrefix (restN (Lib.trimPrefix l [114, 111, 111, 116, 32])) [10]) = b7 at HB7 HBEG M7
  generalize Lib.trimPrefix (restN (Lib.trimPrefix l [114, 111, 111, 116, 32])) [10] = l8 at HB7 HBEG l7
  have l8l : l8.length ≤ l.length := by omega
  clear l4 l5 l7 M5
  have hs7 := HG7.out.size
  go_upto_region 5 with (fail)
  go_loopw [] (fun wr => ∃ (lr : List UInt8) (br : Bool) (vs : List VolD) (v : Value) (xs : List Value) (lo : Nat → Nat), Hid (Env n wr A) ∧ Hid (RdAt wr R lr A br) ∧ Hid (w.grownBy wr (some R)) ∧ Hid (Blk wr w.heap.size #[.int .i64 0, .slice none 0 0] 25) ∧ Hid (Blk wr D #[.int .i64 z, v] 25) ∧ Hid (VoY wr w.heap.size v vs xs lo) ∧ vs.length + lr.length ≤ l.length ∧ Hid (∀ v ∈ vs, v.name.size ≤ l.length ∧ v.blocks.length = 3 ∧ ∀ p ∈ v.blocks, p.places.length ≤ l.length) ∧ Hid (l = [] → br = true) ∧ Hid (RootMid l z vs lr br)) (fun wr => restLen R wr)
  case atStart => exact ⟨l8, b7, [], .slice none 0 0, [], _, HE7, HB7, HG7, K7, D7, VoY.empty hs7, by simpa using l8l, (fun p hp => by cases hp), M7, HBEG⟩
  case round =>
    obtain ⟨lr, br, vs, v, xs, lo, HE, HB, HG, K, DD, OP, hlen, HSZ, M, MID⟩ := hrel
    clear HE7 HB7 HG7 K7 D7 M7 HBEG l8l hs7
    have HH : Hid (Calls Tryz.prog 60 #[.pointer (some ⟨R, 0, none⟩), .string ⟨#[118, 111, 108, 32]⟩] wr fun e w' => e = .returned (.bool (Lib.hasPrefix lr [118, 111, 108, 32])) ∧ Rdd n R A wr (Lib.trimPrefix lr [118, 111, 108, 32]) br w') := has_any n R A lr br ⟨#[118, 111, 108, 32]⟩ wr hn HE.out HB.out
    have hrest := Lib.hid (rest_len HB.out)
    cases hsp : Lib.hasPrefix lr [118, 111, 108, 32] with
    | true =>
      rw [hsp] at HH
      have hlt := trim_lt hsp (by simp)
      have HSP := Lib.hid hsp
      clear hsp
      go_wp2_with fail
      refine HH.out.mono ?_
      rintro e w2 ⟨rfl, h⟩
      have HE2 := Lib.hid ((h.env HE.out hn).on (Below.refl _ _).drew)
      have HB2 := Lib.hid (show RdAt w2.drew R _ A br from h.box)
      have HG2 := Lib.hid (show w.grownBy w2.drew (some R) from grown_drewX (grown_trans HG.out h.grown))
      have K2 := Lib.hid (K.out.kept (grown_drewX h.grown) hS)
      have D2 := Lib.hid (DD.out.kept (grown_drewX h.grown) hDR)
      have O2 := Lib.hid (OP.out.keptT (grown_drewX h.grown) (.box HB.out (by decide)) (.box HB.out (by decide)) (.box HB.out (by decide)))
      clear h HH HE HB HG K DD OP
      have sD : w2.drew.cell? ⟨D, 1, none⟩ = some v := D2.out.cell 1
      go_upto_region 6 with (fail)
      refine AnyS.start (S := (fun w' : World => w'.cell? ⟨D, 1, none⟩ = some v)) (L := 7) (by kernel_rfl) ?_
      generalize w2.drew = W at HE2 HB2 HG2 K2 D2 O2 sD ⊢
      refine AnyS.take 0 (show _ = some _ from rfl) rfl (by kernel_rfl) (by kernel_rfl) (by kernel_rfl) (by kernel_rfl) (fun _ _ _ h => h) sD (by rfl) (fun w' hSw => by have s1 := hSw; go_simp; try with_reducible rfl) ?_
      try simp only [Act.put, List.setIfInBounds_toArray, List.set_cons_zero, List.set_cons_succ]
      refine AnyS.take 1 (show _ = some _ from rfl) rfl (by kernel_rfl) (by kernel_rfl) (by kernel_rfl) (by kernel_rfl) (fun _ _ _ h => h) sD (by rfl) (fun w' hSw => by have s1 := hSw; go_simp; try with_reducible rfl) ?_
      try simp only [Act.put, List.setIfInBounds_toArray, List.set_cons_zero, List.set_cons_succ]
      refine AnyS.take 2 (show _ = some _ from rfl) rfl (by kernel_rfl) (by kernel_rfl) (by kernel_rfl) (by kernel_rfl) (fun _ _ _ h => h) sD (by rfl) (fun w' hSw => by have s1 := hSw; go_simp; try with_reducible rfl) ?_
      try simp only [Act.put, List.setIfInBounds_toArray, List.set_cons_zero, List.set_cons_succ]
      refine AnyS.one 3 (by kernel_rfl) (show _ = some _ from rfl) (fun K' hK' => ?_)
      go_simp
      go_at_call 61
      refine (vol_any n R A _ br W hn (by omega) HE2.out HB2.out).mono ?_
      rintro e w3 ⟨vd, l3, b3, u, ys, rfl, hpx, h, hnm, hb3, hl3, hpp, m3, q3⟩
      obtain ⟨nm, bs⟩ := vd
      simp only at hpx hnm hb3 hpp q3 ⊢
      obtain ⟨ua, un, uc, rfl⟩ : ∃ a n c, u = .slice a n c := by
        rcases hpx.row.2 with ⟨e, _⟩ | ⟨_, _, _, e, _⟩
        · exact ⟨_, _, _, e⟩
        · exact ⟨_, _, _, e⟩
      have HPX := Lib.hid hpx
      have hVW : W.heap.size ≤ w3.heap.size := h.grown.size
      have HE3 := Lib.hid (h.env HE2.out hn)
      have HB3 := Lib.hid h.box
      have HG3 := Lib.hid (grown_trans HG2.out h.grown)
      have K3 := Lib.hid (K2.out.kept h.grown hS)
      have D3 := Lib.hid (D2.out.kept h.grown hDR)
      have O3 := Lib.hid (O2.out.keptT h.grown (.box HB2.out (by decide)) (.box HB2.out (by decide)) (.box HB2.out (by decide)))
      have MID3 := Lib.hid (root_next MID.out HSP.out q3)
      have M3 := Lib.hid (show l = [] → b3 = true from fun hh => m3 (M.out hh))
      have HSZ3 := Lib.hid (show ∀ v ∈ vs ++ [(⟨nm, bs⟩ : VolD)], v.name.size ≤ l.length ∧ v.blocks.length = 3 ∧ ∀ p ∈ v.blocks, p.places.length ≤ l.length from fun x hx => by
        rcases List.mem_append.1 hx with hx | hx
        · exact HSZ.out x hx
        · simp only [List.mem_singleton] at hx
          subst hx
          exact ⟨by simp only; omega, hb3, fun p hp => by have := hpp p hp; omega⟩)
      have sD3 : w3.cell? ⟨D, 1, none⟩ = some v := D3.out.cell 1
      clear h m3 q3 HE2 HB2 HG2 K2 D2 MID M HSP sD hpx hnm hb3 hpp HSZ
      go_simp
      refine hK' _ _ ⟨?_, fun _ => sD3⟩
      clear hK' K'
      try simp only [Act.put, List.setIfInBounds_toArray, List.set_cons_zero, List.set_cons_succ]
      have hal : Below w3.heap.size w3 (w3.alloc (.cells #[.string nm, .slice ua un uc] 51)) := (Below.refl _ _).alloc (Nat.le_refl _) _
      have sD4 := cell_below hal sD3
      have hown := own_below O3.out.row hal
      have hnews := World.news_of_block (Blk.new w3 #[.string nm, .slice ua un uc] 51)
      have hbase : w.heap.size ≤ (w3.alloc (.cells #[.string nm, .slice ua un uc] 51)).heap.size := Nat.le_trans HG3.out.size hal.size
      have hvb : vs.length ≤ 1000 := by omega
      have HE4 := Lib.hid (HE3.out.on (hal.mono HE3.out.size))
      have HB4 := Lib.hid (HB3.out.below hal)
      have K4 := Lib.hid (K3.out.below hal K3.out.lt)
      have HG4 := Lib.hid (grown_trans HG3.out (grown_below' _ hal))
      clear hal
      refine AnyS.one 4 (by kernel_rfl) (show _ = some _ from rfl) (fun K' hK' => ?_)
      go_simp
      refine hK' _ _ ⟨?_, fun _ => sD4⟩
      clear hK' K'
      try simp only [Act.put, List.setIfInBounds_toArray, List.set_cons_zero, List.set_cons_succ]
      refine AnyS.one 5 (by kernel_rfl) (show _ = some _ from rfl) (fun K' hK' => ?_)
      refine step_append_lies _ (by rfl) _ _ 23 (by rfl) w.heap.size 51 i0 _ 2 40 Tryz.underlying23 hi0 hz0 hz1 hz2 rfl (by omega) _ vs.length xs (by rfl) hown ⟨_, 0, none⟩ 1 1 [.string nm, .slice ua un uc] (by rfl) rfl hnews (by simp [Value.oneCell']) (by omega) (by unfold maxLen; omega) (by omega) hbase _ rfl ?_
      intro g4 cap4 w9 hown4 hgrow4 hat4 hlt4
      obtain ⟨D9, DN, lo', ON⟩ := O2.out.more hVW O3.out D3.out HPX.out hown4 hgrow4
      have sD9 : w9.cell? ⟨D, 1, none⟩ = some v := D9.cell 1
      have f9 := D9.frozen 1
      have B9 := grown_blk HB4.out hgrow4 (own_kind hown HB4.out (by decide))
      have HB9 := Lib.hid (show RdAt (w9.setCell ⟨D, 1, none⟩ (.slice (some ⟨g4, 0, none⟩) (vs.length + 1) cap4)) R l3 A b3 from Blk.other B9 D 1 _ hDR)
      have K9 := Lib.hid ((grown_blk K4.out hgrow4 (own_kind hown K4.out (by decide))).other D 1 (.slice (some ⟨g4, 0, none⟩) (vs.length + 1) cap4) (by omega))
      have hge := fun b e => (hown.lt b e).1
      have G9 := grown_row HG4.out hgrow4 hge
      have HG9 := Lib.hid (grown_far G9 (Nat.le_of_lt hDs) 1 (.slice (some ⟨g4, 0, none⟩) (vs.length + 1) cap4))
      have E9 := HE4.out.on (below_row hgrow4 HE4.out.size (fun b e => by have := hge b e; omega))
      have HE9 := Lib.hid (E9.on (below_far E9 G9 hRl hn (Nat.le_of_lt hDs) 1 (.slice (some ⟨g4, 0, none⟩) (vs.length + 1) cap4)))
      have HDN := Lib.hid DN
      have HON := Lib.hid ON
      clear D9 DN ON B9 hge G9 E9 hown4 hgrow4 hat4 hlt4 O2 HPX
      refine hK' _ _ ⟨?_, fun _ => sD9⟩
      clear hK' K'
      try simp only [Act.put, List.setIfInBounds_toArray, List.set_cons_zero, List.set_cons_succ]
      refine AnyS.one 6 (by kernel_rfl) (show _ = some _ from rfl) (fun K' hK' => ?_)
      go_simp
      refine hK' _ _ ⟨?_, fun _ => sD9⟩
      clear hK' K'
      try simp only [Act.put, List.setIfInBounds_toArray, List.set_cons_zero, List.set_cons_succ]
      refine AnyS.one 7 (by kernel_rfl) (show _ = some _ from rfl) (fun K' hK' => ?_)
      go_simp
      refine hK' _ _ ⟨AnyS.done (by kernel_rfl) ?_, fun h => absurd rfl h⟩
      clear hK' K'
      try simp only [Act.put, List.setIfInBounds_toArray, List.set_cons_zero, List.set_cons_succ]
      go_wp2_with fail
      exact ⟨⟨l3, b3, _, _, _, _, HE9, HB9, HG9, K9, HDN, HON, by rw [List.length_append, List.length_singleton]; omega, HSZ3, M3, MID3⟩, by rw [rest_len HB9.out, hrest.out]; omega⟩
    | false =>
      rw [hsp] at HH
      have htr : Lib.trimPrefix lr [118, 111, 108, 32] = lr := by unfold Lib.trimPrefix; rw [if_neg (by rw [hsp]; decide)]
      rw [htr] at HH
      have HEND := Lib.hid (root_end MID.out hsp)
      clear hsp htr MID
      go_wp2_with fail
      refine HH.out.mono ?_
      rintro e w2 ⟨rfl, h⟩
      have HE3 := Lib.hid (h.env HE.out hn)
      have HB3 := Lib.hid (show RdAt w2.drew R lr A br from h.box)
      have HG3 := Lib.hid (grown_drewX (grown_trans HG.out h.grown))
      have K3 := Lib.hid (K.out.kept (grown_drewX h.grown) hS)
      have D3 := Lib.hid (DD.out.kept (grown_drewX h.grown) hDR)
      have O3 := Lib.hid (OP.out.keptT (grown_drewX h.grown) (.box HB.out (by decide)) (.box HB.out (by decide)) (.box HB.out (by decide)))
      clear h HH HE HB HG K DD OP
      obtain ⟨av, nv, cv, rfl⟩ : ∃ a n c, v = .slice a n c := by
        rcases O3.out.row.2 with ⟨e, _⟩ | ⟨_, _, _, e, _⟩
        · exact ⟨_, _, _, e⟩
        · exact ⟨_, _, _, e⟩
      have d0 : w2.drew.cell? ⟨D, 0, none⟩ = some (.int .i64 z) := D3.out.cell 0
      have d1 : w2.drew.cell? ⟨D, 1, none⟩ = some (.slice av nv cv) := D3.out.cell 1
      have r1 : w2.drew.cell? ⟨R, 1, none⟩ = some (errV A br) := Blk.cell HB3.out 1
      have k0 : w2.drew.cell? ⟨w.heap.size, 0, none⟩ = some (.int .i64 0) := K3.out.cell 0
      have k1 : w2.drew.cell? ⟨w.heap.size, 1, none⟩ = some (.slice none 0 0) := K3.out.cell 1
      have f0 := K3.out.frozen 0
      have f1 := K3.out.frozen 1
      have HSR := Lib.hid (show RootSz l.length vs from ⟨by omega, HSZ.out⟩)
      have hkr : 25 ≠ 60 := by decide
      have HZ := Lib.hid (show RdAt ((w2.drew.setCell ⟨w.heap.size, 0, none⟩ (.int .i64 z)).setCell ⟨w.heap.size, 1, none⟩ (.slice av nv cv)) R lr A br from Blk.other (Blk.other HB3.out _ 0 _ hS) _ 1 _ hS)
      have HGZ := Lib.hid (grown_far (grown_far HG3.out (Nat.le_refl _) 0 (.int .i64 z)) (Nat.le_refl _) 1 (.slice av nv cv))
      have KZ := Lib.hid ((K3.out.set 0 (.int .i64 z)).set 1 (.slice av nv cv))
      have HOZ := Lib.hid ((O3.out.keptT (grown_set w2.drew w.heap.size 0 (.int .i64 z)) (.box K3.out (by decide)) (.box K3.out (by decide)) (.box K3.out (by decide))).keptT (grown_set _ w.heap.size 1 (.slice av nv cv)) (.box (K3.out.set 0 (.int .i64 z)) (by decide)) (.box (K3.out.set 0 (.int .i64 z)) (by decide)) (.box (K3.out.set 0 (.int .i64 z)) (by decide)))
      go_upto_region 7 with (fail)
      refine AnyT.start (S := (fun w' : World => w'.cell? ⟨D, 0, none⟩ = some (.int .i64 z) ∧ w'.cell? ⟨D, 1, none⟩ = some (.slice av nv cv) ∧ w'.cell? ⟨R, 1, none⟩ = some (errV A br))) (by kernel_rfl) ?_
      generalize w2.drew = W at d0 d1 r1 k0 k1 f0 f1 HZ HGZ KZ HOZ D3 HB3 ⊢
      refine AnyT.take 0 (show _ = some _ from rfl) rfl (by kernel_rfl) (by kernel_rfl) (by kernel_rfl) (fun _ _ _ h => h) ⟨d0, d1, r1⟩ (by first | kernel_rfl | rfl) (fun w' hSw => by obtain ⟨s1, s2, s3⟩ := hSw; go_simp; try with_reducible rfl) ?_
      try simp only [Act.put, List.setIfInBounds_toArray, List.set_cons_zero, List.set_cons_succ]
      refine AnyT.take 1 (show _ = some _ from rfl) rfl (by kernel_rfl) (by kernel_rfl) (by kernel_rfl) (fun _ _ _ h => h) ⟨d0, d1, r1⟩ (by first | kernel_rfl | rfl) (fun w' hSw => by obtain ⟨s1, s2, s3⟩ := hSw; go_simp; try with_reducible rfl) ?_
      try simp only [Act.put, List.setIfInBounds_toArray, List.set_cons_zero, List.set_cons_succ]
      refine AnyT.take 2 (show _ = some _ from rfl) rfl (by kernel_rfl) (by kernel_rfl) (by kernel_rfl) (fun _ _ _ h => h) ⟨d0, d1, r1⟩ (by first | kernel_rfl | rfl) (fun w' hSw => by obtain ⟨s1, s2, s3⟩ := hSw; go_simp; try with_reducible rfl) ?_
      try simp only [Act.put, List.setIfInBounds_toArray, List.set_cons_zero, List.set_cons_succ]
      refine AnyT.take 3 (show _ = some _ from rfl) rfl (by kernel_rfl) (by kernel_rfl) (by kernel_rfl) (fun _ _ _ h => h) ⟨d0, d1, r1⟩ (by first | kernel_rfl | rfl) (fun w' hSw => by obtain ⟨s1, s2, s3⟩ := hSw; go_simp; try with_reducible rfl) ?_
      try simp only [Act.put, List.setIfInBounds_toArray, List.set_cons_zero, List.set_cons_succ]
      refine AnyT.take 4 (show _ = some _ from rfl) rfl (by kernel_rfl) (by kernel_rfl) (by kernel_rfl) (fun _ _ _ h => h) ⟨d0, d1, r1⟩ (by first | kernel_rfl | rfl) (fun w' hSw => by obtain ⟨s1, s2, s3⟩ := hSw; go_simp; try with_reducible rfl) ?_
      try simp only [Act.put, List.setIfInBounds_toArray, List.set_cons_zero, List.set_cons_succ]
      have d0' := (D3.out.other w.heap.size 0 (.int .i64 z) (by omega)).other w.heap.size 1 (.slice av nv cv) (by omega)
      have s0 := d0'.cell 0
      have s1 := d0'.cell 1
      have s2 := Blk.cell HZ.out 1
      have e0 := KZ.out.cell 0
      have e1 := KZ.out.cell 1
      clear d0'
      refine AnyT.one 5 (by kernel_rfl) (show _ = some _ from rfl) (fun K' hK' => ?_)
      go_simp
      refine hK' _ _ ⟨?_, s0, s1, s2⟩
      clear hK' K'
      try simp only [Act.put, List.setIfInBounds_toArray, List.set_cons_zero, List.set_cons_succ]
      refine AnyT.one 6 (by kernel_rfl) (show _ = some _ from rfl) (fun K' hK' => ?_)
      go_simp
      refine hK' _ _ ⟨AnyT.done (by kernel_rfl) ?_, s0, s1, s2⟩
      clear hK' K'
      try simp only [Act.put, List.setIfInBounds_toArray, List.set_cons_zero, List.set_cons_succ]
      clear d0 d1 r1 k0 k1 f0 f1 s0 s1 s2
      go_wp2_with fail
      refine bodyPost_ret (v := .tuple #[.agg #[.int .i64 z, .slice av nv cv], errV A br]) (by simp [results, Tryz.results30, go_sem, e0, e1]) rfl (HN.out _ _ ⟨⟨z, vs⟩, _, br, _, _, _, rfl, HOZ.out, ⟨HZ.out, HGZ.out⟩, HSR.out, M.out, HEND.out⟩)

end Go.Proofs.YtliadobopideaaaGreatDoor
