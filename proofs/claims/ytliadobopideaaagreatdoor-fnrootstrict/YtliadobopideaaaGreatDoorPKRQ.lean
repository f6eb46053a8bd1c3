/- The program's reader of roots: a volume. Conditions: the variables that the reader looks at lie there; the text is short. -/
import Derived.Test.YtliadobopideaaaGreatDoorPKRP
namespace Go.Proofs.YtliadobopideaaaGreatDoor
open Go.RowKit Go.Sort

/-- POINTERS READ BY NOW, each one's places in a row behind those of all ahead of it. -/
structure PtX (w : World) (base : Nat) (v : Value) (ps : List PtrD) (ys : List Value) : Prop where
  row : w.ownsRow base 54 3 v ps.length ys
  each : PtRowD w base ps ps.length ys
  asc : ∀ i j ui uj bi bj, i < j → j < ps.length → ys[i * 3 + 2]? = some ui → ys[j * 3 + 2]? = some uj → ui.ownBlock = some bi → uj.ownBlock = some bj → bi < bj
theorem PtRowD.keptT {w w' : World} {base : Nat} {ps : List PtrD} {k : Nat} {ys : List Value} {r : Option Nat} (h : PtRowD w base ps k ys) (G : w.grownBy w' r) (hr : NotT w r 83) : PtRowD w' base ps k ys :=
  ⟨h.1, fun j hj => by obtain ⟨a, b, u, c, d⟩ := h.2 j hj; exact ⟨a, b, u, c, d.keptT G hr⟩⟩
theorem PtX.keptT {w w' : World} {base : Nat} {v : Value} {ps : List PtrD} {ys : List Value} {r : Option Nat} (h : PtX w base v ps ys) (G : w.grownBy w' r) (hp : NotT w r 54) (hr : NotT w r 83) : PtX w' base v ps ys :=
  ⟨own_keptT h.row G hp, h.each.keptT G hr, h.asc⟩
theorem PtX.below {w w' : World} {base : Nat} {v : Value} {ps : List PtrD} {ys : List Value} (h : PtX w base v ps ys) (B : Below w.heap.size w w') : PtX w' base v ps ys :=
  h.keptT (r := none) ⟨B.os, B.tape, B.output, B.size, fun k hk _ => B.block k hk⟩ (.none _ _) (.none _ _)
theorem PtX.empty (w : World) (base : Nat) : PtX w base (.slice none 0 0) [] [] := ⟨⟨rfl, .inl ⟨rfl, rfl⟩⟩, ⟨rfl, fun _ hj => absurd hj (Nat.not_lt_zero _)⟩, fun _ _ _ _ _ _ _ h => absurd h (Nat.not_lt_zero _)⟩
theorem PtX.mono {w : World} {base base' : Nat} {v : Value} {ps : List PtrD} {ys : List Value} (h : PtX w base v ps ys) (hb : base' ≤ base) : PtX w base' v ps ys := ⟨own_mono h.row hb, h.each.mono hb, h.asc⟩
theorem PtX.own {w : World} {base : Nat} {v : Value} {ps : List PtrD} {ys : List Value} (h : PtX w base v ps ys) : OwnPtD w base v ps := ⟨ys, h.row, h.each⟩
/-- A pointer more. -/
theorem PtX.more {V W w9 : World} {D base g4 cap4 : Nat} {nm : ByteArray} {z s : Int} {v pv : Value} {ps : List PtrD} {ys : List Value} {pl : List PlD} (h0 : PtX V base v ps ys) (hs : base ≤ V.heap.size) (h : PtX W base v ps ys) (KD : Blk W D #[.string nm, v] 51) (hpv : OwnPl W V.heap.size pv pl)
    (ho : w9.ownsRow base 54 3 (.slice (some ⟨g4, 0, none⟩) (ps.length + 1) cap4) (ps.length + 1) (ys ++ [.int .i64 z, .int .i64 s, pv])) (hg : (W.alloc (.cells #[.int .i64 z, .int .i64 s, pv] 54)).grownBy w9 v.ownBlock) :
    Blk w9 D #[.string nm, v] 51 ∧ Blk (w9.setCell ⟨D, 1, none⟩ (.slice (some ⟨g4, 0, none⟩) (ps.length + 1) cap4)) D #[.string nm, .slice (some ⟨g4, 0, none⟩) (ps.length + 1) cap4] 51 ∧
      PtX (w9.setCell ⟨D, 1, none⟩ (.slice (some ⟨g4, 0, none⟩) (ps.length + 1) cap4)) base (.slice (some ⟨g4, 0, none⟩) (ps.length + 1) cap4) (ps ++ [⟨z, s, pl⟩]) (ys ++ [.int .i64 z, .int .i64 s, pv]) := by
  have hal : Below W.heap.size W (W.alloc (.cells #[.int .i64 z, .int .i64 s, pv] 54)) := (Below.refl _ _).alloc (Nat.le_refl _) _
  have K1 := KD.below hal KD.lt
  have X1 := h.below hal
  have P1 := hpv.below hal
  generalize (W.alloc (.cells #[.int .i64 z, .int .i64 s, pv] 54)) = W1 at *
  have nL : NotT W1 v.ownBlock 83 := .row X1.row (by decide)
  have K9 := grown_blk K1 hg (own_kind X1.row K1 (by decide))
  have G := grown_set w9 D 1 (.slice (some ⟨g4, 0, none⟩) (ps.length + 1) cap4)
  have sP : NotT w9 (some D) 54 := .box K9 (by decide)
  have sL : NotT w9 (some D) 83 := .box K9 (by decide)
  have hly : ys.length = ps.length * 3 := h.each.1
  refine ⟨K9, K9.set 1 _, ⟨?_, ⟨by simp [hly]; omega, fun j hj => ?_⟩, fun i j ui uj bi bj hij hj hi hj2 hbi hbj => ?_⟩⟩
  · rw [List.length_append, List.length_singleton]; exact own_keptT ho G sP
  · rw [List.length_append, List.length_singleton] at hj
    by_cases e : j < ps.length
    · obtain ⟨a, b, u', c, d⟩ := X1.each.2 j e
      rw [getD_left e, List.getElem?_append_left (by omega), List.getElem?_append_left (by omega), List.getElem?_append_left (by omega)]
      exact ⟨a, b, u', c, (d.keptT hg nL).keptT G sL⟩
    · obtain rfl : j = ps.length := by omega
      rw [getD_end]
      generalize ps.length = m at *
      refine ⟨?_, ?_, pv, ?_, ((OwnPl.mono P1 hs).keptT hg nL).keptT G sL⟩
      · rw [show m * 3 = m * 3 + 0 by omega, at_end _ _ _ hly]; rfl
      · rw [at_end _ _ _ hly]; rfl
      · rw [at_end _ _ _ hly]; rfl
  · rw [List.length_append, List.length_singleton] at hj
    rw [List.getElem?_append_left (by omega)] at hi
    by_cases e : j < ps.length
    · rw [List.getElem?_append_left (by omega)] at hj2
      exact h.asc i j ui uj bi bj hij e hi hj2 hbi hbj
    · obtain rfl : j = ps.length := by omega
      rw [at_end _ _ _ hly] at hj2
      cases hj2
      obtain ⟨_, _, u', c, d⟩ := h0.each.2 i (by omega)
      rw [c] at hi
      cases hi
      have h1 := (d.lt bi hbi).2
      have h2 := (hpv.lt bj hbj).1
      omega

/-! ### what stands next, as data -/
/-- What stands behind a volume's first word. -/
def volRest (v : VolD) (t : List UInt8) : List UInt8 := v.name.data.toList ++ 10 :: (v.blocks.flatMap ptrTx ++ t)
theorem volTx_rest (v : VolD) (t : List UInt8) : volTx v ++ t = [118, 111, 108, 32] ++ volRest v t := by
  unfold volTx volHd blocksTx volRest
  rw [List.take_length]; simp
def VolMid (bad0 : Bool) (l0 : List UInt8) (nm : List UInt8) (ps : List PtrD) (l : List UInt8) (bad : Bool) : Prop :=
  bad0 = false → ∀ (N : Int) (v0 : VolD) (t : List UInt8), Pool N → VolOne N v0 → l0 = volRest v0 t → tx nm = v0.name ∧ bad = false ∧ ∃ k, k = ps.length ∧ ps = v0.blocks.take k ∧ l = (v0.blocks.drop k).flatMap ptrTx ++ t
def VolEnd (bad0 : Bool) (l0 : List UInt8) (v : VolD) (l : List UInt8) (bad : Bool) : Prop :=
  bad0 = false → ∀ (N : Int) (v0 : VolD) (t : List UInt8), Pool N → VolOne N v0 → l0 = volRest v0 t → v = v0 ∧ l = t ∧ bad = false
theorem vol_begin {bad0 : Bool} {l0 : List UInt8} : VolMid bad0 l0 (headN l0) [] (Lib.trimPrefix (Lib.trimPrefix l0 (headN l0)) [10]) (bad0 || !Lib.hasPrefix (Lib.trimPrefix l0 (headN l0)) [10]) := by
  intro hb N v0 t hN hv el
  unfold volRest at el
  have e1 : headN l0 = v0.name.data.toList := by rw [el]; exact head_nl (name_no hv.1)
  have e2 : Lib.trimPrefix l0 (headN l0) = [10] ++ (v0.blocks.flatMap ptrTx ++ t) := by rw [e1, el, trim_self]; rfl
  rw [e2, trim_self, pre_self, hb, e1]
  exact ⟨rfl, rfl, 0, rfl, rfl, by rw [List.drop_zero]⟩
theorem vol_next {bad0 bad b' : Bool} {l0 nm l l' : List UInt8} {ps : List PtrD} {p : PtrD} (h : VolMid bad0 l0 nm ps l bad) (h3 : ps.length < 3) (hp : PtrEnd bad l p l' b') : VolMid bad0 l0 nm (ps ++ [p]) l' b' := by
  intro hb N v0 t hN hv el
  obtain ⟨h1, h2, k, rfl, h4, h5⟩ := h hb N v0 t hN hv el
  have hlt : ps.length < v0.blocks.length := by rw [hv.2.1]; exact h3
  have hd := List.drop_eq_getElem_cons hlt
  rw [hd, List.flatMap_cons, List.append_assoc] at h5
  obtain ⟨e1, e2, e3⟩ := hp h2 N _ _ hN (hv.2.2 _ (List.getElem_mem hlt)) h5
  exact ⟨h1, e3, ps.length + 1, by simp, by rw [List.take_succ_eq_append_getElem hlt, ← h4, e1], e2⟩
theorem vol_end {bad0 bad : Bool} {l0 nm l : List UInt8} {ps : List PtrD} (h : VolMid bad0 l0 nm ps l bad) (h3 : ps.length = 3) : VolEnd bad0 l0 ⟨tx nm, ps⟩ l bad := by
  intro hb N v0 t hN hv el
  obtain ⟨h1, h2, k, rfl, h4, h5⟩ := h hb N v0 t hN hv el
  have hl : ps.length = v0.blocks.length := by rw [h3, hv.2.1]
  rw [hl, List.take_length] at h4
  rw [hl, List.drop_length] at h5
  obtain ⟨a, b⟩ := v0
  simp only at h1 h4
  subst h1; subst h4
  exact ⟨rfl, h5, h2⟩

/-- A volume is read. -/
def VolRd (n R : Nat) (A : Addr) (l : List UInt8) (bad : Bool) (w : World) (e : Ending) (w' : World) : Prop :=
  ∃ (vd : VolD) (l' : List UInt8) (bad' : Bool) (v : Value) (ys : List Value), e = .returned (.agg #[.string vd.name, v]) ∧ PtX w' w.heap.size v vd.blocks ys ∧ Rdd n R A w l' bad' w' ∧ vd.name.size ≤ l.length ∧ vd.blocks.length = 3 ∧ l'.length ≤ l.length ∧ (∀ p ∈ vd.blocks, p.places.length ≤ l.length) ∧ (bad = true → bad' = true) ∧ VolEnd bad l vd l' bad'

set_option linter.unusedSimpArgs false in
set_option linter.unusedVariables false in
set_option maxRecDepth 100000 in
set_option maxHeartbeats 20000000 in
theorem vol_any (n R : Nat) (A : Addr) (l : List UInt8) (bad : Bool) (w : World) (hn : n ≤ R) (hl : l.length ≤ 1000) (hE : Env n w A) (hb : RdAt w R l A bad) :
    Calls Tryz.prog 61 #[.pointer (some ⟨R, 0, none⟩)] w (VolRd n R A l bad w) := by
  obtain ⟨i0, hi0, hz0, hz1, hz2⟩ := info_parts infoPtR
  have HN := Lib.hid (show ∀ e w', (∃ (vd : VolD) (l' : List UInt8) (bad' : Bool) (v : Value) (ys : List Value), e = .returned (.agg #[.string vd.name, v]) ∧ PtX w' w.heap.size v vd.blocks ys ∧ Rdd n R A w l' bad' w' ∧ vd.name.size ≤ l.length ∧ vd.blocks.length = 3 ∧ l'.length ≤ l.length ∧ (∀ p ∈ vd.blocks, p.places.length ≤ l.length) ∧ (bad = true → bad' = true) ∧ VolEnd bad l vd l' bad') → VolRd n R A l bad w e w' from fun _ _ h => h)
  generalize VolRd n R A l bad w = PR at HN ⊢
  have hRl : R < w.heap.size := Blk.lt hb
  have hB0 : Below w.heap.size w (w.alloc (.cells #[.string ⟨#[]⟩, .slice none 0 0] 51)) := (Below.refl _ _).alloc (Nat.le_refl _) _
  have K0 := Lib.hid (Blk.new w #[.string ⟨#[]⟩, .slice none 0 0] 51)
  have HE0 := Lib.hid (hE.on (hB0.mono hE.size))
  have HB0 := Lib.hid (hb.below hB0)
  have HG0 := Lib.hid (grown_below' (some R) hB0)
  clear hB0 hE hb
  go_enter Tryz.func61, Tryz.ntmps61
  go_wp2_with fail
  generalize w.alloc (.cells #[.string ⟨#[]⟩, .slice none 0 0] 51) = w0 at K0 HE0 HB0 HG0 ⊢
  refine (name_any n R A l bad w0 hl HE0.out HB0.out).mono ?_
  rintro e w1 ⟨rfl, h⟩
  have hhl := head_le l
  have hl1 := trim_le l (headN l)
  have hal : Below w1.heap.size w1 (w1.alloc (.cells #[.string (tx (headN l)), .slice none 0 0] 51)) := (Below.refl _ _).alloc (Nat.le_refl _) _
  have hS : w.heap.size ≠ R := by omega
  have HE1 := Lib.hid ((h.env HE0.out hn).on (hal.mono (h.env HE0.out hn).size))
  have HB1 := Lib.hid (h.box.below hal)
  have HG1 := Lib.hid (grown_trans (grown_trans HG0.out h.grown) (grown_below' _ hal))
  have K1 := Lib.hid ((K0.out.kept h.grown hS).below hal (K0.out.kept h.grown hS).lt)
  have D1 := Lib.hid (Blk.new w1 #[.string (tx (headN l)), .slice none 0 0] 51)
  have hDs : w.heap.size < w1.heap.size := (K0.out.kept h.grown hS).lt
  have hns : (tx (headN l)).size ≤ l.length := by rw [tx_size]; exact hhl
  clear h hal HE0 HB0 HG0 K0 hhl
  have HBEG := Lib.hid (vol_begin (bad0 := bad) (l0 := l))
  generalize headN l = nm at HBEG HE1 HB1 HG1 K1 D1 hl1 hns ⊢
  go_upto_region 2 with (fail)
  generalize w1.alloc (.cells #[.string (tx nm), .slice none 0 0] 51) = w2 at HE1 HB1 HG1 K1 D1 ⊢
  generalize w1.heap.size = D at D1 hDs ⊢
  have hDR : D ≠ R := by omega
  go_wp2_with fail
  refine (must_any n R A _ bad ⟨#[10]⟩ w2 HE1.out HB1.out).mono ?_
  rintro e w3 ⟨rfl, h⟩
  have hl3 := trim_le (Lib.trimPrefix l nm) [10]
  have HE3 := Lib.hid (h.env HE1.out hn)
  have HB3 := Lib.hid (show RdAt w3 R (Lib.trimPrefix (Lib.trimPrefix l nm) [10]) A (bad || !Lib.hasPrefix (Lib.trimPrefix l nm) [10]) from h.box)
  have HG3 := Lib.hid (grown_trans HG1.out h.grown)
  have K3 := Lib.hid (K1.out.kept h.grown hS)
  have D3 := Lib.hid (D1.out.kept h.grown hDR)
  have M3 := Lib.hid (show bad = true → (bad || !Lib.hasPrefix (Lib.trimPrefix l nm) [10]) = true from fun h => by rw [h]; rfl)
  clear h HE1 HB1 HG1 K1 D1
  have l3l : (Lib.trimPrefix (Lib.trimPrefix l nm) [10]).length ≤ l.length := by omega
  generalize Lib.trimPrefix (Lib.trimPrefix l nm) [10] = l3 at HB3 HBEG l3l
  generalize (bad || !Lib.hasPrefix (Lib.trimPrefix l nm) [10]) = b3 at HB3 HBEG M3
  clear hl1 hl3
  have HNM := Lib.hid hns
  clear hns
  generalize hTN : tx nm = TN at D3 HNM
  have HTN := Lib.hid hTN
  clear hTN
  go_upto_region 4 with (fail)
  go_wp2_with fail
  go_loopw [9] (fun s9 wr => ∃ (i : Nat) (lr : List UInt8) (br : Bool) (ps : List PtrD) (v : Value) (ys : List Value), s9 = .int .i64 (i : Int) ∧ i = ps.length ∧ i ≤ 3 ∧ Hid (Env n wr A) ∧ Hid (RdAt wr R lr A br) ∧ Hid (w.grownBy wr (some R)) ∧ Hid (Blk wr w.heap.size #[.string ⟨#[]⟩, .slice none 0 0] 51) ∧ Hid (Blk wr D #[.string TN, v] 51) ∧ Hid (PtX wr w.heap.size v ps ys) ∧ lr.length ≤ l.length ∧ Hid (∀ p ∈ ps, p.places.length ≤ l.length) ∧ Hid (bad = true → br = true) ∧ Hid (VolMid bad l nm ps lr br)) (fun s9 _ => 3 - (RowKit.intOf s9).toNat)
  case atStart => exact ⟨0, l3, b3, [], .slice none 0 0, [], rfl, rfl, by omega, HE3, HB3, HG3, K3, D3, PtX.empty _ _, l3l, (fun p hp => by cases hp), M3, HBEG⟩
  case round =>
    obtain ⟨i, lr, br, ps, v, ys, rfl, hips, hi3, HE, HB, HG, K, DD, OP, hlen, hpl, M, MID⟩ := hrel
    clear HE3 HB3 HG3 K3 D3 M3 HBEG l3l
    have Hips := Lib.hid hips
    clear hips
    by_cases hil : i < 3
    · have di : decide ((i : Int) < 3) = true := decide_eq_true (by omega)
      have HE2 := Lib.hid (HE.out.on (Below.refl _ _).drew)
      have HB2 := Lib.hid (show RdAt wr.drew R lr A br from HB.out)
      have HG2 := Lib.hid (show w.grownBy wr.drew (some R) from grown_drewX HG.out)
      have K2 := Lib.hid (show Blk wr.drew _ _ _ from K.out)
      have D2 := Lib.hid (show Blk wr.drew D #[.string TN, v] 51 from DD.out)
      have O2 := Lib.hid (OP.out.below (Below.refl _ _).drew)
      clear HE HB HG K DD OP
      have sD : wr.drew.cell? ⟨D, 1, none⟩ = some v := D2.out.cell 1
      go_upto_region 5 with (fail)
      refine AnyS.start (S := (fun w' : World => w'.cell? ⟨D, 1, none⟩ = some v)) (L := 7) (by kernel_rfl) ?_
      generalize wr.drew = W at HE2 HB2 HG2 K2 D2 O2 sD ⊢
      refine AnyS.take 0 (show _ = some _ from rfl) rfl (by kernel_rfl) (by kernel_rfl) (by kernel_rfl) (by kernel_rfl) (fun _ _ _ h => h) sD (by rfl) (fun w' hSw => by have s1 := hSw; go_simp; try with_reducible rfl) ?_
      try simp only [Act.put, List.setIfInBounds_toArray, List.set_cons_zero, List.set_cons_succ]
      refine AnyS.take 1 (show _ = some _ from rfl) rfl (by kernel_rfl) (by kernel_rfl) (by kernel_rfl) (by kernel_rfl) (fun _ _ _ h => h) sD (by rfl) (fun w' hSw => by have s1 := hSw; go_simp; try with_reducible rfl) ?_
      try simp only [Act.put, List.setIfInBounds_toArray, List.set_cons_zero, List.set_cons_succ]
      refine AnyS.take 2 (show _ = some _ from rfl) rfl (by kernel_rfl) (by kernel_rfl) (by kernel_rfl) (by kernel_rfl) (fun _ _ _ h => h) sD (by rfl) (fun w' hSw => by have s1 := hSw; go_simp; try with_reducible rfl) ?_
      try simp only [Act.put, List.setIfInBounds_toArray, List.set_cons_zero, List.set_cons_succ]
      refine AnyS.one 3 (by kernel_rfl) (show _ = some _ from rfl) (fun K' hK' => ?_)
      go_simp
      go_at_call 94
      refine (ptr_any n R A lr br W hn (by omega) HE2.out HB2.out).mono ?_
      rintro e w3 ⟨pt, l3, b3, pv, rfl, hpv, h, hl3, m3, q3⟩
      obtain ⟨z, s, pls⟩ := pt
      simp only at hpv hl3 q3 ⊢
      obtain ⟨pa, pc, rfl, hpc, hpm, _⟩ := OwnPl.reads hpv
      have HPV := Lib.hid hpv
      have hWs : w.heap.size ≤ W.heap.size := HG2.out.size
      have HE3 := Lib.hid (h.env HE2.out hn)
      have HB3 := Lib.hid h.box
      have HG3 := Lib.hid (grown_trans HG2.out h.grown)
      have K3 := Lib.hid (K2.out.kept h.grown hS)
      have D3 := Lib.hid (D2.out.kept h.grown hDR)
      have O3 := Lib.hid (O2.out.keptT h.grown (.box HB2.out (by decide)) (.box HB2.out (by decide)))
      have MID3 := Lib.hid (vol_next MID.out (by rw [← Hips.out]; exact hil) q3)
      have M3 := Lib.hid (show bad = true → b3 = true from fun hh => m3 (M.out hh))
      have HPL := Lib.hid (show ∀ p ∈ ps ++ [⟨z, s, pls⟩], p.places.length ≤ l.length from fun p hp => by
        rcases List.mem_append.1 hp with hp | hp
        · exact hpl.out p hp
        · simp only [List.mem_singleton] at hp; subst hp; simp only; omega)
      have sD3 : w3.cell? ⟨D, 1, none⟩ = some v := D3.out.cell 1
      clear h m3 q3 HE2 HB2 HG2 K2 D2 MID M sD hpv hpl
      go_simp
      refine hK' _ _ ⟨?_, fun _ => sD3⟩
      clear hK' K'
      try simp only [Act.put, List.setIfInBounds_toArray, List.set_cons_zero, List.set_cons_succ]
      have hal : Below w3.heap.size w3 (w3.alloc (.cells #[.int .i64 z, .int .i64 s, .slice pa pls.length pc] 54)) := (Below.refl _ _).alloc (Nat.le_refl _) _
      have sD4 := cell_below hal sD3
      have hown0 := own_below O3.out.row hal
      rw [← Hips.out] at hown0
      have hnews := World.news_of_block (Blk.new w3 #[.int .i64 z, .int .i64 s, .slice pa pls.length pc] 54)
      have hbase : w.heap.size ≤ (w3.alloc (.cells #[.int .i64 z, .int .i64 s, .slice pa pls.length pc] 54)).heap.size := Nat.le_trans HG3.out.size hal.size
      have HE4 := Lib.hid (HE3.out.on (hal.mono HE3.out.size))
      have HB4 := Lib.hid (HB3.out.below hal)
      have K4 := Lib.hid (K3.out.below hal K3.out.lt)
      have HG4 := Lib.hid (grown_trans HG3.out (grown_below' _ hal))
      clear hal
      refine AnyS.one 4 (by kernel_rfl) (show _ = some _ from rfl) (fun K' hK' => ?_)
      go_simp
      refine hK' _ _ ⟨?_, fun _ => sD4⟩
      clear hK' K'
      try simp only [Act.put, List.setIfInBounds_toArray, List.set_cons_zero, List.set_cons_succ]
      refine AnyS.one 5 (by kernel_rfl) (show _ = some _ from rfl) (fun K' hK' => ?_)
      refine step_append_lies _ (by rfl) _ _ 49 (by rfl) w.heap.size 54 i0 _ 3 40 Tryz.underlying49 hi0 hz0 hz1 hz2 rfl (by omega) _ i ys (by rfl) hown0 ⟨_, 0, none⟩ 1 1 [.int .i64 z, .int .i64 s, .slice pa pls.length pc] (by rfl) rfl hnews (by simp [Value.oneCell']) (by omega) (by unfold maxLen; omega) (by omega) hbase _ rfl ?_
      intro g4 cap4 w9 hown4 hgrow4 hat4 hlt4
      rw [Hips.out] at hown4
      obtain ⟨D9, DN, ON⟩ := O2.out.more hWs O3.out D3.out HPV.out hown4 hgrow4
      rw [← Hips.out] at DN ON
      have sD9 : w9.cell? ⟨D, 1, none⟩ = some v := D9.cell 1
      have f9 := D9.frozen 1
      have B9 := grown_blk HB4.out hgrow4 (own_kind hown0 HB4.out (by decide))
      have HB9 := Lib.hid (show RdAt (w9.setCell ⟨D, 1, none⟩ (.slice (some ⟨g4, 0, none⟩) (i + 1) cap4)) R l3 A b3 from Blk.other B9 D 1 _ hDR)
      have K9 := Lib.hid ((grown_blk K4.out hgrow4 (own_kind hown0 K4.out (by decide))).other D 1 (.slice (some ⟨g4, 0, none⟩) (i + 1) cap4) (by omega))
      have hge := fun b e => (hown0.lt b e).1
      have G9 := grown_row HG4.out hgrow4 hge
      have HG9 := Lib.hid (grown_far G9 (Nat.le_of_lt hDs) 1 (.slice (some ⟨g4, 0, none⟩) (i + 1) cap4))
      have E9 := HE4.out.on (below_row hgrow4 HE4.out.size (fun b e => by have := hge b e; omega))
      have HE9 := Lib.hid (E9.on (below_far E9 G9 hRl hn (Nat.le_of_lt hDs) 1 (.slice (some ⟨g4, 0, none⟩) (i + 1) cap4)))
      have HDN := Lib.hid DN
      have HON := Lib.hid ON
      clear D9 DN ON B9 hge G9 E9 hown4 hgrow4 hat4 hlt4 O2 HPV
      refine hK' _ _ ⟨?_, fun _ => sD9⟩
      clear hK' K'
      try simp only [Act.put, List.setIfInBounds_toArray, List.set_cons_zero, List.set_cons_succ]
      refine AnyS.one 6 (by kernel_rfl) (show _ = some _ from rfl) (fun K' hK' => ?_)
      go_simp
      refine hK' _ _ ⟨?_, fun _ => sD9⟩
      clear hK' K'
      try simp only [Act.put, List.setIfInBounds_toArray, List.set_cons_zero, List.set_cons_succ]
      refine AnyS.one 7 (by kernel_rfl) (show _ = some _ from rfl) (fun K' hK' => ?_)
      go_simp
      refine hK' _ _ ⟨AnyS.done (by kernel_rfl) ?_, fun h => absurd rfl h⟩
      clear hK' K'
      try simp only [Act.put, List.setIfInBounds_toArray, List.set_cons_zero, List.set_cons_succ]
      go_wp2_with fail
      exact ⟨⟨i + 1, l3, b3, _, _, _, by go_num, by rw [List.length_append, List.length_singleton]; have := Hips.out; omega, by omega, HE9, HB9, HG9, K9, HDN, HON, by omega, HPL, M3, MID3⟩, by simp [RowKit.intOf]; omega⟩
    · have di : decide ((i : Int) < 3) = false := decide_eq_false (by omega)
      have h3 : ps.length = 3 := by have := Hips.out; omega
      have HEND := Lib.hid (vol_end MID.out h3)
      have H3 := Lib.hid h3
      clear MID hil h3
      obtain ⟨av, nv, cv, rfl⟩ : ∃ a n c, v = .slice a n c := by
        rcases OP.out.row.2 with ⟨e, _⟩ | ⟨_, _, _, e, _⟩
        · exact ⟨_, _, _, e⟩
        · exact ⟨_, _, _, e⟩
      have d0 : wr.cell? ⟨D, 0, none⟩ = some (.string TN) := DD.out.cell 0
      have d1 : wr.cell? ⟨D, 1, none⟩ = some (.slice av nv cv) := DD.out.cell 1
      have k0 : wr.cell? ⟨w.heap.size, 0, none⟩ = some (.string ⟨#[]⟩) := K.out.cell 0
      have k1 : wr.cell? ⟨w.heap.size, 1, none⟩ = some (.slice none 0 0) := K.out.cell 1
      have f0 := K.out.frozen 0
      have f1 := K.out.frozen 1
      have KZ := (K.out.set 0 (.string TN)).set 1 (.slice av nv cv)
      have e0 := KZ.cell 0
      have e1 := KZ.cell 1
      have HZ := Lib.hid (show RdAt ((wr.setCell ⟨w.heap.size, 0, none⟩ (.string TN)).setCell ⟨w.heap.size, 1, none⟩ (.slice av nv cv)) R _ A _ from Blk.other (Blk.other HB.out _ 0 _ hS) _ 1 _ hS)
      have HGZ := Lib.hid (grown_far (grown_far HG.out (Nat.le_refl _) 0 (.string TN)) (Nat.le_refl _) 1 (.slice av nv cv))
      have hkt : 51 ≠ 54 := by decide
      have hkl : 51 ≠ 83 := by decide
      have HOZ := Lib.hid ((OP.out.keptT (grown_set wr w.heap.size 0 (.string TN)) (.box K.out hkt) (.box K.out hkl)).keptT (grown_set _ w.heap.size 1 (.slice av nv cv)) (.box (K.out.set 0 (.string TN)) hkt) (.box (K.out.set 0 (.string TN)) hkl))
      clear KZ HB HG OP hkt hkl
      go_wp2_with fail
      refine bodyPost_ret (v := .agg #[.string TN, .slice av nv cv]) (by simp [results, Tryz.results61, go_sem, e0, e1]) rfl (HN.out _ _ ⟨⟨TN, ps⟩, _, _, _, _, rfl, HOZ.out, ⟨HZ.out, HGZ.out⟩, HNM.out, H3.out, hlen, hpl.out, M.out, by rw [← HTN.out]; exact HEND.out⟩)

end Go.Proofs.YtliadobopideaaaGreatDoor
