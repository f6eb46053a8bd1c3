/- The specification's reader of roots: the root read by now, line by line. Conditions: none. The exact laws' own helpers for roots: sizes and comparisons. Conditions: none but the row's own bound on sizes. The exact laws' own copies of pointers, volumes and roots: they own all their memory. Conditions: sizes of at most 2^20. -/
import Derived.Test.YtliadobopideaaaGreatDoorPKRE
import Derived.Test.YtliadobopideaaaGreatDoorPKTE
namespace Go.Proofs.YtliadobopideaaaGreatDoor
open Go.RowKit Go.Sort

/-- THE ROOT READ BY NOW. -/
def readR (L : List (List UInt8)) : Nat → RootD
  | 0 => ⟨0, []⟩
  | 1 => firstR (L.getD 0 [])
  | i + 2 => stepR (readR L (i + 1)) (L.getD (i + 1) [])
theorem readR_first (L : List (List UInt8)) : readR L 1 = firstR (L.getD 0 []) := rfl
theorem readR_next (L : List (List UInt8)) {i : Nat} (h : 1 ≤ i) : readR L (i + 1) = stepR (readR L i) (L.getD i []) := by
  obtain ⟨k, rfl⟩ : ∃ k, i = k + 1 := ⟨i - 1, by omega⟩
  rfl
theorem readR_fold (h : List UInt8) (t : List (List UInt8)) : ∀ k, k ≤ t.length → readR (h :: t) (k + 1) = (t.take k).foldl stepR (firstR h) := by
  intro k
  induction k with
  | zero => intro _; rfl
  | succ k ih =>
    intro hk
    rw [readR_next _ (by omega), ih (by omega), List.getD_cons_succ, List.take_add_one, List.foldl_append, List.getD_eq_getElem?_getD, List.getElem?_eq_getElem (by omega)]
    rfl
theorem readR_all (l : List UInt8) : readR (cutL 10 l) (cutL 10 l).length = rootL l := by
  unfold rootL
  cases hc : cutL 10 l with
  | nil => exact absurd hc (cutL_ne 10 l)
  | cons h t =>
    show readR (h :: t) (t.length + 1) = t.foldl stepR (firstR h)
    rw [readR_fold h t t.length (Nat.le_refl _), List.take_length]

end Go.Proofs.YtliadobopideaaaGreatDoor

namespace Go.Proofs.YtliadobopideaaaGreatDoor
open Go.RowKit Go.Sort

/-- LITTLE: so many at most, at every level. -/
def PtSmall (L : Nat) (ps : List PtrD) : Prop := ps.length ≤ L ∧ ∀ j, j < ps.length → (ps.getD j ptr0).places.length ≤ L
def VoSmall (L : Nat) (vs : List VolD) : Prop := vs.length ≤ L ∧ ∀ j, j < vs.length → (vs.getD j vol0).name.size ≤ L ∧ PtSmall L (vs.getD j vol0).blocks
def LeftIf (P : Prop) (left : Nat) (w : World) (e : Ending) (w' : World) : Prop := (e = .returned (.int .i64 (-1)) ∨ ∃ r : Nat, e = .returned (.int .i64 (r : Int)) ∧ r ≤ left ∧ P) ∧ Below w.heap.size w w'

set_option maxRecDepth 100000 in
set_option maxHeartbeats 1000000 in
theorem eqPtrS_same (a b : Option Addr) (ca cb : Nat) (ps : List PtrD) (w : World) (hl : ps.length ≤ maxLen) (ha : Hid (PtrsAt w a ps)) (hb : Hid (PtrsAt w b ps)) :
    Calls Tryz.prog 108 #[.slice a ps.length ca, .slice b ps.length cb] w fun e w' => e = .returned (.bool true) ∧ Below w.heap.size w w' := by
  unfold maxLen at hl
  have d0 : ((ps.length : Int) != (ps.length : Int)) = false := by simp
  go_enter Tryz.func108, Tryz.ntmps108
  go_wp2_with fail
  go_loopw [5] (fun i wr => ∃ k : Nat, i = .int .i64 (k : Int) ∧ k ≤ ps.length ∧ Hid (Below w.heap.size w wr)) (fun i _ => ps.length - (intOf i).toNat)
  case atStart => exact ⟨0, rfl, by omega, Below.refl _ _⟩
  case round =>
    obtain ⟨k, rfl, hk, hB⟩ := hrel
    by_cases hlt : k < ps.length
    · obtain ⟨b1, o1, rfl, hc1⟩ := (ha.out.below hB.out).resolve_left (fun e => by subst e; simp at hlt)
      obtain ⟨b2, o2, rfl, hc2⟩ := (hb.out.below hB.out).resolve_left (fun e => by subst e; simp at hlt)
      obtain ⟨k0, k1, u1, k2, hu1⟩ := hc1 k hlt
      obtain ⟨m0, m1, u2, m2, hu2⟩ := hc2 k hlt
      clear hc1 hc2
      generalize ps.getD k ptr0 = q at k0 k1 hu1 m0 m1 hu2
      obtain ⟨z, s, qs⟩ := q
      obtain ⟨a1, cap1, rfl, hcl1, hm1, hx1⟩ := hu1
      obtain ⟨a2, cap2, rfl, hcl2, hm2, hx2⟩ := hu2
      simp only at k0 k1 k2 m0 m1 m2 hcl1 hcl2 hx1 hx2
      have HE := Lib.hid (fun w' (hw : Below wr.heap.size wr w') => eqPtr_same z s a1 a2 cap1 cap2 qs w' (by omega) (hx1.below hw) (hx2.below hw))
      have g1 := cell_regrown k0
      have g2 := cell_regrown k1
      have g3 := cell_regrown k2
      have g4 := cell_regrown m0
      have g5 := cell_regrown m1
      have g6 := cell_regrown m2
      clear k0 k1 k2 m0 m1 m2 hx1 hx2
      have i1 : (k : Int) < (ps.length : Int) := by omega
      have i0 : (0 : Int) ≤ (k : Int) := by omega
      go_wp2_with fail
      refine wp_region_quiet_below (by kernel_rfl) (by kernel_rfl) ?_
      repeat (go_big_quiet_step ((go_at_call 129; exact Calls.regrown_of (HE.out _ (below_regrown _ _ _)))))
      refine wpQuiet_nil ?_
      intro w9 hw9
      have HB9 : Hid (Below w.heap.size w w9) := by obtain ⟨p, rfl⟩ := hw9; exact rg_below hB.out _ _
      clear hw9
      go_wp2
      exact ⟨⟨k + 1, by go_num, by omega, HB9⟩, by simp [intOf]; omega⟩
    · go_wp2
      go_ret
      exact ⟨rfl, hB.out⟩

set_option maxRecDepth 100000 in
set_option maxHeartbeats 1000000 in
theorem eqVol_same (nm : ByteArray) (a b : Option Addr) (ca cb : Nat) (ps : List PtrD) (w : World) (hl : ps.length ≤ maxLen) (ha : Hid (PtrsAt w a ps)) (hb : Hid (PtrsAt w b ps)) :
    Calls Tryz.prog 78 #[.agg #[.string nm, .slice a ps.length ca], .agg #[.string nm, .slice b ps.length cb]] w fun e w' => e = .returned (.bool true) ∧ Below w.heap.size w w' := by
  have hB : Below w.heap.size w ((w.alloc (.cells #[.string nm, .slice a ps.length ca] 51)).alloc (.cells #[.string nm, .slice b ps.length cb] 51)) := ((Below.refl _ _).alloc (Nat.le_refl _) _).alloc (by simp) _
  have HB := Lib.hid hB
  clear hB
  go_enter Tryz.func78, Tryz.ntmps78
  go_wp2_with fail
  refine (eqPtrS_same a b ca cb ps _ hl (ha.out.below HB.out) (hb.out.below HB.out)).mono ?_
  rintro e w1 ⟨rfl, hB1⟩
  go_wp2
  go_ret
  exact ⟨rfl, HB.out.trans (hB1.mono HB.out.size)⟩

set_option maxRecDepth 100000 in
set_option maxHeartbeats 1000000 in
theorem eqVolS_same (a b : Option Addr) (ca cb : Nat) (vs : List VolD) (w : World) (hl : vs.length ≤ maxLen) (ha : Hid (VolsAt w a vs)) (hb : Hid (VolsAt w b vs)) :
    Calls Tryz.prog 46 #[.slice a vs.length ca, .slice b vs.length cb] w fun e w' => e = .returned (.bool true) ∧ Below w.heap.size w w' := by
  unfold maxLen at hl
  have d0 : ((vs.length : Int) != (vs.length : Int)) = false := by simp
  go_enter Tryz.func46, Tryz.ntmps46
  go_wp2_with fail
  go_loopw [5] (fun i wr => ∃ k : Nat, i = .int .i64 (k : Int) ∧ k ≤ vs.length ∧ Hid (Below w.heap.size w wr)) (fun i _ => vs.length - (intOf i).toNat)
  case atStart => exact ⟨0, rfl, by omega, Below.refl _ _⟩
  case round =>
    obtain ⟨k, rfl, hk, hB⟩ := hrel
    by_cases hlt : k < vs.length
    · obtain ⟨b1, o1, rfl, hc1⟩ := (ha.out.below hB.out).resolve_left (fun e => by subst e; simp at hlt)
      obtain ⟨b2, o2, rfl, hc2⟩ := (hb.out.below hB.out).resolve_left (fun e => by subst e; simp at hlt)
      obtain ⟨k0, u1, k1, hu1⟩ := hc1 k hlt
      obtain ⟨m0, u2, m1, hu2⟩ := hc2 k hlt
      clear hc1 hc2
      generalize vs.getD k vol0 = q at k0 hu1 m0 hu2
      obtain ⟨nm, qs⟩ := q
      obtain ⟨a1, cap1, rfl, hcl1, hm1, hx1⟩ := hu1
      obtain ⟨a2, cap2, rfl, hcl2, hm2, hx2⟩ := hu2
      simp only at k0 k1 m0 m1 hcl1 hcl2 hx1 hx2
      have HE := Lib.hid (fun w' (hw : Below wr.heap.size wr w') => eqVol_same nm a1 a2 cap1 cap2 qs w' (by omega) (hx1.below hw) (hx2.below hw))
      have g1 := cell_regrown k0
      have g2 := cell_regrown k1
      have g4 := cell_regrown m0
      have g5 := cell_regrown m1
      clear k0 k1 m0 m1 hx1 hx2
      have i1 : (k : Int) < (vs.length : Int) := by omega
      have i0 : (0 : Int) ≤ (k : Int) := by omega
      go_wp2_with fail
      refine wp_region_quiet_below (by kernel_rfl) (by kernel_rfl) ?_
      repeat (go_big_quiet_step ((go_at_call 78; exact Calls.regrown_of (HE.out _ (below_regrown _ _ _)))))
      refine wpQuiet_nil ?_
      intro w9 hw9
      have HB9 : Hid (Below w.heap.size w w9) := by obtain ⟨p, rfl⟩ := hw9; exact rg_below hB.out _ _
      clear hw9
      go_wp2
      exact ⟨⟨k + 1, by go_num, by omega, HB9⟩, by simp [intOf]; omega⟩
    · go_wp2
      go_ret
      exact ⟨rfl, hB.out⟩

set_option maxRecDepth 100000 in
set_option maxHeartbeats 1000000 in
theorem eqRoot_same (t : Int) (a b : Option Addr) (ca cb : Nat) (vs : List VolD) (w : World) (hl : vs.length ≤ maxLen) (ha : Hid (VolsAt w a vs)) (hb : Hid (VolsAt w b vs)) :
    Calls Tryz.prog 16 #[.agg #[.int .i64 t, .slice a vs.length ca], .agg #[.int .i64 t, .slice b vs.length cb]] w fun e w' => e = .returned (.bool true) ∧ Below w.heap.size w w' := by
  have e1 : (t != t) = false := by simp
  have hB : Below w.heap.size w ((w.alloc (.cells #[.int .i64 t, .slice a vs.length ca] 25)).alloc (.cells #[.int .i64 t, .slice b vs.length cb] 25)) := ((Below.refl _ _).alloc (Nat.le_refl _) _).alloc (by simp) _
  have HB := Lib.hid hB
  clear hB
  go_enter Tryz.func16, Tryz.ntmps16
  go_wp2_with fail
  refine (eqVolS_same a b ca cb vs _ hl (ha.out.below HB.out) (hb.out.below HB.out)).mono ?_
  rintro e w1 ⟨rfl, hB1⟩
  go_wp2
  go_ret
  exact ⟨rfl, HB.out.trans (hB1.mono HB.out.size)⟩

end Go.Proofs.YtliadobopideaaaGreatDoor

namespace Go.Proofs.YtliadobopideaaaGreatDoor
open Go.RowKit Go.Sort

/-- POINTERS OF ONE's OWN, with their places. -/
def PtRowD (w : World) (base : Nat) (ps : List PtrD) (k : Nat) (xs : List Value) : Prop :=
  xs.length = ps.length * 3 ∧ ∀ j, j < k → xs[j * 3]? = some (.int .i64 (ps.getD j ptr0).size) ∧ xs[j * 3 + 1]? = some (.int .i64 (ps.getD j ptr0).sum) ∧ ∃ u, xs[j * 3 + 2]? = some u ∧ OwnPl w base u (ps.getD j ptr0).places
def OwnPtD (w : World) (base : Nat) (v : Value) (ps : List PtrD) : Prop := ∃ xs, w.ownsRow base 54 3 v ps.length xs ∧ PtRowD w base ps ps.length xs
/-- VOLUMES OF ONE's OWN, with their pointers. -/
def VoRowD (w : World) (base : Nat) (vs : List VolD) (k : Nat) (xs : List Value) : Prop :=
  xs.length = vs.length * 2 ∧ ∀ j, j < k → xs[j * 2]? = some (.string (vs.getD j vol0).name) ∧ ∃ u, xs[j * 2 + 1]? = some u ∧ OwnPtD w base u (vs.getD j vol0).blocks
def OwnVoD (w : World) (base : Nat) (v : Value) (vs : List VolD) : Prop := ∃ xs, w.ownsRow base 51 2 v vs.length xs ∧ VoRowD w base vs vs.length xs

theorem OwnPl.mono {w : World} {base base' : Nat} {v : Value} {ps : List PlD} (h : OwnPl w base v ps) (hb : base' ≤ base) : OwnPl w base' v ps := own_mono h hb
theorem OwnPl.far {w : World} {base : Nat} {v : Value} {ps : List PlD} (h : OwnPl w base v ps) (p o : Nat) (u : Value) (hp : p < base) : OwnPl (w.setCell ⟨p, o, none⟩ u) base v ps := own_far h p o u hp
theorem PtRowD.mono {w : World} {base base' : Nat} {ps : List PtrD} {k : Nat} {xs : List Value} (h : PtRowD w base ps k xs) (hb : base' ≤ base) : PtRowD w base' ps k xs :=
  ⟨h.1, fun j hj => by obtain ⟨h1, h2, u, h3, h4⟩ := h.2 j hj; exact ⟨h1, h2, u, h3, h4.mono hb⟩⟩
theorem PtRowD.below {w w' : World} {base : Nat} {ps : List PtrD} {k : Nat} {xs : List Value} (h : PtRowD w base ps k xs) (hB : Below w.heap.size w w') : PtRowD w' base ps k xs :=
  ⟨h.1, fun j hj => by obtain ⟨h1, h2, u, h3, h4⟩ := h.2 j hj; exact ⟨h1, h2, u, h3, h4.below hB⟩⟩
theorem PtRowD.far {w : World} {base : Nat} {ps : List PtrD} {k : Nat} {xs : List Value} (h : PtRowD w base ps k xs) (p o : Nat) (u : Value) (hp : p < base) : PtRowD (w.setCell ⟨p, o, none⟩ u) base ps k xs :=
  ⟨h.1, fun j hj => by obtain ⟨h1, h2, u', h3, h4⟩ := h.2 j hj; exact ⟨h1, h2, u', h3, h4.far p o u hp⟩⟩
theorem OwnPtD.mono {w : World} {base base' : Nat} {v : Value} {ps : List PtrD} (h : OwnPtD w base v ps) (hb : base' ≤ base) : OwnPtD w base' v ps := by
  obtain ⟨xs, h1, h2⟩ := h; exact ⟨xs, own_mono h1 hb, h2.mono hb⟩
theorem OwnPtD.below {w w' : World} {base : Nat} {v : Value} {ps : List PtrD} (h : OwnPtD w base v ps) (hB : Below w.heap.size w w') : OwnPtD w' base v ps := by
  obtain ⟨xs, h1, h2⟩ := h; exact ⟨xs, own_below h1 hB, h2.below hB⟩
theorem OwnPtD.far {w : World} {base : Nat} {v : Value} {ps : List PtrD} (h : OwnPtD w base v ps) (p o : Nat) (u : Value) (hp : p < base) : OwnPtD (w.setCell ⟨p, o, none⟩ u) base v ps := by
  obtain ⟨xs, h1, h2⟩ := h; exact ⟨xs, own_far h1 p o u hp, h2.far p o u hp⟩
theorem OwnPtD.reads {w : World} {base : Nat} {v : Value} {ps : List PtrD} (h : OwnPtD w base v ps) : PtrsV w v ps := by
  obtain ⟨xs, h1, h2⟩ := h
  exact OwnPt.reads ⟨xs, h1, h2.1, fun j hj => by obtain ⟨a, b, u, c, d⟩ := h2.2 j hj; exact ⟨a, b, u, c, d.reads⟩⟩
theorem VoRowD.mono {w : World} {base base' : Nat} {vs : List VolD} {k : Nat} {xs : List Value} (h : VoRowD w base vs k xs) (hb : base' ≤ base) : VoRowD w base' vs k xs :=
  ⟨h.1, fun j hj => by obtain ⟨h1, u, h3, h4⟩ := h.2 j hj; exact ⟨h1, u, h3, h4.mono hb⟩⟩
theorem VoRowD.below {w w' : World} {base : Nat} {vs : List VolD} {k : Nat} {xs : List Value} (h : VoRowD w base vs k xs) (hB : Below w.heap.size w w') : VoRowD w' base vs k xs :=
  ⟨h.1, fun j hj => by obtain ⟨h1, u, h3, h4⟩ := h.2 j hj; exact ⟨h1, u, h3, h4.below hB⟩⟩
theorem VoRowD.far {w : World} {base : Nat} {vs : List VolD} {k : Nat} {xs : List Value} (h : VoRowD w base vs k xs) (p o : Nat) (u : Value) (hp : p < base) : VoRowD (w.setCell ⟨p, o, none⟩ u) base vs k xs :=
  ⟨h.1, fun j hj => by obtain ⟨h1, u', h3, h4⟩ := h.2 j hj; exact ⟨h1, u', h3, h4.far p o u hp⟩⟩
theorem OwnVoD.mono {w : World} {base base' : Nat} {v : Value} {vs : List VolD} (h : OwnVoD w base v vs) (hb : base' ≤ base) : OwnVoD w base' v vs := by
  obtain ⟨xs, h1, h2⟩ := h; exact ⟨xs, own_mono h1 hb, h2.mono hb⟩
theorem OwnVoD.below {w w' : World} {base : Nat} {v : Value} {vs : List VolD} (h : OwnVoD w base v vs) (hB : Below w.heap.size w w') : OwnVoD w' base v vs := by
  obtain ⟨xs, h1, h2⟩ := h; exact ⟨xs, own_below h1 hB, h2.below hB⟩
theorem OwnVoD.far {w : World} {base : Nat} {v : Value} {vs : List VolD} (h : OwnVoD w base v vs) (p o : Nat) (u : Value) (hp : p < base) : OwnVoD (w.setCell ⟨p, o, none⟩ u) base v vs := by
  obtain ⟨xs, h1, h2⟩ := h; exact ⟨xs, own_far h1 p o u hp, h2.far p o u hp⟩
theorem OwnVoD.reads {w : World} {base : Nat} {v : Value} {vs : List VolD} (h : OwnVoD w base v vs) : VolsV w v vs := by
  obtain ⟨xs, ho, hr⟩ := h
  have ho' := ho
  rcases ho.2 with ⟨rfl, hk⟩ | ⟨g, cap, cur, rfl, hb, hg, hkc, hcm, hcs, hx⟩
  · have : vs = [] := List.eq_nil_of_length_eq_zero hk
    subst this
    exact ⟨none, 0, rfl, Nat.le_refl _, by simp [maxLen], .inl rfl⟩
  · refine ⟨some ⟨g, 0, none⟩, cap, rfl, hkc, hcm, .inr ⟨g, 0, rfl, fun j hj => ?_⟩⟩
    obtain ⟨h1, u, h3, h4⟩ := hr.2 j hj
    have e0 := (own_cell ho' (j * 2) (by omega)).1
    have e1 := (own_cell ho' (j * 2 + 1) (by omega)).1
    rw [h1] at e0
    rw [h3] at e1
    exact ⟨by rw [Nat.zero_add]; exact e0, u, by rw [Nat.zero_add]; exact e1, h4.reads⟩

theorem infoVo : (Tryz.prog.info? 51).map (fun i => (i.zero, i.size, i.bytes)) = some (some (.agg #[.string ByteArray.empty, .slice none 0 0]), 2, 40) := by kernel_rfl

theorem PtRowD.next {w : World} {base : Nat} {ps : List PtrD} {k : Nat} {xs : List Value} {z s : Int} {u : Value} (h : PtRowD w base ps k xs) (hk : k < ps.length) (h1 : (ps.getD k ptr0).size = z) (h2 : (ps.getD k ptr0).sum = s) (h3 : OwnPl w base u (ps.getD k ptr0).places) :
    PtRowD w base ps (k + 1) (((xs.set (k * 3) (.int .i64 z)).set (k * 3 + 1) (.int .i64 s)).set (k * 3 + 2) u) := by
  have hl := h.1
  refine ⟨by simp only [List.length_set]; exact hl, fun j hj => ?_⟩
  by_cases e : j = k
  · subst e
    refine ⟨?_, ?_, u, ?_, h3⟩
    · rw [List.getElem?_set_ne (by omega), List.getElem?_set_ne (by omega), List.getElem?_set_self (by omega), h1]
    · rw [List.getElem?_set_ne (by omega), List.getElem?_set_self (by simp only [List.length_set]; omega), h2]
    · rw [List.getElem?_set_self (by simp only [List.length_set]; omega)]
  · obtain ⟨a, b, u', c, d⟩ := h.2 j (by omega)
    refine ⟨?_, ?_, u', ?_, d⟩
    · rw [List.getElem?_set_ne (by omega), List.getElem?_set_ne (by omega), List.getElem?_set_ne (by omega)]; exact a
    · rw [List.getElem?_set_ne (by omega), List.getElem?_set_ne (by omega), List.getElem?_set_ne (by omega)]; exact b
    · rw [List.getElem?_set_ne (by omega), List.getElem?_set_ne (by omega), List.getElem?_set_ne (by omega)]; exact c
theorem VoRowD.next {w : World} {base : Nat} {vs : List VolD} {k : Nat} {xs : List Value} {nm : ByteArray} {u : Value} (h : VoRowD w base vs k xs) (hk : k < vs.length) (h1 : (vs.getD k vol0).name = nm) (h3 : OwnPtD w base u (vs.getD k vol0).blocks) :
    VoRowD w base vs (k + 1) ((xs.set (k * 2) (.string nm)).set (k * 2 + 1) u) := by
  have hl := h.1
  refine ⟨by simp only [List.length_set]; exact hl, fun j hj => ?_⟩
  by_cases e : j = k
  · subst e
    refine ⟨?_, u, ?_, h3⟩
    · rw [List.getElem?_set_ne (by omega), List.getElem?_set_self (by omega), h1]
    · rw [List.getElem?_set_self (by simp only [List.length_set]; omega)]
  · obtain ⟨a, u', c, d⟩ := h.2 j (by omega)
    refine ⟨?_, u', ?_, d⟩
    · rw [List.getElem?_set_ne (by omega), List.getElem?_set_ne (by omega)]; exact a
    · rw [List.getElem?_set_ne (by omega), List.getElem?_set_ne (by omega)]; exact c

end Go.Proofs.YtliadobopideaaaGreatDoor
