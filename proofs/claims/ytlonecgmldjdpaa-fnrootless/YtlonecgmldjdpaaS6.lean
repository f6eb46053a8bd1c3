/- The exact laws' own helpers for pointers: copies and comparisons. Conditions: none but the row's own bound on sizes. -/
import Derived.Test.YtlonecgmldjdpaaS5
namespace Go.Proofs.Ytlonecgmldjdpaa
open Go.RowKit Go.Sort

/-- PLACES OF ONE's OWN. -/
def OwnPl (w : World) (base : Nat) (v : Value) (ps : List PlD) : Prop := w.ownsRow base 39 2 v ps.length (plCells ps)
theorem OwnPl.below {w w' : World} {base : Nat} {v : Value} {ps : List PlD} (h : OwnPl w base v ps) (hB : Below w.heap.size w w') : OwnPl w' base v ps := own_below h hB
theorem OwnPl.reads {w : World} {base : Nat} {v : Value} {ps : List PlD} (h : OwnPl w base v ps) : PlacesV w v ps := by
  have h' := h
  rcases h.2 with ⟨rfl, hk⟩ | ⟨g, cap, cur, rfl, hb, hg, hkc, hcm, hcs, hx⟩
  · have : ps = [] := List.eq_nil_of_length_eq_zero hk
    subst this
    exact ⟨none, 0, rfl, Nat.le_refl _, by simp [maxLen], .inl rfl⟩
  · refine ⟨some ⟨g, 0, none⟩, cap, rfl, hkc, hcm, .inr ⟨g, 0, rfl, fun j hj => ?_⟩⟩
    have e0 := (own_cell h' (j * 2) (by omega)).1
    have e1 := (own_cell h' (j * 2 + 1) (by omega)).1
    rw [plCells_get ps _ (by omega), plCell_0] at e0
    rw [plCells_get ps _ (by omega), plCell_1] at e1
    exact ⟨by rw [Nat.zero_add]; exact e0, by rw [Nat.zero_add]; exact e1⟩

theorem own_far {w : World} {base K : Nat} {e : TypeId} {v : Value} {n : Nat} {xs : List Value} (h : w.ownsRow base e K v n xs) (p o : Nat) (u : Value) (hp : p < base) : (w.setCell ⟨p, o, none⟩ u).ownsRow base e K v n xs :=
  h.kept (row := some p) ⟨rfl, rfl, rfl, by rw [World.size_setCell]; exact Nat.le_refl _, fun k _ hne => Below.heap_setCell _ _ _ _ (fun e => hne (by rw [e]))⟩ (.inr (fun e => by have := (h.lt p e).1; omega))
theorem own_mono {w : World} {base base' K : Nat} {e : TypeId} {v : Value} {n : Nat} {xs : List Value} (h : w.ownsRow base e K v n xs) (hb : base' ≤ base) : w.ownsRow base' e K v n xs := by
  refine ⟨h.1, ?_⟩
  rcases h.2 with h | ⟨g, cap, cur, hv, hg, hr⟩
  · exact .inl h
  · exact .inr ⟨g, cap, cur, hv, Nat.le_trans hb hg, hr⟩
theorem bcell {W w1 : World} (hb : Below W.heap.size W w1) : (∀ b o, b < W.heap.size → w1.cell? ⟨b, o, none⟩ = W.cell? ⟨b, o, none⟩) ∧ (∀ b o, b < W.heap.size → w1.frozen? ⟨b, o, none⟩ = W.frozen? ⟨b, o, none⟩) :=
  ⟨fun b o h => hb.cell (p := ⟨b, o, none⟩) h, fun b o h => hb.frozen (p := ⟨b, o, none⟩) h⟩

set_option maxRecDepth 100000 in
set_option maxHeartbeats 1000000 in
theorem toPtr_any (z s : Int) (a : Option Addr) (cap : Nat) (ps : List PlD) (w : World) (hl : ps.length ≤ 1048576) (hx : Hid (PlacesAt w a ps)) :
    Calls Try.prog 121 #[.agg #[.int .i64 z, .int .i64 s, .slice a ps.length cap]] w fun e w' => ∃ v, e = .returned (.agg #[.int .i64 z, .int .i64 s, v]) ∧ OwnPl w' w.heap.size v ps ∧ Below w.heap.size w w' := by
  have hB0 : Below w.heap.size w (((w.alloc (.cells #[.int .i64 z, .int .i64 s, .slice a ps.length cap] 151)).alloc (.cells #[.int .i64 0, .int .i64 0, .slice none 0 0] 36)).alloc (.cells #[.int .i64 z, .int .i64 s, .slice none 0 0] 36)) := (((Below.refl _ w).alloc (Nat.le_refl _) _).alloc (by simp) _).alloc (by simp; omega) _
  have HB0 := Lib.hid hB0
  clear hB0
  go_enter Try.func121, Try.ntmps121
  go_wp2_with fail
  refine (toPlaceS_any a cap ps _ hl (hx.out.below HB0.out)).mono ?_
  rintro e w1 ⟨v, rfl, ho, hB1⟩
  obtain ⟨hc, hf⟩ := bcell hB1
  have hz : w.heap.size + 3 ≤ w1.heap.size := by have := hB1.size; simp at this; omega
  have HO : Hid (w1.ownsRow (w.heap.size + 3) 39 2 v ps.length (plCells ps)) := by
    have := ho
    simp only [World.size_alloc] at this
    exact this
  have HB1 := Lib.hid (HB0.out.trans (hB1.mono HB0.out.size))
  obtain ⟨a2, cap2, rfl, _⟩ := OwnPl.reads HO.out
  clear ho hB1
  go_wp2
  refine bodyPost_ret (v := .agg #[.int .i64 z, .int .i64 s, .slice a2 ps.length cap2]) (by simp [results, Try.results121, go_sem, hc]) rfl ⟨_, rfl, ?_, ?_⟩
  · exact own_mono (own_far (own_far (own_far (own_far HO.out _ _ _ (by omega)) _ _ _ (by omega)) _ _ _ (by omega)) _ _ _ (by omega)) (by omega)
  · exact (((HB1.out.setCell (p := ⟨w.heap.size + 1 + 1, 2, none⟩) (by simp; omega) _).setCell (p := ⟨w.heap.size + 1, 0, none⟩) (by simp) _).setCell (p := ⟨w.heap.size + 1, 1, none⟩) (by simp) _).setCell (p := ⟨w.heap.size + 1, 2, none⟩) (by simp) _

set_option maxHeartbeats 400000 in
theorem eqPlace_same (d s : Int) (w : World) :
    Calls Try.prog 55 #[.agg #[.int .i64 d, .int .i64 s], .agg #[.int .i64 d, .int .i64 s]] w fun e w' => e = .returned (.bool true) ∧ Below w.heap.size w w' := by
  have e1 : (d != d) = false := by simp
  have e2 : (s != s) = false := by simp
  go_enter Try.func55, Try.ntmps55
  go_wp2
  go_ret
  exact ⟨rfl, ((Below.refl _ w).alloc (Nat.le_refl _) _).alloc (by simp) _⟩

set_option maxRecDepth 100000 in
set_option maxHeartbeats 1000000 in
theorem eqPlaceS_same (a b : Option Addr) (ca cb : Nat) (ps : List PlD) (w : World) (hl : ps.length ≤ maxLen) (ha : Hid (PlacesAt w a ps)) (hb : Hid (PlacesAt w b ps)) :
    Calls Try.prog 26 #[.slice a ps.length ca, .slice b ps.length cb] w fun e w' => e = .returned (.bool true) ∧ Below w.heap.size w w' := by
  unfold maxLen at hl
  have d0 : ((ps.length : Int) != (ps.length : Int)) = false := by simp
  go_enter Try.func26, Try.ntmps26
  go_wp2_with fail
  go_loopw [5] (fun i wr => ∃ k : Nat, i = .int .i64 (k : Int) ∧ k ≤ ps.length ∧ Hid (Below w.heap.size w wr)) (fun i _ => ps.length - (intOf i).toNat)
  case atStart => exact ⟨0, rfl, by omega, Below.refl _ _⟩
  case round =>
    obtain ⟨k, rfl, hk, hB⟩ := hrel
    by_cases hlt : k < ps.length
    · obtain ⟨b1, o1, rfl, hc1⟩ := (ha.out.below hB.out).resolve_left (fun e => by subst e; simp at hlt)
      obtain ⟨b2, o2, rfl, hc2⟩ := (hb.out.below hB.out).resolve_left (fun e => by subst e; simp at hlt)
      have k1 := hc1 k hlt
      have k2 := hc2 k hlt
      clear hc1 hc2
      generalize ps.getD k pl0 = q at k1 k2
      obtain ⟨d, s⟩ := q
      have g1 := cell_regrown k1.1
      have g2 := cell_regrown k1.2
      have g3 := cell_regrown k2.1
      have g4 := cell_regrown k2.2
      clear k1 k2
      simp only at g1 g2 g3 g4
      have i1 : (k : Int) < (ps.length : Int) := by omega
      have i0 : (0 : Int) ≤ (k : Int) := by omega
      go_wp2_with fail
      refine wp_region_quiet_below (by kernel_rfl) (by kernel_rfl) ?_
      repeat (go_big_quiet_step ((go_at_call 55; exact Calls.regrown_of (eqPlace_same d s _))))
      refine wpQuiet_nil ?_
      intro w9 hw9
      have HB9 : Hid (Below w.heap.size w w9) := by obtain ⟨p, rfl⟩ := hw9; exact rg_below hB.out _ _
      clear hw9
      go_wp2
      exact ⟨⟨k + 1, by go_num, by omega, HB9⟩, by simp [intOf]; omega⟩
    · go_wp2
      go_ret
      exact ⟨rfl, hB.out⟩

set_option maxRecDepth 100000 in
set_option maxHeartbeats 1000000 in
theorem eqPtr_same (z s : Int) (a b : Option Addr) (ca cb : Nat) (ps : List PlD) (w : World) (hl : ps.length ≤ maxLen) (ha : Hid (PlacesAt w a ps)) (hb : Hid (PlacesAt w b ps)) :
    Calls Try.prog 122 #[.agg #[.int .i64 z, .int .i64 s, .slice a ps.length ca], .agg #[.int .i64 z, .int .i64 s, .slice b ps.length cb]] w fun e w' => e = .returned (.bool true) ∧ Below w.heap.size w w' := by
  have e1 : (z != z) = false := by simp
  have e2 : (s != s) = false := by simp
  have hB : Below w.heap.size w ((w.alloc (.cells #[.int .i64 z, .int .i64 s, .slice a ps.length ca] 36)).alloc (.cells #[.int .i64 z, .int .i64 s, .slice b ps.length cb] 36)) := ((Below.refl _ _).alloc (Nat.le_refl _) _).alloc (by simp) _
  have HB := Lib.hid hB
  clear hB
  go_enter Try.func122, Try.ntmps122
  go_wp2_with fail
  refine (eqPlaceS_same a b ca cb ps _ hl (ha.out.below HB.out) (hb.out.below HB.out)).mono ?_
  rintro e w1 ⟨rfl, hB1⟩
  go_wp2
  go_ret
  exact ⟨rfl, HB.out.trans (hB1.mono HB.out.size)⟩

end Go.Proofs.Ytlonecgmldjdpaa
