/- The exact law's own marks on a root that was read: volumes. Conditions: the root's own bound on sizes. -/
import Derived.Test.YtliadobopideaaaGreatDoorPKRX2
namespace Go.Proofs.YtliadobopideaaaGreatDoor
open Go.RowKit Go.Sort

/-! ### volumes -/
def voAt (k : Nat) (vs : List VolD) : Nat → Nat
  | 0 => k
  | i + 1 => ptAt (voAt k vs i + 1) (vs.getD i vol0).blocks (vs.getD i vol0).blocks.length
def mkVo (k : Nat) (vs : List VolD) : List VolD := (List.range vs.length).map fun i => ⟨mkT (voAt k vs i), mkPt (voAt k vs i + 1) (vs.getD i vol0).blocks⟩
theorem mkVo_length (k : Nat) (vs : List VolD) : (mkVo k vs).length = vs.length := by simp [mkVo]
theorem mkVo_get (k : Nat) (vs : List VolD) (i : Nat) (h : i < vs.length) : (mkVo k vs).getD i vol0 = ⟨mkT (voAt k vs i), mkPt (voAt k vs i + 1) (vs.getD i vol0).blocks⟩ := by
  rw [List.getD, mkVo, List.getElem?_map, List.getElem?_range h]; rfl
/-- How much there is to mark. -/
def VoN (N : Nat) (vs : List VolD) : Prop := ∀ i, i < vs.length → (vs.getD i vol0).blocks.length = 3 ∧ ∀ j, j < (vs.getD i vol0).blocks.length → ((vs.getD i vol0).blocks.getD j ptr0).places.length ≤ N
theorem voAt_le {k N : Nat} {vs : List VolD} (h : VoN N vs) : ∀ i, i ≤ vs.length → k ≤ voAt k vs i ∧ voAt k vs i ≤ k + i * (7 + N * 6) := by
  intro i
  induction i with
  | zero => intro _; simp [voAt]
  | succ i ih =>
    intro hi
    have h1 := ih (by omega)
    have h2 := h i (by omega)
    have h3 := ptAt_le (k := voAt k vs i + 1) h2.2 _ (Nat.le_refl _)
    have h4 : ∀ (k : Nat) (ps : List PtrD) i, k ≤ ptAt k ps i := by
      intro k ps i
      induction i with
      | zero => exact Nat.le_refl _
      | succ i ih => unfold ptAt; omega
    have h5 := h4 (voAt k vs i + 1) (vs.getD i vol0).blocks (vs.getD i vol0).blocks.length
    rw [h2.1] at h3 h5
    have e : voAt k vs (i + 1) = ptAt (voAt k vs i + 1) (vs.getD i vol0).blocks 3 := by show ptAt _ _ _ = _; rw [h2.1]
    rw [e, Nat.succ_mul]
    omega
def cur (k : Nat) (vs : List VolD) (i j : Nat) : List PtrD := if j < i then mkPt (voAt k vs j + 1) (vs.getD j vol0).blocks else (vs.getD j vol0).blocks
theorem cur_length (k : Nat) (vs : List VolD) (i j : Nat) : (cur k vs i j).length = (vs.getD j vol0).blocks.length := by unfold cur; split <;> simp [mkPt_length]
structure VoM (w : World) (base : Nat) (v : Value) (k : Nat) (vs : List VolD) (xs0 : List Value) (lo : Nat → Nat) (i : Nat) (xs : List Value) : Prop where
  row : w.ownsRow base 51 2 v vs.length xs
  same : ∀ j, xs[j * 2 + 1]? = xs0[j * 2 + 1]?
  name : ∀ j, j < i → xs[j * 2]? = some (.string (mkT (voAt k vs j)))
  all : ∀ j, j < vs.length → ∃ a, xs[j * 2]? = some a
  each : ∀ j, j < vs.length → ∃ u ys, xs0[j * 2 + 1]? = some u ∧ PtX w (lo j) u (cur k vs i j) ys ∧ ∀ b, PtB u ys (vs.getD j vol0).blocks.length b → lo j ≤ b ∧ b < lo (j + 1)
theorem lo_mono {lo : Nat → Nat} {n : Nat} (h : ∀ j, j < n → lo j ≤ lo (j + 1)) : ∀ j, j ≤ n → ∀ i, i ≤ j → lo i ≤ lo j := by
  intro j
  induction j with
  | zero => intro _ i hi; have e : i = 0 := by omega
            rw [e]; exact Nat.le_refl _
  | succ j ih =>
    intro hj i hi
    rcases Nat.eq_or_lt_of_le hi with e | e
    · rw [e]; exact Nat.le_refl _
    · exact Nat.le_trans (ih (by omega) i (by omega)) (h j (by omega))
theorem VoM.start {w : World} {base k : Nat} {v : Value} {vs : List VolD} {xs : List Value} {lo : Nat → Nat} (h : VoY w base v vs xs lo) : VoM w base v k vs xs lo 0 xs := by
  refine ⟨h.row, fun _ => rfl, fun _ hj => absurd hj (Nat.not_lt_zero _), fun j hj => ⟨_, (h.each j hj).1⟩, fun j hj => ?_⟩
  obtain ⟨_, u, ys, b, c, d, e⟩ := h.each j hj
  refine ⟨u, ys, b, by unfold cur; rw [if_neg (Nat.not_lt_zero _)]; exact c, fun x hx => ?_⟩
  rcases hx with hx | ⟨m, p, hm, hp, hx⟩
  · exact ⟨(c.row.lt x hx).1, d x hx⟩
  · obtain ⟨_, _, p', q1, q2⟩ := c.each.2 m hm
    rw [q1] at hp
    cases hp
    exact ⟨(q2.lt x hx).1, e m hm _ x q1 hx⟩
theorem VoM.below {w w' : World} {base k i : Nat} {v : Value} {vs : List VolD} {xs0 xs : List Value} {lo : Nat → Nat} (h : VoM w base v k vs xs0 lo i xs) (B : Below w.heap.size w w') : VoM w' base v k vs xs0 lo i xs :=
  ⟨own_below h.row B, h.same, h.name, h.all, fun j hj => by obtain ⟨u, ys, a, b, c⟩ := h.each j hj; exact ⟨u, ys, a, b.below B, c⟩⟩
theorem VoM.stop {w : World} {base k g cap : Nat} {vs : List VolD} {xs0 xs : List Value} {lo : Nat → Nat} (h : VoM w base (.slice (some ⟨g, 0, none⟩) vs.length cap) k vs xs0 lo vs.length xs) : VolsAt w (some ⟨g, 0, none⟩) (mkVo k vs) := by
  refine .inr ⟨g, 0, rfl, fun j hj => ?_⟩
  rw [mkVo_length] at hj
  rw [mkVo_get k vs j hj]
  obtain ⟨u, ys, b, c, _⟩ := h.each j hj
  have e0 := (own_cell h.row (j * 2) (by omega)).1
  have e1 := (own_cell h.row (j * 2 + 1) (by omega)).1
  rw [h.name j hj] at e0
  rw [h.same, b] at e1
  refine ⟨by rw [Nat.zero_add]; exact e0, u, by rw [Nat.zero_add]; exact e1, ?_⟩
  unfold cur at c
  rw [if_pos hj] at c
  exact c.own.reads
/-- The blocks of a whole root. -/
def VoB (base hi : Nat) (b : Nat) : Prop := base ≤ b ∧ b < hi
theorem VoM.next {w w9 : World} {base k i g cap hi : Nat} {vs : List VolD} {xs0 xs : List Value} {lo : Nat → Nat} {u : Value} {ys ys9 : List Value} (h : VoM w base (.slice (some ⟨g, 0, none⟩) vs.length cap) k vs xs0 lo i xs) (hl : ∀ j, j < vs.length → lo j ≤ lo (j + 1)) (hb : ∀ j, j ≤ vs.length → base ≤ lo j)
    (hi1 : g < hi) (hi2 : lo vs.length ≤ hi) (hlt : i < vs.length) (hu : xs0[i * 2 + 1]? = some u) (hX : PtX w (lo i) u (vs.getD i vol0).blocks ys) (hB : ∀ b, PtB u ys (vs.getD i vol0).blocks.length b → lo i ≤ b ∧ b < lo (i + 1))
    (F : MkF (PtB u ys (vs.getD i vol0).blocks.length) (w.setCell ⟨g, i * 2, none⟩ (.string (mkT (voAt k vs i)))) w9) (hX9 : PtX w9 (lo i) u (mkPt (voAt k vs i + 1) (vs.getD i vol0).blocks) ys9) (hs9 : ∀ j, ys9[j * 3 + 2]? = ys[j * 3 + 2]?) :
    VoM w9 base (.slice (some ⟨g, 0, none⟩) vs.length cap) k vs xs0 lo (i + 1) (xs.set (i * 2) (.string (mkT (voAt k vs i)))) ∧ MkF (VoB base hi) w w9 := by
  have hl2 : xs.length = vs.length * 2 := h.row.1
  have R1 := own_set h.row (i * 2) (.string (mkT (voAt k vs i)))
  have G0 := grown_set w g (i * 2) (.string (mkT (voAt k vs i)))
  have sP : NotT w (some g) 54 := (NotT.row (T := 54) h.row (by decide))
  have sL : NotT w (some g) 83 := (NotT.row (T := 83) h.row (by decide))
  have hXi := hX.keptT G0 sP sL
  have hgb := (h.row.lt g rfl).1
  generalize w.setCell ⟨g, i * 2, none⟩ (.string (mkT (voAt k vs i))) = w1 at *
  have mono := lo_mono hl
  have hg : ¬PtB u ys (vs.getD i vol0).blocks.length g := by
    rintro (e | ⟨m, p, hm, hp, e⟩)
    · exact own_apart hXi.row R1 (by decide) g e rfl
    · obtain ⟨_, _, p', q1, q2⟩ := hXi.each.2 m hm
      rw [q1] at hp
      cases hp
      exact own_apart q2 R1 (by decide) g e rfl
  refine ⟨⟨own_keptF R1 F (fun b e => by cases e; exact hg), fun j => ?_, fun j hj => ?_, fun j hj => ?_, fun j hj => ?_⟩, (MkF.grown G0 (fun b e => by cases e; exact ⟨hgb, hi1⟩)).trans (F.wide fun b e => ⟨by have := hB b e; have := hb i (by omega); omega, by have := hB b e; have := mono vs.length (Nat.le_refl _) (i + 1) hlt; omega⟩)⟩
  · rw [List.getElem?_set_ne (by omega)]; exact h.same j
  · by_cases e : j = i
    · subst e; rw [List.getElem?_set_self (by omega)]
    · rw [List.getElem?_set_ne (by omega)]; exact h.name j (by omega)
  · by_cases e : j = i
    · subst e; exact ⟨_, List.getElem?_set_self (by omega)⟩
    · rw [List.getElem?_set_ne (by omega)]; exact h.all j hj
  · by_cases e : j = i
    · subst e
      refine ⟨u, ys9, hu, by unfold cur; rw [if_pos (Nat.lt_succ_self _)]; exact hX9, fun b hb' => hB b ?_⟩
      rcases hb' with hb' | ⟨m, p, hm, hp, hb'⟩
      · exact .inl hb'
      · exact .inr ⟨m, p, hm, by rw [← hs9]; exact hp, hb'⟩
    · obtain ⟨u', ys', a, b, c⟩ := h.each j hj
      refine ⟨u', ys', a, ?_, c⟩
      have b1 := b.keptT G0 sP sL
      have hcur : cur k vs (i + 1) j = cur k vs i j := by
        unfold cur
        by_cases hji : j < i
        · rw [if_pos (by omega), if_pos hji]
        · rw [if_neg (by omega), if_neg hji]
      rw [hcur]
      refine b1.keptF F (fun x hx hx2 => ?_)
      rw [cur_length] at hx
      have h1 := c x hx
      have h2 := hB x hx2
      rcases Nat.lt_or_gt_of_ne e with hlt2 | hlt2
      · have := mono i (by omega) (j + 1) (by omega); omega
      · have := mono j (by omega) (i + 1) (by omega); omega

set_option linter.unusedSimpArgs false in
set_option maxRecDepth 100000 in
set_option maxHeartbeats 4000000 in
theorem markVoR_any (base k N hi : Nat) (v : Value) (vs : List VolD) (xs0 : List Value) (lo : Nat → Nat) (w : World) (hk0 : 0 < k) (hN : VoN N vs) (hk : k + vs.length * (7 + N * 6) ≤ 10000000) (h : VoY w base v vs xs0 lo) (hh : ∀ b, v.ownBlock = some b → b < hi) (hh2 : lo vs.length ≤ hi) :
    Calls Tryz.prog 47 #[v, .int .i64 (k : Int)] w fun e w' => e = .returned (.int .i64 ((voAt k vs vs.length : Nat) : Int)) ∧ MkF (VoB base hi) w w' ∧ ∃ a c, v = .slice a vs.length c ∧ VolsAt w' a (mkVo k vs) := by
  have HX := Lib.hid h
  have hpl : vs.length ≤ 100000000 := by have := Nat.le_mul_of_pos_right vs.length (show 0 < 7 + N * 6 by omega); omega
  obtain ⟨va, vc, hv, hvn⟩ : ∃ a c, v = .slice a vs.length c ∧ (0 < vs.length → ∃ g, a = some ⟨g, 0, none⟩) := by
    rcases h.row.2 with ⟨e, hz⟩ | ⟨g, cap, _, e, _⟩
    · exact ⟨none, 0, by rw [e, hz], fun hp => by omega⟩
    · exact ⟨_, cap, e, fun _ => ⟨g, rfl⟩⟩
  subst hv
  clear h
  have HAT := Lib.hid (fun i hi => voAt_le (k := k) hN i hi)
  have HVN := Lib.hid hvn
  have HNN := Lib.hid hN
  have HH := Lib.hid hh
  clear hvn hN hh
  go_enter Tryz.func47, Tryz.ntmps47
  go_wp2_with fail
  go_loopw [1, 5] (fun kv iv wr => ∃ i : Nat, iv = .int .i64 (i : Int) ∧ i ≤ vs.length ∧ kv = .int .i64 ((voAt k vs i : Nat) : Int) ∧ Hid (∃ xs, VoM wr base (.slice va vs.length vc) k vs xs0 lo i xs ∧ MkF (VoB base hi) w wr)) (fun _ iv _ => vs.length - (RowKit.intOf iv).toNat)
  case atStart => exact ⟨0, rfl, by omega, rfl, _, VoM.start HX.out, MkF.refl _ _⟩
  case round =>
    obtain ⟨i, rfl, hi', rfl, hI⟩ := hrel
    by_cases hlt : i < vs.length
    · obtain ⟨xs, hM0, hF0⟩ := hI.out
      obtain ⟨g, rfl⟩ := HVN.out (by omega)
      have HM0 := Lib.hid hM0
      have HF0 := Lib.hid hF0
      clear hM0 hF0 hI
      have hkb := HAT.out i hi'
      have hbd : voAt k vs i ≤ 10000000 := by
        have : i * (7 + N * 6) ≤ vs.length * (7 + N * 6) := Nat.mul_le_mul_right _ hi'
        omega
      have hpos : 0 < voAt k vs i := by omega
      have HTX := Lib.hid (fun W => mkText_pos (voAt k vs i) W hpos (by omega))
      have i0 : (0 : Int) ≤ (i : Int) := by omega
      have i1 : (i : Int) < (vs.length : Int) := by omega
      clear hkb
      go_wp2_with fail
      refine (HTX.out _).mono ?_
      rintro e w2 ⟨rfl, hB2⟩
      have hM := HM0.out.below hB2
      have hF := HF0.out.trans (MkF.grown (r := none) (grown_below' none hB2) (fun b e => by cases e))
      clear HM0 HF0 hB2 HTX
      obtain ⟨y0, h0⟩ := hM.all i hlt
      obtain ⟨u, ys, h1, hX, hB⟩ := hM.each i hlt
      unfold cur at hX
      rw [if_neg (Nat.lt_irrefl _)] at hX
      obtain ⟨x0, f0, _, _⟩ := own_cell hM.row (i * 2) (by omega)
      obtain ⟨x1, _, _, _⟩ := own_cell hM.row (i * 2 + 1) (by omega)
      rw [h0] at x0
      rw [hM.same, h1] at x1
      obtain ⟨hb3, hbN⟩ := HNN.out i hlt
      have hkp : voAt k vs i + 1 + (vs.getD i vol0).blocks.length * (2 + N * 2) ≤ 100000000 := by
        have : 1 * (7 + N * 6) ≤ vs.length * (7 + N * 6) := Nat.mul_le_mul_right _ (by omega)
        rw [hb3]
        omega
      have sP : NotT w2 (some g) 54 := (NotT.row (T := 54) hM.row (by decide))
      have sL : NotT w2 (some g) 83 := (NotT.row (T := 83) hM.row (by decide))
      have hls : lo i ≤ w2.heap.size := by
        have h2 := HX.out.high
        have h3 := lo_mono HX.out.asc vs.length (Nat.le_refl _) i (by omega)
        have := hF.size
        omega
      have HNX := Lib.hid (fun w9 ys9 F9 hX9 hs9 => VoM.next (w9 := w9) (ys9 := ys9) hM HX.out.asc HX.out.low (HH.out g rfl) hh2 hlt h1 hX hB F9 hX9 hs9)
      have HPX := Lib.hid (hX.keptT (grown_set w2 g (i * 2) (.string (mkT (voAt k vs i)))) sP sL)
      have HMP := Lib.hid (fun W hb hW => markPtR_any (lo i) (voAt k vs i + 1) N u (vs.getD i vol0).blocks ys W hb hbN hkp hW)
      have HF := Lib.hid hF
      have hnext : Hid (voAt k vs (i + 1) = ptAt (voAt k vs i + 1) (vs.getD i vol0).blocks (vs.getD i vol0).blocks.length) := rfl
      have hls' : lo i ≤ (w2.setCell ⟨g, i * 2, none⟩ (.string (mkT (voAt k vs i)))).heap.size := by rw [World.size_setCell]; exact hls
      clear hM hX hB h0 h1 hbN hkp hF sP sL
      obtain ⟨ua, un, uc, rfl, hun⟩ : ∃ a n c, u = .slice a n c ∧ n = (vs.getD i vol0).blocks.length := by
        rcases HPX.out.row.2 with ⟨e, hz⟩ | ⟨_, _, _, e, _⟩
        · exact ⟨_, _, _, e, hz.symm⟩
        · exact ⟨_, _, _, e, rfl⟩
      have HUN := Lib.hid hun
      clear hun
      have HMP' := Lib.hid (HMP.out _ hls' HPX.out)
      clear HMP HPX hls hls'
      generalize ptAt (voAt k vs i + 1) (vs.getD i vol0).blocks (vs.getD i vol0).blocks.length = PE at hnext HMP'
      generalize voAt k vs i = K at HNX HMP' hbd hpos hnext ⊢
      generalize mkT K = TK at HNX HMP' ⊢
      go_wp2_with fail
      rw [show (K : Int) + 1 = ((K + 1 : Nat) : Int) by omega]
      refine HMP'.out.mono ?_
      rintro e w9 ⟨rfl, F9, ys9, hX9, hs9⟩
      obtain ⟨hM9, hF9⟩ := HNX.out w9 ys9 F9 hX9 hs9
      have H9 : Hid (∃ xs, VoM w9 base (.slice (some ⟨g, 0, none⟩) vs.length vc) k vs xs0 lo (i + 1) xs ∧ MkF (VoB base hi) w w9) := ⟨_, hM9, HF.out.trans hF9⟩
      clear hM9 hF9 F9 hX9 hs9 HNX HMP' HF
      go_wp2
      exact ⟨⟨i + 1, by go_num, by omega, by rw [hnext.out], H9⟩, by simp [RowKit.intOf]; omega⟩
    · obtain rfl : i = vs.length := by omega
      go_wp2
      go_ret
      obtain ⟨xs, hM, hF⟩ := hI.out
      refine ⟨rfl, hF, va, vc, rfl, ?_⟩
      rcases Nat.eq_zero_or_pos vs.length with hz | hz
      · exact .inl (List.eq_nil_of_length_eq_zero (by rw [mkVo_length]; exact hz))
      · obtain ⟨g, rfl⟩ := HVN.out hz
        exact hM.stop

end Go.Proofs.YtliadobopideaaaGreatDoor
