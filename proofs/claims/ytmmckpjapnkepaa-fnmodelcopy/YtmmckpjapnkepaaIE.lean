/- Writing a block of a model, of the specification. Conditions: none but the row's own bound on sizes. -/
import Derived.Test.YtmmckpjapnkepaaIC
import Derived.Test.YtmmckpjapnkepaaID
namespace Go.Proofs.Ytmmckpjapnkepaa
open Go.RowKit Go.Sort

/-- A store into a text of volumes of one's own. -/
theorem OwnSh.put {w : World} {base : Nat} {ss : List ShD} {v : Value} {k q : Nat} (hk : k < ss.length)
    {ys : List Value} {g : Nat → Nat} (k1 : w.ownsRow base 35 2 v ss.length ys) (k2 : ∀ j, j < ss.length → ShC w base ss g ys j) (k3 : ∀ i j, i < j → j < ss.length → g i ≠ g j) (t : ByteArray) :
    OwnSh (w.setCell ⟨g k, q, none⟩ (.string t)) base v (setSh ss k q t) := by
  obtain ⟨c0, cp, c1, c2⟩ := k2 k hk
  have hbq : (ss.getD k sh0).blocks = blAt ss k := rfl
  rw [hbq] at c1 c2
  refine ⟨ys, g, ?_, fun j hj => ?_, fun i j hij hj => ?_⟩
  · rw [setSh_length]
    refine own_other k1 _ _ _ (fun e => ?_)
    obtain ⟨cur, hc⟩ := own_block_type k1 _ e
    rcases c2.2 with ⟨hv, _⟩ | ⟨g1, cap1, cur1, hv, _, hb1, _⟩
    · cases hv
    · cases hv
      rw [hc] at hb1
      injection hb1 with hb1
      injection hb1 with _ hb1
      exact absurd hb1 (by decide)
  · rw [setSh_length] at hj
    unfold ShC
    rw [setSh_get ss k q t j hk]
    by_cases e : k = j
    · subst e
      rw [if_pos rfl]
      refine ⟨c0, cp, by simp only [List.length_set]; exact c1, ?_⟩
      simp only [List.length_set]
      unfold OwnTx
      rw [txC_set, List.length_set]
      exact own_set c2 q _
    · rw [if_neg e]
      obtain ⟨d0, dp, d1, d2⟩ := k2 j hj
      refine ⟨d0, dp, d1, own_other d2 _ _ _ (fun q => ?_)⟩
      simp only [Value.ownBlock, Option.some.injEq] at q
      rcases Nat.lt_or_gt_of_ne e with hl | hl
      · exact k3 k j hl hj q.symm
      · exact k3 j k hl hk q
  · rw [setSh_length] at hj; exact k3 i j hij hj

theorem mdDone {r : List ShD × Int} {ss' : List ShD} {c : Int} {w w' : World} {v : Value} (hr : r = (ss', c)) (hO : OwnSh w' w.heap.size v ss') (hB : Below w.heap.size w w') : MdDone r w (.returned (.tuple #[.agg #[v], .int .i64 c])) w' := by
  subst hr; exact ⟨v, rfl, hO, hB⟩

/-- The first blocks that a function of models lays: its argument, its answer. -/
theorem two_boxes (w : World) (v : Value) : ∃ w0, (w.alloc (.cells #[v] 25)).alloc (.cells #[.slice none 0 0] 25) = w0 ∧ Below w.heap.size w w0 ∧ Blk w0 w.heap.size #[v] 25 ∧ Blk w0 (w.heap.size + 1) #[.slice none 0 0] 25 ∧ w.heap.size + 2 = w0.heap.size := by
  refine ⟨_, rfl, ((Below.refl _ _).alloc (Nat.le_refl _) _).alloc (by simp) _, (Blk.new w _ _).below ((Below.refl _ _).alloc (Nat.le_refl _) _) (by simp), ?_, by simp⟩
  have := Blk.new (w.alloc (.cells #[v] 25)) #[.slice none 0 0] 25
  simp only [World.size_alloc] at this
  exact this

set_option maxRecDepth 100000 in
set_option maxHeartbeats 4000000 in
theorem specWrite_any (a : Option Addr) (cap : Nat) (ss : List ShD) (nm : ByteArray) (b : Int) (t : ByteArray) (w : World) (hs : MdSmall ss) (ht : t.size ≤ 1048576) (hx : Hid (ShAt w a ss)) :
    Calls Try.prog 13 #[.agg #[.slice a ss.length cap], .string nm, .int .i64 b, .string t] w (MdDone (writeTo ss nm b t) w) := by
  obtain ⟨w0, HW, hB, hKM, hKR, hsz⟩ := two_boxes w (.slice a ss.length cap)
  have HB := Lib.hid hB
  have KM := Lib.hid hKM
  have KR := Lib.hid hKR
  have HX := Lib.hid (hx.out.below hB)
  have HM := Lib.hid (specMdOk_any a cap ss w0 hs HX)
  have m0 : w0.cell? ⟨w.heap.size, 0, none⟩ = some (.slice a ss.length cap) := hKM.cell 0
  have Hsz := Lib.hid hsz
  have hsl := hs.1
  clear hB hKM hKR hsz hs
  by_cases hok : MdFine ss
  · rw [tt_true hok] at HM
    have HC := Lib.hid (fun W (h : Below w0.heap.size w0 W) => l14Copy_any a cap ss W hok (HX.out.below h))
    have HF := Lib.hid (fun W (h : Below w0.heap.size w0 W) => l14Find_any a cap ss nm W (by unfold maxLen; omega) (HX.out.below h))
    go_enter Try.func13, Try.ntmps13
    go_wp2_with fail
    clear HW
    refine HM.out.mono ?_
    rintro e w1 ⟨rfl, hB1⟩
    have m1 := cell_below hB1 m0
    have HB1 := Lib.hid hB1
    clear hB1
    go_wp2_with fail
    refine (HC.out _ HB1.out).mono ?_
    rintro e w2 ⟨b2, c2, rfl, hO, hB2⟩
    have m2 := cell_below hB2 m1
    have HB2 := Lib.hid (HB1.out.trans (hB2.mono HB1.out.size))
    have hBa : Below w2.heap.size w2 (w2.alloc (.cells #[.slice b2 ss.length c2] 25)) := (Below.refl _ _).alloc (Nat.le_refl _) _
    have HBa := Lib.hid (HB2.out.trans (hBa.mono HB2.out.size))
    have HO := Lib.hid ((hO.mono HB1.out.size).below hBa)
    have KO := Lib.hid (Blk.new w2 #[.slice b2 ss.length c2] 25)
    have ma := cell_below hBa m2
    have hs2 : w.heap.size + 2 ≤ w2.heap.size := by have := HB2.out.size; have := Hsz.out; omega
    clear hO hB2 hBa
    go_wp2_with fail
    generalize w2.alloc (.cells #[.slice b2 ss.length c2] 25) = wa at HBa HO KO ma ⊢
    refine (HF.out _ HBa.out).mono ?_
    rintro e w3 ⟨⟨z, rfl, hz⟩, hB3⟩
    have HB3 := Lib.hid (HBa.out.trans (hB3.mono HBa.out.size))
    have HO3 := Lib.hid (HO.out.below hB3)
    have KO3 := Lib.hid (KO.out.below hB3 KO.out.lt)
    have KR3 := Lib.hid (KR.out.below HB3.out KR.out.lt)
    have HE3 := Lib.hid (HB.out.trans (HB3.out.mono HB.out.size))
    have o0 : w3.cell? ⟨w2.heap.size, 0, none⟩ = some (.slice b2 ss.length c2) := KO3.out.cell 0
    have q0 : w3.cell? ⟨w.heap.size + 1, 0, none⟩ = some (.slice none 0 0) := KR3.out.cell 0
    have fq := KR3.out.frozen 0
    clear hB3
    by_cases hh : HasNm ss nm
    · obtain rfl := where_yes hok.2.2 hh hz
      have hd1 : decide ((whereSh ss nm : Int) < 0) = false := by simp
      by_cases hb : 0 ≤ b ∧ b ≤ 2
      · have HI := Lib.hid (fun W => in_yes b 0 2 W hb)
        by_cases h9 : t.size ≤ 9
        · have d9 : decide (9 < (t.size : Int)) = false := by simp; omega
          have HR := Lib.hid (writeTo_ok hok (wrCode_ok (t := t) hh hb h9))
          have hat := whereSh_at hh
          generalize whereSh ss nm = k at hat HR hz hd1
          obtain ⟨hk, _⟩ := hat
          obtain ⟨q, rfl⟩ := Int.eq_ofNat_of_zero_le hb.1
          have hbl : (blAt ss k).length = 3 := (hok.2.1 k hk).2.1
          obtain ⟨ys, g, k1, k2, k3, k4⟩ := HO3.out.rows
          have HP := Lib.hid (OwnSh.put (q := q) hk k1 k2 k3 t)
          obtain ⟨c0, cp, c1, c2'⟩ := k2 k hk
          have hbq : (ss.getD k sh0).blocks.length = 3 := hbl
          have x9 := own_cell c2' q (by rw [hbq]; omega)
          rw [hbq] at c1
          have hcp : 3 ≤ cp := by
            obtain ⟨_, _, e, h, _⟩ := OwnTx.reads c2'
            injection e with _ _ e2
            omega
          have hgk : w0.heap.size ≤ g k ∧ g k < w3.heap.size := c2'.lt _ rfl
          obtain ⟨gs, cs, hgs, _, _⟩ := World.ownsRow.form k1 (by omega)
          cases hgs
          have e1 := (own_cell k1 (k * 2 + 1) (by omega)).1.trans c1
          obtain ⟨x0, f0, _, hxl⟩ := x9
          have hlen : q < (txC (ss.getD k sh0).blocks).length := by rw [txC_length, hbq]; omega
          rw [List.getElem?_eq_getElem hlen] at x0
          generalize (txC (ss.getD k sh0).blocks)[q] = y0 at x0
          have i0 : (0 : Int) ≤ (k : Int) := by omega
          have i1 : (k : Int) < (ss.length : Int) := by omega
          have j0 : (0 : Int) ≤ (q : Int) := by omega
          have j1 : (q : Int) < 3 := by omega
          have hgo : g k ≠ w2.heap.size := fun e => by
            rcases c2'.2 with ⟨hv, _⟩ | ⟨g1, cap1, cur1, hv, _, hb1, _⟩
            · cases hv
            · cases hv
              rw [e] at hb1
              exact absurd (Blk.type KO3.out (show Blk w3 w2.heap.size cur1 9 from hb1)) (by decide)
          have hgr : g k ≠ w.heap.size + 1 := by have := Hsz.out; omega
          have o1 : (w3.setCell ⟨g k, q, none⟩ (.string t)).cell? ⟨w2.heap.size, 0, none⟩ = some (.slice (some ⟨gs, 0, none⟩) ss.length c2) := ((KO3.out.other _ _ _ hgo).cell 0)
          have q1 : (w3.setCell ⟨g k, q, none⟩ (.string t)).cell? ⟨w.heap.size + 1, 0, none⟩ = some (.slice none 0 0) := ((KR3.out.other _ _ _ hgr).cell 0)
          have HBf := Lib.hid ((HE3.out.setCell (p := ⟨g k, q, none⟩) (by show w.heap.size ≤ g k; have := Hsz.out; omega) (.string t)).setCell (p := ⟨w.heap.size + 1, 0, none⟩) (by simp) (.slice (some ⟨gs, 0, none⟩) ss.length c2))
          have hsw := Hsz.out
          have Hsw := Lib.hid hsw
          clear hok hh hb hz hbl hbq k1 k2 k3 k4 c0 c1 c2' hlen hxl hgo hsw HM m0 m1 m2 ma
          go_wp2_with fail
          refine (HI.out _).mono ?_
          rintro e w4 ⟨rfl, rfl⟩
          go_wp2
          refine bodyPost_ret (v := .tuple #[.agg #[.slice (some ⟨gs, 0, none⟩) ss.length c2], .int .i64 0]) (by simp [results, Try.results13, go_sem, q1]) rfl (mdDone HR.out ?_ HBf.out)
          exact (HP.out.far _ _ _ (by have := Hsw.out; omega)).mono (by have := Hsw.out; omega)
        · have d9 : decide (9 < (t.size : Int)) = true := by simp; omega
          have hnot : ¬((0 ≤ b ∧ b ≤ 2) ∧ t.size ≤ 9) := fun h => h9 h.2
          have HC4 := wrCode_bad hh hnot
          have HR := Lib.hid (writeTo_not (nm := nm) (b := b) (t := t) hok (by rw [HC4]; decide))
          rw [HC4] at HR
          generalize whereSh ss nm = k at hd1 hz
          clear hok hh hb hz hnot HC4 HM m0 m1 m2 ma
          go_wp2_with fail
          refine (HI.out _).mono ?_
          rintro e w4 ⟨rfl, rfl⟩
          go_wp2
          refine bodyPost_ret (v := .tuple #[.agg #[.slice b2 ss.length c2], .int .i64 4]) (by simp [results, Try.results13, go_sem, q0]) rfl (mdDone HR.out ?_ (HE3.out.setCell (p := ⟨w.heap.size + 1, 0, none⟩) (by simp) _))
          exact (HO3.out.far _ _ _ (by have := Hsz.out; omega)).mono (by have := Hsz.out; omega)
      · have HI := Lib.hid (fun W => in_no b 0 2 W hb)
        have hnot : ¬((0 ≤ b ∧ b ≤ 2) ∧ t.size ≤ 9) := fun h => hb h.1
        have HC4 := wrCode_bad hh hnot
        have HR := Lib.hid (writeTo_not (nm := nm) (b := b) (t := t) hok (by rw [HC4]; decide))
        rw [HC4] at HR
        generalize whereSh ss nm = k at hd1 hz
        clear hok hh hb hz hnot HC4 HM m0 m1 m2 ma
        go_wp2_with fail
        refine (HI.out _).mono ?_
        rintro e w4 ⟨rfl, rfl⟩
        go_wp2
        refine bodyPost_ret (v := .tuple #[.agg #[.slice b2 ss.length c2], .int .i64 4]) (by simp [results, Try.results13, go_sem, q0]) rfl (mdDone HR.out ?_ (HE3.out.setCell (p := ⟨w.heap.size + 1, 0, none⟩) (by simp) _))
        exact (HO3.out.far _ _ _ (by have := Hsz.out; omega)).mono (by have := Hsz.out; omega)
    · obtain rfl := where_no hh hz
      have HC2 := wrCode_none (b := b) (t := t) hh
      have HR := Lib.hid (writeTo_not (nm := nm) (b := b) (t := t) hok (by rw [HC2]; decide))
      rw [HC2] at HR
      clear hok hh hz HC2 HM m0 m1 m2 ma
      go_wp2
      refine bodyPost_ret (v := .tuple #[.agg #[.slice b2 ss.length c2], .int .i64 2]) (by simp [results, Try.results13, go_sem, q0]) rfl (mdDone HR.out ?_ (HE3.out.setCell (p := ⟨w.heap.size + 1, 0, none⟩) (by simp) _))
      exact (HO3.out.far _ _ _ (by have := Hsz.out; omega)).mono (by have := Hsz.out; omega)
  · rw [tt_false hok] at HM
    have HR := Lib.hid (writeTo_no (nm := nm) (b := b) (t := t) hok)
    clear hok
    go_enter Try.func13, Try.ntmps13
    go_wp2_with fail
    clear HW
    refine HM.out.mono ?_
    rintro e w1 ⟨rfl, hB1⟩
    have HE := Lib.hid (HB.out.trans (hB1.mono HB.out.size))
    have KR1 := Lib.hid (KR.out.below hB1 KR.out.lt)
    have q0 : w1.cell? ⟨w.heap.size + 1, 0, none⟩ = some (.slice none 0 0) := KR1.out.cell 0
    have fq := KR1.out.frozen 0
    clear hB1
    go_wp2
    exact bodyPost_ret (v := .tuple #[.agg #[.slice none 0 0], .int .i64 4]) (by simp [results, Try.results13, go_sem, q0]) rfl (mdDone HR.out (OwnSh.nil _ _) (HE.out.setCell (p := ⟨w.heap.size + 1, 0, none⟩) (by simp) _))

end Go.Proofs.Ytmmckpjapnkepaa
