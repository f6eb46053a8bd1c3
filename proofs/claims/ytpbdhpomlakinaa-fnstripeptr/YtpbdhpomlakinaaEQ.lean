/- StripePtr of the program; marks on a pointer. Conditions: the row's own bound on sizes. -/
import Derived.Test.YtpbdhpomlakinaaEP
import Derived.Test.YtpbdhpomlakinaaE5
namespace Go.Proofs.Ytpbdhpomlakinaa
open Go.RowKit Go.Sort

set_option maxHeartbeats 400000 in
theorem isEmpty_yes (s : ByteArray) (w : World) (h : s.size = 0) :
    Calls Try.prog 84 #[.string s] w fun e w' => e = .returned (.bool true) ∧ w = w' := by
  have q := eqEmpty_yes h
  clear h
  go_enter Try.func84, Try.ntmps84
  go_wp2
  go_ret
  exact ⟨rfl, rfl⟩
set_option maxHeartbeats 400000 in
theorem isEmpty_no (s : ByteArray) (w : World) (h : s.size ≠ 0) :
    Calls Try.prog 84 #[.string s] w fun e w' => e = .returned (.bool false) ∧ w = w' := by
  have q := eqEmpty_no h
  clear h
  go_enter Try.func84, Try.ntmps84
  go_wp2
  go_ret
  exact ⟨rfl, rfl⟩

theorem plNews' {w : World} {b off : Nat} {ps : List PlD} (h : PlacesAt w (some ⟨b, off, none⟩) ps) : ∀ j u, (plCells ps)[j]? = some u → w.cell? ((⟨b, off, none⟩ : Addr).add j) = some u := fun j u hu => by
  have hj : j < ps.length * 2 := by have := (List.getElem?_eq_some_iff.1 hu).1; rw [plCells_length] at this; exact this
  rcases h with rfl | ⟨b', off', e, hc⟩
  · simp at hj
  · injection e with e
    injection e with e1 e2
    subst e1
    subst e2
    rw [plCells_get _ _ hj] at hu
    injection hu with hu
    subst hu
    have e : (⟨b, off, none⟩ : Addr).add j = ⟨b, off + j, none⟩ := by
      unfold Addr.add
      by_cases e : j = 0
      · subst e; rfl
      · rw [if_neg e]
    rw [e]
    obtain ⟨h1, h2⟩ := hc (j / 2) (by omega)
    rcases (show j % 2 = 0 ∨ j % 2 = 1 by omega) with hm | hm
    · rw [show j = j / 2 * 2 by omega, plCell_0]; exact h1
    · rw [show j = j / 2 * 2 + 1 by omega, plCell_1, ← Nat.add_assoc]; exact h2

set_option maxRecDepth 100000 in
set_option maxHeartbeats 1000000 in
theorem clonePl_any (b off cap : Nat) (ps : List PlD) (w : World) (h0 : 0 < ps.length) (hl : ps.length ≤ 1048576) (hx : Hid (PlacesAt w (some ⟨b, off, none⟩) ps)) :
    Calls Try.prog 85 #[.slice (some ⟨b, off, none⟩) ps.length cap] w fun e w' => ∃ v, e = .returned v ∧ OwnPl w' w.heap.size v ps ∧ Below w.heap.size w w' := by
  obtain ⟨i0, hi0, hz0, hz1, hz2⟩ := info_parts infoPl
  have hB1 : Below w.heap.size w (w.alloc (.cells #[] 53)) := (Below.refl _ w).alloc (Nat.le_refl _) _
  have hnews := plNews' (hx.out.below hB1)
  have hone : ∀ v ∈ plCells ps, v.oneCell' = true := fun v hv => by
    obtain ⟨i, hi, rfl⟩ := List.getElem_of_mem hv
    simp only [plCells, List.getElem_map, plCell]
    split <;> rfl
  have hown := World.ownsRow_made (e := 53) (size := 2) w #[] 0 (Nat.le_refl _) (by simp [maxLen]) (by simp)
  have hpl := plCells_length ps
  have HB1 := Lib.hid hB1
  have HK : Hid (∀ w4 : World, (w.alloc (.cells #[] 53)).grownBy w4 (some w.heap.size) → Below w.heap.size w w4) := fun w4 hg => HB1.out.grown hg HB1.out.size (fun k e => by cases e; omega)
  clear hB1
  have hq := Lib.run_eql_slice_nil (P := Try.prog) w 26 53 (some ⟨b, off, none⟩) ps.length cap 0 0 Try.underlying26
  simp only [Option.isNone_some] at hq
  go_enter Try.func85, Try.ntmps85
  go_wp2_with (at_builtin; refine wpList_append_lies _ rfl _ _ 26 rfl w.heap.size 53 i0 _ 2 16 Try.underlying26 hi0 hz0 hz1 hz2 rfl (by omega) _ 0 [] rfl hown ⟨b, off, none⟩ ps.length cap (plCells ps) rfl hpl hnews hone (by omega) (by simp [maxLen]; omega) (by omega) (by simp) _ rfl ?_; intro g cap4 w4 hown4 hgrow4 hat4 hlt4; have HB4 := Lib.hid (HK.out w4 hgrow4); rw [Nat.zero_add, List.nil_append] at hown4; have HO4 := Lib.hid hown4; clear hown4 hgrow4 hat4; rw [Nat.zero_add])
  go_ret
  exact ⟨_, rfl, HO4.out, HB4.out⟩

set_option maxRecDepth 100000 in
set_option maxHeartbeats 2000000 in
theorem implStripe_any (s : ByteArray) (a : Option Addr) (cap : Nat) (ps : List PlD) (w : World) (_hs : s.size ≤ 1048576) (hl : ps.length ≤ 1048576) (hx : Hid (PlacesAt w a ps)) :
    Calls Try.prog 38 #[.string s, .slice a ps.length cap] w (SpAns (spD s ps) (tt (SpGood s ps)) w) := by
  have hBa : Below w.heap.size w (w.alloc (.cells #[.int .i64 0, .int .i64 0, .slice none 0 0] 50)) := (Below.refl _ _).alloc (Nat.le_refl _) _
  have HBa := Lib.hid hBa
  have HZ := Lib.hid (PB.new w 0 0 (.slice none 0 0))
  clear hBa
  have HG := Lib.hid (show SpGood s ps ↔ s.size ≠ 0 ∧ PtrFine 4 ⟨(s.size : Int), sumOf s, ps⟩ from Iff.rfl)
  have HG1 := Lib.hid (fun h => @spD_good s ps h)
  have HG2 := Lib.hid (fun h => @spD_bad s ps h)
  have HL := Lib.hid (fun w' => implSum_any s w')
  have HP := Lib.hid (fun w' h => implPtr_any 4 ⟨(s.size : Int), sumOf s, ps⟩ a cap w' (by show ps.length ≤ maxLen; unfold maxLen; omega) h)
  rw [tt_congr (show PtrOkP 4 ⟨(s.size : Int), sumOf s, ps⟩ ↔ PtrFine 4 ⟨(s.size : Int), sumOf s, ps⟩ from ⟨fun h => h.2, fun h => ⟨⟨by omega, by omega⟩, h⟩⟩)] at HP
  generalize sumOf s = sm at HG HG1 HL HP
  by_cases h0 : s.size = 0
  · have HN : Hid (¬SpGood s ps) := fun h => (HG.out.1 h).1 h0
    have HE := Lib.hid (fun w' => isEmpty_yes s w' h0)
    rw [HG2.out HN.out, tt_false HN.out]
    clear HG HG1 HG2 h0
    go_enter Try.func38, Try.ntmps38
    go_wp2_with fail
    refine (HL.out _).mono ?_
    rintro e w1 ⟨rfl, hB1⟩
    have hB2 : Below w1.heap.size w1 (w1.alloc (.cells #[.int .i64 (s.size : Int), .int .i64 sm, .slice a ps.length cap] 50)) := (Below.refl _ _).alloc (Nat.le_refl _) _
    have hB12 := hB1.trans (hB2.mono hB1.size)
    obtain ⟨k0, k1, k2, f0, f1, f2⟩ := (HZ.out.below hB12).cells
    have HB3 := Lib.hid (HBa.out.trans (hB12.mono HBa.out.size))
    clear hB1 hB2 hB12
    go_wp2_with fail
    refine (HE.out _).mono ?_
    rintro e w2 ⟨rfl, rfl⟩
    go_wp2
    refine bodyPost_ret (v := .tuple #[.agg #[.int .i64 0, .int .i64 0, .slice none 0 0], .bool false]) (by simp [results, Try.results38, go_sem, k0, k1, k2]) rfl ⟨.slice none 0 0, rfl, OwnPl.none _ _, ?_⟩
    exact ((HB3.out.setCell (p := ⟨w.heap.size, 0, none⟩) (Nat.le_refl _) _).setCell (p := ⟨w.heap.size, 1, none⟩) (Nat.le_refl _) _).setCell (p := ⟨w.heap.size, 2, none⟩) (Nat.le_refl _) _
  · have HE := Lib.hid (fun w' => isEmpty_no s w' h0)
    by_cases hf : PtrFine 4 ⟨(s.size : Int), sm, ps⟩
    · rw [tt_true hf] at HP
      have HN : Hid (SpGood s ps) := HG.out.2 ⟨h0, hf⟩
      have hp0 := HN.out.some
      rw [HG1.out HN.out, tt_true HN.out]
      obtain ⟨b, off, rfl, _⟩ := hx.out.resolve_left (fun e => by rw [e] at hp0; simp at hp0)
      have HCl := Lib.hid (fun w' (h : Below w.heap.size w w') => clonePl_any b off cap ps w' hp0 hl (hx.out.below h))
      clear HG HG1 HG2 hf h0 hp0
      go_enter Try.func38, Try.ntmps38
      go_wp2_with fail
      refine (HL.out _).mono ?_
      rintro e w1 ⟨rfl, hB1⟩
      have hB2 : Below w1.heap.size w1 (w1.alloc (.cells #[.int .i64 (s.size : Int), .int .i64 sm, .slice (some ⟨b, off, none⟩) ps.length cap] 50)) := (Below.refl _ _).alloc (Nat.le_refl _) _
      have hB12 := hB1.trans (hB2.mono hB1.size)
      have HZ2 := Lib.hid (HZ.out.below hB12)
      have HPB := Lib.hid (PB.new w1 (s.size : Int) sm (.slice (some ⟨b, off, none⟩) ps.length cap))
      have HB2 := Lib.hid (HBa.out.trans (hB12.mono HBa.out.size))
      have hz1 : w.heap.size + 1 ≤ w1.heap.size := by have := hB1.size; simp at this; omega
      clear hB1 hB2 hB12
      go_wp2_with fail
      refine (HE.out _).mono ?_
      rintro e w2 ⟨rfl, rfl⟩
      go_wp2_with fail
      refine (HP.out _ (hx.out.below HB2.out)).mono ?_
      rintro e w3 ⟨rfl, hB3⟩
      have HZ3 := Lib.hid (HZ2.out.below hB3)
      have HPB3 := Lib.hid (HPB.out.below hB3)
      have HB3 := Lib.hid (HB2.out.trans (hB3.mono HB2.out.size))
      have hz3 : w1.heap.size + 1 ≤ w3.heap.size := by have := hB3.size; simp at this; omega
      clear hB3
      go_wp2_with fail
      refine (HCl.out _ HB3.out).mono ?_
      rintro e w4 ⟨v, rfl, ho4, hB4⟩
      obtain ⟨a2, c2, rfl, _⟩ := OwnPl.reads ho4
      obtain ⟨k0, k1, k2, f0, f1, f2⟩ := (HZ3.out.below hB4).cells
      obtain ⟨m0, m1, m2, g0, g1, g2⟩ := (HPB3.out.below hB4).cells
      have HO4 := Lib.hid ho4
      have HB4 := Lib.hid (HB3.out.trans (hB4.mono HB3.out.size))
      clear ho4 hB4
      go_wp2
      refine bodyPost_ret (v := .tuple #[.agg #[.int .i64 (s.size : Int), .int .i64 sm, .slice a2 ps.length c2], .bool true]) (by simp [results, Try.results38, go_sem, k0, k1, k2]) rfl ⟨.slice a2 ps.length c2, rfl, ?_, ?_⟩
      · exact own_mono (own_far (own_far (own_far (own_far HO4.out _ _ _ (by omega)) _ _ _ (by omega)) _ _ _ (by omega)) _ _ _ (by omega)) (by omega)
      · exact (((HB4.out.setCell (p := ⟨w1.heap.size, 2, none⟩) (by show w.heap.size ≤ w1.heap.size; omega) _).setCell (p := ⟨w.heap.size, 0, none⟩) (Nat.le_refl _) _).setCell (p := ⟨w.heap.size, 1, none⟩) (Nat.le_refl _) _).setCell (p := ⟨w.heap.size, 2, none⟩) (Nat.le_refl _) _
    · rw [tt_false hf] at HP
      have HN : Hid (¬SpGood s ps) := fun h => hf (HG.out.1 h).2
      rw [HG2.out HN.out, tt_false HN.out]
      clear HG HG1 HG2 hf h0
      go_enter Try.func38, Try.ntmps38
      go_wp2_with fail
      refine (HL.out _).mono ?_
      rintro e w1 ⟨rfl, hB1⟩
      have hB2 : Below w1.heap.size w1 (w1.alloc (.cells #[.int .i64 (s.size : Int), .int .i64 sm, .slice a ps.length cap] 50)) := (Below.refl _ _).alloc (Nat.le_refl _) _
      have hB12 := hB1.trans (hB2.mono hB1.size)
      have HZ2 := Lib.hid (HZ.out.below hB12)
      have HB2 := Lib.hid (HBa.out.trans (hB12.mono HBa.out.size))
      clear hB1 hB2 hB12
      go_wp2_with fail
      refine (HE.out _).mono ?_
      rintro e w2 ⟨rfl, rfl⟩
      go_wp2_with fail
      refine (HP.out _ (hx.out.below HB2.out)).mono ?_
      rintro e w3 ⟨rfl, hB3⟩
      obtain ⟨k0, k1, k2, f0, f1, f2⟩ := (HZ2.out.below hB3).cells
      have HB3 := Lib.hid (HB2.out.trans (hB3.mono HB2.out.size))
      clear hB3
      go_wp2
      refine bodyPost_ret (v := .tuple #[.agg #[.int .i64 0, .int .i64 0, .slice none 0 0], .bool false]) (by simp [results, Try.results38, go_sem, k0, k1, k2]) rfl ⟨.slice none 0 0, rfl, OwnPl.none _ _, ?_⟩
      exact ((HB3.out.setCell (p := ⟨w.heap.size, 0, none⟩) (Nat.le_refl _) _).setCell (p := ⟨w.heap.size, 1, none⟩) (Nat.le_refl _) _).setCell (p := ⟨w.heap.size, 2, none⟩) (Nat.le_refl _) _

theorem gb_set1 (w : World) (B o : Nat) (v : Value) : w.grownBy (w.setCell ⟨B, o, none⟩ v) (some B) :=
  ⟨rfl, rfl, rfl, by rw [World.size_setCell]; exact Nat.le_refl _, fun k _ hne => Below.heap_setCell _ _ _ _ (fun e => hne (by rw [e]))⟩

set_option maxRecDepth 100000 in
set_option maxHeartbeats 1000000 in
theorem markPlaceS_row (base g n cap k : Nat) (ys0 : List Value) (w : World) (hk : k + n * 2 ≤ 9000000000000000000) (ho : Hid (w.ownsRow base 53 2 (.slice (some ⟨g, 0, none⟩) n cap) n ys0)) :
    Calls Try.prog 22 #[.slice (some ⟨g, 0, none⟩) n cap, .int .i64 (k : Int)] w fun e w' => e = .returned (.int .i64 ((k + n * 2 : Nat) : Int)) ∧ w.grownBy w' (some g) ∧ w'.ownsRow base 53 2 (.slice (some ⟨g, 0, none⟩) n cap) n (plCells (mkPl k n)) := by
  go_enter Try.func22, Try.ntmps22
  go_wp2_with fail
  go_loopw [1, 5] (fun kv iv wr => ∃ i : Nat, iv = .int .i64 (i : Int) ∧ i ≤ n ∧ kv = .int .i64 ((k + i * 2 : Nat) : Int) ∧ Hid (w.grownBy wr (some g) ∧ ∃ ys, Done (plCells (mkPl k n)) (i * 2) ys ∧ wr.ownsRow base 53 2 (.slice (some ⟨g, 0, none⟩) n cap) n ys)) (fun _ iv _ => n - (intOf iv).toNat)
  case atStart => exact ⟨0, rfl, by omega, rfl, ⟨rfl, rfl, rfl, Nat.le_refl _, fun _ _ _ => rfl⟩, ys0, ⟨by rw [plCells_length, mkPl_length]; exact ho.out.1, fun j hj => by omega⟩, ho.out⟩
  case round =>
    obtain ⟨i, rfl, hi, rfl, hI⟩ := hrel
    by_cases hlt : i < n
    · obtain ⟨hB, ys, hd, ho1⟩ := hI.out
      obtain ⟨x0, f0, _, hxl⟩ := own_cell ho1 (i * 2) (by omega)
      obtain ⟨x1, f1, _, _⟩ := own_cell ho1 (i * 2 + 1) (by omega)
      rw [List.getElem?_eq_getElem (by omega)] at x0 x1
      generalize ys[i * 2]'(by omega) = y0 at x0
      generalize ys[i * 2 + 1]'(by omega) = y1 at x1
      have hkb : k + i * 2 ≤ 8999999999999999998 := by omega
      have hnext : k + (i + 1) * 2 = k + i * 2 + 2 := by omega
      have Q0 : Hid ((plCells (mkPl k n))[i * 2]? = some (.int .i64 ((k + i * 2 : Nat) : Int))) := by
        show (plCells (mkPl k n))[i * 2]? = _
        rw [plCells_get _ _ (by rw [mkPl_length]; omega), plCell_0, mkPl_get k n i hlt]
      have Q1 : Hid ((plCells (mkPl k n))[i * 2 + 1]? = some (.int .i64 (((k + i * 2 : Nat) : Int) + 1))) := by
        show (plCells (mkPl k n))[i * 2 + 1]? = _
        rw [plCells_get _ _ (by rw [mkPl_length]; omega), plCell_1, mkPl_get k n i hlt]
      generalize k + i * 2 = ki at hkb hnext Q0 Q1
      have HN : Hid (w.grownBy ((wr.setCell ⟨g, i * 2, none⟩ (.int .i64 (ki : Int))).setCell ⟨g, i * 2 + 1, none⟩ (.int .i64 ((ki : Int) + 1))) (some g) ∧ ∃ ys, Done (plCells (mkPl k n)) ((i + 1) * 2) ys ∧ ((wr.setCell ⟨g, i * 2, none⟩ (.int .i64 (ki : Int))).setCell ⟨g, i * 2 + 1, none⟩ (.int .i64 ((ki : Int) + 1))).ownsRow base 53 2 (.slice (some ⟨g, 0, none⟩) n cap) n ys) :=
        ⟨(hB.trans (gb_set1 _ _ _ _)).trans (gb_set1 _ _ _ _), _, by rw [show (i + 1) * 2 = i * 2 + 1 + 1 by omega]; exact (hd.next Q0.out).next Q1.out, own_set (own_set ho1 _ _) _ _⟩
      clear hB hd ho1 hI Q0 Q1 hxl
      go_wp2
      exact ⟨⟨i + 1, by go_num, by omega, by rw [hnext]; go_num, HN⟩, by simp [intOf]; omega⟩
    · obtain rfl : i = n := by omega
      go_wp2
      go_ret
      obtain ⟨hB, ys, hd, ho1⟩ := hI.out
      rw [hd.all (by rw [plCells_length, mkPl_length]; omega)] at ho1
      exact ⟨rfl, hB, ho1⟩

theorem markPlaceS_kept (base k : Nat) (v : Value) (ps : List PlD) (w : World) (hk : k + ps.length * 2 ≤ 9000000000000000000) (ho : OwnPl w base v ps) :
    Calls Try.prog 22 #[v, .int .i64 (k : Int)] w fun e w' => e = .returned (.int .i64 ((k + ps.length * 2 : Nat) : Int)) ∧ w.grownBy w' v.ownBlock ∧ OwnPl w' base v (mkPl k ps.length) := by
  have ho' := ho
  rcases ho.2 with ⟨rfl, hn⟩ | ⟨g, cap, cur, rfl, hb, _⟩
  · refine (markPlaceS_nil k w).mono ?_
    rintro e w' ⟨rfl, rfl⟩
    rw [hn]
    exact ⟨rfl, ⟨rfl, rfl, rfl, Nat.le_refl _, fun _ _ _ => rfl⟩, ⟨rfl, .inl ⟨rfl, rfl⟩⟩⟩
  · refine (markPlaceS_row base g ps.length cap k _ w hk ho').mono ?_
    rintro e w' ⟨he, hB, hw⟩
    refine ⟨he, hB, ?_⟩
    unfold OwnPl
    rw [mkPl_length]
    exact hw

set_option maxRecDepth 100000 in
set_option maxHeartbeats 1000000 in
theorem markPtr_any (base k : Nat) (z s : Int) (v : Value) (ps : List PlD) (w : World) (hk : k + ps.length * 2 ≤ 9000000000000000000) (ho : Hid (OwnPl w base v ps)) :
    Calls Try.prog 45 #[.agg #[.int .i64 z, .int .i64 s, v], .int .i64 (k : Int)] w fun e w' => e = .returned (.int .i64 ((k + ps.length * 2 : Nat) : Int)) ∧ w.grownBy w' v.ownBlock ∧ OwnPl w' base v (mkPl k ps.length) := by
  obtain ⟨a, c, rfl, _⟩ := OwnPl.reads ho.out
  have hB : Below w.heap.size w (w.alloc (.cells #[.int .i64 z, .int .i64 s, .slice a ps.length c] 50)) := (Below.refl _ _).alloc (Nat.le_refl _) _
  have HC := Lib.hid (markPlaceS_kept base k _ ps _ hk (ho.out.below hB))
  have HB := Lib.hid (World.grownBy_alloc w (.cells #[.int .i64 z, .int .i64 s, .slice a ps.length c] 50) (Value.slice a ps.length c).ownBlock)
  clear hB
  go_enter Try.func45, Try.ntmps45
  go_wp2_with fail
  refine HC.out.mono ?_
  rintro e w1 ⟨rfl, hB1, ho1⟩
  have HO1 := Lib.hid ho1
  have HB1 := Lib.hid (HB.out.trans hB1)
  clear ho1 hB1
  generalize hm : k + ps.length * 2 = m
  have Hm := Lib.hid hm
  clear hm
  go_wp2
  go_ret
  exact ⟨by rw [Hm.out]; rfl, HB1.out, HO1.out⟩

set_option maxRecDepth 100000 in
set_option maxHeartbeats 1000000 in
theorem heldPtr_marks (z s : Int) (a : Option Addr) (n cap k : Nat) (w : World) (hk : k + n * 2 ≤ 9000000000000000000) (ha : Hid (PlacesAt w a (mkPl k n))) :
    Calls Try.prog 46 #[.agg #[.int .i64 z, .int .i64 s, .slice a n cap], .int .i64 (k : Int)] w fun e w' => e = .returned (.int .i64 ((k + n * 2 : Nat) : Int)) ∧ Below w.heap.size w w' := by
  have hB : Below w.heap.size w (w.alloc (.cells #[.int .i64 z, .int .i64 s, .slice a n cap] 50)) := (Below.refl _ _).alloc (Nat.le_refl _) _
  have HC := Lib.hid (heldPlaceS_marks a n cap k _ hk (ha.out.below hB))
  have HB := Lib.hid hB
  clear hB
  go_enter Try.func46, Try.ntmps46
  go_wp2_with fail
  refine HC.out.mono ?_
  rintro e w1 ⟨rfl, hB1⟩
  have HB1 := Lib.hid (HB.out.trans (hB1.mono HB.out.size))
  clear hB1
  have d1 : decide (((k + n * 2 : Nat) : Int) < 0) = false := by simp; omega
  generalize hm : k + n * 2 = m at d1
  have Hm := Lib.hid hm
  clear hm
  go_wp2
  go_ret
  exact ⟨by rw [Hm.out]; rfl, HB1.out⟩

end Go.Proofs.Ytpbdhpomlakinaa
