/- SpaceFree of the program, of two ok roots. Conditions: none but the row's own bound on sizes. -/
import Derived.Test.YtlonecgmldjdpaaF0
import Derived.Test.YtlonecgmldjdpaaZ6
import Derived.Deep.RegionHeld3
namespace Go.Proofs.Ytlonecgmldjdpaa
open Go.RowKit Go.Sort Go.Lib

/-- A ROOT's BOX. -/
def RB (w : World) (g : Nat) (t : Int) (v : Value) : Prop := w.cell? ⟨g, 0, none⟩ = some (.int .i64 t) ∧ w.cell? ⟨g, 1, none⟩ = some v
theorem RB.below {w w' : World} {g : Nat} {t : Int} {v : Value} (h : RB w g t v) (hB : Below w.heap.size w w') : RB w' g t v := ⟨cell_below hB h.1, cell_below hB h.2⟩

theorem keep_cell {w w' : World} {r : Option Nat} {base b o : Nat} {v : Value} (hg : w.grownBy w' r) (hr : ∀ i, r = some i → base ≤ i) (hb : b < base) (hbs : base ≤ w.heap.size) (hc : w.cell? ⟨b, o, none⟩ = some v) : w'.cell? ⟨b, o, none⟩ = some v :=
  (World.cell?_of_block (hg.block b (by omega) (fun e => by have := hr b e.symm; omega))).trans hc
theorem hsz4 {a b c : World} (h : Below a.heap.size a b) (k : Below b.heap.size b c) : a.heap.size ≤ c.heap.size := Nat.le_trans h.size k.size
/-- WHAT A ROUND KEEPS. -/
def FInv (w0 wr : World) (o : Value) (qs : List PlD) : Prop := Below w0.heap.size w0 wr ∧ wr.ownsRow w0.heap.size 39 2 o qs.length (plCells qs)
theorem FInv.below {w0 wr w' : World} {o : Value} {qs : List PlD} (h : FInv w0 wr o qs) (hB : Below wr.heap.size wr w') : FInv w0 w' o qs := ⟨h.1.trans (hB.mono h.1.size), own_below h.2 hB⟩

set_option maxRecDepth 100000 in
set_option maxHeartbeats 8000000 in
theorem implFree_ok (nn : Nat) (ta tb : Int) (aa ab : Option Addr) (ca cb : Nat) (va vb : List VolD) (w : World) (hla : va.length ≤ ca) (hlb : vb.length ≤ cb) (hna : Hid (∀ j, j < va.length → (va.getD j vol0).name.size ≤ maxLen)) (hnb : Hid (∀ j, j < vb.length → (vb.getD j vol0).name.size ≤ maxLen)) (hxa : Hid (VolsAt w aa va)) (hxb : Hid (VolsAt w ab vb)) (hoa : Hid (RootOkP (nn : Int) ⟨ta, va⟩)) (hob : Hid (RootOkP (nn : Int) ⟨tb, vb⟩)) :
    Calls Try.prog 19 #[.int .i64 (nn : Int), .agg #[.int .i64 ta, .slice aa va.length ca], .agg #[.int .i64 tb, .slice ab vb.length cb]] w fun e w' => ∃ v, e = .returned v ∧ OwnPl w' w.heap.size v (pick (FreeP va vb) (gridTo nn)) ∧ Below w.heap.size w w' := by
  have hn1 := hoa.out.1.1
  have hn2 := hoa.out.1.2
  obtain ⟨i0, hi0, hz0, hz1, hz2⟩ := info_parts infoPl
  have HFr := Lib.hid (free_pick nn va vb)
  have HRa := Lib.hid (fun w' h => implRoot_any (nn : Int) ⟨ta, va⟩ aa ca w' hla hna h)
  have HRb := Lib.hid (fun w' h => implRoot_any (nn : Int) ⟨tb, vb⟩ ab cb w' hlb hnb h)
  rw [tt_true hoa.out] at HRa
  rw [tt_true hob.out] at HRb
  have HPa := Lib.hid (fun w' (h : Below w.heap.size w w') => implPlaces_ok nn ta aa ca va w' hla hna (hxa.out.below h) hoa)
  have HPb := Lib.hid (fun w' (h : Below w.heap.size w w') => implPlaces_ok nn tb ab cb vb w' hlb hnb (hxb.out.below h) hob)
  have hpa := pick_length_le (UsedBy' va) (gridTo nn)
  have hpb := pick_length_le (UsedBy' vb) (gridTo nn)
  rw [grid_length] at hpa hpb
  generalize pick (UsedBy' va) (gridTo nn) = pa at HPa hpa HFr
  generalize pick (UsedBy' vb) (gridTo nn) = pb at HPb hpb HFr
  have hB0 : Below w.heap.size w ((w.alloc (.cells #[.int .i64 ta, .slice aa va.length ca] 25)).alloc (.cells #[.int .i64 tb, .slice ab vb.length cb] 25)) := ((Below.refl _ _).alloc (Nat.le_refl _) _).alloc (by simp) _
  have HB0 := Lib.hid hB0
  have Ha0 : Hid (RB ((w.alloc (.cells #[.int .i64 ta, .slice aa va.length ca] 25)).alloc (.cells #[.int .i64 tb, .slice ab vb.length cb] 25)) w.heap.size ta (.slice aa va.length ca)) := ⟨by simp [go_sem], by simp [go_sem]⟩
  have Hb0 : Hid (RB ((w.alloc (.cells #[.int .i64 ta, .slice aa va.length ca] 25)).alloc (.cells #[.int .i64 tb, .slice ab vb.length cb] 25)) (w.heap.size + 1) tb (.slice ab vb.length cb)) := ⟨by simp [go_sem], by simp [go_sem]⟩
  clear hB0
  go_enter Try.func19, Try.ntmps19
  go_wp2_with fail
  refine (HRa.out _ (hxa.out.below HB0.out)).mono ?_
  rintro e w1 ⟨rfl, hB1⟩
  have HB1 := Lib.hid (HB0.out.trans (hB1.mono HB0.out.size))
  have Ha1 := Lib.hid (Ha0.out.below hB1)
  obtain ⟨y0, y1⟩ := Hb0.out.below hB1
  have Hb1 := Lib.hid (And.intro y0 y1)
  clear hB1
  go_wp2_with fail
  refine (HRb.out _ (hxb.out.below HB1.out)).mono ?_
  rintro e w2 ⟨rfl, hB2⟩
  have HB2 := Lib.hid (HB1.out.trans (hB2.mono HB1.out.size))
  obtain ⟨x0, x1⟩ := Ha1.out.below hB2
  obtain ⟨z0, z1⟩ := RB.below Hb1.out hB2
  have HBd : Hid (Below w.heap.size w w2.drew) := HB2.out.drew
  have hsd : w.heap.size ≤ w2.drew.heap.size := HB2.out.size
  clear hB2 y0 y1 Ha1 Hb1 Ha0 Hb0
  have hn48 : nn * 12 ≤ 48 := by omega
  by_cases hpe : pb = []
  · subst hpe
    go_wp2_with fail
    go_region_held3 (fun w' => w'.cell? ⟨w.heap.size, 0, none⟩ = some (.int .i64 ta) ∧ w'.cell? ⟨w.heap.size, 1, none⟩ = some (.slice aa va.length ca) ∧ w'.cell? ⟨w.heap.size + 1, 0, none⟩ = some (.int .i64 tb) ∧ w'.cell? ⟨w.heap.size + 1, 1, none⟩ = some (.slice ab vb.length cb)) (first | go_keep | exact hc4 | exact hc3)
      (first
        | (refine step_append_zero (by rfl) _ _ _ (by rfl) 39 i0 Try.underlying28 hi0 _ _ _ (by rfl) hk3 _ _ (by rfl) ?_)
        | (go_simp; go_at_call 11; ((with_reducible refine (HPa.out _ HBd.out).mono ?_); rintro e w3 ⟨v3, rfl, ho3, hB3⟩; obtain ⟨a3, c3, rfl, hk3, hm3, hs3⟩ := OwnPl.reads ho3; have HO3 := Lib.hid (own_mono ho3 hsd); have HB3 := Lib.hid (HBd.out.trans (hB3.mono HBd.out.size)); have hc3 := (⟨cell_below hB3 x0, cell_below hB3 x1, cell_below hB3 z0, cell_below hB3 z1⟩ : w3.cell? ⟨w.heap.size, 0, none⟩ = some (.int .i64 ta) ∧ w3.cell? ⟨w.heap.size, 1, none⟩ = some (.slice aa va.length ca) ∧ w3.cell? ⟨w.heap.size + 1, 0, none⟩ = some (.int .i64 tb) ∧ w3.cell? ⟨w.heap.size + 1, 1, none⟩ = some (.slice ab vb.length cb)); clear ho3 hs3 hB3))
        | (go_simp; go_at_call 11; ((with_reducible refine (HPb.out _ HB3.out).mono ?_); rintro e w4 ⟨v4, rfl, ho4, hB4⟩; obtain ⟨a4, c4, rfl, hk4, hm4, hs4⟩ := OwnPl.reads ho4; have HO4 := Lib.hid (own_below HO3.out hB4); have HB4 := Lib.hid (HB3.out.trans (hB4.mono HB3.out.size)); have hc4 := (⟨cell_below hB4 hc3.1, cell_below hB4 hc3.2.1, cell_below hB4 hc3.2.2.1, cell_below hB4 hc3.2.2.2⟩ : w4.cell? ⟨w.heap.size, 0, none⟩ = some (.int .i64 ta) ∧ w4.cell? ⟨w.heap.size, 1, none⟩ = some (.slice aa va.length ca) ∧ w4.cell? ⟨w.heap.size + 1, 0, none⟩ = some (.int .i64 tb) ∧ w4.cell? ⟨w.heap.size + 1, 1, none⟩ = some (.slice ab vb.length cb)); clear ho4 hs4 hB4)))
    have hp4 := OwnPl.reads HO4.out
    obtain ⟨a', c', hv', _, _, hp4⟩ := hp4
    cases hv'
    have HC := Lib.hid (fun (q : PlD) w' (h : Below w4.heap.size w4 w') => containsPl_any q a3 c3 pa w' (by unfold maxLen; omega) (hp4.below h))
    have HU : Hid (pick (fun q => ¬PlIn q pa) (gridTo nn) = pick (FreeP va vb) (gridTo nn)) := by have := HFr.out; rw [List.append_nil] at this; exact this
    clear hp4 hc3 hc4 x0 x1 z0 z1 HO4 HO3 HB3 HBd HB2 HB1 HB0 HPa HPb HRa HRb HFr
    go_wp2_with fail
    go_loopw [8, 30] (fun o dv wr => ∃ dN : Nat, dv = .int .i64 (dN : Int) ∧ dN ≤ nn ∧ Hid (FInv w4 wr o (pick (fun q => ¬PlIn q (pa)) (gridTo dN)))) (fun _ dv _ => nn - (intOf dv).toNat)
    case atStart => exact ⟨0, rfl, by omega, Below.refl _ _, World.ownsRow_nil _ _ _ _⟩
    case round =>
      obtain ⟨dN, rfl, hdN, hI⟩ := hrel
      by_cases hlt : dN < nn
      · go_wp2_with fail
        go_loopw [8, 33] (fun o sv wr' => ∃ sN : Nat, sv = .int .i64 (sN : Int) ∧ sN ≤ 12 ∧ Hid (FInv w4 wr' o (pick (fun q => ¬PlIn q (pa)) (gridTo dN ++ row12 dN sN)))) (fun _ sv _ => 12 - (intOf sv).toNat)
        case atStart => exact ⟨0, rfl, by omega, by show FInv _ _ _ (pick (fun q => ¬PlIn q (pa)) (gridTo dN ++ [])); rw [List.append_nil]; exact hI.out⟩
        case round =>
          obtain ⟨sN, rfl, hsN, hI2⟩ := hrel
          clear hI
          by_cases hlt2 : sN < 12
          · have hBp : Below wr.heap.size wr (wr.alloc (.cells #[.int .i64 (dN : Int), .int .i64 (sN : Int)] 39)) := (Below.refl _ _).alloc (Nat.le_refl _) _
            have HIp := Lib.hid (hI2.out.below hBp)
            have hlp := pick_length_le (fun q => ¬PlIn q (pa)) (gridTo dN ++ row12 dN sN)
            rw [List.length_append, grid_length, row_length] at hlp
            have HCq := Lib.hid (HC.out ((dN : Int), (sN : Int)) _ HIp.out.1)
            by_cases hin : PlIn ((dN : Int), (sN : Int)) (pa)
            · rw [tt_true hin] at HCq
              have e : pick (fun q => ¬PlIn q (pa)) (gridTo dN ++ row12 dN (sN + 1)) = pick (fun q => ¬PlIn q (pa)) (gridTo dN ++ row12 dN sN) := by
                rw [row_succ, ← List.append_assoc, pick_append, pickNone _ _ (by simpa using hin), List.append_nil]
              have He := Lib.hid e
              clear hBp hI2 hin e
              go_wp2_with fail
              refine HCq.out.mono ?_
              rintro e w3 ⟨rfl, hB3⟩
              have HN : Hid (FInv w4 w3 u8 (pick (fun q => ¬PlIn q (pa)) (gridTo dN ++ row12 dN (sN + 1)))) := by rw [He.out]; exact HIp.out.below hB3
              clear hB3
              go_wp2
              exact ⟨⟨sN + 1, by go_num, by omega, HN⟩, by simp [intOf]; omega⟩
            · rw [tt_false hin] at HCq
              have e : pick (fun q => ¬PlIn q (pa)) (gridTo dN ++ row12 dN (sN + 1)) = pick (fun q => ¬PlIn q (pa)) (gridTo dN ++ row12 dN sN) ++ [((dN : Int), (sN : Int))] := by
                rw [row_succ, ← List.append_assoc, pick_append _ (gridTo dN ++ row12 dN sN), pick_one _ _ hin]
              have He := Lib.hid e
              have k0 : (wr.alloc (.cells #[.int .i64 (dN : Int), .int .i64 (sN : Int)] 39)).cell? ⟨wr.heap.size, 0, none⟩ = some (.int .i64 (dN : Int)) := by simp [go_sem]
              have k1 : (wr.alloc (.cells #[.int .i64 (dN : Int), .int .i64 (sN : Int)] 39)).cell? ⟨wr.heap.size, 1, none⟩ = some (.int .i64 (sN : Int)) := by simp [go_sem]
              have HK := Lib.hid (And.intro k0 k1)
              clear hBp hI2 hin e k0 k1
              go_wp2_with fail
              refine HCq.out.mono ?_
              rintro e w3 ⟨rfl, hB3⟩
              have m0 := cell_below hB3 HK.out.1
              have m1 := cell_below hB3 HK.out.2
              have hI3 := HIp.out.below hB3
              have hown := hI3.2.alloc (.cells #[.int .i64 (dN : Int), .int .i64 (sN : Int)] 39)
              have hnews := news_pl w3 (.int .i64 (dN : Int)) (.int .i64 (sN : Int)) 39 w3.heap.size rfl
              have hbase : w4.heap.size ≤ (w3.alloc (.cells #[.int .i64 (dN : Int), .int .i64 (sN : Int)] 39)).heap.size := by have := hI3.1.size; simp; omega
              have HX : Hid (∀ g4 cap4 w4', w4'.ownsRow w4.heap.size 39 2 (.slice (some ⟨g4, 0, none⟩) ((pick (fun q => ¬PlIn q (pa)) (gridTo dN ++ row12 dN sN)).length + 1) cap4) ((pick (fun q => ¬PlIn q (pa)) (gridTo dN ++ row12 dN sN)).length + 1) (plCells (pick (fun q => ¬PlIn q (pa)) (gridTo dN ++ row12 dN sN)) ++ [.int .i64 (dN : Int), .int .i64 (sN : Int)]) → (w3.alloc (.cells #[.int .i64 (dN : Int), .int .i64 (sN : Int)] 39)).grownBy w4' u8.ownBlock →
                  FInv w4 w4' (.slice (some ⟨g4, 0, none⟩) ((pick (fun q => ¬PlIn q (pa)) (gridTo dN ++ row12 dN sN)).length + 1) cap4) (pick (fun q => ¬PlIn q (pa)) (gridTo dN ++ row12 dN (sN + 1)))) := fun g4 cap4 w4' h4 hg4 => by
                have hBa : Below w3.heap.size w3 (w3.alloc (.cells #[.int .i64 (dN : Int), .int .i64 (sN : Int)] 39)) := (Below.refl _ _).alloc (Nat.le_refl _) _
                have hI4 := hI3.below hBa
                refine ⟨hI4.1.grown hg4 hbase (fun i e => (hown.lt i e).1), ?_⟩
                rw [He.out, List.length_append, plCells_add]
                exact h4
              generalize hN : (pick (fun q => ¬PlIn q (pa)) (gridTo dN ++ row12 dN sN)).length = N at hlp hown HX
              generalize plCells (pick (fun q => ¬PlIn q (pa)) (gridTo dN ++ row12 dN sN)) = ys at hown HX
              clear hI3 hN He hB3 HK HCq HIp
              go_wp2_with (at_builtin; refine wpList_append_lies _ rfl _ _ 28 rfl w4.heap.size 39 i0 _ 2 16 Try.underlying28 hi0 hz0 hz1 hz2 rfl (by omega) _ N ys rfl hown ⟨_, 0, none⟩ 1 1 [.int .i64 (dN : Int), .int .i64 (sN : Int)] rfl rfl hnews (by simp [Value.oneCell']) (by omega) (by simp [maxLen]; omega) (by omega) hbase _ rfl ?_; intro g4 cap4 w4' hown4 hgrow4 hat4 hlt4)
              exact ⟨⟨sN + 1, by go_num, by omega, HX.out g4 cap4 w4' hown4 hgrow4⟩, by simp [intOf]; omega⟩
          · obtain rfl : sN = 12 := by omega
            have HN : Hid (FInv w4 wr u8 (pick (fun q => ¬PlIn q (pa)) (gridTo (dN + 1)))) := by rw [grid_succ]; exact hI2
            go_wp2
            exact ⟨⟨dN + 1, by go_num, by omega, HN⟩, by simp [intOf]; omega⟩
      · obtain rfl : dN = nn := by omega
        have HE : Hid (OwnPl wr w.heap.size u8 (pick (FreeP va vb) (gridTo dN)) ∧ Below w.heap.size w wr) := by
          refine ⟨?_, HB4.out.trans (hI.out.1.mono HB4.out.size)⟩
          rw [← HU.out]
          exact own_mono hI.out.2 HB4.out.size
        go_wp2
        go_ret
        exact ⟨_, rfl, HE.out⟩
  · have hqp : 0 < pb.length := List.length_pos_iff.2 hpe
    have hplB := plCells_length pb
    have hlx : w.heap.size < w2.drew.heap.size := World.block_lt_of_cell? w2 _ x0
    have hlz : w.heap.size + 1 < w2.drew.heap.size := World.block_lt_of_cell? w2 _ z0
    have honeB := plCells_one pb
    go_wp2_with fail
    go_region_held3 (fun w' => w'.cell? ⟨w.heap.size, 0, none⟩ = some (.int .i64 ta) ∧ w'.cell? ⟨w.heap.size, 1, none⟩ = some (.slice aa va.length ca) ∧ w'.cell? ⟨w.heap.size + 1, 0, none⟩ = some (.int .i64 tb) ∧ w'.cell? ⟨w.heap.size + 1, 1, none⟩ = some (.slice ab vb.length cb)) (first | go_keep | exact hc5 | exact hc4 | exact hc3)
      (first
        | (refine step_append_lies _ (by rfl) _ _ _ (by rfl) w2.drew.heap.size 39 i0 _ 2 16 Try.underlying28 hi0 hz0 hz1 hz2 rfl (by omega) _ pa.length (plCells pa) (by rfl) HO4.out ⟨b4, o4, none⟩ pb.length c4 (plCells pb) (by rfl) hplB hnews4 honeB hqp (by simp [maxLen]; omega) (by omega) hb4 _ rfl ?_; intro g5 cap5 w5 hown5 hgrow5 hat5 hlt5; have HO5 := Lib.hid hown5; have HB5 : Hid (Below w.heap.size w w5) := HB4.out.grown hgrow5 HB4.out.size (fun i e => Nat.le_trans hsd (HO4.out.lt i e).1); have hc5 := (⟨keep_cell hgrow5 (fun i e => (HO4.out.lt i e).1) hlx hb4 hc4.1, keep_cell hgrow5 (fun i e => (HO4.out.lt i e).1) hlx hb4 hc4.2.1, keep_cell hgrow5 (fun i e => (HO4.out.lt i e).1) hlz hb4 hc4.2.2.1, keep_cell hgrow5 (fun i e => (HO4.out.lt i e).1) hlz hb4 hc4.2.2.2⟩ : w5.cell? ⟨w.heap.size, 0, none⟩ = some (.int .i64 ta) ∧ w5.cell? ⟨w.heap.size, 1, none⟩ = some (.slice aa va.length ca) ∧ w5.cell? ⟨w.heap.size + 1, 0, none⟩ = some (.int .i64 tb) ∧ w5.cell? ⟨w.heap.size + 1, 1, none⟩ = some (.slice ab vb.length cb)); clear hown5 hgrow5 hat5 hlt5)
        | (go_simp; go_at_call 11; ((with_reducible refine (HPa.out _ HBd.out).mono ?_); rintro e w3 ⟨v3, rfl, ho3, hB3⟩; obtain ⟨a3, c3, rfl, hk3, hm3, hs3⟩ := OwnPl.reads ho3; have HO3 := Lib.hid ho3; have hB3s := Lib.hid hB3; have HB3 := Lib.hid (HBd.out.trans (hB3.mono HBd.out.size)); have hc3 := (⟨cell_below hB3 x0, cell_below hB3 x1, cell_below hB3 z0, cell_below hB3 z1⟩ : w3.cell? ⟨w.heap.size, 0, none⟩ = some (.int .i64 ta) ∧ w3.cell? ⟨w.heap.size, 1, none⟩ = some (.slice aa va.length ca) ∧ w3.cell? ⟨w.heap.size + 1, 0, none⟩ = some (.int .i64 tb) ∧ w3.cell? ⟨w.heap.size + 1, 1, none⟩ = some (.slice ab vb.length cb)); clear ho3 hs3 hB3))
        | (go_simp; go_at_call 11; ((with_reducible refine (HPb.out _ HB3.out).mono ?_); rintro e w4 ⟨v4, rfl, ho4, hB4⟩; obtain ⟨a4, c4, rfl, hk4, hm4, hs4⟩ := OwnPl.reads ho4; have HO4 := Lib.hid (own_below HO3.out hB4); have HB4 := Lib.hid (HB3.out.trans (hB4.mono HB3.out.size)); have hc4 := (⟨cell_below hB4 hc3.1, cell_below hB4 hc3.2.1, cell_below hB4 hc3.2.2.1, cell_below hB4 hc3.2.2.2⟩ : w4.cell? ⟨w.heap.size, 0, none⟩ = some (.int .i64 ta) ∧ w4.cell? ⟨w.heap.size, 1, none⟩ = some (.slice aa va.length ca) ∧ w4.cell? ⟨w.heap.size + 1, 0, none⟩ = some (.int .i64 tb) ∧ w4.cell? ⟨w.heap.size + 1, 1, none⟩ = some (.slice ab vb.length cb)); obtain ⟨b4, o4, rfl, _⟩ := hs4.resolve_left hpe; have hnews4 := plNews hs4; have hb4 : w2.drew.heap.size ≤ w4.heap.size := hsz4 hB3s.out hB4; clear ho4 hs4 hB4)))
    have HC : Hid (∀ (q : PlD) w' (h : Below w5.heap.size w5 w'), Calls Try.prog 47 #[.slice (some ⟨g5, 0, none⟩) (pa.length + pb.length) cap5, .agg #[.int .i64 q.1, .int .i64 q.2]] w' fun e w'' => e = .returned (.bool (tt (PlIn q (pa ++ pb)))) ∧ Below w'.heap.size w' w'') := fun q w' h => by
      have ho : OwnPl w5 w2.drew.heap.size (.slice (some ⟨g5, 0, none⟩) (pa ++ pb).length cap5) (pa ++ pb) := by
        unfold OwnPl
        rw [List.length_append, plCells_app]
        exact HO5.out
      obtain ⟨a', c', hv', _, _, hp⟩ := OwnPl.reads ho
      cases hv'
      have := containsPl_any q (some ⟨g5, 0, none⟩) cap5 (pa ++ pb) w' (by rw [List.length_append]; unfold maxLen; omega) (hp.below h)
      rw [List.length_append] at this
      exact this
    have HU := HFr
    clear hc3 hc4 x0 x1 z0 z1 HO4 HO3 HB3 HBd HB2 HB1 HB0 HPa HPb HRa HRb HFr hnews4 honeB hplB hb4 HO5 hc5 hlx hlz
    go_wp2_with fail
    go_loopw [8, 30] (fun o dv wr => ∃ dN : Nat, dv = .int .i64 (dN : Int) ∧ dN ≤ nn ∧ Hid (FInv w5 wr o (pick (fun q => ¬PlIn q (pa ++ pb)) (gridTo dN)))) (fun _ dv _ => nn - (intOf dv).toNat)
    case atStart => exact ⟨0, rfl, by omega, Below.refl _ _, World.ownsRow_nil _ _ _ _⟩
    case round =>
      obtain ⟨dN, rfl, hdN, hI⟩ := hrel
      by_cases hlt : dN < nn
      · go_wp2_with fail
        go_loopw [8, 33] (fun o sv wr' => ∃ sN : Nat, sv = .int .i64 (sN : Int) ∧ sN ≤ 12 ∧ Hid (FInv w5 wr' o (pick (fun q => ¬PlIn q (pa ++ pb)) (gridTo dN ++ row12 dN sN)))) (fun _ sv _ => 12 - (intOf sv).toNat)
        case atStart => exact ⟨0, rfl, by omega, by show FInv _ _ _ (pick (fun q => ¬PlIn q (pa ++ pb)) (gridTo dN ++ [])); rw [List.append_nil]; exact hI.out⟩
        case round =>
          obtain ⟨sN, rfl, hsN, hI2⟩ := hrel
          clear hI
          by_cases hlt2 : sN < 12
          · have hBp : Below wr.heap.size wr (wr.alloc (.cells #[.int .i64 (dN : Int), .int .i64 (sN : Int)] 39)) := (Below.refl _ _).alloc (Nat.le_refl _) _
            have HIp := Lib.hid (hI2.out.below hBp)
            have hlp := pick_length_le (fun q => ¬PlIn q (pa ++ pb)) (gridTo dN ++ row12 dN sN)
            rw [List.length_append, grid_length, row_length] at hlp
            have HCq := Lib.hid (HC.out ((dN : Int), (sN : Int)) _ HIp.out.1)
            by_cases hin : PlIn ((dN : Int), (sN : Int)) (pa ++ pb)
            · rw [tt_true hin] at HCq
              have e : pick (fun q => ¬PlIn q (pa ++ pb)) (gridTo dN ++ row12 dN (sN + 1)) = pick (fun q => ¬PlIn q (pa ++ pb)) (gridTo dN ++ row12 dN sN) := by
                rw [row_succ, ← List.append_assoc, pick_append, pickNone _ _ (by simpa using hin), List.append_nil]
              have He := Lib.hid e
              clear hBp hI2 hin e
              go_wp2_with fail
              refine HCq.out.mono ?_
              rintro e w3 ⟨rfl, hB3⟩
              have HN : Hid (FInv w5 w3 u8 (pick (fun q => ¬PlIn q (pa ++ pb)) (gridTo dN ++ row12 dN (sN + 1)))) := by rw [He.out]; exact HIp.out.below hB3
              clear hB3
              go_wp2
              exact ⟨⟨sN + 1, by go_num, by omega, HN⟩, by simp [intOf]; omega⟩
            · rw [tt_false hin] at HCq
              have e : pick (fun q => ¬PlIn q (pa ++ pb)) (gridTo dN ++ row12 dN (sN + 1)) = pick (fun q => ¬PlIn q (pa ++ pb)) (gridTo dN ++ row12 dN sN) ++ [((dN : Int), (sN : Int))] := by
                rw [row_succ, ← List.append_assoc, pick_append _ (gridTo dN ++ row12 dN sN), pick_one _ _ hin]
              have He := Lib.hid e
              have k0 : (wr.alloc (.cells #[.int .i64 (dN : Int), .int .i64 (sN : Int)] 39)).cell? ⟨wr.heap.size, 0, none⟩ = some (.int .i64 (dN : Int)) := by simp [go_sem]
              have k1 : (wr.alloc (.cells #[.int .i64 (dN : Int), .int .i64 (sN : Int)] 39)).cell? ⟨wr.heap.size, 1, none⟩ = some (.int .i64 (sN : Int)) := by simp [go_sem]
              have HK := Lib.hid (And.intro k0 k1)
              clear hBp hI2 hin e k0 k1
              go_wp2_with fail
              refine HCq.out.mono ?_
              rintro e w3 ⟨rfl, hB3⟩
              have m0 := cell_below hB3 HK.out.1
              have m1 := cell_below hB3 HK.out.2
              have hI3 := HIp.out.below hB3
              have hown := hI3.2.alloc (.cells #[.int .i64 (dN : Int), .int .i64 (sN : Int)] 39)
              have hnews := news_pl w3 (.int .i64 (dN : Int)) (.int .i64 (sN : Int)) 39 w3.heap.size rfl
              have hbase : w5.heap.size ≤ (w3.alloc (.cells #[.int .i64 (dN : Int), .int .i64 (sN : Int)] 39)).heap.size := by have := hI3.1.size; simp; omega
              have HX : Hid (∀ g4 cap4 w4', w4'.ownsRow w5.heap.size 39 2 (.slice (some ⟨g4, 0, none⟩) ((pick (fun q => ¬PlIn q (pa ++ pb)) (gridTo dN ++ row12 dN sN)).length + 1) cap4) ((pick (fun q => ¬PlIn q (pa ++ pb)) (gridTo dN ++ row12 dN sN)).length + 1) (plCells (pick (fun q => ¬PlIn q (pa ++ pb)) (gridTo dN ++ row12 dN sN)) ++ [.int .i64 (dN : Int), .int .i64 (sN : Int)]) → (w3.alloc (.cells #[.int .i64 (dN : Int), .int .i64 (sN : Int)] 39)).grownBy w4' u8.ownBlock →
                  FInv w5 w4' (.slice (some ⟨g4, 0, none⟩) ((pick (fun q => ¬PlIn q (pa ++ pb)) (gridTo dN ++ row12 dN sN)).length + 1) cap4) (pick (fun q => ¬PlIn q (pa ++ pb)) (gridTo dN ++ row12 dN (sN + 1)))) := fun g4 cap4 w4' h4 hg4 => by
                have hBa : Below w3.heap.size w3 (w3.alloc (.cells #[.int .i64 (dN : Int), .int .i64 (sN : Int)] 39)) := (Below.refl _ _).alloc (Nat.le_refl _) _
                have hI4 := hI3.below hBa
                refine ⟨hI4.1.grown hg4 hbase (fun i e => (hown.lt i e).1), ?_⟩
                rw [He.out, List.length_append, plCells_add]
                exact h4
              generalize hN : (pick (fun q => ¬PlIn q (pa ++ pb)) (gridTo dN ++ row12 dN sN)).length = N at hlp hown HX
              generalize plCells (pick (fun q => ¬PlIn q (pa ++ pb)) (gridTo dN ++ row12 dN sN)) = ys at hown HX
              clear hI3 hN He hB3 HK HCq HIp
              go_wp2_with (at_builtin; refine wpList_append_lies _ rfl _ _ 28 rfl w5.heap.size 39 i0 _ 2 16 Try.underlying28 hi0 hz0 hz1 hz2 rfl (by omega) _ N ys rfl hown ⟨_, 0, none⟩ 1 1 [.int .i64 (dN : Int), .int .i64 (sN : Int)] rfl rfl hnews (by simp [Value.oneCell']) (by omega) (by simp [maxLen]; omega) (by omega) hbase _ rfl ?_; intro g4 cap4 w4' hown4 hgrow4 hat4 hlt4)
              exact ⟨⟨sN + 1, by go_num, by omega, HX.out g4 cap4 w4' hown4 hgrow4⟩, by simp [intOf]; omega⟩
          · obtain rfl : sN = 12 := by omega
            have HN : Hid (FInv w5 wr u8 (pick (fun q => ¬PlIn q (pa ++ pb)) (gridTo (dN + 1)))) := by rw [grid_succ]; exact hI2
            go_wp2
            exact ⟨⟨dN + 1, by go_num, by omega, HN⟩, by simp [intOf]; omega⟩
      · obtain rfl : dN = nn := by omega
        have HE : Hid (OwnPl wr w.heap.size u8 (pick (FreeP va vb) (gridTo dN)) ∧ Below w.heap.size w wr) := by
          refine ⟨?_, HB5.out.trans (hI.out.1.mono HB5.out.size)⟩
          rw [← HU.out]
          exact own_mono hI.out.2 HB5.out.size
        go_wp2
        go_ret
        exact ⟨_, rfl, HE.out⟩

end Go.Proofs.Ytlonecgmldjdpaa
