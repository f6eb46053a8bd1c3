/- The drawn arguments of the laws over models: whatever the code, the model is read and small, and nothing old has turned. Conditions: none. -/
import Derived.Test.YtmmckpjapnkepaaJD
namespace Go.Proofs.Ytmmckpjapnkepaa
open Go.ChangeShapes Go.WideShapes Go.ChangeAt Go.RowKit Go.Sort

theorem fin_draw {w w3 : World} {v : Value} {ss : List ShD} (hB : Below w.heap.size w w3) (K : Blk w3 w.heap.size #[.slice none 0 0] 25) (hv : ShV w3 v ss) :
    ShV (w3.setCell ⟨w.heap.size, 0, none⟩ v) v ss ∧ Below w.heap.size w (w3.setCell ⟨w.heap.size, 0, none⟩ v) :=
  ⟨hv.aside K.noStr (gset_by _ _ _ _), hB.setCell (p := ⟨w.heap.size, 0, none⟩) (by simp) _⟩
/-- A MODEL AND WHAT ELSE IS DRAWN. -/
def MdAt (w : World) (v : Value) (ss : List ShD) : Prop := ShV w v ss ∧ ss.length ≤ 5 ∧ MdSmall ss
def DrawnMk (w : World) (e : Ending) (w' : World) : Prop := ∃ v ss nm, e = .returned (.tuple #[.agg #[v], .string nm]) ∧ MdAt w' v ss ∧ nm.size ≤ 1048576 ∧ Below w.heap.size w w'
def DrawnCp (w : World) (e : Ending) (w' : World) : Prop := ∃ v ss fr nm, e = .returned (.tuple #[.agg #[v], .string fr, .string nm]) ∧ MdAt w' v ss ∧ fr.size ≤ 1048576 ∧ nm.size ≤ 1048576 ∧ Below w.heap.size w w'
def DrawnWr (w : World) (e : Ending) (w' : World) : Prop := ∃ v ss nm b t, e = .returned (.tuple #[.agg #[v], .string nm, .int .i64 b, .string t]) ∧ MdAt w' v ss ∧ nm.size ≤ 1048576 ∧ t.size ≤ 10 ∧ Below w.heap.size w w'

set_option linter.unusedSimpArgs false in
set_option maxRecDepth 100000 in
set_option maxHeartbeats 4000000 in
theorem DrawModelMake_any (a : Option Addr) (len cap : Nat) (z : List Int) (w : World) (h : IsBytes w a len cap z) :
    Calls Try.prog 21 #[.slice a len cap] w (DrawnMk w) := by
  have hB0 : Below w.heap.size w (w.alloc (.cells #[.slice none 0 0] 25)) := (Below.refl _ _).alloc (Nat.le_refl _) _
  have HO := Lib.hid (l6Open_any a len cap z _ (h.below hB0))
  have K0 := Lib.hid (Blk.new w #[.slice none 0 0] 25)
  have HB0 := Lib.hid hB0
  clear h hB0
  go_enter Try.func21, Try.ntmps21
  go_wp2_with fail
  refine HO.out.mono ?_
  rintro e w1 ⟨B, rfl, hR1, hB1⟩
  have HK1 := Lib.hid (K0.out.below hB1 K0.out.lt)
  have HB1 := Lib.hid (below_trans HB0.out hB1 HB0.out.size)
  have hnB : w.heap.size < B := by have := hR1.1; simp at this; omega
  have HR1 := Lib.hid hR1
  clear hR1 hB1 K0 HB0 HO
  generalize (w.alloc (.cells #[.slice none 0 0] 25)).heap.size = n₀ at HR1
  go_wp2_with fail
  refine (l73Model_any n₀ B 0 w1 (by omega) HR1.out).mono ?_
  rintro e w2 ⟨v, ss, q, rfl, hv, h5, hs, hq, hR2, hg2⟩
  obtain ⟨av, cv, rfl, hcv1, hcv2, hxa⟩ := hv
  have hv : ShV w2 (.slice av ss.length cv) ss := ⟨av, cv, rfl, hcv1, hcv2, hxa⟩
  have hw1 : w.heap.size ≤ w1.heap.size := HB1.out.size
  have HK2 := Lib.hid (HK1.out.gb hg2 (fun e => by injection e with e; omega))
  have HB2 := Lib.hid (Below.grown HB1.out hg2 hw1 (fun k e => by cases e; omega))
  have HR2 := Lib.hid hR2
  have HV2 := Lib.hid hv
  have HS := Lib.hid hs
  have hw2 : w.heap.size ≤ w2.heap.size := HB2.out.size
  clear hv hs hR2 hg2 HK1 HB1 HR1
  go_wp2_with fail
  refine (ofLit_any n₀ B q _ 6 _ 10 _ (by omega) (HR2.out.alloc _) (by omega) (by omega) (by have := HR2.out.lt; omega) (Lib.hid (litAt_new w2 _ 10 rfl))).mono ?_
  rintro e w3 ⟨nm, rfl, hnm, hR3, hg3⟩
  have hg := (World.grownBy_alloc w2 _ (some B)).trans hg3
  have hK3 := HK2.out.gb hg (fun e => by injection e with e; omega)
  have HF := Lib.hid (fin_draw (Below.grown HB2.out hg hw2 (fun k e => by cases e; omega)) hK3 (HV2.out.aside HR2.out.noStr hg))
  have r3 : w3.cell? ⟨w.heap.size, 0, none⟩ = some (.slice none 0 0) := hK3.cell 0
  have f3 := hK3.frozen 0
  have HX : Hid (DrawnMk w (.returned (.tuple #[.agg #[.slice av ss.length cv], .string nm])) (w3.setCell ⟨w.heap.size, 0, none⟩ (.slice av ss.length cv))) := ⟨_, ss, nm, rfl, ⟨HF.out.1, h5, HS.out⟩, by omega, HF.out.2⟩
  clear hR3 hg3 hg hK3 HK2 HB2 HR2 HV2 HF hxa
  go_wp2
  refine bodyPost_ret (v := .tuple #[.agg #[.slice av ss.length cv], .string nm]) (by simp [results, Try.results21, go_sem, r3]) rfl HX.out

set_option linter.unusedSimpArgs false in
set_option maxRecDepth 100000 in
set_option maxHeartbeats 4000000 in
theorem DrawModelDrop_any (a : Option Addr) (len cap : Nat) (z : List Int) (w : World) (h : IsBytes w a len cap z) :
    Calls Try.prog 25 #[.slice a len cap] w (DrawnMk w) := by
  have hB0 : Below w.heap.size w (w.alloc (.cells #[.slice none 0 0] 25)) := (Below.refl _ _).alloc (Nat.le_refl _) _
  have HO := Lib.hid (l6Open_any a len cap z _ (h.below hB0))
  have K0 := Lib.hid (Blk.new w #[.slice none 0 0] 25)
  have HB0 := Lib.hid hB0
  clear h hB0
  go_enter Try.func25, Try.ntmps25
  go_wp2_with fail
  refine HO.out.mono ?_
  rintro e w1 ⟨B, rfl, hR1, hB1⟩
  have HK1 := Lib.hid (K0.out.below hB1 K0.out.lt)
  have HB1 := Lib.hid (below_trans HB0.out hB1 HB0.out.size)
  have hnB : w.heap.size < B := by have := hR1.1; simp at this; omega
  have HR1 := Lib.hid hR1
  clear hR1 hB1 K0 HB0 HO
  generalize (w.alloc (.cells #[.slice none 0 0] 25)).heap.size = n₀ at HR1
  go_wp2_with fail
  refine (l73Model_any n₀ B 0 w1 (by omega) HR1.out).mono ?_
  rintro e w2 ⟨v, ss, q, rfl, hv, h5, hs, hq, hR2, hg2⟩
  obtain ⟨av, cv, rfl, hcv1, hcv2, hxa⟩ := hv
  have hv : ShV w2 (.slice av ss.length cv) ss := ⟨av, cv, rfl, hcv1, hcv2, hxa⟩
  have hw1 : w.heap.size ≤ w1.heap.size := HB1.out.size
  have HK2 := Lib.hid (HK1.out.gb hg2 (fun e => by injection e with e; omega))
  have HB2 := Lib.hid (Below.grown HB1.out hg2 hw1 (fun k e => by cases e; omega))
  have HR2 := Lib.hid hR2
  have HV2 := Lib.hid hv
  have HS := Lib.hid hs
  have hw2 : w.heap.size ≤ w2.heap.size := HB2.out.size
  clear hv hs hR2 hg2 HK1 HB1 HR1
  have HXA := Lib.hid hxa
  have hga := World.grownBy_alloc w2 (.cells #[.slice av ss.length cv] 25) (some B)
  have HKm := Lib.hid (Blk.new w2 #[.slice av ss.length cv] 25)
  have HK3 := Lib.hid (HK2.out.gb hga (fun e => by injection e with e; omega))
  have HB3 := Lib.hid (Below.grown HB2.out hga hw2 (fun k e => by cases e; omega))
  have HR3 := Lib.hid (HR2.out.alloc (.cells #[.slice av ss.length cv] 25))
  have HX3 := Lib.hid (ShAt.aside HXA.out HR2.out.noStr hga)
  have hmB : w2.heap.size ≠ B := by have := HR2.out.lt; omega
  have hwm0 : w.heap.size < w2.heap.size := HK2.out.lt
  clear hxa HXA hga HK2 HB2 HR2 HV2
  go_wp2_with fail
  generalize w2.alloc (.cells #[.slice av ss.length cv] 25) = w3 at HKm HK3 HB3 HR3 HX3 ⊢
  generalize w2.heap.size = m at HKm hmB hw2 hwm0 ⊢
  have c0 : w3.drew.cell? ⟨m, 0, none⟩ = some (.slice av ss.length cv) := HKm.out.cell 0
  have hw3 : w.heap.size ≤ w3.heap.size := HB3.out.size
  have hBw : B < w3.heap.size := HR3.out.lt
  have hwm : w.heap.size ≠ B := by omega
  have HNm := Lib.hid (l73Name_any n₀ B q av cv ss w3.drew (by omega) HR3.out.drew (by omega) HS (Lib.hid (fun w' hg => ShAt.aside HX3.out HR3.out.noStr ((gb_drew w3 _).trans hg))))
  refine AnyS.start (S := (fun w' : World => w'.cell? ⟨m, 0, none⟩ = some (.slice av ss.length cv))) (L := 5) (by kernel_rfl) ?_
  refine AnyS.take 0 (show _ = some _ from rfl) rfl (by kernel_rfl) (by kernel_rfl) (by kernel_rfl) (by kernel_rfl) (fun _ _ _ h => h) c0 (by rfl) (fun w' hSw => by obtain s1 := hSw; go_simp; try with_reducible rfl) ?_
  try simp only [Act.put, List.setIfInBounds_toArray, List.set_cons_zero, List.set_cons_succ]
  refine AnyS.take 1 (show _ = some _ from rfl) rfl (by kernel_rfl) (by kernel_rfl) (by kernel_rfl) (by kernel_rfl) (fun _ _ _ h => h) c0 (by rfl) (fun w' hSw => by obtain s1 := hSw; go_simp; try with_reducible rfl) ?_
  try simp only [Act.put, List.setIfInBounds_toArray, List.set_cons_zero, List.set_cons_succ]
  refine AnyS.take 2 (show _ = some _ from rfl) rfl (by kernel_rfl) (by kernel_rfl) (by kernel_rfl) (by kernel_rfl) (fun _ _ _ h => h) c0 (by rfl) (fun w' hSw => by obtain s1 := hSw; go_simp; try with_reducible rfl) ?_
  try simp only [Act.put, List.setIfInBounds_toArray, List.set_cons_zero, List.set_cons_succ]
  refine AnyS.one 3 (by kernel_rfl) (show _ = some _ from rfl) (fun K' hK' => ?_)
  go_simp
  go_at_call 35
  refine (HNm.out).mono ?_
  rintro e w4 ⟨nm, q4, rfl, hnm, hq4, hR4, hg⟩
  have Gw4 : w3.grownBy w4 (some B) := (gb_drew w3 _).trans hg
  have Cw4 : w4.cell? ⟨m, 0, none⟩ = some (.slice av ss.length cv) := Gw4.cell (show w3.cell? _ = _ from c0) (by simp; exact hmB)
  clear hg
  go_simp
  refine hK' _ _ ⟨?_, fun _ => Cw4⟩
  clear hK' K'
  try simp only [Act.put, List.setIfInBounds_toArray, List.set_cons_zero, List.set_cons_succ]
  have hK9 := HK3.out.gb Gw4 (fun e => by injection e with e; omega)
  have HF := Lib.hid (fin_draw (Below.grown HB3.out Gw4 hw3 (fun k e => by cases e; omega)) hK9 (⟨av, cv, rfl, by assumption, by assumption, HX3.out.aside HR3.out.noStr Gw4⟩ : ShV w4 (.slice av ss.length cv) ss))
  have r9 : w4.cell? ⟨w.heap.size, 0, none⟩ = some (.slice none 0 0) := hK9.cell 0
  have f9 := hK9.frozen 0
  have Cz : (w4.setCell ⟨w.heap.size, 0, none⟩ (.slice av ss.length cv)).cell? ⟨m, 0, none⟩ = some (.slice av ss.length cv) := (World.cell?_setCell_far _ _ _ _ (fun e => by simp at e; omega)).trans Cw4
  clear hK9
  refine AnyS.one 4 (by kernel_rfl) (show _ = some _ from rfl) (fun K' hK' => ?_)
  go_simp
  refine hK' _ _ ⟨?_, fun _ => Cz⟩
  clear hK' K'
  try simp only [Act.put, List.setIfInBounds_toArray, List.set_cons_zero, List.set_cons_succ]
  refine AnyS.one 5 (by kernel_rfl) (show _ = some _ from rfl) (fun K' hK' => ?_)
  go_simp
  refine hK' _ _ ⟨AnyS.done (by kernel_rfl) ?_, fun h => absurd rfl h⟩
  clear hK' K'
  try simp only [Act.put, List.setIfInBounds_toArray, List.set_cons_zero, List.set_cons_succ]
  have HX : Hid (DrawnMk w (.returned (.tuple #[.agg #[.slice av ss.length cv], .string nm])) (w4.setCell ⟨w.heap.size, 0, none⟩ (.slice av ss.length cv))) := ⟨_, ss, nm, rfl, ⟨HF.out.1, h5, HS.out⟩, by omega, HF.out.2⟩
  clear HF
  go_wp2
  refine bodyPost_ret (v := .tuple #[.agg #[.slice av ss.length cv], .string nm]) (by simp [results, Try.results25, go_sem, r9]) rfl HX.out

end Go.Proofs.Ytmmckpjapnkepaa
