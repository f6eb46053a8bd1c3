/- The drawn arguments of the laws over models: writing. Conditions: none. -/
import Derived.Test.YtmmckpjapnkepaaJF
namespace Go.Proofs.Ytmmckpjapnkepaa
open Go.ChangeShapes Go.WideShapes Go.ChangeAt Go.RowKit Go.Sort

set_option linter.unusedSimpArgs false in
set_option maxRecDepth 100000 in
set_option maxHeartbeats 4000000 in
theorem DrawModelWrite_any (a : Option Addr) (len cap : Nat) (z : List Int) (w : World) (h : IsBytes w a len cap z) :
    Calls Try.prog 12 #[.slice a len cap] w (DrawnWr w) := by
  have hB0 : Below w.heap.size w (w.alloc (.cells #[.slice none 0 0] 25)) := (Below.refl _ _).alloc (Nat.le_refl _) _
  have HO := Lib.hid (l6Open_any a len cap z _ (h.below hB0))
  have K0 := Lib.hid (Blk.new w #[.slice none 0 0] 25)
  have HB0 := Lib.hid hB0
  clear h hB0
  go_enter Try.func12, Try.ntmps12
  go_wp2_with fail
  refine HO.out.mono ?_
  rintro e w1 ⟨B, rfl, hR1, hB1⟩
  have HK1 := Lib.hid (K0.out.below hB1 K0.out.lt)
  have HB1 := Lib.hid (below_trans HB0.out hB1 HB0.out.size)
  have hnB : w.heap.size < B := by have := hR1.1; simp at this; omega
  have HR1 := Lib.hid hR1
  clear hR1 hB1 K0 HB0 HO
  generalize (w.alloc (.cells #[.slice none 0 0] 25)).heap.size = n₀ at HR1
  go_wp2_with fail
  refine (l73Model_any n₀ B 0 w1 (by omega) HR1.out).mono ?_
  rintro e w2 ⟨v, ss, q, rfl, hv, h5, hs, hq, hR2, hg2⟩
  obtain ⟨av, cv, rfl, hcv1, hcv2, hxa⟩ := hv
  have hv : ShV w2 (.slice av ss.length cv) ss := ⟨av, cv, rfl, hcv1, hcv2, hxa⟩
  have hw1 : w.heap.size ≤ w1.heap.size := HB1.out.size
  have HK2 := Lib.hid (HK1.out.gb hg2 (fun e => by injection e with e; omega))
  have HB2 := Lib.hid (Below.grown HB1.out hg2 hw1 (fun k e => by cases e; omega))
  have HR2 := Lib.hid hR2
  have HV2 := Lib.hid hv
  have HS := Lib.hid hs
  have hw2 : w.heap.size ≤ w2.heap.size := HB2.out.size
  clear hv hs hR2 hg2 HK1 HB1 HR1
  have HXA := Lib.hid hxa
  have hga := World.grownBy_alloc w2 (.cells #[.slice av ss.length cv] 25) (some B)
  have HKm := Lib.hid (Blk.new w2 #[.slice av ss.length cv] 25)
  have HK3 := Lib.hid (HK2.out.gb hga (fun e => by injection e with e; omega))
  have HB3 := Lib.hid (Below.grown HB2.out hga hw2 (fun k e => by cases e; omega))
  have HR3 := Lib.hid (HR2.out.alloc (.cells #[.slice av ss.length cv] 25))
  have HX3 := Lib.hid (ShAt.aside HXA.out HR2.out.noStr hga)
  have hmB : w2.heap.size ≠ B := by have := HR2.out.lt; omega
  have hwm0 : w.heap.size < w2.heap.size := HK2.out.lt
  clear hxa HXA hga HK2 HB2 HR2 HV2
  go_wp2_with fail
  generalize w2.alloc (.cells #[.slice av ss.length cv] 25) = w3 at HKm HK3 HB3 HR3 HX3 ⊢
  generalize w2.heap.size = m at HKm hmB hw2 hwm0 ⊢
  have c0 : w3.drew.cell? ⟨m, 0, none⟩ = some (.slice av ss.length cv) := HKm.out.cell 0
  have hw3 : w.heap.size ≤ w3.heap.size := HB3.out.size
  have hBw : B < w3.heap.size := HR3.out.lt
  have hwm : w.heap.size ≠ B := by omega
  have HNm := Lib.hid (l73Name_any n₀ B q av cv ss w3.drew (by omega) HR3.out.drew (by omega) HS (Lib.hid (fun w' hg => ShAt.aside HX3.out HR3.out.noStr ((gb_drew w3 _).trans hg))))
  refine AnyS.start (S := (fun w' : World => w'.cell? ⟨m, 0, none⟩ = some (.slice av ss.length cv))) (L := 24) (by kernel_rfl) ?_
  refine AnyS.take 0 (show _ = some _ from rfl) rfl (by kernel_rfl) (by kernel_rfl) (by kernel_rfl) (by kernel_rfl) (fun _ _ _ h => h) c0 (by rfl) (fun w' hSw => by obtain s1 := hSw; go_simp; try with_reducible rfl) ?_
  try simp only [Act.put, List.setIfInBounds_toArray, List.set_cons_zero, List.set_cons_succ]
  refine AnyS.take 1 (show _ = some _ from rfl) rfl (by kernel_rfl) (by kernel_rfl) (by kernel_rfl) (by kernel_rfl) (fun _ _ _ h => h) c0 (by rfl) (fun w' hSw => by obtain s1 := hSw; go_simp; try with_reducible rfl) ?_
  try simp only [Act.put, List.setIfInBounds_toArray, List.set_cons_zero, List.set_cons_succ]
  refine AnyS.take 2 (show _ = some _ from rfl) rfl (by kernel_rfl) (by kernel_rfl) (by kernel_rfl) (by kernel_rfl) (fun _ _ _ h => h) c0 (by rfl) (fun w' hSw => by obtain s1 := hSw; go_simp; try with_reducible rfl) ?_
  try simp only [Act.put, List.setIfInBounds_toArray, List.set_cons_zero, List.set_cons_succ]
  refine AnyS.take 4 (show _ = some _ from rfl) rfl (by kernel_rfl) (by kernel_rfl) (by kernel_rfl) (by kernel_rfl) (fun _ _ _ h => h) c0 (by rfl) (fun w' hSw => by obtain s1 := hSw; go_simp; try with_reducible rfl) ?_
  try simp only [Act.put, List.setIfInBounds_toArray, List.set_cons_zero, List.set_cons_succ]
  refine AnyS.take 6 (show _ = some _ from rfl) rfl (by kernel_rfl) (by kernel_rfl) (by kernel_rfl) (by kernel_rfl) (fun _ _ _ h => h) c0 (by rfl) (fun w' hSw => by obtain s1 := hSw; go_simp; try with_reducible rfl) ?_
  try simp only [Act.put, List.setIfInBounds_toArray, List.set_cons_zero, List.set_cons_succ]
  refine AnyS.take 10 (show _ = some _ from rfl) rfl (by kernel_rfl) (by kernel_rfl) (by kernel_rfl) (by kernel_rfl) (fun _ _ _ h => h) c0 (by rfl) (fun w' hSw => by obtain s1 := hSw; go_simp; try with_reducible rfl) ?_
  try simp only [Act.put, List.setIfInBounds_toArray, List.set_cons_zero, List.set_cons_succ]
  refine AnyS.take 15 (show _ = some _ from rfl) rfl (by kernel_rfl) (by kernel_rfl) (by kernel_rfl) (by kernel_rfl) (fun _ _ _ h => h) c0 (by rfl) (fun w' hSw => by obtain s1 := hSw; go_simp; try with_reducible rfl) ?_
  try simp only [Act.put, List.setIfInBounds_toArray, List.set_cons_zero, List.set_cons_succ]
  refine AnyS.take 16 (show _ = some _ from rfl) rfl (by kernel_rfl) (by kernel_rfl) (by kernel_rfl) (by kernel_rfl) (fun _ _ _ h => h) c0 (by rfl) (fun w' hSw => by obtain s1 := hSw; go_simp; try with_reducible rfl) ?_
  try simp only [Act.put, List.setIfInBounds_toArray, List.set_cons_zero, List.set_cons_succ]
  refine AnyS.one 3 (by kernel_rfl) (show _ = some _ from rfl) (fun K' hK' => ?_)
  go_simp
  go_at_call 35
  refine (HNm.out).mono ?_
  rintro e w4 ⟨nm, q4, rfl, hnm, hq4, hR4, hg⟩
  have Gw4 : w3.grownBy w4 (some B) := (gb_drew w3 _).trans hg
  have Cw4 : w4.cell? ⟨m, 0, none⟩ = some (.slice av ss.length cv) := Gw4.cell (show w3.cell? _ = _ from c0) (by simp; exact hmB)
  have HRw4 := Lib.hid hR4
  clear hR4
  clear hg
  go_simp
  refine hK' _ _ ⟨?_, fun _ => Cw4⟩
  clear hK' K'
  try simp only [Act.put, List.setIfInBounds_toArray, List.set_cons_zero, List.set_cons_succ]
  refine AnyS.one 5 (by kernel_rfl) (show _ = some _ from rfl) (fun K' hK' => ?_)
  go_simp
  go_at_call 36
  refine (pick_any n₀ B (q4) 3 w4 (by omega) HRw4.out).mono ?_
  rintro e w5 ⟨vw5, rfl, hlw5, hnw5, hRw5, hg⟩
  have Gw5 : w3.grownBy w5 (some B) := Gw4.trans hg
  have Cw5 : w5.cell? ⟨m, 0, none⟩ = some (.slice av ss.length cv) := Gw5.cell (show w3.cell? _ = _ from c0) (by simp; exact hmB)
  have HRw5 := Lib.hid hRw5
  clear hg hRw5
  go_simp
  refine hK' _ _ ⟨?_, fun _ => Cw5⟩
  clear hK' K'
  try simp only [Act.put, List.setIfInBounds_toArray, List.set_cons_zero, List.set_cons_succ]
  refine AnyS.one 7 (by kernel_rfl) (show _ = some _ from rfl) (fun K' hK' => ?_)
  go_simp
  go_at_call 36
  refine (pick_any n₀ B (q4 + 1) 24 w5 (by omega) HRw5.out).mono ?_
  rintro e w6 ⟨vw6, rfl, hlw6, hnw6, hRw6, hg⟩
  have Gw6 : w3.grownBy w6 (some B) := Gw5.trans hg
  have Cw6 : w6.cell? ⟨m, 0, none⟩ = some (.slice av ss.length cv) := Gw6.cell (show w3.cell? _ = _ from c0) (by simp; exact hmB)
  have HRw6 := Lib.hid hRw6
  clear hg hRw6
  go_simp
  refine hK' _ _ ⟨?_, fun _ => Cw6⟩
  clear hK' K'
  try simp only [Act.put, List.setIfInBounds_toArray, List.set_cons_zero, List.set_cons_succ]
  refine AnyS.take 8 (show _ = some _ from rfl) rfl (by kernel_rfl) (by kernel_rfl) (by kernel_rfl) (by kernel_rfl) (fun _ _ _ h => h) Cw6 (by rfl) (fun w' hSw => by obtain s1 := hSw; go_simp; try with_reducible rfl) ?_
  try simp only [Act.put, List.setIfInBounds_toArray, List.set_cons_zero, List.set_cons_succ]
  refine AnyS.take 9 (show _ = some _ from rfl) rfl (by kernel_rfl) (by kernel_rfl) (by kernel_rfl) (by kernel_rfl) (fun _ _ _ h => h) Cw6 (by rfl) (fun w' hSw => by obtain s1 := hSw; go_simp; try with_reducible rfl) ?_
  try simp only [Act.put, List.setIfInBounds_toArray, List.set_cons_zero, List.set_cons_succ]
  refine AnyS.one 11 (by kernel_rfl) (show _ = some _ from rfl) (fun K' hK' => ?_)
  go_simp
  go_at_call 36
  refine (pick_any n₀ B (q4 + 1 + 1) 24 w6 (by omega) HRw6.out).mono ?_
  rintro e w7 ⟨vw7, rfl, hlw7, hnw7, hRw7, hg⟩
  have Gw7 : w3.grownBy w7 (some B) := Gw6.trans hg
  have Cw7 : w7.cell? ⟨m, 0, none⟩ = some (.slice av ss.length cv) := Gw7.cell (show w3.cell? _ = _ from c0) (by simp; exact hmB)
  have HRw7 := Lib.hid hRw7
  clear hg hRw7
  go_simp
  refine hK' _ _ ⟨?_, fun _ => Cw7⟩
  clear hK' K'
  try simp only [Act.put, List.setIfInBounds_toArray, List.set_cons_zero, List.set_cons_succ]
  refine AnyS.take 12 (show _ = some _ from rfl) rfl (by kernel_rfl) (by kernel_rfl) (by kernel_rfl) (by kernel_rfl) (fun _ _ _ h => h) Cw7 (by rfl) (fun w' hSw => by obtain s1 := hSw; go_simp; try with_reducible rfl) ?_
  try simp only [Act.put, List.setIfInBounds_toArray, List.set_cons_zero, List.set_cons_succ]
  refine AnyS.take 13 (show _ = some _ from rfl) rfl (by kernel_rfl) (by kernel_rfl) (by kernel_rfl) (by kernel_rfl) (fun _ _ _ h => h) Cw7 (by rfl) (fun w' hSw => by obtain s1 := hSw; go_simp; try with_reducible rfl) ?_
  try simp only [Act.put, List.setIfInBounds_toArray, List.set_cons_zero, List.set_cons_succ]
  refine AnyS.take 14 (show _ = some _ from rfl) rfl (by kernel_rfl) (by kernel_rfl) (by kernel_rfl) (by kernel_rfl) (fun _ _ _ h => h) Cw7 (by rfl) (fun w' hSw => by obtain s1 := hSw; go_simp; try with_reducible rfl) ?_
  try simp only [Act.put, List.setIfInBounds_toArray, List.set_cons_zero, List.set_cons_succ]
  refine AnyS.one 17 (by kernel_rfl) (show _ = some _ from rfl) (fun K' hK' => ?_)
  go_simp
  go_at_call 36
  refine (pick_any n₀ B (q4 + 1 + 1 + 1) 12 w7 (by omega) HRw7.out).mono ?_
  rintro e w8 ⟨vw8, rfl, hlw8, hnw8, hRw8, hg⟩
  have Gw8 : w3.grownBy w8 (some B) := Gw7.trans hg
  have Cw8 : w8.cell? ⟨m, 0, none⟩ = some (.slice av ss.length cv) := Gw8.cell (show w3.cell? _ = _ from c0) (by simp; exact hmB)
  have HRw8 := Lib.hid hRw8
  obtain ⟨u, rfl⟩ := Int.eq_ofNat_of_zero_le hlw8
  have hu : u < 12 := by have := hnw8 (by omega); omega
  have HT := Lib.hid (fun (y : Int) (hy : y = ((9 + u / 11 : Nat) : Int)) => show Calls Try.prog 37 #[.pointer (some ⟨B, 0, none⟩), .int .i64 y] w8 (Texted n₀ B (q4 + 1 + 1 + 1 + 1) (9 + u / 11) w8) from by subst hy; exact l71Text_any n₀ B (q4 + 1 + 1 + 1 + 1) (9 + u / 11) w8 (by omega) (by omega) HRw8.out)
  clear hg hRw8
  go_simp
  refine hK' _ _ ⟨?_, fun _ => Cw8⟩
  clear hK' K'
  try simp only [Act.put, List.setIfInBounds_toArray, List.set_cons_zero, List.set_cons_succ]
  refine AnyS.take 18 (show _ = some _ from rfl) rfl (by kernel_rfl) (by kernel_rfl) (by kernel_rfl) (by kernel_rfl) (fun _ _ _ h => h) Cw8 (by rfl) (fun w' hSw => by obtain s1 := hSw; go_simp; try with_reducible rfl) ?_
  try simp only [Act.put, List.setIfInBounds_toArray, List.set_cons_zero, List.set_cons_succ]
  refine AnyS.take 19 (show _ = some _ from rfl) rfl (by kernel_rfl) (by kernel_rfl) (by kernel_rfl) (by kernel_rfl) (fun _ _ _ h => h) Cw8 (by rfl) (fun w' hSw => by obtain s1 := hSw; go_simp; try with_reducible rfl) ?_
  try simp only [Act.put, List.setIfInBounds_toArray, List.set_cons_zero, List.set_cons_succ]
  refine AnyS.one 20 (by kernel_rfl) (show _ = some _ from rfl) (fun K' hK' => ?_)
  go_simp
  go_at_call 37
  refine (HT.out _ (by simp [IntKind.wrap, IntKind.bits, IntKind.signed]; omega)).mono ?_
  rintro e w9 ⟨t, q9, rfl, ht, _, hR9, hg⟩
  have Gw9 : w3.grownBy w9 (some B) := Gw8.trans hg
  have Cw9 : w9.cell? ⟨m, 0, none⟩ = some (.slice av ss.length cv) := Gw9.cell (show w3.cell? _ = _ from c0) (by simp; exact hmB)
  clear hg hR9
  go_simp
  refine hK' _ _ ⟨?_, fun _ => Cw9⟩
  clear hK' K'
  try simp only [Act.put, List.setIfInBounds_toArray, List.set_cons_zero, List.set_cons_succ]
  have hK9 := HK3.out.gb Gw9 (fun e => by injection e with e; omega)
  have HF := Lib.hid (fin_draw (Below.grown HB3.out Gw9 hw3 (fun k e => by cases e; omega)) hK9 (⟨av, cv, rfl, by assumption, by assumption, HX3.out.aside HR3.out.noStr Gw9⟩ : ShV w9 (.slice av ss.length cv) ss))
  have r9 : w9.cell? ⟨w.heap.size, 0, none⟩ = some (.slice none 0 0) := hK9.cell 0
  have f9 := hK9.frozen 0
  have Cz : (w9.setCell ⟨w.heap.size, 0, none⟩ (.slice av ss.length cv)).cell? ⟨m, 0, none⟩ = some (.slice av ss.length cv) := (World.cell?_setCell_far _ _ _ _ (fun e => by simp at e; omega)).trans Cw9
  clear hK9
  refine AnyS.one 21 (by kernel_rfl) (show _ = some _ from rfl) (fun K' hK' => ?_)
  go_simp
  refine hK' _ _ ⟨?_, fun _ => Cz⟩
  clear hK' K'
  try simp only [Act.put, List.setIfInBounds_toArray, List.set_cons_zero, List.set_cons_succ]
  refine AnyS.one 22 (by kernel_rfl) (show _ = some _ from rfl) (fun K' hK' => ?_)
  go_simp
  refine hK' _ _ ⟨?_, fun _ => Cz⟩
  clear hK' K'
  try simp only [Act.put, List.setIfInBounds_toArray, List.set_cons_zero, List.set_cons_succ]
  refine AnyS.one 23 (by kernel_rfl) (show _ = some _ from rfl) (fun K' hK' => ?_)
  go_simp
  refine hK' _ _ ⟨?_, fun _ => Cz⟩
  clear hK' K'
  try simp only [Act.put, List.setIfInBounds_toArray, List.set_cons_zero, List.set_cons_succ]
  refine AnyS.one 24 (by kernel_rfl) (show _ = some _ from rfl) (fun K' hK' => ?_)
  go_simp
  refine hK' _ _ ⟨AnyS.done (by kernel_rfl) ?_, fun h => absurd rfl h⟩
  clear hK' K'
  try simp only [Act.put, List.setIfInBounds_toArray, List.set_cons_zero, List.set_cons_succ]
  have HX : Hid (∀ y : Int, DrawnWr w (.returned (.tuple #[.agg #[.slice av ss.length cv], .string nm, .int .i64 y, .string t])) (w9.setCell ⟨w.heap.size, 0, none⟩ (.slice av ss.length cv))) := fun y => ⟨_, ss, nm, y, t, rfl, ⟨HF.out.1, h5, HS.out⟩, by omega, by omega, HF.out.2⟩
  clear HF
  generalize IntKind.i64.wrap (IntKind.i64.wrap (vw5 + IntKind.i64.wrap (vw6.tdiv 23)) - IntKind.i64.wrap (IntKind.i64.wrap (vw7.tdiv 23) * 4)) = y
  go_wp2
  refine bodyPost_ret (v := .tuple #[.agg #[.slice av ss.length cv], .string nm, .int .i64 y, .string t]) (by simp [results, Try.results12, go_sem, r9]) rfl (HX.out y)

end Go.Proofs.Ytmmckpjapnkepaa
