/- The drawn arguments of the laws over models: copying, writing. Conditions: none. -/
import Derived.Test.YtmmckpjapnkepaaJF
namespace Go.Proofs.Ytmmckpjapnkepaa
open Go.ChangeShapes Go.WideShapes Go.ChangeAt Go.RowKit Go.Sort

section
variable {P : Program} {ops : Array Oper} {Q : Exit → Act → World → Prop} {md : Region.Mode} {S : World → Prop} {L : Nat}
/-- Two are ready. -/
theorem AnyS.two (i j : Nat) {oi oj : Oper} {n : Nat} {done : Array Bool} {a : Act} {w : World} (hr : Region.ready md ops done = [i, j]) (hoi : ops[i]? = some oi) (hoj : ops[j]? = some oj)
    (hi : ∀ K' : Act → World → Prop, (∀ a w, AnyS P md ops Q S L n (done.setIfInBounds i true) a w ∧ (i ≠ L → S w) → K' a w) → if Region.wanted oi (yielded ops a.tmps) = true then Oper.wp P oi a w K' Q else K' (a.put oi.dst undef) w)
    (hj : ∀ K' : Act → World → Prop, (∀ a w, AnyS P md ops Q S L n (done.setIfInBounds j true) a w ∧ (j ≠ L → S w) → K' a w) → if Region.wanted oj (yielded ops a.tmps) = true then Oper.wp P oj a w K' Q else K' (a.put oj.dst undef) w) : AnyS P md ops Q S L (n + 1) done a w := by
  refine ⟨fun k hk => ?_, fun h0 => by rw [hr] at h0; cases h0⟩
  rw [hr] at hk
  have hk' : k = i ∨ k = j := by simpa using hk
  rcases hk' with rfl | rfl
  · exact wpOp_step hoi hi
  · exact wpOp_step hoj hj
end

set_option linter.unusedSimpArgs false in
set_option maxRecDepth 100000 in
set_option maxHeartbeats 4000000 in
theorem DrawModelCopy_any (a : Option Addr) (len cap : Nat) (z : List Int) (w : World) (h : IsBytes w a len cap z) :
    Calls Try.prog 18 #[.slice a len cap] w (DrawnCp w) := by
  have hB0 : Below w.heap.size w (w.alloc (.cells #[.slice none 0 0] 25)) := (Below.refl _ _).alloc (Nat.le_refl _) _
  have HO := Lib.hid (l6Open_any a len cap z _ (h.below hB0))
  have K0 := Lib.hid (Blk.new w #[.slice none 0 0] 25)
  have HB0 := Lib.hid hB0
  clear h hB0
  go_enter Try.func18, Try.ntmps18
  go_wp2_with fail
  refine HO.out.mono ?_
  rintro e w1 ⟨B, rfl, hR1, hB1⟩
  have HK1 := Lib.hid (K0.out.below hB1 K0.out.lt)
  have HB1 := Lib.hid (below_trans HB0.out hB1 HB0.out.size)
  have hnB : w.heap.size < B := by have := hR1.1; simp at this; omega
  have HR1 := Lib.hid hR1
  clear hR1 hB1 K0 HB0 HO
  generalize (w.alloc (.cells #[.slice none 0 0] 25)).heap.size = n₀ at HR1
  go_wp2_with fail
  refine (l73Model_any n₀ B 0 w1 (by omega) HR1.out).mono ?_
  rintro e w2 ⟨v, ss, q, rfl, hv, h5, hs, hq, hR2, hg2⟩
  obtain ⟨av, cv, rfl, hcv1, hcv2, hxa⟩ := hv
  have hv : ShV w2 (.slice av ss.length cv) ss := ⟨av, cv, rfl, hcv1, hcv2, hxa⟩
  have hw1 : w.heap.size ≤ w1.heap.size := HB1.out.size
  have HK2 := Lib.hid (HK1.out.gb hg2 (fun e => by injection e with e; omega))
  have HB2 := Lib.hid (Below.grown HB1.out hg2 hw1 (fun k e => by cases e; omega))
  have HR2 := Lib.hid hR2
  have HV2 := Lib.hid hv
  have HS := Lib.hid hs
  have hw2 : w.heap.size ≤ w2.heap.size := HB2.out.size
  clear hv hs hR2 hg2 HK1 HB1 HR1
  have HXA := Lib.hid hxa
  have hga := World.grownBy_alloc w2 (.cells #[.slice av ss.length cv] 25) (some B)
  have HKm := Lib.hid (Blk.new w2 #[.slice av ss.length cv] 25)
  have HK3 := Lib.hid (HK2.out.gb hga (fun e => by injection e with e; omega))
  have HB3 := Lib.hid (Below.grown HB2.out hga hw2 (fun k e => by cases e; omega))
  have HR3 := Lib.hid (HR2.out.alloc (.cells #[.slice av ss.length cv] 25))
  have HX3 := Lib.hid (ShAt.aside HXA.out HR2.out.noStr hga)
  have hmB : w2.heap.size ≠ B := by have := HR2.out.lt; omega
  have hwm0 : w.heap.size < w2.heap.size := HK2.out.lt
  clear hxa HXA hga HK2 HB2 HR2 HV2
  go_wp2_with fail
  generalize w2.alloc (.cells #[.slice av ss.length cv] 25) = w3 at HKm HK3 HB3 HR3 HX3 ⊢
  generalize w2.heap.size = m at HKm hmB hw2 hwm0 ⊢
  have c0 : w3.drew.cell? ⟨m, 0, none⟩ = some (.slice av ss.length cv) := HKm.out.cell 0
  have hw3 : w.heap.size ≤ w3.heap.size := HB3.out.size
  have hBw : B < w3.heap.size := HR3.out.lt
  have hwm : w.heap.size ≠ B := by omega
  have HNm := Lib.hid (l73Name_any n₀ B q av cv ss w3.drew (by omega) HR3.out.drew (by omega) HS (Lib.hid (fun w' hg => ShAt.aside HX3.out HR3.out.noStr ((gb_drew w3 _).trans hg))))
  refine AnyS.start (S := (fun w' : World => w'.cell? ⟨m, 0, none⟩ = some (.slice av ss.length cv))) (L := 9) (by kernel_rfl) ?_
  refine AnyS.take 0 (show _ = some _ from rfl) rfl (by kernel_rfl) (by kernel_rfl) (by kernel_rfl) (by kernel_rfl) (fun _ _ _ h => h) c0 (by rfl) (fun w' hSw => by obtain s1 := hSw; go_simp; try with_reducible rfl) ?_
  try simp only [Act.put, List.setIfInBounds_toArray, List.set_cons_zero, List.set_cons_succ]
  refine AnyS.take 1 (show _ = some _ from rfl) rfl (by kernel_rfl) (by kernel_rfl) (by kernel_rfl) (by kernel_rfl) (fun _ _ _ h => h) c0 (by rfl) (fun w' hSw => by obtain s1 := hSw; go_simp; try with_reducible rfl) ?_
  try simp only [Act.put, List.setIfInBounds_toArray, List.set_cons_zero, List.set_cons_succ]
  refine AnyS.take 2 (show _ = some _ from rfl) rfl (by kernel_rfl) (by kernel_rfl) (by kernel_rfl) (by kernel_rfl) (fun _ _ _ h => h) c0 (by rfl) (fun w' hSw => by obtain s1 := hSw; go_simp; try with_reducible rfl) ?_
  try simp only [Act.put, List.setIfInBounds_toArray, List.set_cons_zero, List.set_cons_succ]
  refine AnyS.take 4 (show _ = some _ from rfl) rfl (by kernel_rfl) (by kernel_rfl) (by kernel_rfl) (by kernel_rfl) (fun _ _ _ h => h) c0 (by rfl) (fun w' hSw => by obtain s1 := hSw; go_simp; try with_reducible rfl) ?_
  try simp only [Act.put, List.setIfInBounds_toArray, List.set_cons_zero, List.set_cons_succ]
  refine AnyS.two 3 5 (by kernel_rfl) (show _ = some _ from rfl) (show _ = some _ from rfl) (fun K' hK' => ?_) (fun K' hK' => ?_)
  · go_simp
    go_at_call 35
    refine HNm.out.mono ?_
    rintro e w4 ⟨fr, q4, rfl, hfr, hq4, hR4, hg⟩
    have Gw4 : w3.grownBy w4 (some B) := (gb_drew w3 _).trans hg
    have Cw4 : w4.cell? ⟨m, 0, none⟩ = some (.slice av ss.length cv) := Gw4.cell (show w3.cell? _ = _ from c0) (by simp; exact hmB)
    have Gwa : w3.grownBy (w4.alloc (.cells #[.string ⟨#[110]⟩, .string ⟨#[111]⟩, .string ⟨#[112, 113]⟩, .string ⟨#[97]⟩, .string ⟨#[65]⟩] 9)) (some B) := Gw4.trans (World.grownBy_alloc _ _ _)
    have Cwa := cell_below ((Below.refl _ w4).alloc (Nat.le_refl _) (.cells #[.string ⟨#[110]⟩, .string ⟨#[111]⟩, .string ⟨#[112, 113]⟩, .string ⟨#[97]⟩, .string ⟨#[65]⟩] 9)) Cw4
    have HL := Lib.hid (ofLit_any n₀ B q4 _ 5 5 10 _ (by omega) (hR4.alloc _) (by omega) (by omega) (by have := hR4.lt; omega) (Lib.hid (litAt_new w4 #[.string ⟨#[110]⟩, .string ⟨#[111]⟩, .string ⟨#[112, 113]⟩, .string ⟨#[97]⟩, .string ⟨#[65]⟩] 10 rfl)))
    clear hg hR4
    go_simp
    refine hK' _ _ ⟨?_, fun _ => Cw4⟩
    clear hK' K'
    try simp only [Act.put, List.setIfInBounds_toArray, List.set_cons_zero, List.set_cons_succ]
    refine AnyS.one 5 (by kernel_rfl) (show _ = some _ from rfl) (fun K' hK' => ?_)
    go_simp
    refine hK' _ _ ⟨?_, fun _ => Cwa⟩
    clear hK' K'
    try simp only [Act.put, List.setIfInBounds_toArray, List.set_cons_zero, List.set_cons_succ]
    refine AnyS.one 6 (by kernel_rfl) (show _ = some _ from rfl) (fun K' hK' => ?_)
    go_simp
    go_at_call 52
    refine HL.out.mono ?_
    rintro e w5 ⟨nm, rfl, hnm, hR5, hg⟩
    have Gw5 : w3.grownBy w5 (some B) := Gwa.trans hg
    have Cw5 : w5.cell? ⟨m, 0, none⟩ = some (.slice av ss.length cv) := Gw5.cell (show w3.cell? _ = _ from c0) (by simp; exact hmB)
    clear hg hR5
    go_simp
    refine hK' _ _ ⟨?_, fun _ => Cw5⟩
    clear hK' K'
    try simp only [Act.put, List.setIfInBounds_toArray, List.set_cons_zero, List.set_cons_succ]
    have hK9 := HK3.out.gb Gw5 (fun e => by injection e with e; omega)
    have HF := Lib.hid (fin_draw (Below.grown HB3.out Gw5 hw3 (fun k e => by cases e; omega)) hK9 (⟨av, cv, rfl, by assumption, by assumption, HX3.out.aside HR3.out.noStr Gw5⟩ : ShV w5 (.slice av ss.length cv) ss))
    have r9 : w5.cell? ⟨w.heap.size, 0, none⟩ = some (.slice none 0 0) := hK9.cell 0
    have f9 := hK9.frozen 0
    have Cz : (w5.setCell ⟨w.heap.size, 0, none⟩ (.slice av ss.length cv)).cell? ⟨m, 0, none⟩ = some (.slice av ss.length cv) := (World.cell?_setCell_far _ _ _ _ (fun e => by simp at e; omega)).trans Cw5
    clear hK9
    refine AnyS.one 7 (by kernel_rfl) (show _ = some _ from rfl) (fun K' hK' => ?_)
    go_simp
    refine hK' _ _ ⟨?_, fun _ => Cz⟩
    clear hK' K'
    try simp only [Act.put, List.setIfInBounds_toArray, List.set_cons_zero, List.set_cons_succ]
    refine AnyS.one 8 (by kernel_rfl) (show _ = some _ from rfl) (fun K' hK' => ?_)
    go_simp
    refine hK' _ _ ⟨?_, fun _ => Cz⟩
    clear hK' K'
    try simp only [Act.put, List.setIfInBounds_toArray, List.set_cons_zero, List.set_cons_succ]
    refine AnyS.one 9 (by kernel_rfl) (show _ = some _ from rfl) (fun K' hK' => ?_)
    go_simp
    refine hK' _ _ ⟨AnyS.done (by kernel_rfl) ?_, fun h => absurd rfl h⟩
    clear hK' K'
    try simp only [Act.put, List.setIfInBounds_toArray, List.set_cons_zero, List.set_cons_succ]
    have HX : Hid (DrawnCp w (.returned (.tuple #[.agg #[.slice av ss.length cv], .string fr, .string nm])) (w5.setCell ⟨w.heap.size, 0, none⟩ (.slice av ss.length cv))) := ⟨_, ss, fr, nm, rfl, ⟨HF.out.1, h5, HS.out⟩, by omega, by omega, HF.out.2⟩
    clear HF
    go_wp2
    refine bodyPost_ret (v := .tuple #[.agg #[.slice av ss.length cv], .string fr, .string nm]) (by simp [results, Try.results18, go_sem, r9]) rfl HX.out
  · have Gwl : w3.grownBy (w3.drew.alloc (.cells #[.string ⟨#[110]⟩, .string ⟨#[111]⟩, .string ⟨#[112, 113]⟩, .string ⟨#[97]⟩, .string ⟨#[65]⟩] 9)) (some B) := (gb_drew w3 _).trans (World.grownBy_alloc _ _ _)
    have Cwl := cell_below ((Below.refl _ w3.drew).alloc (Nat.le_refl _) (.cells #[.string ⟨#[110]⟩, .string ⟨#[111]⟩, .string ⟨#[112, 113]⟩, .string ⟨#[97]⟩, .string ⟨#[65]⟩] 9)) c0
    have HRl := Lib.hid (HR3.out.drew.alloc (.cells #[.string ⟨#[110]⟩, .string ⟨#[111]⟩, .string ⟨#[112, 113]⟩, .string ⟨#[97]⟩, .string ⟨#[65]⟩] 9))
    have hli := litAt_new w3.drew #[.string ⟨#[110]⟩, .string ⟨#[111]⟩, .string ⟨#[112, 113]⟩, .string ⟨#[97]⟩, .string ⟨#[65]⟩] 10 rfl
    have HN2 := Lib.hid (l73Name_any n₀ B q av cv ss (w3.drew.alloc (.cells #[.string ⟨#[110]⟩, .string ⟨#[111]⟩, .string ⟨#[112, 113]⟩, .string ⟨#[97]⟩, .string ⟨#[65]⟩] 9)) (by omega) HRl.out (by omega) HS (Lib.hid (fun w' hg => ShAt.aside HX3.out HR3.out.noStr (Gwl.trans hg))))
    go_simp
    refine hK' _ _ ⟨?_, fun _ => Cwl⟩
    clear hK' K'
    try simp only [Act.put, List.setIfInBounds_toArray, List.set_cons_zero, List.set_cons_succ]
    refine AnyS.one 3 (by kernel_rfl) (show _ = some _ from rfl) (fun K' hK' => ?_)
    go_simp
    go_at_call 35
    refine HN2.out.mono ?_
    rintro e w4 ⟨fr, q4, rfl, hfr, hq4, hR4, hg⟩
    have Gwa : w3.grownBy w4 (some B) := Gwl.trans hg
    have Cw4 : w4.cell? ⟨m, 0, none⟩ = some (.slice av ss.length cv) := Gwa.cell (show w3.cell? _ = _ from c0) (by simp; exact hmB)
    have HL := Lib.hid (ofLit_any n₀ B q4 w3.drew.heap.size 5 5 10 w4 (by omega) hR4 (by omega) (by omega) (by show w3.heap.size ≠ B; omega) (Lib.hid (fun j hj => by obtain ⟨t, h1, h2⟩ := hli j hj; exact ⟨t, hg.cell h1 (by simp; omega), h2⟩)))
    clear hg hR4
    go_simp
    refine hK' _ _ ⟨?_, fun _ => Cw4⟩
    clear hK' K'
    try simp only [Act.put, List.setIfInBounds_toArray, List.set_cons_zero, List.set_cons_succ]
    refine AnyS.one 6 (by kernel_rfl) (show _ = some _ from rfl) (fun K' hK' => ?_)
    go_simp
    go_at_call 52
    refine HL.out.mono ?_
    rintro e w5 ⟨nm, rfl, hnm, hR5, hg⟩
    have Gw5 : w3.grownBy w5 (some B) := Gwa.trans hg
    have Cw5 : w5.cell? ⟨m, 0, none⟩ = some (.slice av ss.length cv) := Gw5.cell (show w3.cell? _ = _ from c0) (by simp; exact hmB)
    clear hg hR5
    go_simp
    refine hK' _ _ ⟨?_, fun _ => Cw5⟩
    clear hK' K'
    try simp only [Act.put, List.setIfInBounds_toArray, List.set_cons_zero, List.set_cons_succ]
    have hK9 := HK3.out.gb Gw5 (fun e => by injection e with e; omega)
    have HF := Lib.hid (fin_draw (Below.grown HB3.out Gw5 hw3 (fun k e => by cases e; omega)) hK9 (⟨av, cv, rfl, by assumption, by assumption, HX3.out.aside HR3.out.noStr Gw5⟩ : ShV w5 (.slice av ss.length cv) ss))
    have r9 : w5.cell? ⟨w.heap.size, 0, none⟩ = some (.slice none 0 0) := hK9.cell 0
    have f9 := hK9.frozen 0
    have Cz : (w5.setCell ⟨w.heap.size, 0, none⟩ (.slice av ss.length cv)).cell? ⟨m, 0, none⟩ = some (.slice av ss.length cv) := (World.cell?_setCell_far _ _ _ _ (fun e => by simp at e; omega)).trans Cw5
    clear hK9
    refine AnyS.one 7 (by kernel_rfl) (show _ = some _ from rfl) (fun K' hK' => ?_)
    go_simp
    refine hK' _ _ ⟨?_, fun _ => Cz⟩
    clear hK' K'
    try simp only [Act.put, List.setIfInBounds_toArray, List.set_cons_zero, List.set_cons_succ]
    refine AnyS.one 8 (by kernel_rfl) (show _ = some _ from rfl) (fun K' hK' => ?_)
    go_simp
    refine hK' _ _ ⟨?_, fun _ => Cz⟩
    clear hK' K'
    try simp only [Act.put, List.setIfInBounds_toArray, List.set_cons_zero, List.set_cons_succ]
    refine AnyS.one 9 (by kernel_rfl) (show _ = some _ from rfl) (fun K' hK' => ?_)
    go_simp
    refine hK' _ _ ⟨AnyS.done (by kernel_rfl) ?_, fun h => absurd rfl h⟩
    clear hK' K'
    try simp only [Act.put, List.setIfInBounds_toArray, List.set_cons_zero, List.set_cons_succ]
    have HX : Hid (DrawnCp w (.returned (.tuple #[.agg #[.slice av ss.length cv], .string fr, .string nm])) (w5.setCell ⟨w.heap.size, 0, none⟩ (.slice av ss.length cv))) := ⟨_, ss, fr, nm, rfl, ⟨HF.out.1, h5, HS.out⟩, by omega, by omega, HF.out.2⟩
    clear HF
    go_wp2
    refine bodyPost_ret (v := .tuple #[.agg #[.slice av ss.length cv], .string fr, .string nm]) (by simp [results, Try.results18, go_sem, r9]) rfl HX.out

end Go.Proofs.Ytmmckpjapnkepaa
