/- RootRead of the program: it answers the root just if the text is that root's own. Conditions: the variables that the reader looks at lie there, and the table of powers of ten. What the listed variables give the walks of the seat's laws; a world in which they lie so. Conditions: none. -/
import Derived.Test.YtliadobopideaaaGreatDoorPKRR
import Derived.Test.YtliadobopideaaaGreatDoorPKQB
import Derived.Test.YtliadobopideaaaGreatDoorPKW1
import Derived.Test.YtliadobopideaaaGreatDoorTie
import Derived.Test.YtliadobopideaaaGreatDoorCards
import Derived.Lay
import Derived.LaidMore
import Derived.Stop.LaidErr
import Derived.Lib.LaidTab
import Derived.Lib.LaidU8
import Derived.Shelf.Vars
import Derived.ProofKit
import Derived.OpenVars
namespace Go.Proofs.YtliadobopideaaaGreatDoor
open Go.RowKit Go.Sort

def ImRead (n : Int) (s : ByteArray) (w : World) (e : Ending) (w' : World) : Prop :=
  ((ReadsAs n s ∧ ∃ v xs lo, e = .returned (.tuple #[.agg #[.int .i64 (rootL s.data.toList).txg, v], .bool true]) ∧ VoY w' w.heap.size v (rootL s.data.toList).vols xs lo ∧ RootSz 700 (rootL s.data.toList).vols) ∨ (¬ReadsAs n s ∧ e = .returned (.tuple #[.agg #[.int .i64 0, .slice none 0 0], .bool false]))) ∧ Below w.heap.size w w'
theorem reads_no {n : Int} {s : ByteArray} {r : RootD} (h : RootEnd s.data.toList r true) : ¬ReadsAs n s := fun ⟨_, h1, h2⟩ => by
  have := (h n _ h1 (by rw [h2])).2
  cases this
theorem reads_not {n : Int} {s : ByteArray} {r : RootD} {b : Bool} (h : RootEnd s.data.toList r b) (hne : rootT n r ≠ s) : ¬ReadsAs n s := fun ⟨_, h1, h2⟩ => by
  have := (h n _ h1 (by rw [h2])).1
  rw [this, rootT_ok h1, h2] at hne
  exact hne rfl
theorem reads_yes {n : Int} {s : ByteArray} {r : RootD} (hs : s.size ≤ 700) (h0 : s.data.toList = [] → False) (he : rootT n r = s) : ReadsAs n s ∧ rootL s.data.toList = r := by
  by_cases h : RootOkP n r
  · rw [rootT_ok h] at he
    have hr : rootL s.data.toList = r := by rw [← he]; exact rootL_back h
    exact ⟨⟨hs, by rw [hr]; exact h, by rw [hr]; exact he⟩, hr⟩
  · rw [rootT_no h] at he
    exact (h0 (by rw [← he])).elim
theorem VoY.mono {w : World} {base base' : Nat} {v : Value} {vs : List VolD} {xs : List Value} {lo : Nat → Nat} (h : VoY w base v vs xs lo) (hb : base' ≤ base) : VoY w base' v vs xs lo :=
  ⟨own_mono h.row hb, h.each, fun j hj => Nat.le_trans hb (h.low j hj), h.asc, h.high⟩

set_option linter.unusedSimpArgs false in
set_option maxRecDepth 100000 in
set_option maxHeartbeats 8000000 in
theorem implRead_any (n : Int) (s : ByteArray) (A : Addr) (w : World) (hV : EnvB w A) (hT : Tab w) :
    Calls Tryz.prog 10 #[.int .i64 n, .string s] w (ImRead n s w) := by
  have HN := Lib.hid (show ∀ e w', (((ReadsAs n s ∧ ∃ v xs lo, e = .returned (.tuple #[.agg #[.int .i64 (rootL s.data.toList).txg, v], .bool true]) ∧ VoY w' w.heap.size v (rootL s.data.toList).vols xs lo ∧ RootSz 700 (rootL s.data.toList).vols) ∨ (¬ReadsAs n s ∧ e = .returned (.tuple #[.agg #[.int .i64 0, .slice none 0 0], .bool false]))) ∧ Below w.heap.size w w') → ImRead n s w e w' from fun _ _ h => h)
  generalize ImRead n s w = IR at HN ⊢
  have HE := Lib.hid hV
  have HT := Lib.hid hT
  clear hV hT
  by_cases hs : s.size ≤ 700
  · have d1 : decide (700 < (s.size : Int)) = false := decide_eq_false (by omega)
    have hB0 : Below w.heap.size w ((w.alloc (.cells #[.int .i64 0, .slice none 0 0] 25)).alloc (.cells #[.string s, .nilIface] 60)) := ((Below.refl _ _).alloc (Nat.le_refl _) _).alloc (by simp) _
    have K0 := Lib.hid (show Blk ((w.alloc (.cells #[.int .i64 0, .slice none 0 0] 25)).alloc (.cells #[.string s, .nilIface] 60)) w.heap.size #[.int .i64 0, .slice none 0 0] 25 from (Blk.new w #[.int .i64 0, .slice none 0 0] 25).below ((Below.refl _ _).alloc (Nat.le_refl _) _) (by simp))
    have HR0 := Lib.hid (show RdAt ((w.alloc (.cells #[.int .i64 0, .slice none 0 0] 25)).alloc (.cells #[.string s, .nilIface] 60)) (w.heap.size + 1) s.data.toList A false from by
      have h := Blk.new (w.alloc (.cells #[.int .i64 0, .slice none 0 0] 25)) #[.string s, .nilIface] 60
      rw [World.size_alloc] at h
      exact h)
    have HE0 := Lib.hid (show Env w.heap.size ((w.alloc (.cells #[.int .i64 0, .slice none 0 0] 25)).alloc (.cells #[.string s, .nilIface] 60)) A from ⟨w, HE.out, rfl, hB0⟩)
    have HB0 := Lib.hid hB0
    have hsz : w.heap.size + 1 < ((w.alloc (.cells #[.int .i64 0, .slice none 0 0] 25)).alloc (.cells #[.string s, .nilIface] 60)).heap.size := by simp
    clear hB0
    go_enter Tryz.func10, Tryz.ntmps10
    go_wp2_with fail
    generalize (w.alloc (.cells #[.int .i64 0, .slice none 0 0] 25)).alloc (.cells #[.string s, .nilIface] 60) = w0 at K0 HR0 HE0 HB0 hsz ⊢
    generalize hRR : w.heap.size + 1 = R at HR0 hsz ⊢
    have hn : w.heap.size ≤ R := by omega
    have hS : w.heap.size ≠ R := by omega
    have hll : s.data.toList.length ≤ 700 := by rw [bytes_len]; exact hs
    refine (root_any w.heap.size R A s.data.toList w0 hn (by omega) HE0.out HR0.out).mono ?_
    rintro e w1 ⟨r, l', bad, v, xs, lo, rfl, hvo, h, hsz1, hem, hend⟩
    obtain ⟨T, vs⟩ := r
    simp only at hvo hsz1 hend ⊢
    obtain ⟨av, nv, cv, rfl⟩ : ∃ a n c, v = .slice a n c := by
      rcases hvo.row.2 with ⟨e, _⟩ | ⟨_, _, _, e, _⟩
      · exact ⟨_, _, _, e⟩
      · exact ⟨_, _, _, e⟩
    have hal : Below w1.heap.size w1 (w1.alloc (.cells #[.int .i64 T, .slice av nv cv] 25)) := (Below.refl _ _).alloc (Nat.le_refl _) _
    have hB1 : Below w.heap.size w w1 := HB0.out.trans (below_of_grown h.grown hn HB0.out.size)
    have hb2 := Lib.hid (below_trans hB1 hal hB1.size)
    have K2 := Lib.hid ((K0.out.kept h.grown hS).below hal (K0.out.kept h.grown hS).lt)
    have D2 := Lib.hid (Blk.new w1 #[.int .i64 T, .slice av nv cv] 25)
    have hDs : w.heap.size < w1.heap.size := (K0.out.kept h.grown hS).lt
    have O2 := Lib.hid ((hvo.below hal).mono (show w.heap.size ≤ w0.heap.size by omega))
    have HE2 := Lib.hid ((h.env HE0.out hn).on (hal.mono (h.env HE0.out hn).size))
    have HSZ := Lib.hid hsz1
    have HEM := Lib.hid hem
    clear hal hB1 h hvo hsz1 hem HE0 K0 HR0 HB0 hsz hRR
    have hg := HE2.out.cell
    have HS1 := Lib.hid (fun W => is_same A W)
    have HS2 := Lib.hid (fun W => is_nil A W)
    cases bad with
    | true =>
      have HNO := Lib.hid (reads_no (n := n) hend)
      clear hend
      simp only [errV, if_true]
      go_wp2_with fail
      generalize w1.alloc (.cells #[.int .i64 T, .slice av nv cv] 25) = w2 at hb2 K2 D2 O2 HE2 hg ⊢
      refine (HS1.out _).mono ?_
      rintro e w3 ⟨rfl, rfl⟩
      have q0 : w2.cell? ⟨w.heap.size, 0, none⟩ = some (.int .i64 0) := K2.out.cell 0
      have q1 : w2.cell? ⟨w.heap.size, 1, none⟩ = some (.slice none 0 0) := K2.out.cell 1
      have f0 := K2.out.frozen 0
      have f1 := K2.out.frozen 1
      have KZ := (K2.out.set 0 (.int .i64 0)).set 1 (.slice none 0 0)
      have e0 := KZ.cell 0
      have e1 := KZ.cell 1
      clear KZ
      have HBB := Lib.hid ((hb2.out.setCell (p := ⟨w.heap.size, 0, none⟩) (Nat.le_refl _) (.int .i64 0)).setCell (p := ⟨w.heap.size, 1, none⟩) (Nat.le_refl _) (.slice none 0 0))
      go_wp2_with fail
      exact bodyPost_ret (v := .tuple #[.agg #[.int .i64 0, .slice none 0 0], .bool false]) (by simp [results, Tryz.results10, go_sem, e0, e1]) rfl (HN.out _ _ ⟨.inr ⟨HNO.out, rfl⟩, HBB.out⟩)
    | false =>
      have HEND := Lib.hid hend
      clear hend
      simp only [errV, Bool.false_eq_true, if_false]
      go_wp2_with fail
      generalize w1.alloc (.cells #[.int .i64 T, .slice av nv cv] 25) = w2 at hb2 K2 D2 O2 HE2 hg ⊢
      generalize w1.heap.size = D at D2 hDs ⊢
      have d0 : w2.cell? ⟨D, 0, none⟩ = some (.int .i64 T) := D2.out.cell 0
      have d1' : w2.cell? ⟨D, 1, none⟩ = some (.slice av nv cv) := D2.out.cell 1
      refine (HS2.out _).mono ?_
      rintro e w3 ⟨rfl, rfl⟩
      obtain ⟨_, _, ev, hvc, hvm, hat⟩ := O2.out.own.reads
      cases ev
      have HAT := Lib.hid hat
      have hnms : Hid (∀ j, j < (⟨T, vs⟩ : RootD).vols.length → ((⟨T, vs⟩ : RootD).vols.getD j vol0).name.size ≤ maxLen) := fun j hj => by
        have hm : vs.getD j vol0 ∈ vs := by
          rw [List.getD, List.getElem?_eq_getElem hj]
          exact List.getElem_mem hj
        have := (HSZ.out.2 _ hm).1
        show (vs.getD j vol0).name.size ≤ maxLen
        unfold maxLen
        omega
      have HX := Lib.hid (implText_any n ⟨T, vs⟩ av cv w2 hvc hnms HAT (HT.out.below hb2.out))
      clear hat hvc hvm hnms
      have HX' : Hid (Calls Tryz.prog 8 #[.int .i64 n, .agg #[.int .i64 T, .slice av vs.length cv]] w2 fun e w' => e = .returned (.string (rootT n ⟨T, vs⟩)) ∧ Below w2.heap.size w2 w') := HX
      clear HX
      by_cases he : rootT n ⟨T, vs⟩ = s
      · have HY := Lib.hid (reads_yes hs (fun h => by have := HEM.out h; cases this) he)
        have t1 : ((rootT n ⟨T, vs⟩).toList == s.toList) = true := text_yes he
        clear he
        generalize rootT n ⟨T, vs⟩ = RT at HX' t1
        go_wp2_with fail
        refine HX'.out.mono ?_
        rintro e w3 ⟨rfl, hB3⟩
        have K3 := Lib.hid (K2.out.below hB3 K2.out.lt)
        have D3 := Lib.hid (D2.out.below hB3 D2.out.lt)
        have O3 := Lib.hid (O2.out.below hB3)
        have hb3 := Lib.hid (below_trans hb2.out hB3 hb2.out.size)
        have d0 : w3.cell? ⟨D, 0, none⟩ = some (.int .i64 T) := D3.out.cell 0
        have d1' : w3.cell? ⟨D, 1, none⟩ = some (.slice av vs.length cv) := D3.out.cell 1
        clear hB3 HX' K2 D2 O2 hb2
        have q0 : w3.cell? ⟨w.heap.size, 0, none⟩ = some (.int .i64 0) := K3.out.cell 0
        have q1 : w3.cell? ⟨w.heap.size, 1, none⟩ = some (.slice none 0 0) := K3.out.cell 1
        have f0 := K3.out.frozen 0
        have f1 := K3.out.frozen 1
        have KZ := (K3.out.set 0 (.int .i64 T)).set 1 (.slice av vs.length cv)
        have e0 := KZ.cell 0
        have e1 := KZ.cell 1
        have HBB := Lib.hid ((hb3.out.setCell (p := ⟨w.heap.size, 0, none⟩) (Nat.le_refl _) (.int .i64 T)).setCell (p := ⟨w.heap.size, 1, none⟩) (Nat.le_refl _) (.slice av vs.length cv))
        have OZ := Lib.hid ((O3.out.keptT (grown_set w3 w.heap.size 0 (.int .i64 T)) (.box K3.out (by decide)) (.box K3.out (by decide)) (.box K3.out (by decide))).keptT (grown_set _ w.heap.size 1 (.slice av vs.length cv)) (.box (K3.out.set 0 (.int .i64 T)) (by decide)) (.box (K3.out.set 0 (.int .i64 T)) (by decide)) (.box (K3.out.set 0 (.int .i64 T)) (by decide)))
        clear KZ
        go_wp2_with fail
        refine bodyPost_ret (v := .tuple #[.agg #[.int .i64 T, .slice av vs.length cv], .bool true]) (by simp [results, Tryz.results10, go_sem, e0, e1]) rfl (HN.out _ _ ⟨.inl ⟨HY.out.1, .slice av vs.length cv, xs, lo, ?_, ?_, ?_⟩, HBB.out⟩)
        · rw [HY.out.2]
        · rw [HY.out.2]; exact OZ.out
        · rw [HY.out.2]; exact ⟨by have := HSZ.out.1; simp only; omega, fun v hv => ⟨by have := (HSZ.out.2 v hv).1; omega, (HSZ.out.2 v hv).2.1, fun p hp => by have := (HSZ.out.2 v hv).2.2 p hp; omega⟩⟩
      · have HNO := Lib.hid (reads_not HEND.out he)
        have t1 : ((rootT n ⟨T, vs⟩).toList == s.toList) = false := text_no he
        clear he
        generalize rootT n ⟨T, vs⟩ = RT at HX' t1
        go_wp2_with fail
        refine HX'.out.mono ?_
        rintro e w3 ⟨rfl, hB3⟩
        have K2 := Lib.hid (K2.out.below hB3 K2.out.lt)
        have hb2 := Lib.hid (below_trans hb2.out hB3 hb2.out.size)
        clear hB3 HX' D2 O2 d0 d1'
        have q0 : w3.cell? ⟨w.heap.size, 0, none⟩ = some (.int .i64 0) := K2.out.cell 0
        have q1 : w3.cell? ⟨w.heap.size, 1, none⟩ = some (.slice none 0 0) := K2.out.cell 1
        have f0 := K2.out.frozen 0
        have f1 := K2.out.frozen 1
        have KZ := (K2.out.set 0 (.int .i64 0)).set 1 (.slice none 0 0)
        have e0 := KZ.cell 0
        have e1 := KZ.cell 1
        clear KZ
        have HBB := Lib.hid ((hb2.out.setCell (p := ⟨w.heap.size, 0, none⟩) (Nat.le_refl _) (.int .i64 0)).setCell (p := ⟨w.heap.size, 1, none⟩) (Nat.le_refl _) (.slice none 0 0))
        go_wp2_with fail
        exact bodyPost_ret (v := .tuple #[.agg #[.int .i64 0, .slice none 0 0], .bool false]) (by simp [results, Tryz.results10, go_sem, e0, e1]) rfl (HN.out _ _ ⟨.inr ⟨HNO.out, rfl⟩, HBB.out⟩)
  · have d1 : decide (700 < (s.size : Int)) = true := decide_eq_true (by omega)
    have HNO := Lib.hid (show ¬ReadsAs n s from fun h => hs h.1)
    have hb2 := Lib.hid (show Below w.heap.size w (w.alloc (.cells #[.int .i64 0, .slice none 0 0] 25)) from (Below.refl _ _).alloc (Nat.le_refl _) _)
    have K2 := Lib.hid (Blk.new w #[.int .i64 0, .slice none 0 0] 25)
    go_enter Tryz.func10, Tryz.ntmps10
    go_upto_region 1 with (fail)
    generalize w.alloc (.cells #[.int .i64 0, .slice none 0 0] 25) = w2 at hb2 K2 ⊢
    have q0 : w2.cell? ⟨w.heap.size, 0, none⟩ = some (.int .i64 0) := K2.out.cell 0
    have q1 : w2.cell? ⟨w.heap.size, 1, none⟩ = some (.slice none 0 0) := K2.out.cell 1
    have f0 := K2.out.frozen 0
    have f1 := K2.out.frozen 1
    have KZ := (K2.out.set 0 (.int .i64 0)).set 1 (.slice none 0 0)
    have e0 := KZ.cell 0
    have e1 := KZ.cell 1
    clear KZ
    have HBB := Lib.hid ((hb2.out.setCell (p := ⟨w.heap.size, 0, none⟩) (Nat.le_refl _) (.int .i64 0)).setCell (p := ⟨w.heap.size, 1, none⟩) (Nat.le_refl _) (.slice none 0 0))
    go_wp2_with fail
    exact bodyPost_ret (v := .tuple #[.agg #[.int .i64 0, .slice none 0 0], .bool false]) (by simp [results, Tryz.results10, go_sem, e0, e1]) rfl (HN.out _ _ ⟨.inr ⟨HNO.out, rfl⟩, HBB.out⟩)

end Go.Proofs.YtliadobopideaaaGreatDoor

namespace Go.Proofs.YtliadobopideaaaGreatDoor
open Go.ChangeShapes Go.WideShapes Go.ChangeAt Go.WideMaps Go.WideElems Go.RowKit Go.Stop
set_option maxRecDepth 100000

def tables : List (String × DataW Unit) := [("math/bits.deBruijn32tab", Rows.laid_math_bits_deBruijn32tab), ("math/bits.deBruijn64tab", Rows.laid_math_bits_deBruijn64tab), ("internal/strconv.uint64pow10", Rows.laid_internal_strconv_uint64pow10), ("unicode/utf8.acceptRanges", Rows.laid_unicode_utf8_acceptRanges), ("strconv.ErrRange", Rows.laid_strconv_ErrRange), ("strconv.ErrSyntax", Rows.laid_strconv_ErrSyntax), ("loop.example/paling/impl.errNone", Rows.laid_loop_example_paling_impl_errNone), ("unicode/utf8.first", Rows.laid_unicode_utf8_first)]
theorem tables_plain {W : World} (h : laidMetH Tryz.prog tables W) : laidMet Tryz.prog tables W := by
  rwa [MakeChecks.laidMetH_plain _ _ _ (by kernel_rfl)] at h
theorem door_met (os : Os) (args : Array Value) : laidMetH Tryz.prog tables ((World.laidAll Tryz.prog os tables).forCall (fun _ _ => 0) ⟨#[], args, []⟩).memory := by
  rw [MakeChecks.laidMetH_plain _ _ _ (by kernel_rfl)]
  exact laidMet_laidAll _ (by kernel_rfl) (by kernel_rfl)

theorem pow10_data : (Rows.laid_internal_strconv_uint64pow10 : DataW Unit) = Lib.tabData .u64 Lib.pow10Tab := rfl
theorem pow10_type (g : Nat) (h : Tryz.prog.globalNamed "internal/strconv.uint64pow10" = some g) : (Tryz.prog.globals[g]?).map (·.type) = some 169 := by
  obtain rfl := Option.some.inj ((show Tryz.prog.globalNamed "internal/strconv.uint64pow10" = some 1 by kernel_rfl).symm.trans h)
  kernel_rfl
theorem tab_of_laid {W : World} (h : laidMet Tryz.prog tables W) : Tab W := by
  obtain ⟨g, t, cs, fuel, p, hg, ht, hv, hd⟩ := Lib.laidMet.reads h (n := "internal/strconv.uint64pow10") (d := Rows.laid_internal_strconv_uint64pow10) (.tail _ (.tail _ (.head _)))
  obtain rfl := Option.some.inj ((pow10_type g hg).symm.trans ht)
  rw [pow10_data] at hd
  unfold Tab Lib.TabIs
  rw [hv, ← Lib.cells_of_tab Tryz.underlying169 Tryz.underlying145 (by kernel_rfl) (by kernel_rfl) hd]
theorem star : "*" ++ "errors.errorString" = "*errors.errorString" := by decide
theorem rowErr (u : TypeId) (h : Tryz.prog.typeName? 3 u = some "*errors.errorString") : u = 202 :=
  typeName_ptr_named (nm := "errors.errorString") (by rw [star]; kernel_rfl) (by kernel_rfl) (by decide) u (by rw [star]; exact h)
theorem cellsErr : Tryz.prog.cellsOf 204 = 1 := by kernel_rfl
theorem cellsTx : Tryz.prog.cellsOf 9 = 1 := by kernel_rfl
theorem env_of_laid {W : World} (h : laidMet Tryz.prog tables W) (hm : ∃ m, W.cell? ⟨2, 0, none⟩ = some (.int .i64 m)) : ∃ A, EnvB W A := by
  have h1 := h.tail.tail.tail.tail
  obtain ⟨a1, s1, v1, _⟩ := laid_sentinel h1 (show Tryz.prog.globalNamed "strconv.ErrRange" = some 4 by kernel_rfl) (show (Tryz.prog.globals[4]?).map (·.type) = some 44 by kernel_rfl) Tryz.underlying44 rowErr Tryz.underlying202 Tryz.underlying204 rfl rfl Tryz.underlying9 cellsErr cellsTx
  obtain ⟨a2, s2, v2, _⟩ := laid_sentinel h1.tail (show Tryz.prog.globalNamed "strconv.ErrSyntax" = some 3 by kernel_rfl) (show (Tryz.prog.globals[3]?).map (·.type) = some 44 by kernel_rfl) Tryz.underlying44 rowErr Tryz.underlying202 Tryz.underlying204 rfl rfl Tryz.underlying9 cellsErr cellsTx
  obtain ⟨a3, s3, v3, _⟩ := laid_sentinel h1.tail.tail (show Tryz.prog.globalNamed "loop.example/paling/impl.errNone" = some 0 by kernel_rfl) (show (Tryz.prog.globals[0]?).map (·.type) = some 44 by kernel_rfl) Tryz.underlying44 rowErr Tryz.underlying202 Tryz.underlying204 rfl rfl Tryz.underlying9 cellsErr cellsTx
  exact ⟨a3, v3, ⟨_, _, v2⟩, ⟨_, _, v1⟩, hm⟩

/-- The frame of a law that reads variables: the world's shape is kept for the walk. -/
theorem handed_shaped {H : Type} {enc : TypeId × Value → H} {a : Assume} {C : Checked} {os : Os} {f : FuncId} {fn : Func} {s : ChangeSpec} {apart fresh handsOn again : Bool} {l : List (String × DataW Unit)}
    (own : ownKnob C.prog.godebug = none) (started : os.Started) (noInit : C.prog.inits.idxOf? f = none) (hfn : C.prog.funcs[f]? = some fn)
    (witness : ∃ (w : World) (tape : Tape) (i : Input), w.os = os ∧ (w.forCall tape i).Shaped C.prog ∧ i.vars = [] ∧ Input.okWide C.prog (w.forCall tape i) .any w.heap.size f i ∧
      ((s.pre enc C.prog fn [] apart (w.forCall tape i).memory i.args ∧ laidMetH C.prog l (w.forCall tape i).memory) ∧ sizedMet enc C.prog fn (OpenSpec.ofChange s) apart (w.forCall tape i).memory i.args) ∧ a.holds C.prog (lone (Frame.enter C.prog f i.args .normal) [] (w.forCall tape i)))
    (walk : ∀ (W : World) (base : Nat) (args : Array Value) (ds gs : List (DataW H)) (before : List MemPlace), (∀ (j : Nat) t v, fn.params[j]? = some t → args[j]? = some v → Value.okWide C.prog W .any base t v) →
      DataW.Whole enc C.prog fn.params.toList s.vars apart W args.toList ds gs before → laidMetH C.prog l W → W.ShapedOpen C.prog → Calls C.prog f args W fun e W' => ∃ v, e = .returned v ∧ s.post enc C.prog fn apart fresh handsOn again W args v W') :
    ReturnsInHanded a C os f .any (fun w args => (s.pre enc C.prog fn [] apart w args ∧ laidMetH C.prog l w) ∧ sizedMet enc C.prog fn (OpenSpec.ofChange s) apart w args) (s.post enc C.prog fn apart fresh handsOn again) := by
  refine returnsInHanded_of_calls own started noInit witness fun w tape i _ hsh _ ⟨_, _, _, fn', hfn', _, _, _, _, hval⟩ ⟨⟨⟨ds, gs, before, hw, _⟩, hl⟩, _⟩ _ => ?_
  obtain rfl : fn' = fn := Option.some.inj (hfn'.symm.trans hfn)
  exact (walk _ w.heap.size i.args ds gs before hval (DataW.Whole.of_heap (by rfl) hw) (hl.of_heap (by rfl)) hsh).mono fun e W' ⟨v, he, hp⟩ => by
    subst he
    exact ChangeSpec.post_blind hp

end Go.Proofs.YtliadobopideaaaGreatDoor
