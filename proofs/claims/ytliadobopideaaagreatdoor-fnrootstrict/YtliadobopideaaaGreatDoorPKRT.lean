/- strings.TrimLeft at the figures, by the library's theorem. Conditions: the theorem names its own. The program's reader of roots: number, name and place. Conditions: the variables that the reader looks at lie there; the text is short. The program's reader of roots: name and place. Conditions: the variables that the reader looks at lie there; the text is short. Words as a line, and numbers as words, of the program. Conditions: the table of powers of ten lies there; short texts. -/
import Derived.Test.YtliadobopideaaaGreatDoorPKShelf
import Derived.Shelf.Strings.SlTrimAscii
import Derived.Test.YtliadobopideaaaGreatDoorPKRL
import Derived.Lib.SmallJoins
import Derived.Test.YtliadobopideaaaGreatDoorPKQ4
import Derived.Lib.AppendIntMem
namespace Go.Proofs
open Go.RowKit
set_option maxRecDepth 100000
theorem Tryz.strings_TrimLeft_laid (s cutset : ByteArray) (w : World) (hcs : cutset.size < 4294967281) (hascii : ∀ (j : Nat) b, cutset.data.toList[j]? = some b → b.toNat < 128) :
    Calls Tryz.prog 91 #[.string s, .string cutset] w fun e w' => e = .returned (.string ⟨(Lib.trimLeftS s.data.toList cutset.data.toList).toArray⟩) ∧ Below w.heap.size w w' :=
  Any.strings_TrimLeft_laid Tryz.lays161 (by kernel_rfl) s cutset w hcs hascii

end Go.Proofs

namespace Go.Proofs.YtliadobopideaaaGreatDoor
open Go.RowKit Go.Sort

theorem extract_tx (l : List UInt8) (k : Nat) : (tx l).extract 0 k = tx (l.take k) := by
  have h : ((tx l).extract 0 k).data.toList = l.take k := by simp [ByteArray.data_extract, tx]
  rw [← h]; rfl
theorem fig_le (l : List UInt8) : (figN l).length ≤ l.length := by unfold figN; rw [List.length_take]; omega
/-- A number is read. -/
def NumRead (n R : Nat) (A : Addr) (l : List UInt8) (bad : Bool) (w : World) (e : Ending) (w' : World) : Prop :=
  ∃ (z : Int) (bad' : Bool), e = .returned (.int .i64 z) ∧ Rdd n R A w (restN l) bad' w' ∧ (bad = true → bad' = true) ∧ (bad = false → ∀ (k : Int) (t : List UInt8), 0 ≤ k → k ≤ 1000000000 → NoFig t → l = dz k ++ t → z = k ∧ bad' = false)

set_option linter.unusedSimpArgs false in
set_option linter.unusedVariables false in
set_option maxRecDepth 100000 in
set_option maxHeartbeats 4000000 in
theorem number_any (n R : Nat) (A : Addr) (l : List UInt8) (bad : Bool) (w : World) (hn : n ≤ R) (hl : l.length ≤ 1000) (hE : Env n w A) (hb : RdAt w R l A bad) :
    Calls Tryz.prog 59 #[.pointer (some ⟨R, 0, none⟩)] w (NumRead n R A l bad w) := by
  have HN := Lib.hid (show ∀ e w', (∃ (z : Int) (bad' : Bool), e = .returned (.int .i64 z) ∧ Rdd n R A w (restN l) bad' w' ∧ (bad = true → bad' = true) ∧ (bad = false → ∀ (k : Int) (t : List UInt8), 0 ≤ k → k ≤ 1000000000 → NoFig t → l = dz k ++ t → z = k ∧ bad' = false)) → NumRead n R A l bad w e w' from fun _ _ h => h)
  generalize NumRead n R A l bad w = NR at HN ⊢
  have hE' : Env n w.drew A := hE.on ((Below.refl _ _).drew)
  have hb' : RdAt w.drew R l A bad := hb
  have hG0 : w.grownBy w.drew (some R) := ⟨rfl, rfl, rfl, Nat.le_refl _, fun _ _ _ => rfl⟩
  have hT := Lib.hid (fun W => Tryz.strings_TrimLeft_laid (tx l) ⟨#[48, 49, 50, 51, 52, 53, 54, 55, 56, 57]⟩ W (by decide) (by intro j b hj; have : b ∈ digs := List.mem_of_getElem? hj; have := (digs_iff b).1 (by simpa using this); omega))
  have hTe : (⟨(Lib.trimLeftS (tx l).data.toList [48, 49, 50, 51, 52, 53, 54, 55, 56, 57]).toArray⟩ : ByteArray) = tx (restN l) := rfl
  have hrl := restN_le l
  have hsl : (tx l).size = l.length := tx_size l
  have hsr : (tx (restN l)).size = (restN l).length := tx_size _
  have c0 : w.drew.cell? ⟨R, 0, none⟩ = some (.string (tx l)) := Blk.cell hb' 0
  have HE := Lib.hid hE'
  have HB := Lib.hid hb'
  have HG := Lib.hid hG0
  clear hE hb hE' hb' hG0
  go_enter Tryz.func59, Tryz.ntmps59
  go_wp2_with fail
  refine AnyT.start (S := (fun w' : World => w'.cell? ⟨R, 0, none⟩ = some (.string (tx l)))) (by kernel_rfl) ?_
  generalize w.drew = W at c0 HE HB HG ⊢
  refine AnyT.take 0 (show _ = some _ from rfl) rfl (by kernel_rfl) (by kernel_rfl) (by kernel_rfl) (fun _ _ _ h => h) c0 (by first | kernel_rfl | rfl) (fun w' hSw => by go_simp; try with_reducible rfl) ?_
  try simp only [Act.put, List.setIfInBounds_toArray, List.set_cons_zero, List.set_cons_succ]
  refine AnyT.take 1 (show _ = some _ from rfl) rfl (by kernel_rfl) (by kernel_rfl) (by kernel_rfl) (fun _ _ _ h => h) c0 (by first | kernel_rfl | rfl) (fun w' hSw => by go_simp; try with_reducible rfl) ?_
  try simp only [Act.put, List.setIfInBounds_toArray, List.set_cons_zero, List.set_cons_succ]
  refine AnyT.take 2 (show _ = some _ from rfl) rfl (by kernel_rfl) (by kernel_rfl) (by kernel_rfl) (fun _ _ _ h => h) c0 (by first | kernel_rfl | rfl) (fun w' hSw => by go_simp; try with_reducible rfl) ?_
  try simp only [Act.put, List.setIfInBounds_toArray, List.set_cons_zero, List.set_cons_succ]
  refine AnyT.take 3 (show _ = some _ from rfl) rfl (by kernel_rfl) (by kernel_rfl) (by kernel_rfl) (fun _ _ _ h => h) c0 (by first | kernel_rfl | rfl) (fun w' hSw => by go_simp; try with_reducible rfl) ?_
  try simp only [Act.put, List.setIfInBounds_toArray, List.set_cons_zero, List.set_cons_succ]
  refine AnyT.take 4 (show _ = some _ from rfl) rfl (by kernel_rfl) (by kernel_rfl) (by kernel_rfl) (fun _ _ _ h => h) c0 (by first | kernel_rfl | rfl) (fun w' hSw => by go_simp; try with_reducible rfl) ?_
  try simp only [Act.put, List.setIfInBounds_toArray, List.set_cons_zero, List.set_cons_succ]
  refine AnyT.take 5 (show _ = some _ from rfl) rfl (by kernel_rfl) (by kernel_rfl) (by kernel_rfl) (fun _ _ _ h => h) c0 (by first | kernel_rfl | rfl) (fun w' hSw => by go_simp; try with_reducible rfl) ?_
  try simp only [Act.put, List.setIfInBounds_toArray, List.set_cons_zero, List.set_cons_succ]
  refine AnyT.take 6 (show _ = some _ from rfl) rfl (by kernel_rfl) (by kernel_rfl) (by kernel_rfl) (fun _ _ _ h => h) c0 (by first | kernel_rfl | rfl) (fun w' hSw => by go_simp; try with_reducible rfl) ?_
  try simp only [Act.put, List.setIfInBounds_toArray, List.set_cons_zero, List.set_cons_succ]
  refine AnyT.take 7 (show _ = some _ from rfl) rfl (by kernel_rfl) (by kernel_rfl) (by kernel_rfl) (fun _ _ _ h => h) c0 (by first | kernel_rfl | rfl) (fun w' hSw => by go_simp; try with_reducible rfl) ?_
  try simp only [Act.put, List.setIfInBounds_toArray, List.set_cons_zero, List.set_cons_succ]
  refine AnyT.take 8 (show _ = some _ from rfl) rfl (by kernel_rfl) (by kernel_rfl) (by kernel_rfl) (fun _ _ _ h => h) c0 (by first | kernel_rfl | rfl) (fun w' hSw => by go_simp; try with_reducible rfl) ?_
  try simp only [Act.put, List.setIfInBounds_toArray, List.set_cons_zero, List.set_cons_succ]
  refine AnyT.take 9 (show _ = some _ from rfl) rfl (by kernel_rfl) (by kernel_rfl) (by kernel_rfl) (fun _ _ _ h => h) c0 (by first | kernel_rfl | rfl) (fun w' hSw => by go_simp; try with_reducible rfl) ?_
  try simp only [Act.put, List.setIfInBounds_toArray, List.set_cons_zero, List.set_cons_succ]
  refine AnyT.take 10 (show _ = some _ from rfl) rfl (by kernel_rfl) (by kernel_rfl) (by kernel_rfl) (fun _ _ _ h => h) c0 (by first | kernel_rfl | rfl) (fun w' hSw => by go_simp; try with_reducible rfl) ?_
  try simp only [Act.put, List.setIfInBounds_toArray, List.set_cons_zero, List.set_cons_succ]
  refine AnyT.take 11 (show _ = some _ from rfl) rfl (by kernel_rfl) (by kernel_rfl) (by kernel_rfl) (fun _ _ _ h => h) c0 (by first | kernel_rfl | rfl) (fun w' hSw => by go_simp; try with_reducible rfl) ?_
  try simp only [Act.put, List.setIfInBounds_toArray, List.set_cons_zero, List.set_cons_succ]
  refine AnyT.take 12 (show _ = some _ from rfl) rfl (by kernel_rfl) (by kernel_rfl) (by kernel_rfl) (fun _ _ _ h => h) c0 (by first | kernel_rfl | rfl) (fun w' hSw => by go_simp; try with_reducible rfl) ?_
  try simp only [Act.put, List.setIfInBounds_toArray, List.set_cons_zero, List.set_cons_succ]
  refine AnyT.one 13 (by kernel_rfl) (show _ = some _ from rfl) (fun K' hK' => ?_)
  go_simp
  go_at_call 91
  refine (hT.out _).mono ?_
  rintro e w1 ⟨rfl, hB⟩
  have c1 := cell_below hB c0
  have HE := Lib.hid (HE.out.on (hB.mono HE.out.size))
  have HB := Lib.hid (HB.out.below hB)
  have HG := Lib.hid (grown_trans HG.out (grown_below' _ hB))
  clear hB c0
  rw [hTe]
  go_simp
  refine hK' _ _ ⟨?_, c1⟩
  clear hK' K'
  try simp only [Act.put, List.setIfInBounds_toArray, List.set_cons_zero, List.set_cons_succ]
  refine AnyT.one 14 (by kernel_rfl) (show _ = some _ from rfl) (fun K' hK' => ?_)
  go_simp
  refine hK' _ _ ⟨?_, c1⟩
  clear hK' K'
  try simp only [Act.put, List.setIfInBounds_toArray, List.set_cons_zero, List.set_cons_succ]
  refine AnyT.one 15 (by kernel_rfl) (show _ = some _ from rfl) (fun K' hK' => ?_)
  go_simp
  refine hK' _ _ ⟨?_, c1⟩
  clear hK' K'
  try simp only [Act.put, List.setIfInBounds_toArray, List.set_cons_zero, List.set_cons_succ]
  have hwr : IntKind.i64.wrap ((l.length : Int) - ((restN l).length : Int)) = (((l.length - (restN l).length : Nat)) : Int) := by simp [IntKind.wrap, IntKind.bits, IntKind.signed]; omega
  rw [hwr]
  refine AnyT.one 16 (by kernel_rfl) (show _ = some _ from rfl) (fun K' hK' => ?_)
  go_simp
  rw [extract_tx]
  refine hK' _ _ ⟨?_, c1⟩
  clear hK' K'
  try simp only [Act.put, List.setIfInBounds_toArray, List.set_cons_zero, List.set_cons_succ]
  refine AnyT.one 17 (by kernel_rfl) (show _ = some _ from rfl) (fun K' hK' => ?_)
  go_simp
  refine hK' _ _ ⟨AnyT.done (by kernel_rfl) ?_, c1⟩
  clear hK' K'
  try simp only [Act.put, List.setIfInBounds_toArray, List.set_cons_zero, List.set_cons_succ]
  rw [show l.take (l.length - (restN l).length) = figN l from rfl]
  have hfl := fig_le l
  clear hwr c1 hTe hsr hsl hT
  cases hres : Lib.atoiAll (figN l) with
  | ok v =>
    have hA := Lib.hid (fun W => Tryz.strconv_Atoi_ok (tx (figN l)) (by rw [tx_size]; omega) v hres W)
    have hq := Lib.hid (show bad = false → ∀ (k : Int) (t : List UInt8), 0 ≤ k → k ≤ 1000000000 → NoFig t → l = dz k ++ t → v = k from fun _ k t h0 h1 ht el => by
      rw [el, fig_dz ht, atoi_dz h0 h1] at hres
      cases hres; rfl)
    clear hres
    have hpre := Lib.hid (pre_fig l)
    have htr := Lib.hid (trim_fig l)
    go_wp2_with fail
    refine (hA.out _).mono ?_
    rintro e w2 ⟨rfl, hw⟩
    have hB2 : Below w1.heap.size w1 w2 := by
      rcases hw with rfl | ⟨t, rfl⟩
      · exact Below.refl _ _
      · exact Go.Joins.below_bytesWorld _ _ _ _ (Nat.le_refl _)
    clear hw
    have HE2 := Lib.hid (HE.out.on (hB2.mono HE.out.size))
    have HB2 := Lib.hid (HB.out.below hB2)
    have HG2 := Lib.hid (grown_trans HG.out (grown_below' _ hB2))
    clear hB2
    have HM := Lib.hid (must_any n R A l bad (tx (figN l)) w2 HE2.out HB2.out)
    rw [tx_list, pre_fig, trim_fig, Bool.not_true, Bool.or_false] at HM
    go_wp2_with fail
    refine HM.out.mono ?_
    rintro e w3 ⟨rfl, h3⟩
    have H3 := Lib.hid h3
    clear h3
    go_wp2
    exact HN.out _ _ ⟨v, bad, rfl, ⟨H3.out.box, grown_trans HG2.out H3.out.grown⟩, fun h => h, fun hb k t h0 h1 ht el => ⟨hq.out hb k t h0 h1 ht el, hb⟩⟩
  | «syntax» =>
    obtain ⟨tp, pp, hvar⟩ := HE.out.now.syn
    have hA := Lib.hid (Tryz.strconv_Atoi_syntax_var (tx (figN l)) (by rw [tx_size]; omega) hres tp pp w1 hvar)
    have hq := Lib.hid (show ∀ (k : Int) (t : List UInt8), 0 ≤ k → k ≤ 1000000000 → NoFig t → l = dz k ++ t → False from fun k t h0 h1 ht el => by
      rw [el, fig_dz ht, atoi_dz h0 h1] at hres
      cases hres)
    clear hvar
    clear hres
    have hpre := Lib.hid (pre_fig l)
    have htr := Lib.hid (trim_fig l)
    go_wp2_with fail
    refine hA.out.mono ?_
    rintro e w2 ⟨N, rfl, hN1, hN2, hB2⟩
    clear hN1 hN2
    have HE2 := Lib.hid (HE.out.on (hB2.mono HE.out.size))
    have HB2 := Lib.hid (HB.out.below hB2)
    have HG2 := Lib.hid (grown_trans HG.out (grown_below' _ hB2))
    clear hB2
    have hg := HE2.out.cell
    have c2 := Blk.cell HB2.out 1
    have f2 := Blk.frozen HB2.out 1
    have HS := Lib.hid (show RdAt (w2.setCell ⟨R, 1, none⟩ (.iface 202 (.pointer (some A)))) R l A true from Blk.set HB2.out 1 (.iface 202 (.pointer (some A))))
    have HG3 := Lib.hid (grown_trans HG2.out (grown_set w2 R 1 (.iface 202 (.pointer (some A)))))
    have HE3 := Lib.hid (HE2.out.on (below_of_grown (grown_set w2 R 1 (.iface 202 (.pointer (some A)))) hn HE2.out.size))
    have HM := Lib.hid (must_any n R A l true (tx (figN l)) _ HE3.out HS.out)
    rw [tx_list, pre_fig, trim_fig] at HM
    go_wp2_with fail
    refine HM.out.mono ?_
    rintro e w3 ⟨rfl, h3⟩
    have H3 := Lib.hid h3
    clear h3
    go_wp2
    exact HN.out _ _ ⟨_, true, rfl, ⟨H3.out.box, grown_trans HG3.out H3.out.grown⟩, fun _ => rfl, fun _ k t h0 h1 ht el => (hq.out k t h0 h1 ht el).elim⟩
  | range =>
    obtain ⟨tp, pp, hvar⟩ := HE.out.now.rng
    have hA := Lib.hid (Tryz.strconv_Atoi_range_var (tx (figN l)) (by rw [tx_size]; omega) hres tp pp w1 hvar)
    have hq := Lib.hid (show ∀ (k : Int) (t : List UInt8), 0 ≤ k → k ≤ 1000000000 → NoFig t → l = dz k ++ t → False from fun k t h0 h1 ht el => by
      rw [el, fig_dz ht, atoi_dz h0 h1] at hres
      cases hres)
    clear hvar
    clear hres
    have hpre := Lib.hid (pre_fig l)
    have htr := Lib.hid (trim_fig l)
    go_wp2_with fail
    refine hA.out.mono ?_
    rintro e w2 ⟨N, rfl, hN1, hN2, hB2⟩
    clear hN1 hN2
    have HE2 := Lib.hid (HE.out.on (hB2.mono HE.out.size))
    have HB2 := Lib.hid (HB.out.below hB2)
    have HG2 := Lib.hid (grown_trans HG.out (grown_below' _ hB2))
    clear hB2
    have hg := HE2.out.cell
    have c2 := Blk.cell HB2.out 1
    have f2 := Blk.frozen HB2.out 1
    have HS := Lib.hid (show RdAt (w2.setCell ⟨R, 1, none⟩ (.iface 202 (.pointer (some A)))) R l A true from Blk.set HB2.out 1 (.iface 202 (.pointer (some A))))
    have HG3 := Lib.hid (grown_trans HG2.out (grown_set w2 R 1 (.iface 202 (.pointer (some A)))))
    have HE3 := Lib.hid (HE2.out.on (below_of_grown (grown_set w2 R 1 (.iface 202 (.pointer (some A)))) hn HE2.out.size))
    have HM := Lib.hid (must_any n R A l true (tx (figN l)) _ HE3.out HS.out)
    rw [tx_list, pre_fig, trim_fig] at HM
    go_wp2_with fail
    refine HM.out.mono ?_
    rintro e w3 ⟨rfl, h3⟩
    have H3 := Lib.hid h3
    clear h3
    go_wp2
    exact HN.out _ _ ⟨_, true, rfl, ⟨H3.out.box, grown_trans HG3.out H3.out.grown⟩, fun _ => rfl, fun _ k t h0 h1 ht el => (hq.out k t h0 h1 ht el).elim⟩

end Go.Proofs.YtliadobopideaaaGreatDoor

namespace Go.Proofs.YtliadobopideaaaGreatDoor
open Go.RowKit Go.Sort

theorem grown_far {w w1 : World} {r : Option Nat} (h : w.grownBy w1 r) {B : Nat} (hB : w.heap.size ≤ B) (o : Nat) (v : Value) : w.grownBy (w1.setCell ⟨B, o, none⟩ v) r :=
  ⟨h.os, h.tape, h.output, by rw [World.size_setCell]; exact h.size, fun k hk hne => (Below.heap_setCell w1 ⟨B, o, none⟩ v k (by show k ≠ B; omega)).trans (h.block k hk hne)⟩
theorem grown_alloc {w : World} (o : Obj) (r : Option Nat) : w.grownBy (w.alloc o) r := World.grownBy_alloc w o r
theorem grown_drewN {w w1 : World} {r : Option Nat} (h : w.grownBy w1 r) (k : Nat) : w.grownBy (w1.drewN k) r := ⟨h.os, h.tape, h.output, h.size, h.block⟩

set_option maxRecDepth 100000 in
theorem clone_any (s : ByteArray) (w : World) (hlim : s.size ≤ 281474976710656) : Calls Tryz.prog 124 #[.string s] w fun e w' => e = .returned (.string s) ∧ Below w.heap.size w w' := by
  have HC := Lib.hid (Tryz.stringslite_Clone s w hlim)
  clear hlim
  go_enter Tryz.func124, Tryz.ntmps124
  go_wp2_with fail
  refine HC.out.mono ?_
  rintro e w1 ⟨rfl, hB⟩
  go_wp2
  go_ret
  exact ⟨rfl, hB⟩

theorem index_nl : ∀ (a : List UInt8) (t : List UInt8), (10 : UInt8) ∉ a → Lib.index (a ++ 10 :: t) [10] = (a.length : Int)
  | [], t, _ => by
    show Lib.index (10 :: t) [10] = 0
    unfold Lib.index
    rw [if_pos (by simp)]
  | x :: r, t, h => by
    have hx : x ≠ 10 := fun e => h (by rw [e]; simp)
    have ih := index_nl r t (fun k => h (by simp [k]))
    show Lib.index (x :: (r ++ 10 :: t)) [10] = _
    unfold Lib.index
    rw [if_neg (by simp; exact fun e => hx e.symm), ih, if_neg (by simp)]
    simp
theorem head_nl {a t : List UInt8} (h : (10 : UInt8) ∉ a) : headN (a ++ 10 :: t) = a := by
  unfold headN Lib.cut
  rw [index_nl a t h, if_pos (by omega)]
  show (a ++ 10 :: t).take ((a.length : Int)).toNat = a
  rw [show ((a.length : Int)).toNat = a.length by omega, List.take_left]

set_option maxRecDepth 100000 in
set_option maxHeartbeats 2000000 in
theorem name_any (n R : Nat) (A : Addr) (l : List UInt8) (bad : Bool) (w : World) (hl : l.length ≤ 1000) (hE : Env n w A) (hb : RdAt w R l A bad) :
    Calls Tryz.prog 93 #[.pointer (some ⟨R, 0, none⟩)] w fun e w' => e = .returned (.string (tx (headN l))) ∧ Rdd n R A w (Lib.trimPrefix l (headN l)) bad w' := by
  obtain ⟨m, hm0⟩ := hE.now.mx
  have HC := Lib.hid (Tryz.strings_Cut (tx l) ⟨#[10]⟩ m w (by rw [tx_size]; omega) hm0)
  have hT : (⟨(Lib.cut (tx l).data.toList (⟨#[10]⟩ : ByteArray).data.toList).1.toArray⟩ : ByteArray) = tx (headN l) := rfl
  have c0 : w.cell? ⟨R, 0, none⟩ = some (.string (tx l)) := Blk.cell hb 0
  have hhl := head_le l
  have HK := Lib.hid (fun W => clone_any (tx (headN l)) W (by rw [tx_size]; omega))
  have HM := Lib.hid (fun k => must_any n R A l bad (tx (headN l)) (w.drewN k) (hE.on (belowN (Below.refl _ _) k)) (show RdAt (w.drewN k) R l A bad from hb))
  have hG0 := Lib.hid (fun k => grown_drewN (grown_below' (some R) (Below.refl w.heap.size w)) k)
  rw [hT] at HC
  clear hm0 hT hE hb hl hhl
  generalize (⟨(Lib.cut (tx l).data.toList (⟨#[10]⟩ : ByteArray).data.toList).2.1.toArray⟩ : ByteArray) = T2 at HC
  generalize (Lib.cut (tx l).data.toList (⟨#[10]⟩ : ByteArray).data.toList).2.2 = b2 at HC
  go_enter Tryz.func93, Tryz.ntmps93
  go_wp2_with fail
  refine HC.out.mono ?_
  rintro e w1 ⟨rfl, k, rfl⟩
  clear c0 HC
  go_wp2_with fail
  refine (HM.out k).mono ?_
  rintro e w2 ⟨rfl, h2⟩
  rw [tx_list, head_pre, Bool.not_true, Bool.or_false] at h2
  have H2 := Lib.hid h2
  clear h2 HM
  go_wp2_with fail
  refine (HK.out _).mono ?_
  rintro e w3 ⟨rfl, hB3⟩
  have HB := Lib.hid (H2.out.box.below hB3)
  have HG := Lib.hid (grown_trans (grown_trans (hG0.out k) H2.out.grown) (grown_below' _ hB3))
  clear hB3 H2 hG0
  go_wp2
  go_ret
  exact ⟨rfl, HB.out, HG.out⟩

/-- A place is read. -/
def PlaceRead (n R : Nat) (A : Addr) (l : List UInt8) (bad : Bool) (w : World) (e : Ending) (w' : World) : Prop :=
  ∃ (d s : Int) (l' : List UInt8) (bad' : Bool), e = .returned (.agg #[.int .i64 d, .int .i64 s]) ∧ Rdd n R A w l' bad' w' ∧ l'.length ≤ l.length ∧ (bad = true → bad' = true) ∧
    (bad = false → ∀ (q : PlD) (t : List UInt8), ((0 ≤ q.1 ∧ q.1 ≤ 1000000000) ∧ 0 ≤ q.2 ∧ q.2 ≤ 1000000000) → NoFig t → l = dz q.1 ++ 46 :: (dz q.2 ++ t) → (d, s) = q ∧ l' = t ∧ bad' = false)

set_option maxRecDepth 100000 in
set_option maxHeartbeats 4000000 in
theorem place_any (n R : Nat) (A : Addr) (l : List UInt8) (bad : Bool) (w : World) (hn : n ≤ R) (hl : l.length ≤ 1000) (hE : Env n w A) (hb : RdAt w R l A bad) :
    Calls Tryz.prog 125 #[.pointer (some ⟨R, 0, none⟩)] w (PlaceRead n R A l bad w) := by
  have HN := Lib.hid (show ∀ e w', (∃ (d s : Int) (l' : List UInt8) (bad' : Bool), e = .returned (.agg #[.int .i64 d, .int .i64 s]) ∧ Rdd n R A w l' bad' w' ∧ l'.length ≤ l.length ∧ (bad = true → bad' = true) ∧
    (bad = false → ∀ (q : PlD) (t : List UInt8), ((0 ≤ q.1 ∧ q.1 ≤ 1000000000) ∧ 0 ≤ q.2 ∧ q.2 ≤ 1000000000) → NoFig t → l = dz q.1 ++ 46 :: (dz q.2 ++ t) → (d, s) = q ∧ l' = t ∧ bad' = false)) → PlaceRead n R A l bad w e w' from fun _ _ h => h)
  generalize PlaceRead n R A l bad w = PR at HN ⊢
  have hRl : R < w.heap.size := Blk.lt hb
  have hB0 : Below w.heap.size w (w.alloc (.cells #[.int .i64 0, .int .i64 0] 83)) := (Below.refl _ _).alloc (Nat.le_refl _) _
  have K0 := Lib.hid (Blk.new w #[.int .i64 0, .int .i64 0] 83)
  have HE0 := Lib.hid (hE.on (hB0.mono hE.size))
  have HB0 := Lib.hid (hb.below hB0)
  have HG0 := Lib.hid (grown_below' (some R) hB0)
  clear hB0 hE hb
  go_enter Tryz.func125, Tryz.ntmps125
  go_wp2_with fail
  generalize w.alloc (.cells #[.int .i64 0, .int .i64 0] 83) = w0 at K0 HE0 HB0 HG0 ⊢
  refine (number_any n R A l bad w0 hn hl HE0.out HB0.out).mono ?_
  rintro e w1 ⟨d, bad1, rfl, h1, m1, p1⟩
  have hl1 := restN_le l
  have HE1 := Lib.hid (h1.env HE0.out hn)
  have HB1 := Lib.hid h1.box
  have HG1 := Lib.hid (grown_trans HG0.out h1.grown)
  have K1 := Lib.hid (grown_blk K0.out h1.grown (fun e => by injection e with e; omega))
  have P1 := Lib.hid p1
  have M1 := Lib.hid m1
  clear h1 p1 m1 HE0 HB0 HG0 K0
  go_wp2_with fail
  refine (must_any n R A (restN l) bad1 ⟨#[46]⟩ w1 HE1.out HB1.out).mono ?_
  rintro e w2 ⟨rfl, h2⟩
  have hl2 := trim_le (restN l) [46]
  have HE2 := Lib.hid (h2.env HE1.out hn)
  have HB2 := Lib.hid (show RdAt w2 R (Lib.trimPrefix (restN l) [46]) A (bad1 || !Lib.hasPrefix (restN l) [46]) from h2.box)
  have HG2 := Lib.hid (grown_trans HG1.out h2.grown)
  have K2 := Lib.hid (grown_blk K1.out h2.grown (fun e => by injection e with e; omega))
  clear h2 HE1 HB1 HG1 K1
  go_wp2_with fail
  refine (number_any n R A _ _ w2 hn (by omega) HE2.out HB2.out).mono ?_
  rintro e w3 ⟨s, bad3, rfl, h3, m3, p3⟩
  have hl3 := restN_le (Lib.trimPrefix (restN l) [46])
  have HB3 := Lib.hid h3.box
  have HG3 := Lib.hid (grown_trans HG2.out h3.grown)
  have K3 := Lib.hid (grown_blk K2.out h3.grown (fun e => by injection e with e; omega))
  have P3 := Lib.hid p3
  have M3 := Lib.hid m3
  clear h3 p3 m3 HE2 HB2 HG2 K2
  have k0 : w3.cell? ⟨w.heap.size, 0, none⟩ = some (.int .i64 0) := K3.out.cell 0
  have k1 : w3.cell? ⟨w.heap.size, 1, none⟩ = some (.int .i64 0) := K3.out.cell 1
  have f0 := K3.out.frozen 0
  have f1 := K3.out.frozen 1
  have KZ := (K3.out.set 0 (.int .i64 d)).set 1 (.int .i64 s)
  have e0 := KZ.cell 0
  have e1 := KZ.cell 1
  have hne : w.heap.size ≠ R := by omega
  have HZ := Lib.hid (show RdAt ((w3.setCell ⟨w.heap.size, 0, none⟩ (.int .i64 d)).setCell ⟨w.heap.size, 1, none⟩ (.int .i64 s)) R _ A bad3 from Blk.other (Blk.other HB3.out _ 0 _ hne) _ 1 _ hne)
  have HGZ := Lib.hid (grown_far (grown_far HG3.out (Nat.le_refl _) 0 (.int .i64 d)) (Nat.le_refl _) 1 (.int .i64 s))
  have HQ := Lib.hid (show bad = false → ∀ (q : PlD) (t : List UInt8), ((0 ≤ q.1 ∧ q.1 ≤ 1000000000) ∧ 0 ≤ q.2 ∧ q.2 ≤ 1000000000) → NoFig t → l = dz q.1 ++ 46 :: (dz q.2 ++ t) → (d, s) = q ∧ restN (Lib.trimPrefix (restN l) [46]) = t ∧ bad3 = false from by
    intro hbad q t hq ht el
    have nf : NoFig (46 :: (dz q.2 ++ t)) := fun b r e => by injection e with e _; subst e; decide
    obtain ⟨rfl, hb1⟩ := P1.out hbad q.1 _ hq.1.1 hq.1.2 nf el
    have er : restN l = [46] ++ (dz q.2 ++ t) := by rw [el, rest_dz nf]; rfl
    have h4 : Lib.hasPrefix (restN l) [46] = true := by rw [er]; exact pre_self _ _
    have h5 : Lib.trimPrefix (restN l) [46] = dz q.2 ++ t := by rw [er]; exact trim_self _ _
    obtain ⟨rfl, hb3⟩ := P3.out (by rw [hb1, h4]; rfl) q.2 t hq.2.1 hq.2.2 ht h5
    exact ⟨rfl, by rw [h5, rest_dz ht], hb3⟩)
  have HMM := Lib.hid (show bad = true → bad3 = true from fun h => M3.out (by rw [M1.out h]; rfl))
  clear KZ HB3 HG3 P1 P3 M1 M3 hne
  go_wp2_with fail
  refine bodyPost_ret (v := .agg #[.int .i64 d, .int .i64 s]) (by simp [results, Tryz.results125, go_sem, e0, e1]) rfl (HN.out _ _ ⟨d, s, _, bad3, rfl, ⟨HZ.out, HGZ.out⟩, by omega, HMM.out, HQ.out⟩)

end Go.Proofs.YtliadobopideaaaGreatDoor

namespace Go.Proofs.YtliadobopideaaaGreatDoor
open Go.RowKit Go.Sort

/-- THE TABLE OF POWERS OF TEN lies there. -/
def Tab (w : World) : Prop := Lib.TabIs Tryz.prog w "internal/strconv.uint64pow10" .u64 Lib.pow10Tab
theorem tab_named : (Tryz.prog.globalNamed "internal/strconv.uint64pow10").isSome = true := by kernel_rfl
theorem Tab.below {w w' : World} (h : Tab w) (hB : Below w.heap.size w w') : Tab w' := by
  obtain ⟨g, hg⟩ := Option.isSome_iff_exists.1 tab_named
  exact Go.Joins.tab_stays hg h hB (Nat.le_refl _)

theorem itoa_dz (n : Int) (h : 0 ≤ n) : Lib.itoa n = dz n := by rw [Lib.itoa, if_neg (by omega)]; rfl
theorem itoa_int (n : Int) (h0 : 0 ≤ n) (h1 : n ≤ 9223372036854775807) (w : World) (hT : Tab w) :
    Calls Tryz.prog 22 #[.int .i64 n] w fun e w' => e = .returned (.string (tx (dz n))) ∧ Below w.heap.size w w' := by
  refine (Tryz.strconv_Itoa n (by omega) h1 w hT).mono ?_
  rintro e w' ⟨rfl, k, os, rfl⟩
  exact ⟨ret_text (by rw [itoa_dz n h0]; rfl), Lib.below_grow _ _ (Nat.le_refl _) _ _⟩

/-- WORDS THAT LIE BEHIND AN ADDRESS. -/
def WordsAt (w : World) (b o : Nat) (xs : List ByteArray) : Prop := ∀ (j : Nat) x, xs[j]? = some x → w.cell? ⟨b, o + j, none⟩ = some (.string x)
def lineT (xs : List ByteArray) : ByteArray := tx (Lib.join (xs.map (·.data.toList)) [32] ++ [10])
set_option maxRecDepth 100000 in
set_option maxHeartbeats 1000000 in
theorem lineOf_any (b o c : Nat) (xs : List ByteArray) (w : World) (hc : Hid (WordsAt w b o xs)) (hb : b < w.heap.size) (hcap : xs.length ≤ c) (hn : xs.length ≤ 1000) (hlen : Hid ((lineT xs).size ≤ 100000)) :
    Calls Tryz.prog 21 #[.slice (some ⟨b, o, none⟩) xs.length c] w fun e w' => e = .returned (.string (lineT xs)) ∧ Below w.heap.size w w' := by
  have hl : (Lib.join (xs.map (·.data.toList)) [32]).length ≤ 100000 := by
    have := hlen.out
    rw [lineT, tx_size, List.length_append] at this
    omega
  have HJ := Lib.hid (Tryz.strings_Join b o c xs ⟨#[32]⟩ w hc.out hb (by omega) hcap (by show (Lib.join (xs.map (·.data.toList)) [32]).length ≤ _; omega))
  have HR : Hid ((⟨(Lib.join (xs.map (·.data.toList)) [32]).toArray⟩ : ByteArray) ++ ⟨#[10]⟩ = lineT xs) := by
    show tx (Lib.join (xs.map (·.data.toList)) [32]) ++ tx [10] = _
    rw [tx_add]; rfl
  have hz : (⟨(Lib.join (xs.map (·.data.toList)) [32]).toArray⟩ : ByteArray).size ≤ 100000 := by
    show (tx (Lib.join (xs.map (·.data.toList)) [32])).size ≤ _
    rw [tx_size]; exact hl
  have HJ' : Hid (Calls Tryz.prog 50 #[.slice (some ⟨b, o, none⟩) xs.length c, .string ⟨#[32]⟩] w fun e w' => e = .returned (.string ⟨(Lib.join (xs.map (·.data.toList)) [32]).toArray⟩) ∧ Below w.heap.size w w') := HJ
  clear HJ hl hlen
  generalize (⟨(Lib.join (xs.map (·.data.toList)) [32]).toArray⟩ : ByteArray) = J at HJ' HR hz
  generalize lineT xs = L at HR ⊢
  go_enter Tryz.func21, Tryz.ntmps21
  go_wp2_with fail
  refine HJ'.out.mono ?_
  rintro e w1 ⟨rfl, hB1⟩
  go_wp2_with fail
  go_ret
  exact ⟨ret_text HR.out, hB1⟩

end Go.Proofs.YtliadobopideaaaGreatDoor
