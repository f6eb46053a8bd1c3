/- Contracts of chapter 1: a byte of a text, the iterator over bytes, and SumOf of the program. Conditions: none but the sizes that the rows themselves give. The text of a number, as the specification writes it. Conditions: a number from nought to the largest. The text of a number, as the specification writes it. Conditions: a number from nought to the largest. The text of a pointer, as the specification writes it. Conditions: a pointer of small numbers. -/
import Derived.Test.YtliadobopideaaaGreatDoorPKW1
import Derived.RangeFuncNested
import Derived.RangeFuncBound
import Derived.RangeFuncCalls
import Derived.RangeFuncLeaves
import Derived.RangeFuncWrites
import Derived.RangeFuncBox
import Derived.Shelf.Abstract
import Derived.Shelf.RegionOpen
import Derived.WalkKit
import Derived.OwnWalkIn
import Derived.TacticsInMore
import Derived.LoopNIn
import Derived.LoopIn
import Derived.Lib.Hide
import Derived.Test.YtliadobopideaaaGreatDoorRows
import Derived.Test.YtliadobopideaaaGreatDoorPKR0
import Derived.Lib.ItoaNum
import Derived.Lib.QuietBelow
import Derived.Laws.BytesArg
import Derived.Deep.RegionHeld3
import Derived.Laws.BitsLemmas
import Derived.Test.YtliadobopideaaaGreatDoorPKS2
namespace Go.Proofs.YtliadobopideaaaGreatDoor
open Go.RowKit Go.Shelf
attribute [local go_sem] Oper.semAt_some

set_option maxHeartbeats 400000 in
theorem octetAt_any (s : ByteArray) (k : Nat) (w : World) :
    Calls Tryz.prog 86 #[.string s, .int .i64 (k : Int)] w fun e w' => e = .returned (.int .u8 (byteAt s k)) ∧ w = w' := by
  by_cases hk : k < s.size
  · have H := Lib.hid (byteAt_lt hk)
    go_enter Tryz.func86, Tryz.ntmps86
    go_wp2
    go_ret
    exact ⟨ret_int H.out.symm, rfl⟩
  · have H := Lib.hid (byteAt_ge (Nat.le_of_not_lt hk))
    go_enter Tryz.func86, Tryz.ntmps86
    go_wp2
    go_ret
    exact ⟨ret_int H.out.symm, rfl⟩

/-- WHAT A ROUND MUST KEEP: the box of the text. -/
def KeepsBox (B : Nat) (W W' : World) : Prop := W'.cell? ⟨B, 0, none⟩ = W.cell? ⟨B, 0, none⟩
theorem KeepsBox.tr {B : Nat} {X Y Z : World} (h : KeepsBox B X Y) (k : KeepsBox B Y Z) : KeepsBox B X Z := k.trans h
theorem KeepsBox.bl {B : Nat} {w : World} (hB : B < w.heap.size) (W : World) (l : Nat) (o o' : Obj) (hl : w.heap.size ≤ l) (_ : W.heap[l]? = some o) (_ : o.isCells = false) (_ : o.isWalk = false) : KeepsBox B W (W.putObj l o') :=
  World.cell?_of_block (World.putObj_heap_other (by simp; omega))

set_option maxRecDepth 100000 in
set_option maxHeartbeats 2000000 in
/-- **The iterator over the first m bytes of a text, noughts behind its end.** -/
theorem octets1_in (n : Nat) (hn : 2 ≤ n) (l Bs Bt m : Nat) (s : ByteArray) (hm : m < 140737488355328) (J Jx : List Oct → World → Prop)
    (hY : ∀ pre x W, J pre W → pre.length < m → YieldAt Fence.wide (n - 1) Tryz.prog l (octVals x) W fun e W' =>
      (e = .returned (.bool true) ∧ J (pre ++ [x]) W' ∧ KeepsBox Bt W W') ∨ (e = .returned (.bool false) ∧ Jx (pre ++ [x]) W'))
    (W : World) (hBs : W.cell? ⟨Bs, 0, none⟩ = some (.int .i64 m)) (hBt : W.cell? ⟨Bt, 0, none⟩ = some (.string s)) (h0 : J [] W) :
    CallsIn Fence.wide n Tryz.prog 85 #[.func (.yield l) #[] #[], .pointer (some ⟨Bs, 0, none⟩), .pointer (some ⟨Bt, 0, none⟩)] W fun e W' => (∃ v, e = .returned v) ∧
      ((∃ ys, ys = octs s m ∧ J ys W') ∨ (∃ pre, (∃ k, k ≤ m ∧ pre = octs s k) ∧ Jx pre W')) := by
  have h1 : 1 ≤ n := by omega
  refine callsIn_of_wp Tryz.func85 rfl trivial ?_ rfl
  simp only [Tryz.ntmps85, List.size_toArray, List.length_cons, List.length_nil, Nat.reduceAdd, Nat.reduceSub, Array.replicate_succ, Array.replicate_zero, List.push_toArray, List.append_toArray, List.nil_append, List.cons_append]
  gi_wp2
  gi_loopw [6] (fun i wr => ∃ k : Nat, k ≤ m ∧ i = .int .i64 k ∧ J (octs s k) wr ∧ KeepsBox Bt W wr)
    (fun i _ => m - (intOf i).toNat)
  case atStart => exact ⟨0, Nat.zero_le _, rfl, h0, rfl⟩
  case round =>
    obtain ⟨k, hk, rfl, hJs, hnx⟩ := hrel
    have hcx : wr.cell? ⟨Bt, 0, none⟩ = some (.string s) := hnx.trans hBt
    by_cases hlt : k < m
    · obtain ⟨fn, tmps, assign, body, hy, hR⟩ := hY _ (oct s k) wr hJs (by rw [octs_length]; exact hlt)
      simp only [octVals, oct_1 s (show k < 140737488355328 by omega)] at hy
      gi_wp2_with (refine ⟨trivial, ?_⟩; gi_at_call 86; refine (callsIn_wide.2 (octetAt_any s k _)).mono ?_; rintro e w' ⟨rfl, rfl⟩)
      refine hR.mono ?_
      rintro e W3 (⟨rfl, hJ3, hk3⟩ | ⟨rfl, hJx3⟩)
      · gi_wp2
        go_roundw
        case rel => exact ⟨k + 1, by omega, by simp, by rw [octs_succ]; exact hJ3, hnx.tr hk3⟩
        case measure => simp [intOf]; omega
      · gi_wp2
        refine bodyPost_ret (results_none rfl _ _ _) rfl ?_
        exact ⟨⟨_, rfl⟩, .inr ⟨_, ⟨k + 1, by omega, (octs_succ _ _).symm⟩, hJx3⟩⟩
    · obtain rfl : k = m := by omega
      gi_wp2
      go_end0
      exact ⟨⟨_, rfl⟩, .inl ⟨_, rfl, hJs⟩⟩

/-- **The iterator's contract, as a range over it wants it.** -/
theorem octets_stops (n : Nat) (hn : 2 ≤ n) (Bs Bt m : Nat) (s : ByteArray) (hm : m < 140737488355328) (w : World) (hB : Bs < w.heap.size ∧ Bt < w.heap.size)
    (hs : w.cell? ⟨Bs, 0, none⟩ = some (.int .i64 m)) (ht : w.cell? ⟨Bt, 0, none⟩ = some (.string s)) :
    SeqStopsK Fence.wide n Tryz.prog 85 #[.pointer (some ⟨Bs, 0, none⟩), .pointer (some ⟨Bt, 0, none⟩)] octVals (KeepsBox Bt) (fun ys => ys = octs s m) (fun pre => ∃ k, k ≤ m ∧ pre = octs s k) m w := fun l J Jx W hW _ _ hY h0 =>
  octets1_in n hn l Bs Bt m s hm J Jx hY W ((hW.cell (p := ⟨Bs, 0, none⟩) hB.1).trans hs) ((hW.cell (p := ⟨Bt, 0, none⟩) hB.2).trans ht) h0

set_option maxHeartbeats 1000000 in
/-- **octetsOf boxes the text, then the size; the function captures both.** -/
theorem octetsOf_any (s : ByteArray) (m : Int) (w : World) :
    Calls Tryz.prog 53 #[.string s, .int .i64 m] w fun e w' => e = .returned (.func (.func 85) #[] #[.pointer (some ⟨w.heap.size + 1, 0, none⟩), .pointer (some ⟨w.heap.size, 0, none⟩)]) ∧ (w.alloc (.cells #[.string s] 9)).alloc (.cells #[.int .i64 m] 3) = w' := by
  go_enter Tryz.func53, Tryz.ntmps53
  go_wp2
  go_ret
  exact ⟨rfl, rfl⟩

end Go.Proofs.YtliadobopideaaaGreatDoor

namespace Go.Proofs.YtliadobopideaaaGreatDoor
open Go.RowKit Go.Sort

/-- A TEXT of so many bytes. -/
def tx (l : List UInt8) : ByteArray := ⟨l.toArray⟩
theorem tx_list (l : List UInt8) : (tx l).data.toList = l := rfl
theorem tx_add (a b : List UInt8) : tx a ++ tx b = tx (a ++ b) := by
  rw [tx, tx, tx, ByteArray.ext_iff, ByteArray.data_append, List.append_toArray]
theorem tx_size (l : List UInt8) : (tx l).size = l.length := by simp [tx, ByteArray.size]
theorem ret_text {a b : ByteArray} (h : a = b) : Ending.returned (.string a) = .returned (.string b) := by rw [h]

theorem dec_small {n : Nat} (h : n < 10) : Lib.decDigits n = [UInt8.ofNat (48 + n)] := by rw [Lib.decDigits, dif_pos h]
theorem dec_big {n : Nat} (h : ¬ n < 10) : Lib.decDigits n = Lib.decDigits (n / 10) ++ [UInt8.ofNat (48 + n % 10)] := by rw [Lib.decDigits, dif_neg h]

/-- One byte as a text. -/
theorem conv_in (x : Int) (g : Nat) (W : World) (h : W.cell? ⟨g, 0, none⟩ = some (.int .u8 x)) :
    (convert 22 9 (.slice (some ⟨g, 0, none⟩) 1 1)).run Tryz.prog W = .ok (.string (tx [UInt8.ofNat x.toNat])) W := by
  refine (run_convert_bytes_arg W 22 5 Tryz.underlying22 Tryz.underlying5 g 0 1 1 [x] rfl (fun i hi => ?_) 9 Tryz.underlying9).trans ?_
  · obtain rfl : i = 0 := by omega
    exact h
  · rfl
theorem conv_new (x : Int) (W : World) :
    (convert 22 9 (.slice (some ⟨W.heap.size, 0, none⟩) 1 1)).run Tryz.prog (W.alloc (.cells #[.int .u8 x] 5)) = .ok (.string (tx [UInt8.ofNat x.toNat])) (W.alloc (.cells #[.int .u8 x] 5)) :=
  conv_in x _ _ (by rw [World.cell?_alloc_mark]; rfl)

theorem cell_kept1 {n : Nat} {W W' : World} {x : Value} {t : TypeId} (hB : Below n (W.alloc (.cells #[x] t)).drew W') (hn : n = W.heap.size + 1) : W'.cell? ⟨W.heap.size, 0, none⟩ = some x :=
  (hB.cell (p := ⟨W.heap.size, 0, none⟩) (by rw [hn]; simp)).trans (by show (W.alloc (.cells #[x] t)).cell? _ = _; rw [World.cell?_alloc_mark]; rfl)

set_option maxRecDepth 100000 in
set_option maxHeartbeats 2000000 in
theorem l6Dec_small (n : Nat) (hn : n < 10) (w : World) :
    Calls Tryz.prog 28 #[.int .i64 (n : Int)] w fun e w' => e = .returned (.string (tx (Lib.decDigits n))) ∧ Below w.heap.size w w' := by
  have HD := Lib.hid (dec_small hn)
  have hc := fun W => conv_new (48 + (n : Int)) W
  have Hx : Hid ((48 + (n : Int)).toNat = 48 + n) := by unfold Hid; omega
  generalize hT : tx [UInt8.ofNat (48 + (n : Int)).toNat] = T at hc
  have HT := Lib.hid hT
  clear hT
  go_enter Tryz.func28, Tryz.ntmps28
  go_wp2
  go_ret
  refine ⟨ret_text ?_, (Below.refl _ _).alloc (Nat.le_refl _) _⟩
  rw [HD.out, ← HT.out, Hx.out]

end Go.Proofs.YtliadobopideaaaGreatDoor

namespace Go.Proofs.YtliadobopideaaaGreatDoor
open Go.RowKit Go.Sort

theorem wq (n : Nat) (hm : n ≤ 9223372036854775807) : IntKind.i64.wrap ((n : Int) / 10) = ((n / 10 : Nat) : Int) := by
  rw [IntKind.wrap_i64]; omega
theorem wr (n : Nat) : IntKind.u8.wrap (IntKind.i64.wrap (48 + (n : Int).tmod 10)) = ((48 + n % 10 : Nat) : Int) := by
  rw [IntKind.wrap_i64, IntKind.wrap_u8, Int.tmod_eq_emod_of_nonneg (by omega)]; omega

theorem conv_drew (W : World) (T : ByteArray) (x : Value) (hc : ∀ W : World, (convert 22 9 (.slice (some ⟨W.heap.size, 0, none⟩) 1 1)).run Tryz.prog (W.alloc (.cells #[x] 5)) = .ok (.string T) (W.alloc (.cells #[x] 5))) :
    (convert 22 9 (.slice (some ⟨W.heap.size, 0, none⟩) 1 1)).run Tryz.prog (W.alloc (.cells #[x] 5)).drew = .ok (.string T) (W.alloc (.cells #[x] 5)).drew := hc W.drew
theorem low1 {w w' : World} (hB : Below w.drew.heap.size w.drew w') : Below w.heap.size w w' := ⟨hB.os, hB.tape, hB.output, hB.size, hB.block⟩
theorem low2 {n : Nat} {w w' : World} {o : Obj} (hB : Below n (w.alloc o).drew w') (hn : n = w.heap.size + 1) : Below w.heap.size w w' :=
  have h0 : Below w.heap.size w (w.alloc o) := (Below.refl _ _).alloc (Nat.le_refl _) _
  have h1 : Below w.heap.size w (w.alloc o).drew := ⟨h0.os, h0.tape, h0.output, h0.size, h0.block⟩
  h1.trans (hB.mono (by omega))
theorem dec_length (k : Nat) : ∀ n, n < 10 ^ (k + 1) → (Lib.decDigits n).length ≤ k + 1 := by
  induction k with
  | zero => intro n h; rw [dec_small (by simpa using h)]; simp
  | succ k ih =>
    intro n h
    by_cases hn : n < 10
    · rw [dec_small hn]; simp
    · rw [dec_big hn, List.length_append]
      have := ih (n / 10) (by rw [Nat.pow_succ] at h; omega)
      simp only [List.length_cons, List.length_nil]
      omega
theorem dec_size (n : Nat) (h : n ≤ 9223372036854775807) : (tx (Lib.decDigits n)).size ≤ 19 := by
  rw [tx_size]; exact dec_length 18 n (by omega)

set_option maxRecDepth 100000 in
set_option maxHeartbeats 1000000 in
theorem l6Dec_big (n : Nat) (hn : ¬ n < 10) (hm : n ≤ 9223372036854775807) (w : World)
    (hr : ∀ w, Calls Tryz.prog 28 #[.int .i64 (IntKind.i64.wrap ((n : Int) / 10))] w fun e w' => e = .returned (.string (tx (Lib.decDigits (n / 10)))) ∧ Below w.heap.size w w') :
    Calls Tryz.prog 28 #[.int .i64 (n : Int)] w fun e w' => e = .returned (.string (tx (Lib.decDigits n))) ∧ Below w.heap.size w w' := by
  have HD := Lib.hid (dec_big hn)
  have HR := Lib.hid hr
  clear hr
  have hc := fun W => conv_new (IntKind.u8.wrap (IntKind.i64.wrap (48 + (n : Int).tmod 10))) W
  have hc2 := fun g W h => conv_in (IntKind.u8.wrap (IntKind.i64.wrap (48 + (n : Int).tmod 10))) g W h
  have Hx := Lib.hid (wr n)
  have hTs : (tx [UInt8.ofNat (IntKind.u8.wrap (IntKind.i64.wrap (48 + (n : Int).tmod 10))).toNat]).size = 1 := tx_size _
  generalize hT : tx [UInt8.ofNat (IntKind.u8.wrap (IntKind.i64.wrap (48 + (n : Int).tmod 10))).toNat] = T at hc hc2 hTs
  have HT := Lib.hid hT
  clear hT
  have Hc2 := Lib.hid hc2
  have hc' := fun W => conv_drew W T _ hc
  clear hc2
  have hRs := dec_size (n / 10) (by omega)
  generalize hRt : tx (Lib.decDigits (n / 10)) = R at HR hRs
  have HRt := Lib.hid hRt
  clear hRt
  have hRT : R.size + T.size ≤ maxLen := by unfold maxLen; omega
  go_enter Tryz.func28, Tryz.ntmps28
  go_wp2_with fail
  rename_i h1 h2 h3 K hK
  clear hm hn h1 h2 h3
  go_region_with ((go_at_call 28; refine (HR.out _).mono ?_; rintro e w' ⟨rfl, hB⟩; try (have hcx := Hc2.out w.heap.size w' (cell_kept1 hB (by simp)))))
  all_goals
    go_wp2_with fail
    go_ret
    refine ⟨ret_text ?_, ?_⟩
    · rw [HD.out, ← HT.out, ← HRt.out, Hx.out, tx_add]; rfl
    · first
        | exact (low1 hB).alloc (low1 hB).size _
        | exact low2 hB (by simp)

theorem l6Dec_any (n : Nat) : ∀ (w : World), n ≤ 9223372036854775807 →
    Calls Tryz.prog 28 #[.int .i64 (n : Int)] w fun e w' => e = .returned (.string (tx (Lib.decDigits n))) ∧ Below w.heap.size w w' := by
  induction n using Nat.strongRecOn with
  | _ n ih =>
    intro w hm
    by_cases hn : n < 10
    · exact l6Dec_small n hn w
    · refine l6Dec_big n hn hm w (fun w1 => ?_)
      rw [wq n hm]
      exact ih (n / 10) (by omega) w1 (by omega)

end Go.Proofs.YtliadobopideaaaGreatDoor

namespace Go.Proofs.YtliadobopideaaaGreatDoor
open Go.RowKit Go.Sort

/-- THE TEXT OF A NUMBER that is not negative. -/
def dz (n : Int) : List UInt8 := Lib.decDigits n.toNat
theorem dz_size (n : Int) (h : n ≤ 9223372036854775807) : (tx (dz n)).size ≤ 19 := dec_size _ (by omega)
theorem dz_length (n : Int) (h : n ≤ 9223372036854775807) : (dz n).length ≤ 19 := by rw [← tx_size]; exact dz_size n h
theorem l6Dec_int (n : Int) (h0 : 0 ≤ n) (h1 : n ≤ 9223372036854775807) (w : World) :
    Calls Tryz.prog 28 #[.int .i64 n] w fun e w' => e = .returned (.string (tx (dz n))) ∧ Below w.heap.size w w' := by
  obtain ⟨m, rfl⟩ := Int.eq_ofNat_of_zero_le h0
  exact l6Dec_any m w (by omega)

def placeTx (p : PlD) : List UInt8 := [32] ++ dz p.1 ++ [46] ++ dz p.2
def placesTx (ps : List PlD) : List UInt8 := ps.flatMap placeTx
def ptrTx (p : PtrD) : List UInt8 :=
  if p.size = 0 then [110, 111, 110, 101, 10] else [112, 116, 114, 32] ++ dz p.size ++ [32] ++ dz p.sum ++ placesTx p.places ++ [10]

/-- A POINTER OF SMALL NUMBERS. -/
def SmallPtr (p : PtrD) : Prop := (0 ≤ p.size ∧ p.size ≤ 9) ∧ (0 ≤ p.sum ∧ p.sum ≤ 1000000000) ∧ p.places.length ≤ 4 ∧ ∀ j, j < p.places.length → (0 ≤ (p.places.getD j pl0).1 ∧ (p.places.getD j pl0).1 ≤ 3) ∧ (0 ≤ (p.places.getD j pl0).2 ∧ (p.places.getD j pl0).2 ≤ 11)
theorem PtrFine.small {n : Int} {p : PtrD} (h : PtrFine n p) (hn : Pool n) : SmallPtr p := by
  rcases h with ⟨h1, h2, h3⟩ | ⟨h1, h2, h3, h4, h5, h6⟩
  · unfold SmallPtr
    rw [h1, h2, h3]
    exact ⟨by omega, by omega, by simp, fun j hj => by simp at hj⟩
  · obtain ⟨n1, n2⟩ := hn
    refine ⟨by omega, by omega, by omega, fun j hj => ?_⟩
    obtain ⟨⟨k1, k2, k3, k4⟩, _⟩ := h6 j hj
    omega

theorem getD_take {ps : List PlD} {k : Nat} (h : k < ps.length) : ps.take (k + 1) = ps.take k ++ [ps.getD k pl0] := by
  rw [List.take_succ_eq_append_getElem h, List.getD, List.getElem?_eq_getElem h]; rfl
theorem placesTx_succ (ps : List PlD) (k : Nat) (h : k < ps.length) : placesTx (ps.take (k + 1)) = placesTx (ps.take k) ++ placeTx (ps.getD k pl0) := by
  rw [getD_take h, placesTx, List.flatMap_append]; simp [placesTx]
theorem placeTx_length (p : PlD) (h1 : p.1 ≤ 9223372036854775807) (h2 : p.2 ≤ 9223372036854775807) : (placeTx p).length ≤ 40 := by
  have a := dz_length p.1 h1
  have b := dz_length p.2 h2
  unfold placeTx
  simp only [List.length_append, List.length_cons, List.length_nil]
  omega
theorem placesTx_length (ps : List PlD) (h : ∀ j, j < ps.length → (0 ≤ (ps.getD j pl0).1 ∧ (ps.getD j pl0).1 ≤ 3) ∧ (0 ≤ (ps.getD j pl0).2 ∧ (ps.getD j pl0).2 ≤ 11)) (k : Nat) (hk : k ≤ ps.length) : (placesTx (ps.take k)).length ≤ 40 * k := by
  induction k with
  | zero => simp [placesTx]
  | succ k ih =>
    rw [placesTx_succ ps k (by omega), List.length_append]
    have := ih (by omega)
    have h' := h k (by omega)
    have := placeTx_length (ps.getD k pl0) (by omega) (by omega)
    omega

/-- The text so far. -/
def ptrTo (p : PtrD) (k : Nat) : List UInt8 := [112, 116, 114, 32] ++ dz p.size ++ [32] ++ dz p.sum ++ placesTx (p.places.take k)
def ptT (p : PtrD) (k : Nat) : ByteArray := tx (ptrTo p k)
theorem ptT_succ (p : PtrD) (k : Nat) (h : k < p.places.length) : ptT p k ++ ⟨#[32]⟩ ++ tx (dz (p.places.getD k pl0).1) ++ ⟨#[46]⟩ ++ tx (dz (p.places.getD k pl0).2) = ptT p (k + 1) := by
  show tx (ptrTo p k) ++ tx [32] ++ tx (dz (p.places.getD k pl0).1) ++ tx [46] ++ tx (dz (p.places.getD k pl0).2) = tx (ptrTo p (k + 1))
  rw [tx_add, tx_add, tx_add, tx_add, ptrTo, ptrTo, placesTx_succ _ _ h, placeTx]
  simp only [List.append_assoc]
theorem ptT_zero (p : PtrD) : (⟨#[112, 116, 114, 32]⟩ : ByteArray) ++ tx (dz p.size) ++ ⟨#[32]⟩ ++ tx (dz p.sum) = ptT p 0 := by
  show tx [112, 116, 114, 32] ++ tx (dz p.size) ++ tx [32] ++ tx (dz p.sum) = tx (ptrTo p 0)
  rw [tx_add, tx_add, tx_add, ptrTo]
  simp [placesTx]
theorem ptT_all (p : PtrD) (h : p.size ≠ 0) : ptT p p.places.length ++ ⟨#[10]⟩ = tx (ptrTx p) := by
  show tx (ptrTo p p.places.length) ++ tx [10] = _
  rw [tx_add, ptrTo, ptrTx, if_neg h, List.take_length]
theorem ptT_size (p : PtrD) (h : SmallPtr p) (k : Nat) (hk : k ≤ p.places.length) : (ptT p k).size ≤ 210 := by
  obtain ⟨h1, h2, h3, h4⟩ := h
  have a := dz_length p.size (by omega)
  have b := dz_length p.sum (by omega)
  have c := placesTx_length p.places h4 k hk
  rw [ptT, tx_size, ptrTo]
  simp only [List.length_append, List.length_cons, List.length_nil]
  omega
/-- The texts of a place's numbers. -/
theorem place_dec (p : PtrD) (h : SmallPtr p) (j : Nat) (hj : j < p.places.length) :
    (∀ W, Calls Tryz.prog 28 #[.int .i64 (p.places.getD j pl0).1] W fun e w' => e = .returned (.string (tx (dz (p.places.getD j pl0).1))) ∧ Below W.heap.size W w') ∧
    (∀ W, Calls Tryz.prog 28 #[.int .i64 (p.places.getD j pl0).2] W fun e w' => e = .returned (.string (tx (dz (p.places.getD j pl0).2))) ∧ Below W.heap.size W w') ∧
    (tx (dz (p.places.getD j pl0).1)).size ≤ 19 ∧ (tx (dz (p.places.getD j pl0).2)).size ≤ 19 := by
  have := h.2.2.2 j hj
  exact ⟨fun W => l6Dec_int _ (by omega) (by omega) W, fun W => l6Dec_int _ (by omega) (by omega) W, dz_size _ (by omega), dz_size _ (by omega)⟩

set_option maxRecDepth 100000 in
set_option maxHeartbeats 2000000 in
theorem l2PtrText_any (p : PtrD) (a : Option Addr) (cap : Nat) (w : World) (hp : Hid (SmallPtr p)) (hx : Hid (PlacesAt w a p.places)) :
    Calls Tryz.prog 57 #[.agg #[.int .i64 p.size, .int .i64 p.sum, .slice a p.places.length cap]] w fun e w' => e = .returned (.string (tx (ptrTx p))) ∧ Below w.heap.size w w' := by
  by_cases hz : p.size = 0
  · have HT : Hid (tx (ptrTx p) = ⟨#[110, 111, 110, 101, 10]⟩) := by unfold Hid; rw [ptrTx, if_pos hz]; rfl
    generalize tx (ptrTx p) = T at HT ⊢
    obtain ⟨z, s, ps⟩ := p
    simp only at hz hx ⊢
    subst hz
    go_enter Tryz.func57, Tryz.ntmps57
    go_wp2_with fail
    go_ret
    exact ⟨ret_text HT.out.symm, (Below.refl _ _).alloc (Nat.le_refl _) _⟩
  · have HT := Lib.hid (ptT_all p hz)
    have HS := Lib.hid (fun k hk => ptT_succ p k hk)
    have H0 := Lib.hid (ptT_zero p)
    have HZ := Lib.hid (fun k hk => ptT_size p hp.out k hk)
    have HDp := Lib.hid (fun j h => place_dec p hp.out j h)
    obtain ⟨hp1, hp2, hp3, _⟩ := hp.out
    have hzp : (1 : Int) ≤ p.size := by omega
    have HD1 := Lib.hid (fun W => l6Dec_int p.size (by omega) (by omega) W)
    have HD2 := Lib.hid (fun W => l6Dec_int p.sum (by omega) (by omega) W)
    have z1 := dz_size p.size (by omega)
    have z2 := dz_size p.sum (by omega)
    generalize ptT p = PT at HT HS H0 HZ
    generalize tx (ptrTx p) = T at HT ⊢
    generalize tx (dz p.size) = T1 at HD1 H0 z1
    generalize tx (dz p.sum) = T2 at HD2 H0 z2
    obtain ⟨z, s, ps⟩ := p
    simp only at HT HS HZ HDp hp1 hp2 hp3 hzp HD1 HD2 hx hz ⊢
    clear hp hz
    have e0 : ((z : Int) == 0) = false := by simp; omega
    go_enter Tryz.func57, Tryz.ntmps57
    go_wp2_with fail
    have c0 : (w.alloc (.cells #[.int .i64 z, .int .i64 s, .slice a ps.length cap] 54)).cell? ⟨w.heap.size, 0, none⟩ = some (.int .i64 z) := by rw [World.cell?_alloc_mark]; rfl
    have c1 : (w.alloc (.cells #[.int .i64 z, .int .i64 s, .slice a ps.length cap] 54)).cell? ⟨w.heap.size, 1, none⟩ = some (.int .i64 s) := by rw [World.cell?_alloc_mark]; rfl
    have c2 : (w.alloc (.cells #[.int .i64 z, .int .i64 s, .slice a ps.length cap] 54)).cell? ⟨w.heap.size, 2, none⟩ = some (.slice a ps.length cap) := by rw [World.cell?_alloc_mark]; rfl
    have HB0 : Hid (Below w.heap.size w (w.alloc (.cells #[.int .i64 z, .int .i64 s, .slice a ps.length cap] 54))) := (Below.refl _ _).alloc (Nat.le_refl _) _
    have hsz : w.heap.size < (w.alloc (.cells #[.int .i64 z, .int .i64 s, .slice a ps.length cap] 54)).heap.size := by simp
    generalize w.alloc (.cells #[.int .i64 z, .int .i64 s, .slice a ps.length cap] 54) = w1 at c0 c1 c2 HB0 hsz ⊢
    have g0 := cell_regrown c0
    have g1 := cell_regrown c1
    refine wp_region_quiet_below (by kernel_rfl) (by kernel_rfl) ?_
    repeat (go_big_quiet_step (first | ((go_at_call 28); with_reducible exact Calls.regrown_of (HD1.out _)) | ((go_at_call 28); with_reducible exact Calls.regrown_of (HD2.out _))))
    refine wpQuiet_nil ?_
    intro w2 hw2
    have hb12 : Below w1.heap.size w1 w2 := by obtain ⟨q, rfl⟩ := hw2; exact below_regrown _ _ _
    have k2 : w2.cell? ⟨w.heap.size, 2, none⟩ = some (.slice a ps.length cap) := (hb12.cell (p := ⟨w.heap.size, 2, none⟩) hsz).trans c2
    have HB2 := Lib.hid (HB0.out.trans (hb12.mono HB0.out.size))
    have hsz2 : w.heap.size < w2.heap.size := Nat.lt_of_lt_of_le hsz hb12.size
    clear hw2 g0 g1 c0 c1 c2 HB0 hb12 hsz HD1 HD2
    have H0' := H0.out
    generalize hT0 : (({ data := #[112, 116, 114, 32] } : ByteArray) ++ T1 ++ { data := #[32] } ++ T2) = T0 at H0' ⊢
    subst H0'
    clear hT0 H0
    go_wp2_with fail
    go_loopw [3, 4] (fun o i wr => ∃ k : Nat, o = .string (PT k) ∧ i = .int .i64 (k : Int) ∧ k ≤ ps.length ∧ Hid (Below w.heap.size w wr) ∧ w.heap.size < wr.heap.size ∧ wr.cell? ⟨w.heap.size, 2, none⟩ = some (.slice a ps.length cap)) (fun _ i _ => ps.length - (intOf i).toNat)
    case atStart => exact ⟨0, rfl, rfl, Nat.zero_le _, HB2, hsz2, k2⟩
    case round =>
      obtain ⟨k, rfl, rfl, hk, hB, hsw, hcw⟩ := hrel
      have hPz := HZ.out k hk
      have HSk := Lib.hid (fun h => HS.out k h)
      have HT' := Lib.hid (show k = ps.length → PT k ++ ⟨#[10]⟩ = T from fun e => by rw [e]; exact HT.out)
      generalize PT k = O at hPz HSk HT' ⊢
      by_cases hlt : k < ps.length
      · obtain ⟨D1, D2, y1, y2⟩ := HDp.out k hlt
        have HS1 := Lib.hid (HSk.out hlt)
        have HD1 := Lib.hid D1
        have HD2 := Lib.hid D2
        clear D1 D2 HSk
        obtain ⟨b, off, rfl, hc⟩ := hx.out.resolve_left (fun e => by subst e; simp at hlt)
        obtain ⟨q0, q1⟩ := hc k hlt
        have q0' := cell_below hB.out q0
        have q1' := cell_below hB.out q1
        clear hc q0 q1
        generalize tx (dz (ps.getD k pl0).1) = U1 at HD1 HS1 y1
        generalize tx (dz (ps.getD k pl0).2) = U2 at HD2 HS1 y2
        generalize (ps.getD k pl0).1 = pd at q0' HD1
        generalize (ps.getD k pl0).2 = pss at q1' HD2
        have hk0 : (0 : Int) ≤ (k : Int) := by omega
        have hk1 : (k : Int) < (ps.length : Int) := by omega
        go_wp2_with fail
        have g0 := cell_regrown q0'
        have g1 := cell_regrown q1'
        have g2 := cell_regrown hcw
        refine wp_region_quiet_below (by kernel_rfl) (by kernel_rfl) ?_
        repeat (go_big_quiet_step (first | ((go_at_call 28); with_reducible exact Calls.regrown_of (HD1.out _)) | ((go_at_call 28); with_reducible exact Calls.regrown_of (HD2.out _))))
        refine wpQuiet_nil ?_
        intro w9 hw9
        have hb : Below wr.heap.size wr w9 := by obtain ⟨q, rfl⟩ := hw9; exact below_regrown _ _ _
        have k2 : w9.cell? ⟨w.heap.size, 2, none⟩ = some (.slice (some ⟨b, off, none⟩) ps.length cap) := (hb.cell (p := ⟨w.heap.size, 2, none⟩) hsw).trans hcw
        have HB9 := Lib.hid (hB.out.trans (hb.mono hB.out.size))
        have hs9 : w.heap.size < w9.heap.size := Nat.lt_of_lt_of_le hsw hb.size
        clear hw9 g0 g1 g2 q0' q1' hb HD1 HD2
        go_wp2_with fail
        go_roundw
        case rel => exact ⟨k + 1, congrArg Value.string HS1.out, by simp, by omega, HB9, hs9, k2⟩
        case measure => simp [intOf]; omega
      · obtain rfl : k = ps.length := by omega
        go_wp2_with fail
        go_ret
        exact ⟨ret_text (HT'.out trivial), hB.out⟩

end Go.Proofs.YtliadobopideaaaGreatDoor
