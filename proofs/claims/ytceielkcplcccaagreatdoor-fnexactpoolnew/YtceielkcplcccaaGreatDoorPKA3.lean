/- The weighed sum of a text: each byte times 65536 and its place, from 1 on. Conditions: fewer than 4096 bytes. -/
import Derived.Test.YtceielkcplcccaaGreatDoorPKA1
namespace Go.Proofs.YtceielkcplcccaaGreatDoor
open Go.RowKit Go.Shelf
attribute [local go_sem] Oper.semAt_some

/-- WHAT THE ITERATOR HANDS OUT: a place and its byte. -/
abbrev Octw := { x : Nat × Int // x.1 < 4096 ∧ 0 ≤ x.2 ∧ x.2 ≤ 255 }
def octwVals (x : Octw) : Array Value := #[.int .i64 (x.1.1 : Int), .int .u8 x.1.2]
def octw (s : ByteArray) (k : Nat) : Octw := if h : k < 4096 then ⟨(k, byteAt s k), h, (byteAt_bd s k).1, (byteAt_bd s k).2⟩ else ⟨(0, 0), by omega, by omega, by omega⟩
theorem octw_1 (s : ByteArray) {k : Nat} (h : k < 4096) : (octw s k).1 = (k, byteAt s k) := by unfold octw; rw [dif_pos h]
def octws (s : ByteArray) (k : Nat) : List Octw := (List.range k).map (octw s)
theorem octws_succ (s : ByteArray) (k : Nat) : octws s (k + 1) = octws s k ++ [octw s k] := by simp [octws, List.range_succ]
theorem octws_length (s : ByteArray) (k : Nat) : (octws s k).length = k := by simp [octws]

set_option maxRecDepth 100000 in
set_option maxHeartbeats 2000000 in
/-- **The iterator over the first m bytes of a text, noughts behind its end.** -/
theorem octetsw_in (n : Nat) (hn : 2 ≤ n) (l Bs Bt m : Nat) (s : ByteArray) (hm : m < 4096) (J Jx : List Octw → World → Prop)
    (hY : ∀ pre x W, J pre W → pre.length < m → YieldAt Fence.wide (n - 1) Tryz.prog l (octwVals x) W fun e W' =>
      (e = .returned (.bool true) ∧ J (pre ++ [x]) W' ∧ KeepsBox Bt W W') ∨ (e = .returned (.bool false) ∧ Jx (pre ++ [x]) W'))
    (W : World) (hBs : W.cell? ⟨Bs, 0, none⟩ = some (.int .i64 m)) (hBt : W.cell? ⟨Bt, 0, none⟩ = some (.string s)) (h0 : J [] W) :
    CallsIn Fence.wide n Tryz.prog 75 #[.func (.yield l) #[] #[], .pointer (some ⟨Bs, 0, none⟩), .pointer (some ⟨Bt, 0, none⟩)] W fun e W' => (∃ v, e = .returned v) ∧
      ((∃ ys, ys = octws s m ∧ J ys W') ∨ (∃ pre, (∃ k, k ≤ m ∧ pre = octws s k) ∧ Jx pre W')) := by
  have h1 : 1 ≤ n := by omega
  refine callsIn_of_wp Tryz.func75 rfl trivial ?_ rfl
  simp only [Tryz.ntmps75, List.size_toArray, List.length_cons, List.length_nil, Nat.reduceAdd, Nat.reduceSub, Array.replicate_succ, Array.replicate_zero, List.push_toArray, List.append_toArray, List.nil_append, List.cons_append]
  gi_wp2
  gi_loopw [6] (fun i wr => ∃ k : Nat, k ≤ m ∧ i = .int .i64 k ∧ J (octws s k) wr ∧ KeepsBox Bt W wr)
    (fun i _ => m - (intOf i).toNat)
  case atStart => exact ⟨0, Nat.zero_le _, rfl, h0, rfl⟩
  case round =>
    obtain ⟨k, hk, rfl, hJs, hnx⟩ := hrel
    have hcx : wr.cell? ⟨Bt, 0, none⟩ = some (.string s) := hnx.trans hBt
    by_cases hlt : k < m
    · obtain ⟨fn, tmps, assign, body, hy, hR⟩ := hY _ (octw s k) wr hJs (by rw [octws_length]; exact hlt)
      simp only [octwVals, octw_1 s (show k < 4096 by omega)] at hy
      gi_wp2_with (refine ⟨trivial, ?_⟩; gi_at_call 76; refine (callsIn_wide.2 (octetAt_any s k _)).mono ?_; rintro e w' ⟨rfl, rfl⟩)
      refine hR.mono ?_
      rintro e W3 (⟨rfl, hJ3, hk3⟩ | ⟨rfl, hJx3⟩)
      · gi_wp2
        go_roundw
        case rel => exact ⟨k + 1, by omega, by simp, by rw [octws_succ]; exact hJ3, hnx.tr hk3⟩
        case measure => simp [intOf]; omega
      · gi_wp2
        refine bodyPost_ret (results_none rfl _ _ _) rfl ?_
        exact ⟨⟨_, rfl⟩, .inr ⟨_, ⟨k + 1, by omega, (octws_succ _ _).symm⟩, hJx3⟩⟩
    · obtain rfl : k = m := by omega
      gi_wp2
      go_end0
      exact ⟨⟨_, rfl⟩, .inl ⟨_, rfl, hJs⟩⟩

/-- **The iterator's contract, as a range over it wants it.** -/
theorem octetsw_stops (n : Nat) (hn : 2 ≤ n) (Bs Bt m : Nat) (s : ByteArray) (hm : m < 4096) (w : World) (hB : Bs < w.heap.size ∧ Bt < w.heap.size)
    (hs : w.cell? ⟨Bs, 0, none⟩ = some (.int .i64 m)) (ht : w.cell? ⟨Bt, 0, none⟩ = some (.string s)) :
    SeqStopsK Fence.wide n Tryz.prog 75 #[.pointer (some ⟨Bs, 0, none⟩), .pointer (some ⟨Bt, 0, none⟩)] octwVals (KeepsBox Bt) (fun ys => ys = octws s m) (fun pre => ∃ k, k ≤ m ∧ pre = octws s k) m w := fun l J Jx W hW _ _ hY h0 =>
  octetsw_in n hn l Bs Bt m s hm J Jx hY W ((hW.cell (p := ⟨Bs, 0, none⟩) hB.1).trans hs) ((hW.cell (p := ⟨Bt, 0, none⟩) hB.2).trans ht) h0

/-- WHAT HAS COME, summed. -/
def sumW (l : List Octw) : Int := (l.map fun x => x.1.2 * (65536 + (x.1.1 : Int) + 1)).sum
theorem sumW_snoc (l : List Octw) (x : Octw) : sumW (l ++ [x]) = sumW l + x.1.2 * (65536 + (x.1.1 : Int) + 1) := by simp [sumW]
theorem termW_bd (x : Octw) : 0 ≤ x.1.2 * (65536 + (x.1.1 : Int) + 1) ∧ x.1.2 * (65536 + (x.1.1 : Int) + 1) ≤ 17756160 := by
  obtain ⟨⟨k, c⟩, h1, h2, h3⟩ := x
  simp only at h1 h2 h3 ⊢
  have a : 0 ≤ (65536 + (k : Int) + 1) := by omega
  refine ⟨Int.mul_nonneg h2 a, ?_⟩
  calc c * (65536 + (k : Int) + 1) ≤ 255 * (65536 + (k : Int) + 1) := Int.mul_le_mul_of_nonneg_right h3 a
    _ ≤ 17756160 := by omega
theorem sumW_bd (l : List Octw) : 0 ≤ sumW l ∧ sumW l ≤ l.length * 17756160 := by
  induction l with
  | nil => simp [sumW]
  | cons x l ih =>
    have := termW_bd x
    have e : sumW (x :: l) = x.1.2 * (65536 + (x.1.1 : Int) + 1) + sumW l := by simp [sumW]
    rw [e]
    simp only [List.length_cons]
    omega
theorem sumW_octws (s : ByteArray) (k : Nat) (h : k ≤ 4096) : sumW (octws s k) = sumTo s k := by
  induction k with
  | zero => simp [octws, sumW, sumTo]
  | succ k ih => rw [octws_succ, sumW_snoc, ih (by omega), octw_1 s (by omega)]; rfl
theorem sumTo_bdw (s : ByteArray) (k : Nat) (h : k ≤ 4096) : 0 ≤ sumTo s k ∧ sumTo s k ≤ k * 17756160 := by
  have := sumW_bd (octws s k)
  rw [octws_length, sumW_octws s k (by omega)] at this
  exact this

set_option maxRecDepth 100000 in
set_option maxHeartbeats 2000000 in
theorem weighed_in (s : ByteArray) (hs : s.size < 4096) (w : World) :
    CallsIn Fence.wide 6 Tryz.prog 30 #[.string s] w fun e w' => e = .returned (.int .i64 (sumTo s s.size)) ∧ Below w.heap.size w w' := by
  have h1 : 1 ≤ 6 := by omega
  refine callsIn_of_wp_marks Tryz.func30 rfl trivial ?_ rfl
  simp only [Tryz.ntmps30, List.size_toArray, List.length_cons, List.length_nil, Nat.reduceAdd, Nat.reduceSub, Array.replicate_succ, Array.replicate_zero, List.push_toArray, List.append_toArray, List.nil_append, List.cons_append]
  gi_wp2_with (refine ⟨trivial, ?_⟩; gi_at_call 53; refine (callsIn_wide.2 (octetsOf_any s _ _)).mono ?_; rintro e w' ⟨rfl, rfl⟩)
  have bS := Boxed.new w 3 (.int .i64 0)
  have bT := Boxed.new (w.alloc (.cells #[.int .i64 0] 3)) 9 (.string s)
  have bM := Boxed.new ((w.alloc (.cells #[.int .i64 0] 3)).alloc (.cells #[.string s] 9)) 3 (.int .i64 (s.size : Int))
  simp only [World.size_alloc] at bT bM
  have hB0 : Below w.heap.size w (((w.alloc (.cells #[.int .i64 0] 3)).alloc (.cells #[.string s] 9)).alloc (.cells #[.int .i64 (s.size : Int)] 3)) := (((Below.refl _ w).alloc (Nat.le_refl _) _).alloc (by simp) _).alloc (by simp; omega) _
  refine wpIn_rangeFunc_ownG rfl h1 (gf := 75) (lb := #[.pointer (some ⟨w.heap.size + 1 + 1, 0, none⟩), .pointer (some ⟨w.heap.size + 1, 0, none⟩)]) rfl trivial (enters_of Tryz.func75 (by kernel_rfl) rfl)
    (octetsw_stops 5 (by omega) (w.heap.size + 1 + 1) (w.heap.size + 1) s.size s (by omega) _ (by simp) bM.cell (bT.alloc _).cell) KeepsBox.tr (KeepsBox.bl (by simp)) (Below.refl _ _) (fun _ => rfl)
    (fun pre W => (W.cell? ⟨w.heap.size, 0, none⟩ = some (.int .i64 (sumW pre)) ∧ W.frozen? ⟨w.heap.size, 0, none⟩ = false) ∧ Below w.heap.size w W)
    (fun _ _ _ => False)
    (OwnFrom.and (Own.from (fun s A B row hs hg hr => ⟨cell_kept hs.1 hg hr, (frozen_kept hs.1 hg hr).trans hs.2⟩) _) (ownFrom_below (Nat.le_refl _) (by simp; omega)))
    (fun _ _ _ _ _ hs _ _ => hs)
    ⟨⟨((bS.alloc _).alloc _).cell, ((bS.alloc _).alloc _).frozen⟩, hB0⟩
    (fun x => { tmps := #[.string s, undef, .int .i64 0, .pointer (some ⟨w.heap.size, 0, none⟩), .int .i64 (x.1.1 : Int), .int .u8 x.1.2, .string s, .string s, .int .i64 (s.size : Int),
      .func (.func 75) #[] #[.pointer (some ⟨w.heap.size + 1 + 1, 0, none⟩), .pointer (some ⟨w.heap.size + 1, 0, none⟩)], .int .i64 (x.1.1 : Int), .int .u8 x.1.2, undef, undef, undef, undef, undef, undef, undef, undef, undef], defers := [] }) ?_ ?_ ?_ ?_
  · intro l x W K hK
    simp only [octwVals]
    gi_wp2
    exact hK
  · rintro l pre x W ⟨⟨hc, hf⟩, hB⟩ hlen
    have hbd := sumW_bd pre
    have htm := termW_bd x
    obtain ⟨⟨k, c⟩, h2, h3, h4⟩ := x
    have HS := Lib.hid (sumW_snoc pre ⟨(k, c), h2, h3, h4⟩)
    simp only at htm h2 h3 h4 HS ⊢
    have hl9 : (pre.length : Int) * 17756160 ≤ 4096 * 17756160 := by omega
    clear hlen
    gi_wp2
    exact ⟨(KeepsOthers.setCell _ _ _).from _, World.cell?_of_block (Below.heap_setCell _ _ _ _ (by simp)), ⟨by rw [HS.out]; exact World.cell?_setCell_same' _ _ _ (by rw [hc]; rfl), by rw [World.frozen?_setCell]; exact hf⟩, hB.setCell (p := ⟨w.heap.size, 0, none⟩) (Nat.le_refl _) _⟩
  · rintro D ys W hD rfl ⟨⟨hc, _⟩, hB⟩ hK
    rw [sumW_octws s _ (by omega)] at hc
    gi_wp2
    refine ⟨by simp, .inl ⟨_, _, rfl, run_takeDeferred hK, ?_⟩⟩
    exact ⟨_, results_tmp rfl _ _ _, rfl, hB.trans (belowK_b (w := w) (Nat.le_refl _) W D _ _ (by simp at hD; omega) hK rfl rfl)⟩
  · rintro D c pre W _ _ h _
    exact h.elim

theorem weighed_any (s : ByteArray) (hs : s.size < 4096) (w : World) :
    Calls Tryz.prog 30 #[.string s] w fun e w' => e = .returned (.int .i64 (sumTo s s.size)) ∧ Below w.heap.size w w' := callsIn_wide.1 (weighed_in s hs w)

end Go.Proofs.YtceielkcplcccaaGreatDoor
