/- SumOf of the program and SumOf of the specification both answer the sum of the first nine bytes. Conditions: none. -/
import Derived.Test.YtphenphfficnaaaA1
namespace Go.Proofs.Ytphenphfficnaaa
open Go.RowKit Go.Shelf
attribute [local go_sem] Oper.semAt_some

set_option maxRecDepth 100000 in
set_option maxHeartbeats 2000000 in
theorem implSum_in (s : ByteArray) (w : World) :
    CallsIn Fence.wide 6 Try.prog 16 #[.string s] w fun e w' => e = .returned (.int .i64 (sumOf s)) ∧ Below w.heap.size w w' := by
  have h1 : 1 ≤ 6 := by omega
  refine callsIn_of_wp_marks Try.func16 rfl trivial ?_ rfl
  simp only [Try.ntmps16, List.size_toArray, List.length_cons, List.length_nil, Nat.reduceAdd, Nat.reduceSub, Array.replicate_succ, Array.replicate_zero, List.push_toArray, List.append_toArray, List.nil_append, List.cons_append]
  by_cases h9 : s.size ≤ 9
  all_goals gi_wp2_with (refine ⟨trivial, ?_⟩; gi_at_call 37; refine (callsIn_wide.2 (octetsOf_any s _ _)).mono ?_; rintro e w' ⟨rfl, rfl⟩)
  · have bS := Boxed.new w 3 (.int .i64 0)
    have bT := Boxed.new (w.alloc (.cells #[.int .i64 0] 3)) 9 (.string s)
    have bM := Boxed.new ((w.alloc (.cells #[.int .i64 0] 3)).alloc (.cells #[.string s] 9)) 3 (.int .i64 (s.size : Int))
    simp only [World.size_alloc] at bT bM
    have hB0 : Below w.heap.size w (((w.alloc (.cells #[.int .i64 0] 3)).alloc (.cells #[.string s] 9)).alloc (.cells #[.int .i64 (s.size : Int)] 3)) := (((Below.refl _ w).alloc (Nat.le_refl _) _).alloc (by simp) _).alloc (by simp; omega) _
    refine wpIn_rangeFunc_ownG rfl h1 (gf := 52) (lb := #[.pointer (some ⟨w.heap.size + 1 + 1, 0, none⟩), .pointer (some ⟨w.heap.size + 1, 0, none⟩)]) rfl trivial (enters_of Try.func52 (by kernel_rfl) rfl)
      (octets_stops 5 (by omega) (w.heap.size + 1 + 1) (w.heap.size + 1) s.size s (by omega) _ (by simp) bM.cell (bT.alloc _).cell) KeepsBox.tr (KeepsBox.bl (by simp)) (Below.refl _ _) (fun _ => rfl)
      (fun pre W => (W.cell? ⟨w.heap.size, 0, none⟩ = some (.int .i64 (sumI pre)) ∧ W.frozen? ⟨w.heap.size, 0, none⟩ = false) ∧ Below w.heap.size w W)
      (fun _ _ _ => False)
      (OwnFrom.and (Own.from (fun s A B row hs hg hr => ⟨cell_kept hs.1 hg hr, (frozen_kept hs.1 hg hr).trans hs.2⟩) _) (ownFrom_below (Nat.le_refl _) (by simp; omega)))
      (fun _ _ _ _ _ hs _ _ => hs)
      ⟨⟨((bS.alloc _).alloc _).cell, ((bS.alloc _).alloc _).frozen⟩, hB0⟩
      (fun x => { tmps := #[.string s, undef, .int .i64 0, .pointer (some ⟨w.heap.size, 0, none⟩), .int .i64 (x.1.1 : Int), .int .u8 x.1.2, .string s, .string s, .int .i64 (s.size : Int), .int .i64 (s.size : Int),
        .func (.func 52) #[] #[.pointer (some ⟨w.heap.size + 1 + 1, 0, none⟩), .pointer (some ⟨w.heap.size + 1, 0, none⟩)], .int .i64 (x.1.1 : Int), .int .u8 x.1.2, undef, undef, undef, undef, undef, undef, undef, undef, undef], defers := [] }) ?_ ?_ ?_ ?_
    · intro l x W K hK
      simp only [octVals]
      gi_wp2
      exact hK
    · rintro l pre x W ⟨⟨hc, hf⟩, hB⟩ hlen
      have hbd := sumI_bd pre
      have htm := term_bd x
      obtain ⟨⟨k, c⟩, h2, h3, h4⟩ := x
      have HS := Lib.hid (sumI_snoc pre ⟨(k, c), h2, h3, h4⟩)
      simp only at htm h2 h3 h4 HS ⊢
      have hl9 : (pre.length : Int) * 36028797018963968 ≤ 8 * 36028797018963968 := by omega
      clear hlen
      gi_wp2
      exact ⟨(KeepsOthers.setCell _ _ _).from _, World.cell?_of_block (Below.heap_setCell _ _ _ _ (by simp)), ⟨by rw [HS.out]; exact World.cell?_setCell_same' _ _ _ (by rw [hc]; rfl), by rw [World.frozen?_setCell]; exact hf⟩, hB.setCell (p := ⟨w.heap.size, 0, none⟩) (Nat.le_refl _) _⟩
    · rintro D ys W hD rfl ⟨⟨hc, _⟩, hB⟩ hK
      rw [show sumI (octs s s.size) = sumOf s by rw [sumI_octs s _ (by omega)]; unfold sumOf; rw [show min s.size 9 = s.size by omega]] at hc
      gi_wp2
      refine ⟨by simp, .inl ⟨_, _, rfl, run_takeDeferred hK, ?_⟩⟩
      exact ⟨_, results_tmp rfl _ _ _, rfl, hB.trans (belowK_b (w := w) (Nat.le_refl _) W D _ _ (by simp at hD; omega) hK rfl rfl)⟩
    · rintro D c pre W _ _ h _
      exact h.elim
  · have bS := Boxed.new w 3 (.int .i64 0)
    have bT := Boxed.new (w.alloc (.cells #[.int .i64 0] 3)) 9 (.string s)
    have bM := Boxed.new ((w.alloc (.cells #[.int .i64 0] 3)).alloc (.cells #[.string s] 9)) 3 (.int .i64 9)
    simp only [World.size_alloc] at bT bM
    have hB0 : Below w.heap.size w (((w.alloc (.cells #[.int .i64 0] 3)).alloc (.cells #[.string s] 9)).alloc (.cells #[.int .i64 9] 3)) := (((Below.refl _ w).alloc (Nat.le_refl _) _).alloc (by simp) _).alloc (by simp; omega) _
    refine wpIn_rangeFunc_ownG rfl h1 (gf := 52) (lb := #[.pointer (some ⟨w.heap.size + 1 + 1, 0, none⟩), .pointer (some ⟨w.heap.size + 1, 0, none⟩)]) rfl trivial (enters_of Try.func52 (by kernel_rfl) rfl)
      (octets_stops 5 (by omega) (w.heap.size + 1 + 1) (w.heap.size + 1) 9 s (by omega) _ (by simp) bM.cell (bT.alloc _).cell) KeepsBox.tr (KeepsBox.bl (by simp)) (Below.refl _ _) (fun _ => rfl)
      (fun pre W => (W.cell? ⟨w.heap.size, 0, none⟩ = some (.int .i64 (sumI pre)) ∧ W.frozen? ⟨w.heap.size, 0, none⟩ = false) ∧ Below w.heap.size w W)
      (fun _ _ _ => False)
      (OwnFrom.and (Own.from (fun s A B row hs hg hr => ⟨cell_kept hs.1 hg hr, (frozen_kept hs.1 hg hr).trans hs.2⟩) _) (ownFrom_below (Nat.le_refl _) (by simp; omega)))
      (fun _ _ _ _ _ hs _ _ => hs)
      ⟨⟨((bS.alloc _).alloc _).cell, ((bS.alloc _).alloc _).frozen⟩, hB0⟩
      (fun x => { tmps := #[.string s, undef, .int .i64 0, .pointer (some ⟨w.heap.size, 0, none⟩), .int .i64 (x.1.1 : Int), .int .u8 x.1.2, .string s, .string s, .int .i64 (s.size : Int), .int .i64 9,
        .func (.func 52) #[] #[.pointer (some ⟨w.heap.size + 1 + 1, 0, none⟩), .pointer (some ⟨w.heap.size + 1, 0, none⟩)], .int .i64 (x.1.1 : Int), .int .u8 x.1.2, undef, undef, undef, undef, undef, undef, undef, undef, undef], defers := [] }) ?_ ?_ ?_ ?_
    · intro l x W K hK
      simp only [octVals]
      gi_wp2
      exact hK
    · rintro l pre x W ⟨⟨hc, hf⟩, hB⟩ hlen
      have hbd := sumI_bd pre
      have htm := term_bd x
      obtain ⟨⟨k, c⟩, h2, h3, h4⟩ := x
      have HS := Lib.hid (sumI_snoc pre ⟨(k, c), h2, h3, h4⟩)
      simp only at htm h2 h3 h4 HS ⊢
      have hl9 : (pre.length : Int) * 36028797018963968 ≤ 8 * 36028797018963968 := by omega
      clear hlen
      gi_wp2
      exact ⟨(KeepsOthers.setCell _ _ _).from _, World.cell?_of_block (Below.heap_setCell _ _ _ _ (by simp)), ⟨by rw [HS.out]; exact World.cell?_setCell_same' _ _ _ (by rw [hc]; rfl), by rw [World.frozen?_setCell]; exact hf⟩, hB.setCell (p := ⟨w.heap.size, 0, none⟩) (Nat.le_refl _) _⟩
    · rintro D ys W hD rfl ⟨⟨hc, _⟩, hB⟩ hK
      rw [show sumI (octs s 9) = sumOf s by rw [sumI_octs s _ (by omega)]; unfold sumOf; rw [show min s.size 9 = 9 by omega]] at hc
      gi_wp2
      refine ⟨by simp, .inl ⟨_, _, rfl, run_takeDeferred hK, ?_⟩⟩
      exact ⟨_, results_tmp rfl _ _ _, rfl, hB.trans (belowK_b (w := w) (Nat.le_refl _) W D _ _ (by simp at hD; omega) hK rfl rfl)⟩
    · rintro D c pre W _ _ h _
      exact h.elim

theorem implSum_any (s : ByteArray) (w : World) :
    Calls Try.prog 16 #[.string s] w fun e w' => e = .returned (.int .i64 (sumOf s)) ∧ Below w.heap.size w w' := callsIn_wide.1 (implSum_in s w)

set_option maxRecDepth 100000 in
set_option maxHeartbeats 1000000 in
theorem specSum_any (s : ByteArray) (hs : s.size ≤ maxLen) (w : World) :
    Calls Try.prog 17 #[.string s] w fun e w' => e = .returned (.int .i64 (sumOf s)) ∧ w = w' := by
  unfold maxLen at hs
  go_enter Try.func17, Try.ntmps17
  go_wp2
  go_loop [3, 4] (fun n i => ∃ k : Nat, k ≤ s.size ∧ k ≤ 9 ∧ i = .int .i64 k ∧ n = .int .i64 (sumTo s k)) (fun _ i => 9 - (intOf i).toNat)
  case atStart => exact ⟨0, Nat.zero_le _, Nat.zero_le _, rfl, rfl⟩
  case round =>
    obtain ⟨k, hk, hk9, rfl, rfl⟩ := hrel
    have hd := sumTo_bd s k hk9
    have hl9 : (k : Int) * 36028797018963968 ≤ 9 * 36028797018963968 := by omega
    by_cases hlt : k < s.size
    · by_cases h9 : k < 9
      · have HS : Hid (sumTo s (k + 1) = sumTo s k + (s[k].toNat : Int) * (65536 + (k : Int) + 1)) := by rw [← byteAt_lt hlt]; rfl
        have ht := term_bd (oct s k)
        rw [oct_1 s (by omega), byteAt_lt hlt] at ht
        simp only at ht
        have hb8 : (s[k].toNat : Int) < 256 := by have := s[k].toNat_lt; omega
        go_wp2
        go_round
        case rel => exact ⟨k + 1, by omega, by omega, by go_num, by rw [HS.out]⟩
        case measure => simp [intOf]; omega
      · have HS := Lib.hid (show sumOf s = sumTo s k by unfold sumOf; rw [show min s.size 9 = k by omega])
        go_wp2
        go_ret
        exact ⟨ret_int HS.out.symm, rfl⟩
    · have HS := Lib.hid (show sumOf s = sumTo s k by unfold sumOf; rw [show min s.size 9 = k by omega])
      go_wp2
      go_ret
      exact ⟨ret_int HS.out.symm, rfl⟩

end Go.Proofs.Ytphenphfficnaaa
