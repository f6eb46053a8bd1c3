/- Drawn columns: at least one text, at most six; nothing old has turned. Conditions: the reader's place is small. -/
import Derived.Test.YtphenphfficnaaaD4
import Derived.Test.YtphenphfficnaaaT6
import Derived.Deep.DeepCutAuto
namespace Go.Proofs.Ytphenphfficnaaa
open Go.RowKit

theorem owns_base {w : World} {b b' : Nat} {e : TypeId} {size : Nat} {v : Value} {n : Nat} {xs : List Value} (h : w.ownsRow b e size v n xs) (hb : b' ≤ b) : w.ownsRow b' e size v n xs := by
  refine ⟨h.1, ?_⟩
  rcases h.2 with h | ⟨g, cap, cur, hv, hg, rest⟩
  · exact .inl h
  · exact .inr ⟨g, cap, cur, hv, by omega, rest⟩
theorem grown_below {w w' : World} (h : Below w.heap.size w w') (r : Option Nat) : w.grownBy w' r := ⟨h.os, h.tape, h.output, h.size, fun k hk _ => h.block k hk⟩

/-- A row of texts of the call's own, and the reader beside it. -/
def Row (n₀ B p base : Nat) (w : World) (v : Value) (xs : List ByteArray) : Prop :=
  w.ownsRow base 9 1 v xs.length (xs.map Value.string) ∧ Rd n₀ B p w ∧ B < base ∧ base ≤ w.heap.size
theorem Row.grown {n₀ B p q base : Nat} {w w' : World} {v : Value} {xs : List ByteArray} (h : Row n₀ B p base w v xs) (hR : Rd n₀ B q w') (hg : w.grownBy w' (some B)) : Row n₀ B q base w' v xs :=
  ⟨h.1.kept hg (.inr (fun e => by have := (h.1.lt B e).1; have := h.2.2.1; omega)), hR, h.2.2.1, Nat.le_trans h.2.2.2 hg.size⟩

/-- WHAT l71Cols ANSWERS. -/
def ColsDrawn (n₀ B p : Nat) (w : World) (e : Ending) (w' : World) : Prop :=
  ∃ (v : Value) (xs : List ByteArray) (q : Nat), e = .returned v ∧ 1 ≤ xs.length ∧ xs.length ≤ 6 ∧ q ≤ p + 60 ∧ Row n₀ B q w.heap.size w' v xs ∧ w.grownBy w' (some B)

theorem abc_cols (s : ByteArray) (hs : s.size = 6) (w : World) : Calls Try.prog 25 #[.string s] w (NewStrs (colsOf s) w) := specCols_any s (by unfold maxLen; omega) w

/-- Three texts more. -/
def abc3 : List ByteArray := [⟨#[97, 98, 99]⟩, ⟨#[97, 98, 99]⟩, ⟨#[97, 98, 99]⟩]

set_option maxRecDepth 100000 in
set_option maxHeartbeats 4000000 in
theorem l71Cols_any (n₀ B p : Nat) (w : World) (hp : p ≤ 800000) (hR : Rd n₀ B p w) :
    Calls Try.prog 48 #[.pointer (some ⟨B, 0, none⟩)] w (ColsDrawn n₀ B p w) := by
  have hBw := hR.lt
  go_enter Try.func48, Try.ntmps48
  go_wp2_with fail
  refine (l71Text_any n₀ B p 9 _ (by omega) (by omega) hR).mono ?_
  rintro e w1 ⟨s, q, rfl, hs, hq, hR1, hg1⟩
  have q1 := hg1.size
  go_wp2_with fail
  generalize htt : s ++ _ = t
  have hts : t.size = s.size + 1 := by rw [← htt, ByteArray.size_append]; rfl
  have Ht := Lib.hid hts
  clear htt hts
  refine (specCols_any t (by have := Ht.out; unfold maxLen; omega) _).mono ?_
  rintro e w2 ⟨v, rfl, hown, hB2⟩
  have hcl : (colsOf t).length ≤ 3 := by unfold colsOf; split <;> (try rw [colsTo_length]) <;> (first | omega | simp)
  have hrow : Row n₀ B q w.heap.size w2 v (colsOf t) := ⟨owns_base hown q1, hR1.kept (grown_below hB2 Option.none) (by simp), hBw, by have := hB2.size; omega⟩
  have hg2 : w.grownBy w2 (some B) := hg1.trans (grown_below hB2 _)
  have q2 := hg2.size
  generalize colsOf t = xs at hrow hcl hown
  obtain ⟨a, cap, rfl, _, _, _⟩ := strs_of_owns hown
  have Hrow := Lib.hid hrow
  have Hg2 := Lib.hid hg2
  clear hrow hg2 hown hB2 hR1 hg1
  go_upto_if 10 with (fail)
  go_cut [3] (fun s3 wx => ∃ (xs : List ByteArray) (a : Option Addr) (cap : Nat), s3 = .slice a xs.length cap ∧ 1 ≤ xs.length ∧ xs.length ≤ 3 ∧ Hid (Row n₀ B q w.heap.size wx s3 xs) ∧ Hid (w.grownBy wx (some B)))
  case first =>
    by_cases h0 : xs.length = 0
    · have d0 : ((xs.length : Int) == 0) = true := beq_iff_eq.2 (by omega)
      go_wp2_with fail
      refine (abc_cols _ rfl _).mono ?_
      rintro e w3 ⟨v3, rfl, hown3, hB3⟩
      generalize hcc : colsOf _ = ys at hown3
      have hyl : ys.length = 2 := by rw [← hcc]; exact rfl
      obtain ⟨a3, cap3, rfl, _, _, _⟩ := strs_of_owns hown3
      have hrow3 : Row n₀ B q w.heap.size w3 (.slice a3 ys.length cap3) ys := ⟨owns_base hown3 q2, Hrow.out.2.1.kept (grown_below hB3 Option.none) (by simp), hBw, by have := hB3.size; omega⟩
      have hg3 : w.grownBy w3 (some B) := Hg2.out.trans (grown_below hB3 _)
      have Hyl := Lib.hid hyl
      have Hrow3 := Lib.hid hrow3
      have Hg3 := Lib.hid hg3
      clear hcc hyl hrow3 hg3 hown3 hB3
      go_wp2_with fail
      go_meet
      exact ⟨ys, a3, cap3, rfl, by have := Hyl.out; omega, by have := Hyl.out; omega, Hrow3, Hg3⟩
    · have d0 : ((xs.length : Int) == 0) = false := beq_eq_false_iff_ne.2 (by omega)
      go_wp2_with fail
      go_meet
      exact ⟨xs, a, cap, rfl, by omega, hcl, Hrow, Hg2⟩
  case rest =>
    obtain ⟨xs, a, cap, rfl, h1, h3, hrow, hg⟩ := hcut
    obtain ⟨g, cap', hv, hgb, hgl⟩ := hrow.out.1.form (by omega)
    cases hv
    go_wp2_with fail
    refine (pick_any n₀ B q 16 _ (by omega) hrow.out.2.1).mono ?_
    rintro e w3 ⟨v, rfl, hv0, hvn, hR3, hg3⟩
    have hrow3 := Lib.hid (hrow.out.grown hR3 hg3)
    have hgw3 := Lib.hid (hg.out.trans hg3)
    have q3 := hgw3.out.size
    clear hvn hR3 hg3
    by_cases v0 : v = 0
    · subst v0
      go_wp2_with fail
      refine (pick_any n₀ B (q + 1) _ _ (by omega) hrow3.out.2.1).mono ?_
      rintro e w4 ⟨j, rfl, hj0, hjn, hR4, hg4⟩
      have hjl := hjn (by omega)
      obtain ⟨k, rfl⟩ := Int.eq_ofNat_of_zero_le hj0
      have hkl : k < xs.length := by omega
      have hrow4 := Lib.hid (hrow3.out.grown hR4 hg4)
      have hgw4 := Lib.hid (hgw3.out.trans hg4)
      clear hjn hR4 hg4 hj0 hjl
      go_wp2_with fail
      refine (l71Text_any n₀ B (q + 1 + 1) 4 _ (by omega) (by omega) hrow4.out.2.1).mono ?_
      rintro e w5 ⟨x, q5, rfl, hx, hq5, hR5, hg5⟩
      have hrow5 := Lib.hid (hrow4.out.grown hR5 hg5)
      have hgw5 := Lib.hid (hgw4.out.trans hg5)
      obtain ⟨hset, hcell, hfr⟩ := owns_set hrow5.out.1 k hkl (.string x)
      rw [← List.map_set] at hset
      have hRs := hR5.kept (grownBy_setCellAt w5 g k (.string x)) (fun i e => by cases e; omega)
      have hgs := hgw5.out.andThen (grownBy_setCellAt w5 g k (.string x)) (fun i e => .inl (by cases e; exact hgb))
      have Hset := Lib.hid hset
      have HRs := Lib.hid hRs
      have Hgs := Lib.hid hgs
      have q5' := hgw5.out.size
      clear hset hRs hgs hR5 hg5
      go_wp2
      go_ret
      exact ⟨_, xs.set k x, q5, rfl, by rw [List.length_set]; exact h1, by rw [List.length_set]; omega, by omega, ⟨by rw [List.length_set]; exact Hset.out, HRs.out, hBw, by simp [World.setCell]; exact q5'⟩, Hgs.out⟩
    · by_cases v1 : v = 1
      · subst v1
        obtain ⟨i0, hi0, hz0, hz1, hz2⟩ := info_parts info9
        have hne : ∀ i, some g = some i → w.heap.size ≤ i := fun i e => by cases e; exact hgb
        have Hne := Lib.hid hne
        have hw3 : w.heap.size ≤ w3.heap.size := q3
        clear hne
        go_wp2_with (at_builtin; refine wpList_append_lies _ rfl _ _ 31 rfl w.heap.size 9 i0 _ 1 16 Try.underlying31 hi0 hz0 hz1 hz2 rfl (by omega) _ xs.length (xs.map Value.string) rfl (hrow3.out.1.alloc _) ⟨w3.heap.size, 0, none⟩ 3 3 (abc3.map Value.string) rfl rfl (World.news_of_block (cs := #[.string ⟨#[97, 98, 99]⟩, .string ⟨#[97, 98, 99]⟩, .string ⟨#[97, 98, 99]⟩]) (t := 9) (fr := (0, 0)) (heap_alloc_new w3 _)) (by simp [abc3, Value.oneCell']) (by omega) (by simp [maxLen]; omega) (by omega) (by simp; omega) _ rfl ?_; intro g4 cap4 w4 hown4 hgrow4 hat4 hlt4)
        rw [← List.map_append] at hown4
        go_ret
        have hl : (xs ++ abc3).length = xs.length + 3 := by rw [List.length_append]; rfl
        exact ⟨_, xs ++ abc3, q + 1, rfl, by omega, by omega, by omega, ⟨by rw [hl]; exact hown4, (hrow3.out.2.1.alloc _).kept hgrow4 (fun i e => by have := Hne.out i e; omega), hBw, by have := hgrow4.size; simp at this; omega⟩,
          (hgw3.out.trans (World.grownBy_alloc w3 _ _)).andThen hgrow4 (fun i e => .inl (Hne.out i e))⟩
      · have e0 : (v == 0) = false := beq_eq_false_iff_ne.2 v0
        have e1 : (v == 1) = false := beq_eq_false_iff_ne.2 v1
        clear v0 v1
        go_wp2
        go_ret
        exact ⟨_, xs, q + 1, rfl, h1, by omega, by omega, hrow3.out, hgw3.out⟩

end Go.Proofs.Ytphenphfficnaaa
