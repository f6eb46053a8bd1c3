/- The exact laws' own helpers for slices of texts: szStringS, toStringS, eqStringS. Conditions: none but the row's own bound on sizes. -/
import Derived.Test.YtphenphfficnaabT6
import Derived.SliceStrings
import Derived.Deep.QuietTactic
import Derived.BigQuiet
namespace Go.Proofs.Ytphenphfficnaab
open Go.RowKit

/-- TEXTS THAT CAME IN. -/
def InStrs (w : World) (a : Option Addr) (xs : List ByteArray) : Prop := Strs w a xs ∧ xs.length ≤ maxLen ∧ ∀ j, j < xs.length → (xs.getD j ByteArray.empty).size ≤ maxLen
theorem inStrs_of {w : World} {x : Addr} {len cap : Nat} {ss : List ByteArray} (hl : len ≤ cap) (hm : cap ≤ maxLen) (hz : ss.length = cap)
    (hcell : ∀ i, i < ss.length → w.cell? (x.add i) = some (.string (ss.getD i ByteArray.empty))) (hsz : ∀ s ∈ ss, s.size ≤ maxLen) : ∃ xs, len = xs.length ∧ InStrs w (some x) xs := by
  have ht : (ss.take len).length = len := by rw [List.length_take]; omega
  have hg : ∀ j, j < len → (ss.take len).getD j ByteArray.empty = ss.getD j ByteArray.empty := fun j hj => by
    rw [List.getD, List.getElem?_take, if_pos hj]; rfl
  refine ⟨ss.take len, ht.symm, ?_, by omega, fun j hj => ?_⟩
  · by_cases h0 : len = 0
    · subst h0; exact .inl rfl
    · obtain ⟨b, off, spot⟩ := x
      have h := hcell 0 (by omega)
      cases spot with
      | none =>
        refine .inr ⟨b, off, rfl, fun j hj => ?_⟩
        rw [ht] at hj
        rw [hg j hj, ← hcell j (by omega)]
        congr 1
        unfold Addr.add
        by_cases e : j = 0
        · subst e; rfl
        · rw [if_neg e]
      | some s =>
        exfalso
        have e : (⟨b, off, some s⟩ : Addr).add 0 = ⟨b, off, some s⟩ := rfl
        rw [e] at h
        unfold World.cell? at h
        split at h
        · simp at h
        · cases h
  · rw [ht] at hj
    rw [hg j hj, List.getD, List.getElem?_eq_getElem (by omega)]
    exact hsz _ (List.getElem_mem _)

set_option maxRecDepth 100000 in
set_option maxHeartbeats 1000000 in
theorem szStringS_any (a : Option Addr) (cap : Nat) (xs : List ByteArray) (left : Nat) (w : World) (hleft : left ≤ 1048576) (hx : Hid (InStrs w a xs)) :
    Calls Try.prog 15 #[.slice a xs.length cap, .int .i64 (left : Int)] w fun e w' => (e = .returned (.int .i64 (-1)) ∨ ∃ r : Nat, e = .returned (.int .i64 (r : Int)) ∧ xs.length + r ≤ left ∧ ∀ j, j < xs.length → (xs.getD j ByteArray.empty).size ≤ left) ∧ w = w' := by
  have hl := hx.out.2.1
  unfold maxLen at hl
  by_cases h0 : left < xs.length
  · have d0 : decide ((left : Int) - (xs.length : Int) < 0) = true := by simp; omega
    go_enter Try.func15, Try.ntmps15
    go_wp2
    go_ret
    exact ⟨.inl rfl, rfl⟩
  · obtain ⟨r0, hr0⟩ : ∃ r0 : Nat, (left : Int) - (xs.length : Int) = (r0 : Int) := ⟨left - xs.length, by omega⟩
    have d0 : decide ((left : Int) - (xs.length : Int) < 0) = false := by simp; omega
    go_enter Try.func15, Try.ntmps15
    go_wp2_with fail
    go_loop [1, 5] (fun l i => ∃ k r : Nat, i = .int .i64 (k : Int) ∧ l = .int .i64 (r : Int) ∧ k ≤ xs.length ∧ xs.length + r ≤ left ∧ Hid (∀ j, j < k → (xs.getD j ByteArray.empty).size ≤ left)) (fun _ i => xs.length - (intOf i).toNat)
    case atStart => exact ⟨0, r0, rfl, by go_num, by omega, by omega, fun j hj => by omega⟩
    case round =>
      obtain ⟨k, r, rfl, rfl, hk, hr, hall⟩ := hrel
      by_cases hlt : k < xs.length
      · obtain ⟨b, off, rfl, hc⟩ := hx.out.1.resolve_left (fun e => by subst e; simp at hlt)
        have hck := hc k hlt
        have hs := hx.out.2.2 k hlt
        unfold maxLen at hs
        clear hc
        generalize hgx : xs.getD k ByteArray.empty = x at hck hs
        have Hgx := Lib.hid hgx
        clear hgx
        by_cases h1 : r < x.size
        · have d1 : decide ((r : Int) - (x.size : Int) < 0) = true := by simp; omega
          go_wp2
          go_ret
          exact ⟨.inl rfl, rfl⟩
        · have d1 : decide ((r : Int) - (x.size : Int) < 0) = false := by simp; omega
          have hnext : Hid (∀ j, j < k + 1 → (xs.getD j ByteArray.empty).size ≤ left) := fun j hj => by
            by_cases e : j = k
            · subst e; rw [Hgx.out]; omega
            · exact hall.out j (by omega)
          go_wp2
          exact ⟨⟨k + 1, r - x.size, by go_num, by go_num, by omega, by omega, hnext⟩, by simp [intOf]; omega⟩
      · have HL : Hid (∀ j, j < xs.length → (xs.getD j ByteArray.empty).size ≤ left) := fun j hj => hall.out j (by omega)
        go_wp2
        go_ret
        exact ⟨.inr ⟨r, rfl, hr, HL.out⟩, rfl⟩

/-- THE TEXTS WRITTEN SO FAR. -/
def Filled (xs : List ByteArray) (k : Nat) (ys : List Value) : Prop := ys.length = xs.length ∧ ∀ j, j < k → ys[j]? = some (.string (xs.getD j ByteArray.empty))
theorem Filled.all {xs : List ByteArray} {ys : List Value} (h : Filled xs xs.length ys) : ys = xs.map Value.string := by
  refine List.ext_getElem? fun j => ?_
  by_cases hj : j < xs.length
  · rw [h.2 j hj, List.getElem?_map, List.getD, List.getElem?_eq_getElem hj]; rfl
  · rw [List.getElem?_eq_none (by rw [h.1]; omega), List.getElem?_eq_none (by rw [List.length_map]; omega)]
theorem Filled.next {xs : List ByteArray} {ys : List Value} {k : Nat} (h : Filled xs k ys) (hk : k < xs.length) : Filled xs (k + 1) (ys.set k (.string (xs.getD k ByteArray.empty))) := by
  refine ⟨by rw [List.length_set]; exact h.1, fun j hj => ?_⟩
  by_cases e : j = k
  · subst e; rw [List.getElem?_set_self (by rw [h.1]; exact hk)]
  · rw [List.getElem?_set_ne (by omega)]; exact h.2 j (by omega)

set_option maxRecDepth 100000 in
set_option maxHeartbeats 1000000 in
theorem toStringS_any (a : Option Addr) (cap : Nat) (xs : List ByteArray) (w : World) (hl : xs.length ≤ 1048576) (hx : Hid (Strs w a xs)) :
    Calls Try.prog 17 #[.slice a xs.length cap] w (NewStrs xs w) := by
  obtain ⟨i0, hi0, hz0, hz1, hz2⟩ := info_parts info9
  go_enter Try.func17, Try.ntmps17
  go_wp2_with (at_make; refine wpList_make_full _ rfl _ _ 24 rfl w.heap.size 9 i0 _ 1 Try.underlying24 hi0 hz0 hz1 .i64 .i64 _ _ xs.length rfl rfl rfl rfl (by rw [hz2]; omega) (by unfold maxLen; omega) (Nat.le_refl _) ?_; intro w1 hown hgrow)
  have hlen : (madeCells (Value.string ByteArray.empty).cells (xs.length * 1)).toList.length = xs.length := hown.1.trans (Nat.mul_one _)
  generalize (madeCells (Value.string ByteArray.empty).cells (xs.length * 1)).toList = ys0 at hown hlen
  have HB1 : Hid (Below w.heap.size w w1) := ⟨hgrow.os, hgrow.tape, hgrow.output, hgrow.size, fun k hk => hgrow.block k hk (by simp)⟩
  have Hown := Lib.hid hown
  clear hown hgrow
  go_loopw [4] (fun i wr => ∃ k : Nat, i = .int .i64 (k : Int) ∧ k ≤ xs.length ∧ Hid (Below w.heap.size w wr ∧ ∃ ys, Filled xs k ys ∧ wr.ownsRow w.heap.size 9 1 (.slice (some ⟨w.heap.size, 0, none⟩) xs.length xs.length) xs.length ys)) (fun i _ => xs.length - (intOf i).toNat)
  case atStart => exact ⟨0, rfl, by omega, HB1.out, ys0, ⟨hlen, fun j hj => by omega⟩, Hown.out⟩
  case round =>
    obtain ⟨k, rfl, hk, hI⟩ := hrel
    by_cases hlt : k < xs.length
    · obtain ⟨hB, ys, hf, ho⟩ := hI.out
      obtain ⟨b, off, rfl, hc⟩ := (hx.out.below hB).resolve_left (fun e => by subst e; simp at hlt)
      have hck := hc k hlt
      obtain ⟨hset, hcell, hfr⟩ := owns_set ho k hlt (.string (xs.getD k ByteArray.empty))
      have HN : Hid (Below w.heap.size w (wr.setCell ⟨w.heap.size, k, none⟩ (.string (xs.getD k ByteArray.empty))) ∧ ∃ ys, Filled xs (k + 1) ys ∧ (wr.setCell ⟨w.heap.size, k, none⟩ (.string (xs.getD k ByteArray.empty))).ownsRow w.heap.size 9 1 (.slice (some ⟨w.heap.size, 0, none⟩) xs.length xs.length) xs.length ys) :=
        ⟨hB.setCell (p := ⟨w.heap.size, k, none⟩) (Nat.le_refl _) _, _, hf.next hlt, hset⟩
      clear hc hset ho hf hI hB
      generalize xs.getD k ByteArray.empty = x at hck HN
      generalize ys.getD k undef = y at hcell
      go_wp2
      exact ⟨⟨k + 1, by go_num, by omega, HN⟩, by simp [intOf]; omega⟩
    · obtain rfl : k = xs.length := by omega
      go_wp2
      go_ret
      obtain ⟨hB, ys, hf, ho⟩ := hI.out
      rw [hf.all] at ho
      exact ⟨_, rfl, ho, hB⟩

set_option maxRecDepth 100000 in
set_option maxHeartbeats 1000000 in
theorem eqStringS_same (a b : Option Addr) (ca cb : Nat) (xs : List ByteArray) (w : World) (hl : xs.length ≤ maxLen) (ha : Hid (Strs w a xs)) (hb : Hid (Strs w b xs)) :
    Calls Try.prog 12 #[.slice a xs.length ca, .slice b xs.length cb] w fun e w' => e = .returned (.bool true) ∧ Below w.heap.size w w' := by
  unfold maxLen at hl
  have d0 : ((xs.length : Int) != (xs.length : Int)) = false := by simp
  go_enter Try.func12, Try.ntmps12
  go_wp2_with fail
  go_loopw [5] (fun i wr => ∃ k : Nat, i = .int .i64 (k : Int) ∧ k ≤ xs.length ∧ Below w.heap.size w wr) (fun i _ => xs.length - (intOf i).toNat)
  case atStart => exact ⟨0, rfl, by omega, Below.refl _ _⟩
  case round =>
    obtain ⟨k, rfl, hk, hB⟩ := hrel
    by_cases hlt : k < xs.length
    · obtain ⟨b1, o1, rfl, hc1⟩ := (ha.out.below hB).resolve_left (fun e => by subst e; simp at hlt)
      obtain ⟨b2, o2, rfl, hc2⟩ := (hb.out.below hB).resolve_left (fun e => by subst e; simp at hlt)
      have k1 := hc1 k hlt
      have k2 := hc2 k hlt
      clear hc1 hc2
      generalize xs.getD k ByteArray.empty = x at k1 k2
      have i1 : (k : Int) < (xs.length : Int) := by omega
      have i0 : (0 : Int) ≤ (k : Int) := by omega
      go_wp2
      go_quiet (fail)
      go_wp2
      exact ⟨⟨k + 1, by go_num, by omega, below_drewN hB nq⟩, by simp [intOf]; omega⟩
    · go_wp2
      go_ret
      exact ⟨rfl, hB⟩

end Go.Proofs.Ytphenphfficnaab
