/- A drawn text: whatever the code, it has at most so many bytes, and only the reader's own block turns. Conditions: the reader's place is small. -/
import Derived.Test.YtmmckpjapnkepaaD1
import Derived.Test.YtmmckpjapnkepaaW1
import Derived.Deep.RegionWith
import Derived.Deep.RegionLaw
import Derived.Deep.AppendLies
import Derived.Laws.BytesArg
import Derived.OwnWalk
import Derived.Maps.Range
namespace Go.Proofs.Ytmmckpjapnkepaa
open Go.RowKit

theorem Rd.alloc {n₀ B p : Nat} {w : World} (h : Rd n₀ B p w) (o : Obj) : Rd n₀ B p (w.alloc o) := by
  obtain ⟨hB, a, len, cap, zs, hblk, hlm, hz, hcs⟩ := h
  have hlt := (Array.getElem?_eq_some_iff.1 hblk).1
  refine ⟨hB, a, len, cap, zs, (Below.heap_alloc _ _ _ hlt).trans hblk, hlm, hz, ?_⟩
  rcases hcs with h | ⟨b, off, rfl, hb, hc⟩
  · exact .inl h
  · exact .inr ⟨b, off, rfl, hb, fun i hi => (World.cell?_of_block (Below.heap_alloc _ _ _ (by simp; omega))).trans (hc i hi)⟩
theorem Rd.drew {n₀ B p : Nat} {w : World} (h : Rd n₀ B p w) : Rd n₀ B p w.drew := h.drewN 1
theorem Rd.lt {n₀ B p : Nat} {w : World} (h : Rd n₀ B p w) : B < w.heap.size := by
  obtain ⟨hB, a, len, cap, zs, hblk, hlm, hz, hcs⟩ := h
  exact (Array.getElem?_eq_some_iff.1 hblk).1
/-- What turns only a row of one's own beyond the reader leaves the reader. -/
theorem Rd.kept {n₀ B p : Nat} {w w' : World} {r : Option Nat} (h : Rd n₀ B p w) (hg : w.grownBy w' r) (hr : ∀ k, r = some k → B < k) : Rd n₀ B p w' := by
  have hlt := h.lt
  obtain ⟨hB, a, len, cap, zs, hblk, hlm, hz, hcs⟩ := h
  refine ⟨hB, a, len, cap, zs, (hg.block B hlt (fun e => by have := hr B e.symm; omega)).trans hblk, hlm, hz, ?_⟩
  rcases hcs with h | ⟨b, off, rfl, hb, hc⟩
  · exact .inl h
  · exact .inr ⟨b, off, rfl, hb, fun i hi => (World.cell?_of_block (hg.block b (by omega) (fun e => by have := hr b e.symm; omega))).trans (hc i hi)⟩

/-- WHAT l71Text ANSWERS. -/
def Texted (n₀ B p m : Nat) (w : World) (e : Ending) (w' : World) : Prop :=
  ∃ (s : ByteArray) (q : Nat), e = .returned (.string s) ∧ s.size ≤ m ∧ q ≤ p + 1 + 2 * m ∧ Rd n₀ B q w' ∧ w.grownBy w' (some B)

/-- The six bytes of which texts are made. -/
def tab (v : Int) : Int := if v = 0 then 97 else if v = 1 then 98 else if v = 2 then 122 else if v = 3 then 0 else if v = 4 then 255 else 128
theorem tab_bd (v : Int) : 0 ≤ tab v ∧ tab v ≤ 255 := by unfold tab; split <;> (try split) <;> (try split) <;> (try split) <;> (try split) <;> omega
theorem tab_list (v : Int) (h0 : 0 ≤ v) (h6 : v < 6) : ([Value.int .u8 97, .int .u8 98, .int .u8 122, .int .u8 0, .int .u8 255, .int .u8 128] : List Value)[v.toNat]? = some (.int .u8 (tab v)) := by
  obtain ⟨n, rfl⟩ := Int.eq_ofNat_of_zero_le h0
  match n, h6 with
  | 0, _ => rfl
  | 1, _ => rfl
  | 2, _ => rfl
  | 3, _ => rfl
  | 4, _ => rfl
  | 5, _ => rfl
  | n + 6, h => omega
theorem tab_get (v : Int) (h0 : 0 ≤ v) (h6 : v < 6) : ∀ h, ([Value.int .u8 97, .int .u8 98, .int .u8 122, .int .u8 0, .int .u8 255, .int .u8 128] : List Value)[v.toNat]'h = .int .u8 (tab v) := fun h => by
  have := tab_list v h0 h6
  rw [List.getElem?_eq_getElem h] at this
  exact Option.some.inj this
theorem tab_cell (w : World) (v : Int) (h0 : 0 ≤ v) (h6 : v < 6) : (w.alloc (.cells #[.int .u8 97, .int .u8 98, .int .u8 122, .int .u8 0, .int .u8 255, .int .u8 128] 5)).cell? ⟨w.heap.size, v.toNat, none⟩ = some (.int .u8 (tab v)) := by
  rw [World.cell?_alloc_mark]
  simpa using tab_list v h0 h6

set_option maxRecDepth 100000 in
set_option maxHeartbeats 4000000 in
theorem l71Text_any (n₀ B p m : Nat) (w : World) (hp : p ≤ 900000) (hm : m ≤ 1000) (hR : Rd n₀ B p w) :
    Calls Try.prog 37 #[.pointer (some ⟨B, 0, none⟩), .int .i64 (m : Int)] w (Texted n₀ B p m w) := by
  obtain ⟨i0, hi0, hz0, hz1, hz2⟩ := info_parts info5
  have hBlt := hR.lt
  go_enter Try.func37, Try.ntmps37
  go_wp2_with fail
  refine (pick_any n₀ B p _ _ (by omega) (hR.alloc _)).mono ?_
  rintro e w1 ⟨v, rfl, hv0, hvn, hR1, hg1⟩
  have hvm : v ≤ m := by have := hvn (by omega); omega
  clear hvn
  go_wp2_with fail
  have hown0 : w1.ownsRow w.heap.size 5 1 (.slice (some ⟨w.heap.size, 0, none⟩) 0 0) 0 [] := (World.ownsRow_made w #[] 0 (Nat.le_refl _) (by simp [maxLen]) (by simp)).kept hg1 (.inr (by simp [Value.ownBlock]; omega))
  have hgw : w.grownBy w1 (some B) := (World.grownBy_alloc w _ _).trans hg1
  go_loopw [5, 6] (fun s n wr => ∃ (k j : Nat) (zs : List Int), n = .int .i64 (j : Int) ∧ k + j ≤ m ∧ wr.ownsRow w.heap.size 5 1 s k (zs.map (Value.int .u8)) ∧ Rd n₀ B (p + 1 + 2 * k) wr ∧ w.grownBy wr (some B))
    (fun _ n _ => (intOf n).toNat)
  case atStart =>
    obtain ⟨j, rfl⟩ := Int.eq_ofNat_of_zero_le hv0
    exact ⟨0, j, [], rfl, by omega, hown0, hR1, hgw⟩
  case round =>
    obtain ⟨k, j, zs, rfl, hkj, hown, hRk, hgk⟩ := hrel
    have hsz : w.heap.size ≤ wr.heap.size := hgk.size
    by_cases hj : 0 < j
    · go_wp2_with fail
      have hnb : u5.ownBlock = none ∨ u5.ownBlock ≠ some B := .inr (fun e => by have := (hown.lt B e).1; omega)
      have hbk : ∀ i, u5.ownBlock = some i → B < i := fun i e => by have := (hown.lt i e).1; omega
      go_region_law (first
        | (refine step_append_lies _ (by rfl) _ _ _ (by rfl) w.heap.size 5 i0 _ 1 1 Try.underlying22 hi0 hz0 hz1 hz2 rfl (by omega) u5 k (zs.map (Value.int .u8)) (by rfl) ?_ ⟨_, 0, none⟩ 1 1 [.int .u8 (IntKind.u8.wrap (tab v2 + IntKind.u8.wrap v3))] (by rfl) (by rfl)
              (news_new _ _ 5 _ (by simp)) (by simp [Value.oneCell']) (by omega) (by simp [maxLen]; omega) (by omega) ?_ _ rfl ?_; (first | exact ho3.alloc _ | exact (ho3.alloc _).alloc _); (have q3 := hg3.size; simp at q3 ⊢; omega); intro g cap w4 hown4 hgrow4 hat4 hlt4)
        | (go_simp; go_at_call_of 36 (Value.int IntKind.i64 6); refine (pick_any n₀ B (p + 1 + 2 * k) 6 _ (by omega) ?_).mono ?_; (first | exact hRk.drew | exact (hRk.alloc _).drew); rintro e w2 ⟨v2, rfl, hv20, hv2n, hR2, hg2⟩; have hv26 := hv2n (by omega); clear hv2n; have hl2 := tab_get v2 hv20 hv26; have q2 := hg2.size; simp at q2;
            (first | (have ho2 := (hown.drew).kept hg2 hnb; have hgw2 := (grownBy_drew1 hgk).trans hg2) | (have ho2 := ((hown.alloc _).drew).kept hg2 hnb; have hgw2 := (grownBy_drew1 (hgk.trans (World.grownBy_alloc wr _ _))).trans hg2; have hc2 := hg2.cell (show ((wr.alloc _).drew).cell? _ = _ from tab_cell wr v2 hv20 hv26) (by simp; omega))))
        | (go_simp; go_at_call_of 36 (Value.int IntKind.i64 3); refine (pick_any n₀ B (p + 1 + 2 * k + 1) 3 _ (by omega) ?_).mono ?_; (first | exact hR2 | exact hR2.alloc _); rintro e w3 ⟨v3, rfl, hv30, hv3n, hR3, hg3⟩; have hv33 := hv3n (by omega); clear hv3n;
            (first | (have ho3 := ho2.kept hg3 hnb; have hgw3 := hgw2.trans hg3; (first | (have hc3 := hg3.cell hc2 (by simp; omega)) | skip)) | (have ho3 := (ho2.alloc _).kept hg3 hnb; have hgw3 := (hgw2.trans (World.grownBy_alloc w2 _ _)).trans hg3; have hc3 := hg3.cell (tab_cell w2 v2 hv20 hv26) (by simp; omega)))))
      all_goals
        go_wp2
        go_roundw
      all_goals first
        | (refine ⟨k + 1, j - 1, zs ++ [IntKind.u8.wrap (tab v2 + IntKind.u8.wrap v3)], by congr 1; omega, by omega, by rw [List.map_append]; exact hown4, ?_, ?_⟩
           · rw [show p + 1 + 2 * (k + 1) = p + 1 + 2 * k + 1 + 1 by omega]
             first | exact (hR3.alloc _).kept hgrow4 hbk | exact ((hR3.alloc _).alloc _).kept hgrow4 hbk
           · first | exact (hgw3.trans (World.grownBy_alloc w3 _ _)).andThen hgrow4 (fun i e => .inl (hown.lt i e).1) | exact ((hgw3.trans (World.grownBy_alloc w3 _ _)).trans (World.grownBy_alloc _ _ _)).andThen hgrow4 (fun i e => .inl (hown.lt i e).1))
        | (simp [intOf]; omega)
    · have hconv := conv_own hown
      have hl : zs.length = k := by have := hown.1; simpa using this
      have HL := Lib.hid hl
      clear hl
      go_wp2
      go_ret
      exact ⟨strOfNums zs, p + 1 + 2 * k, rfl, by rw [strOfNums_size, HL.out]; omega, by omega, hRk, hgk⟩

end Go.Proofs.Ytmmckpjapnkepaa
