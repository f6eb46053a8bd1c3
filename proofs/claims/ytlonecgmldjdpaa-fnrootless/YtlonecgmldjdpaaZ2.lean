/- Sorting a row of places of one's own by slices.SortFunc. Conditions: fewer than 2^62 places. -/
import Derived.Test.YtlonecgmldjdpaaZ1
import Derived.Test.YtlonecgmldjdpaaS6
import Derived.Test.YtlonecgmldjdpaaShelf
import Derived.Test.YtlonecgmldjdpaaShelfS
import Derived.StillTailTactics
namespace Go.Proofs.Ytlonecgmldjdpaa
open Go.RowKit Go.Sort Go.Lib

def encPl (x : PlD) : List Value := [.int .i64 x.1, .int .i64 x.2]
theorem flat_get (ps : List PlD) (i : Nat) (h : i < ps.length * 2) : (flatK encPl 2 ps.toArray)[i]! = plCell ps i := by
  rw [get_flatK _ _ _ _ (by simpa using h)]
  have hi : i / 2 < ps.length := by omega
  have e : ps.toArray[i / 2]! = ps.getD (i / 2) pl0 := by
    rw [getElem!_pos _ _ (by simpa using hi), List.getD, List.getElem?_eq_getElem hi]
    simp
  rw [e]
  unfold plCell encPl
  by_cases h0 : i % 2 = 0
  · rw [if_pos h0, h0]; rfl
  · rw [if_neg h0, show i % 2 = 1 by omega]; rfl
theorem own_holds {w : World} {base g cap : Nat} {ps : List PlD} (h : w.ownsRow base 39 2 (.slice (some ⟨g, 0, none⟩) ps.length cap) ps.length (plCells ps)) : HoldsK encPl 2 w g 0 ps.toArray := by
  intro j hj
  have hj' : j < ps.length * 2 := by simpa using hj
  obtain ⟨h1, h2, _, _⟩ := own_cell h j hj'
  rw [Nat.zero_add, flat_get ps j hj', h1, plCells_get ps j hj']
  exact ⟨rfl, h2⟩
theorem own_sorted {w : World} {base g cap : Nat} {ps : List PlD} (h : w.ownsRow base 39 2 (.slice (some ⟨g, 0, none⟩) ps.length cap) ps.length (plCells ps)) (hbs : base ≤ w.heap.size) (qs : List PlD) (hl : qs.length = ps.length) (m : Nat) (os : Array Obj) :
    (sortWorldK encPl 2 w g 0 m qs.toArray os).ownsRow base 39 2 (.slice (some ⟨g, 0, none⟩) ps.length cap) ps.length (plCells qs) ∧ Below base w (sortWorldK encPl 2 w g 0 m qs.toArray os) := by
  rcases h.2 with ⟨hv, _⟩ | ⟨g', cap', cur, hv, hb, hg, hkc, hcm, hcs, hx⟩
  · cases hv
  · cases hv
    have hlt : g < w.heap.size := (Array.getElem?_eq_some_iff.1 hg).1
    have hW : (putRowK encPl 2 (Sort.ahead w m) g 0 qs.toArray).heap = w.heap.modify g (onCells (putCells id 0 (flatK encPl 2 qs.toArray))) := rfl
    have hsz : (putRowK encPl 2 (Sort.ahead w m) g 0 qs.toArray).heap.size = w.heap.size := by rw [hW, Array.size_modify]
    have hB1 : Below base w (putRowK encPl 2 (Sort.ahead w m) g 0 qs.toArray) := ⟨rfl, rfl, rfl, by rw [hsz]; exact Nat.le_refl _, fun k hk => by
      rw [hW, Array.getElem?_modify, if_neg (by omega)]⟩
    have hB2 : Below w.heap.size (putRowK encPl 2 (Sort.ahead w m) g 0 qs.toArray) (sortWorldK encPl 2 w g 0 m qs.toArray os) := by
      refine ⟨rfl, rfl, rfl, ?_, fun k hk => ?_⟩
      · unfold sortWorldK
        rw [size_grow]
        omega
      · show ((putRowK encPl 2 (Sort.ahead w m) g 0 qs.toArray).heap ++ os)[k]? = _
        rw [Array.getElem?_append_left (by rw [hsz]; exact hk)]
    refine ⟨⟨by rw [plCells_length, hl], .inr ⟨g, cap, putCells id 0 (flatK encPl 2 qs.toArray) cur, rfl, hb, ?_, hkc, hcm, ?_, ?_⟩⟩, hB1.trans (hB2.mono hbs)⟩
    · rw [hB2.block g hlt, hW, Array.getElem?_modify, if_pos rfl, hg]
      rfl
    · unfold putCells
      rw [Array.size_mapIdx, hcs]
    · refine List.ext_getElem? fun i => ?_
      by_cases hi : i < ps.length * 2
      · have hic : i < cur.size := by rw [hcs]; omega
        rw [List.getElem?_take, if_pos hi, Array.getElem?_toList, plCells_get qs i (by omega)]
        unfold putCells
        rw [Array.getElem?_mapIdx, Array.getElem?_eq_getElem hic, Option.map_some, if_pos (by simp; omega), Nat.sub_zero, flat_get qs i (by omega)]
        rfl
      · rw [List.getElem?_eq_none (by rw [List.length_take]; omega), List.getElem?_eq_none (by rw [plCells_length]; omega)]

set_option maxRecDepth 100000 in
set_option maxHeartbeats 1000000 in
theorem or_any0 (b : Nat) (x y : Int) (w : World) (h0 : w.cell? ⟨b, 0, none⟩ = some (.int .i64 x)) (h1 : w.cell? ⟨b, 1, none⟩ = some (.int .i64 y)) :
    Calls Try.prog 60 #[.slice (some ⟨b, 0, none⟩) 2 2] w fun e w' => e = .returned (.int .i64 (if x = 0 then y else x)) ∧ w = w' := by
  by_cases hx : x = 0
  · subst hx
    rw [if_pos rfl]
    by_cases hy : y = 0
    · subst hy
      go_enter Try.func60, Try.ntmps60
      go_wp2_with fail
      refine wp_loop_rounds 3 ?_
      rw [rounds_succ]
      go_wp2
      rw [rounds_succ]
      go_wp2
      rw [rounds_succ]
      go_wp2
      go_ret
      exact ⟨rfl, rfl⟩
    · have d1 : (y != 0) = true := by simp [hy]
      clear hy
      go_enter Try.func60, Try.ntmps60
      go_wp2_with fail
      refine wp_loop_rounds 2 ?_
      rw [rounds_succ]
      go_wp2
      rw [rounds_succ]
      go_wp2
      go_ret
      exact ⟨rfl, rfl⟩
  · have d1 : (x != 0) = true := by simp [hx]
    rw [if_neg hx]
    clear hx
    go_enter Try.func60, Try.ntmps60
    go_wp2_with fail
    refine wp_loop_rounds 1 ?_
    rw [rounds_succ]
    go_wp2
    go_ret
    exact ⟨rfl, rfl⟩

/-- The first of two numbers that is not 0. -/
def orI (x y : Int) : Int := if x = 0 then y else x
theorem or_any (b : Nat) (x y : Int) (w : World) (h0 : w.cell? ⟨b, 0, none⟩ = some (.int .i64 x)) (h1 : w.cell? ⟨b, 1, none⟩ = some (.int .i64 y)) :
    Calls Try.prog 60 #[.slice (some ⟨b, 0, none⟩) 2 2] w fun e w' => e = .returned (.int .i64 (orI x y)) ∧ w = w' := or_any0 b x y w h0 h1

theorem wp_region_tail {P : Program} {id : Nat} {Q : Exit → Act → World → Prop} {a : Act} {w : World} {l : List Oper} (n : Nat) (hm : P.follows .mixedOrders = true) (hB : Region.lexTailB .any l.toArray n = true)
    (h : wpStill P l.toArray w.drew (fun a' => wpList P l.toArray Q (l.drop n) a' w.drew) (l.take n) a) : (Code.region id l.toArray true).wp P Q a w := wp_region_still_tail n hm hB h

set_option maxRecDepth 100000 in
set_option maxHeartbeats 4000000 in
theorem comparePl_any (x y : PlD) (w : World) :
    Calls Try.prog 33 #[.agg #[.int .i64 x.1, .int .i64 x.2], .agg #[.int .i64 y.1, .int .i64 y.2]] w fun e w' => e = .returned (.int .i64 (plCmp x y)) ∧ ∃ q os', w' = grow (w.drewN q) os' := by
  have HF := Lib.hid (show plCmp x y = orI (compareInt x.1 y.1) (compareInt x.2 y.2) from rfl)
  have HC1 := Lib.hid (fun w' => Try.cmp_Compare_int x.1 y.1 w')
  have HC2 := Lib.hid (fun w' => Try.cmp_Compare_int x.2 y.2 w')
  obtain ⟨a, b⟩ := x
  obtain ⟨c, d⟩ := y
  simp only at HF HC1 HC2 ⊢
  generalize compareInt a c = r1 at HF HC1
  generalize compareInt b d = r2 at HF HC2
  generalize plCmp (a, b) (c, d) = r at HF ⊢
  go_enter Try.func33, Try.ntmps33
  go_wp2_with fail
  have hW : ∃ os, (w.alloc (.cells #[.int .i64 a, .int .i64 b] 39)).alloc (.cells #[.int .i64 c, .int .i64 d] 39) = grow w os := ⟨_, by rw [alloc_eq_grow, alloc_eq_grow, grow_grow]⟩
  have k0 : ((w.alloc (.cells #[.int .i64 a, .int .i64 b] 39)).alloc (.cells #[.int .i64 c, .int .i64 d] 39)).drew.cell? ⟨w.heap.size, 0, none⟩ = some (.int .i64 a) := by simp [go_sem]
  have k1 : ((w.alloc (.cells #[.int .i64 a, .int .i64 b] 39)).alloc (.cells #[.int .i64 c, .int .i64 d] 39)).drew.cell? ⟨w.heap.size, 1, none⟩ = some (.int .i64 b) := by simp [go_sem]
  have k2 : ((w.alloc (.cells #[.int .i64 a, .int .i64 b] 39)).alloc (.cells #[.int .i64 c, .int .i64 d] 39)).drew.cell? ⟨w.heap.size + 1, 0, none⟩ = some (.int .i64 c) := by simp [go_sem]
  have k3 : ((w.alloc (.cells #[.int .i64 a, .int .i64 b] 39)).alloc (.cells #[.int .i64 c, .int .i64 d] 39)).drew.cell? ⟨w.heap.size + 1, 1, none⟩ = some (.int .i64 d) := by simp [go_sem]
  have HW := Lib.hid hW
  clear hW
  refine wp_region_tail 10 (by kernel_rfl) (by kernel_rfl) ?_
  simp only [List.take_succ_cons, List.take_zero, List.drop_succ_cons, List.drop_zero]
  generalize (w.alloc (.cells #[.int .i64 a, .int .i64 b] 39)).alloc (.cells #[.int .i64 c, .int .i64 d] 39) = W at k0 k1 k2 k3 HW ⊢
  have HD : Hid (∃ os, W.drew = grow (w.drewN 1) os) := by
    obtain ⟨os, hos⟩ := HW.out
    exact ⟨os, by rw [hos]; rfl⟩
  clear HW
  generalize W.drew = W2 at k0 k1 k2 k3 HD ⊢
  repeat still_step
  still_call (HC1.out _)
  repeat still_step
  still_call (HC2.out _)
  refine wpStill_nil ?_
  go_wp2_with (go_at_call 60; refine (or_any _ r1 r2 _ (by simp [go_sem]) (by simp [go_sem])).mono ?_; rintro e w9 ⟨rfl, rfl⟩)
  go_ret
  obtain ⟨os, hos⟩ := HD.out
  exact ⟨by rw [HF.out]; rfl, 1, os ++ #[.cells #[.int .i64 r1, .int .i64 r2] 3 (0, 0)], by rw [hos, alloc_eq_grow, grow_grow]⟩

theorem comparePl_lays (blk off size : Nat) (w : World) : CmpLays Try.prog 33 #[] encPl 2 plCmp blk off size w :=
  fun _ _ _ _ x y => comparePl_any x y _

/-- SORTING PLACES OF ONE's OWN. -/
theorem sortPl_any (base : Nat) (v : Value) (ps : List PlD) (w : World) (hbs : base ≤ w.heap.size) (hl : ps.length ≤ 1000000) (ho : OwnPl w base v ps) :
    Calls Try.prog 32 #[v, .func (.func 33) #[] #[]] w fun e w' => e = .returned (.tuple #[]) ∧ OwnPl w' base v (srt ps) ∧ Below base w w' := by
  have h0 : ps = [] → srt ps = ps := by
    rintro rfl
    exact List.eq_nil_of_length_eq_zero (by rw [srt_length]; rfl)
  have eg : ∀ args w, (callFunc 33 args).run Try.prog w = .ok (.enter 33 args) w := enters_of Try.func33 (by kernel_rfl) rfl
  have ho' := ho
  rcases ho.2 with ⟨rfl, hn⟩ | ⟨g, cap, cur, rfl, hb, hg, _⟩
  · have e := h0 (List.eq_nil_of_length_eq_zero hn)
    rw [e]
    have hc := AnyF.slices_SortFunc_none Try.sortPl none 0 (.func (.func 33) #[] #[]) w
    exact hc.mono fun _ _ ⟨he, hw⟩ => by subst hw; exact ⟨he, ho', Below.refl _ _⟩
  · by_cases hp : ps = []
    · have e := h0 hp
      rw [e]
      subst hp
      have hc := AnyF.slices_SortFunc_none Try.sortPl (some ⟨g, 0, none⟩) cap (.func (.func 33) #[] #[]) w
      exact hc.mono fun _ _ ⟨he, hw⟩ => by subst hw; exact ⟨he, ho', Below.refl _ _⟩
    · have hlt : g < w.heap.size := (Array.getElem?_eq_some_iff.1 hg).1
      have hc := AnyQ.slices_SortFunc_total Try.sortPl 2 Try.isAgg39 Try.sizeOf39 encPl (fun _ => rfl) (fun x v hv => by simp [encPl] at hv; rcases hv with rfl | rfl <;> rfl) plCmp swoPl 33 #[] g 0 cap ps.toArray w eg (comparePl_lays g 0 _ w) (own_holds ho') hlt (by simp; omega) totPl
      have hsz : ps.toArray.size = ps.length := by simp
      rw [hsz] at hc
      refine hc.mono ?_
      rintro e w' ⟨he, m, os, hw⟩
      have hs := own_sorted ho' hbs (srt ps) (srt_length ps) m os
      have hw' : w' = sortWorldK encPl 2 w g 0 m (srt ps).toArray os := hw
      rw [← hw'] at hs
      refine ⟨he, ?_, hs.2⟩
      unfold OwnPl
      rw [srt_length]
      exact hs.1

end Go.Proofs.Ytlonecgmldjdpaa
