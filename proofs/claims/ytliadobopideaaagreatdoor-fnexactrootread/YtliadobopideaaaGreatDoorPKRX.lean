/- The exact law's own marks on a root that was read. Conditions: the root's own bound on sizes. -/
import Derived.Test.YtliadobopideaaaGreatDoorPKRU
import Derived.Test.YtliadobopideaaaGreatDoorPKRF
import Derived.Test.YtliadobopideaaaGreatDoorPKW1
namespace Go.Proofs.YtliadobopideaaaGreatDoor
open Go.RowKit Go.Sort

theorem gb_refl (w : World) (r : Option Nat) : w.grownBy w r := ⟨rfl, rfl, rfl, Nat.le_refl _, fun _ _ _ => rfl⟩
/-- THE DIGITS, put before a text. -/
def digT (k : Nat) (out : ByteArray) : ByteArray := if _h : k = 0 then out else digT (k / 10) (strOfNums [48 + (k : Int) % 10] ++ out)
termination_by k
decreasing_by omega
theorem digT_zero (out : ByteArray) : digT 0 out = out := by rw [digT]; rfl
theorem digT_pos {k : Nat} (out : ByteArray) (h : 0 < k) : digT k out = digT (k / 10) (strOfNums [48 + (k : Int) % 10] ++ out) := by rw [digT, dif_neg (by omega)]

theorem conv_1 (w : World) (z : Int) : (convert 22 9 (.slice (some ⟨w.heap.size, 0, none⟩) 1 1)).run Tryz.prog (w.alloc (.cells #[.int .u8 z] 5)) = .ok (.string (strOfNums [z])) (w.alloc (.cells #[.int .u8 z] 5)) := by
  refine run_convert_bytes_arg _ 22 5 Tryz.underlying22 Tryz.underlying5 w.heap.size 0 1 1 [z] rfl (fun i hi => ?_) 9 Tryz.underlying9
  have : i = 0 := by simp at hi; omega
  subst this
  exact news_new w (.int .u8 z) 5 w.heap.size rfl 0 _ rfl

/-- A MARK. -/
def mkT (k : Nat) : ByteArray := ⟨#[109]⟩ ++ digT k ByteArray.empty
theorem ret_tx {a b : ByteArray} (h : a = b) : Ending.returned (.string a) = .returned (.string b) := by rw [h]

set_option maxRecDepth 100000 in
set_option maxHeartbeats 1000000 in
theorem mkText_pos (k0 : Nat) (w : World) (hk0 : 0 < k0) (hb : k0 ≤ 100000000) :
    Calls Tryz.prog 79 #[.int .i64 (k0 : Int)] w fun e w' => e = .returned (.string (mkT k0)) ∧ Below w.heap.size w w' := by
  have d0 : decide ((k0 : Int) ≤ 0) = false := by simp; omega
  go_enter Tryz.func79, Tryz.ntmps79
  go_wp2_with fail
  go_loopw [0, 3] (fun kv o wr => ∃ (k : Nat) (out : ByteArray), kv = .int .i64 (k : Int) ∧ o = .string out ∧ out.size + k ≤ k0 ∧ Hid (digT k out = digT k0 ByteArray.empty) ∧ Below w.heap.size w wr) (fun kv _ _ => (intOf kv).toNat)
  case atStart => exact ⟨k0, ByteArray.empty, rfl, rfl, by simp, rfl, Below.refl _ _⟩
  case round =>
    obtain ⟨k, out, rfl, rfl, hs, hd, hB⟩ := hrel
    by_cases hk : 0 < k
    · have HD : Hid (digT (k / 10) (strOfNums [48 + (k : Int) % 10] ++ out) = digT k0 ByteArray.empty) := (digT_pos out hk).symm.trans hd.out
      have hconv := conv_1 wr (48 + (k : Int) % 10)
      have hz : (strOfNums [48 + (k : Int) % 10]).size = 1 := by rw [strOfNums_size]; rfl
      have hsz : (strOfNums [48 + (k : Int) % 10] ++ out).size = 1 + out.size := by rw [ByteArray.size_append, hz]
      generalize strOfNums [48 + (k : Int) % 10] = d at HD hconv hz hsz
      have HB2 : Hid (Below w.heap.size w (wr.alloc (.cells #[.int .u8 (48 + (k : Int) % 10)] 5))) := hB.alloc hB.size _
      go_wp2
      exact ⟨⟨k / 10, d ++ out, by go_num, rfl, by omega, HD, HB2.out⟩, by simp [intOf]; omega⟩
    · obtain rfl : k = 0 := by omega
      have HO : Hid (out = digT k0 ByteArray.empty) := (digT_zero out).symm.trans hd.out
      go_wp2
      go_ret
      exact ⟨ret_tx (congrArg _ HO.out), hB⟩
/-- MARKED PLACES. -/
def mkPl (k n : Nat) : List PlD := (List.range n).map fun j => (((k + j * 2 : Nat) : Int), ((k + j * 2 : Nat) : Int) + 1)
theorem mkPl_length (k n : Nat) : (mkPl k n).length = n := by simp [mkPl]
theorem mkPl_get (k n j : Nat) (hj : j < n) : (mkPl k n).getD j pl0 = (((k + j * 2 : Nat) : Int), ((k + j * 2 : Nat) : Int) + 1) := by
  rw [List.getD, mkPl, List.getElem?_map, List.getElem?_range hj]; rfl

set_option maxRecDepth 100000 in
set_option maxHeartbeats 1000000 in
theorem markPlR_own (base g n cap k : Nat) (ys0 : List Value) (w : World) (hk : k + n * 2 ≤ 9000000000000000000) (ho : Hid (w.ownsRow base 83 2 (.slice (some ⟨g, 0, none⟩) n cap) n ys0)) :
    Calls Tryz.prog 109 #[.slice (some ⟨g, 0, none⟩) n cap, .int .i64 (k : Int)] w fun e w' => e = .returned (.int .i64 ((k + n * 2 : Nat) : Int)) ∧ w.grownBy w' (some g) ∧ w'.ownsRow base 83 2 (.slice (some ⟨g, 0, none⟩) n cap) n (plCells (mkPl k n)) := by
  go_enter Tryz.func109, Tryz.ntmps109
  go_wp2_with fail
  go_loopw [1, 5] (fun kv iv wr => ∃ i : Nat, iv = .int .i64 (i : Int) ∧ i ≤ n ∧ kv = .int .i64 ((k + i * 2 : Nat) : Int) ∧ Hid (w.grownBy wr (some g) ∧ ∃ ys, Done (plCells (mkPl k n)) (i * 2) ys ∧ wr.ownsRow base 83 2 (.slice (some ⟨g, 0, none⟩) n cap) n ys)) (fun _ iv _ => n - (intOf iv).toNat)
  case atStart => exact ⟨0, rfl, by omega, rfl, gb_refl _ _, ys0, ⟨by rw [plCells_length, mkPl_length]; exact ho.out.1, fun j hj => by omega⟩, ho.out⟩
  case round =>
    obtain ⟨i, rfl, hi, rfl, hI⟩ := hrel
    by_cases hlt : i < n
    · obtain ⟨hB, ys, hd, ho1⟩ := hI.out
      obtain ⟨x0, f0, _, hxl⟩ := own_cell ho1 (i * 2) (by omega)
      obtain ⟨x1, f1, _, _⟩ := own_cell ho1 (i * 2 + 1) (by omega)
      rw [List.getElem?_eq_getElem (by omega)] at x0 x1
      generalize ys[i * 2]'(by omega) = y0 at x0
      generalize ys[i * 2 + 1]'(by omega) = y1 at x1
      have hkb : k + i * 2 ≤ 8999999999999999998 := by omega
      have hnext : k + (i + 1) * 2 = k + i * 2 + 2 := by omega
      have Q0 : Hid ((plCells (mkPl k n))[i * 2]? = some (.int .i64 ((k + i * 2 : Nat) : Int))) := by
        show (plCells (mkPl k n))[i * 2]? = _
        rw [plCells_get _ _ (by rw [mkPl_length]; omega), plCell_0, mkPl_get k n i hlt]
      have Q1 : Hid ((plCells (mkPl k n))[i * 2 + 1]? = some (.int .i64 (((k + i * 2 : Nat) : Int) + 1))) := by
        show (plCells (mkPl k n))[i * 2 + 1]? = _
        rw [plCells_get _ _ (by rw [mkPl_length]; omega), plCell_1, mkPl_get k n i hlt]
      generalize k + i * 2 = ki at hkb hnext Q0 Q1
      have HN : Hid (w.grownBy ((wr.setCell ⟨g, i * 2, none⟩ (.int .i64 (ki : Int))).setCell ⟨g, i * 2 + 1, none⟩ (.int .i64 ((ki : Int) + 1))) (some g) ∧ ∃ ys, Done (plCells (mkPl k n)) ((i + 1) * 2) ys ∧ ((wr.setCell ⟨g, i * 2, none⟩ (.int .i64 (ki : Int))).setCell ⟨g, i * 2 + 1, none⟩ (.int .i64 ((ki : Int) + 1))).ownsRow base 83 2 (.slice (some ⟨g, 0, none⟩) n cap) n ys) :=
        ⟨grown_trans (grown_trans hB (grown_set _ _ _ _)) (grown_set _ _ _ _), _, by rw [show (i + 1) * 2 = i * 2 + 1 + 1 by omega]; exact (hd.next Q0.out).next Q1.out, own_set (own_set ho1 _ _) _ _⟩
      clear hB hd ho1 hI Q0 Q1 hxl
      go_wp2
      exact ⟨⟨i + 1, by go_num, by omega, by rw [hnext]; go_num, HN⟩, by simp [intOf]; omega⟩
    · obtain rfl : i = n := by omega
      go_wp2
      go_ret
      obtain ⟨hB, ys, hd, ho1⟩ := hI.out
      rw [hd.all (by rw [plCells_length, mkPl_length]; omega)] at ho1
      exact ⟨rfl, hB, ho1⟩

set_option maxRecDepth 100000 in
set_option maxHeartbeats 1000000 in
theorem markPlR_nil (k : Nat) (w : World) :
    Calls Tryz.prog 109 #[.slice none 0 0, .int .i64 (k : Int)] w fun e w' => e = .returned (.int .i64 (k : Int)) ∧ w = w' := by
  go_enter Tryz.func109, Tryz.ntmps109
  go_wp2_with fail
  go_loop [1, 5] (fun kv iv => kv = .int .i64 (k : Int) ∧ iv = .int .i64 0) (fun _ _ => 0)
  case atStart => exact ⟨rfl, rfl⟩
  case round =>
    obtain ⟨rfl, rfl⟩ := hrel
    go_wp2
    go_ret
    exact ⟨rfl, rfl⟩

/-- MARKING PLACES OF ONE's OWN. -/
theorem markPlR_any (base k : Nat) (v : Value) (ps : List PlD) (w : World) (hk : k + ps.length * 2 ≤ 9000000000000000000) (ho : OwnPl w base v ps) :
    Calls Tryz.prog 109 #[v, .int .i64 (k : Int)] w fun e w' => e = .returned (.int .i64 ((k + ps.length * 2 : Nat) : Int)) ∧ w.grownBy w' v.ownBlock ∧ OwnPl w' base v (mkPl k ps.length) := by
  have ho' := ho
  rcases ho.2 with ⟨rfl, hn⟩ | ⟨g, cap, cur, rfl, hb, _⟩
  · refine (markPlR_nil k w).mono ?_
    rintro e w' ⟨rfl, rfl⟩
    rw [hn]
    exact ⟨rfl, gb_refl _ _, ⟨rfl, .inl ⟨rfl, rfl⟩⟩⟩
  · refine (markPlR_own base g ps.length cap k _ w hk ho').mono ?_
    rintro e w' ⟨he, hB, hw⟩
    refine ⟨he, hB, ?_⟩
    unfold OwnPl
    rw [mkPl_length]
    exact hw

set_option maxRecDepth 100000 in
set_option maxHeartbeats 1000000 in
theorem heldPlR (a : Option Addr) (n cap k : Nat) (w : World) (hk : k + n * 2 ≤ 9000000000000000000) (ha : Hid (PlacesAt w a (mkPl k n))) :
    Calls Tryz.prog 110 #[.slice a n cap, .int .i64 (k : Int)] w fun e w' => e = .returned (.int .i64 ((k + n * 2 : Nat) : Int)) ∧ Below w.heap.size w w' := by
  go_enter Tryz.func110, Tryz.ntmps110
  go_wp2_with fail
  go_loopw [1, 5] (fun kv iv wr => ∃ i : Nat, iv = .int .i64 (i : Int) ∧ i ≤ n ∧ kv = .int .i64 ((k + i * 2 : Nat) : Int) ∧ Hid (Below w.heap.size w wr)) (fun _ iv _ => n - (intOf iv).toNat)
  case atStart => exact ⟨0, rfl, by omega, rfl, Below.refl _ _⟩
  case round =>
    obtain ⟨i, rfl, hi, rfl, hB⟩ := hrel
    by_cases hlt : i < n
    · obtain ⟨b, off, rfl, hc⟩ := (ha.out.below hB.out).resolve_left (fun e => by have := mkPl_length k n; rw [e] at this; simp at this; omega)
      obtain ⟨c0, c1⟩ := hc i (by rw [mkPl_length]; exact hlt)
      rw [mkPl_get k n i hlt] at c0 c1
      simp only at c0 c1
      clear hc
      have hkb : k + i * 2 ≤ 8999999999999999998 := by omega
      have hnext : k + (i + 1) * 2 = k + i * 2 + 2 := by omega
      generalize k + i * 2 = ki at hkb hnext c0 c1
      have i1 : (i : Int) < (n : Int) := by omega
      have i0 : (0 : Int) ≤ (i : Int) := by omega
      have e0 : ((ki : Int) != (ki : Int)) = false := by simp
      have e1 : ((ki : Int) + 1 != (ki : Int) + 1) = false := by simp
      go_wp2
      exact ⟨⟨i + 1, by go_num, by omega, by rw [hnext]; go_num, hB⟩, by simp [intOf]; omega⟩
    · obtain rfl : i = n := by omega
      go_wp2
      go_ret
      exact ⟨rfl, hB.out⟩

/-! ### what a mark changes -/
structure MkF (B : Nat → Prop) (w w' : World) : Prop where
  os : w'.os = w.os
  tape : w'.tape = w.tape
  output : w'.output = w.output
  size : w.heap.size ≤ w'.heap.size
  block : ∀ b, b < w.heap.size → ¬B b → w'.heap[b]? = w.heap[b]?
theorem MkF.refl (B : Nat → Prop) (w : World) : MkF B w w := ⟨rfl, rfl, rfl, Nat.le_refl _, fun _ _ _ => rfl⟩
theorem MkF.trans {B : Nat → Prop} {w w1 w2 : World} (h : MkF B w w1) (k : MkF B w1 w2) : MkF B w w2 :=
  ⟨k.os.trans h.os, k.tape.trans h.tape, k.output.trans h.output, Nat.le_trans h.size k.size, fun b hb hn => (k.block b (Nat.lt_of_lt_of_le hb h.size) hn).trans (h.block b hb hn)⟩
theorem MkF.wide {B C : Nat → Prop} {w w' : World} (h : MkF B w w') (hc : ∀ b, B b → C b) : MkF C w w' := ⟨h.os, h.tape, h.output, h.size, fun b hb hn => h.block b hb (fun k => hn (hc b k))⟩
theorem MkF.grown {B : Nat → Prop} {w w' : World} {r : Option Nat} (G : w.grownBy w' r) (hr : ∀ b, r = some b → B b) : MkF B w w' := ⟨G.os, G.tape, G.output, G.size, fun b hb hn => G.block b hb (fun e => hn (hr b e.symm))⟩
theorem MkF.below {B : Nat → Prop} {w w' : World} {n : Nat} (h : MkF B w w') (hn : n ≤ w.heap.size) (hb : ∀ b, B b → n ≤ b) : Below n w w' :=
  ⟨h.os, h.tape, h.output, h.size, fun k hk => h.block k (by omega) (fun e => by have := hb k e; omega)⟩
theorem own_at {w w' : World} {base K n : Nat} {e : TypeId} {v : Value} {xs : List Value} (h : w.ownsRow base e K v n xs) (hh : ∀ b, v.ownBlock = some b → w'.heap[b]? = w.heap[b]?) : w'.ownsRow base e K v n xs := by
  refine ⟨h.1, ?_⟩
  rcases h.2 with hn | ⟨g, cap, cur, rfl, hb, hg, rest⟩
  · exact .inl hn
  · exact .inr ⟨g, cap, cur, rfl, hb, by rw [hh g rfl]; exact hg, rest⟩
theorem own_keptF {w w' : World} {B : Nat → Prop} {base K n : Nat} {e : TypeId} {v : Value} {xs : List Value} (h : w.ownsRow base e K v n xs) (F : MkF B w w') (hB : ∀ b, v.ownBlock = some b → ¬B b) : w'.ownsRow base e K v n xs :=
  own_at h (fun b hb => F.block b (h.lt b hb).2 (hB b hb))
/-- The blocks of a volume's pointers and of their places. -/
def PtB (v : Value) (ys : List Value) (n : Nat) (b : Nat) : Prop := v.ownBlock = some b ∨ ∃ j u, j < n ∧ ys[j * 3 + 2]? = some u ∧ u.ownBlock = some b
theorem PtX.keptF {w w' : World} {B : Nat → Prop} {base : Nat} {v : Value} {ps : List PtrD} {ys : List Value} (h : PtX w base v ps ys) (F : MkF B w w') (hB : ∀ b, PtB v ys ps.length b → ¬B b) : PtX w' base v ps ys :=
  ⟨own_keptF h.row F (fun b hb => hB b (.inl hb)), ⟨h.each.1, fun j hj => by obtain ⟨a, b, u, c, d⟩ := h.each.2 j hj; exact ⟨a, b, u, c, own_keptF d F (fun x hx => hB x (.inr ⟨j, u, hj, c, hx⟩))⟩⟩, h.asc⟩

/-! ### pointers -/
def ptAt (k : Nat) (ps : List PtrD) : Nat → Nat
  | 0 => k
  | i + 1 => ptAt k ps i + 2 + (ps.getD i ptr0).places.length * 2
def mkPt (k : Nat) (ps : List PtrD) : List PtrD := (List.range ps.length).map fun i => ⟨((ptAt k ps i : Nat) : Int), ((ptAt k ps i : Nat) : Int) + 1, mkPl (ptAt k ps i + 2) (ps.getD i ptr0).places.length⟩
theorem mkPt_length (k : Nat) (ps : List PtrD) : (mkPt k ps).length = ps.length := by simp [mkPt]
theorem mkPt_get (k : Nat) (ps : List PtrD) (i : Nat) (h : i < ps.length) : (mkPt k ps).getD i ptr0 = ⟨((ptAt k ps i : Nat) : Int), ((ptAt k ps i : Nat) : Int) + 1, mkPl (ptAt k ps i + 2) (ps.getD i ptr0).places.length⟩ := by
  rw [List.getD, mkPt, List.getElem?_map, List.getElem?_range h]; rfl
theorem ptAt_le {k N : Nat} {ps : List PtrD} (h : ∀ j, j < ps.length → (ps.getD j ptr0).places.length ≤ N) : ∀ i, i ≤ ps.length → ptAt k ps i ≤ k + i * (2 + N * 2) := by
  intro i
  induction i with
  | zero => intro _; simp [ptAt]
  | succ i ih =>
    intro hi
    have h1 := ih (by omega)
    have h2 := h i (by omega)
    unfold ptAt
    rw [Nat.succ_mul]
    omega
/-- The first i are marked. -/
structure PtM (w : World) (base : Nat) (v : Value) (k : Nat) (ps : List PtrD) (ys0 : List Value) (i : Nat) (ys : List Value) : Prop where
  row : w.ownsRow base 54 3 v ps.length ys
  same : ∀ j, ys[j * 3 + 2]? = ys0[j * 3 + 2]?
  done : ∀ j, j < i → ys[j * 3]? = some (.int .i64 ((ptAt k ps j : Nat) : Int)) ∧ ys[j * 3 + 1]? = some (.int .i64 (((ptAt k ps j : Nat) : Int) + 1)) ∧ ∃ u, ys[j * 3 + 2]? = some u ∧ OwnPl w base u (mkPl (ptAt k ps j + 2) (ps.getD j ptr0).places.length)
  todo : ∀ j, i ≤ j → j < ps.length → (∃ a, ys[j * 3]? = some a) ∧ (∃ a, ys[j * 3 + 1]? = some a) ∧ ∃ u, ys[j * 3 + 2]? = some u ∧ OwnPl w base u (ps.getD j ptr0).places
theorem PtM.start {w : World} {base k : Nat} {v : Value} {ps : List PtrD} {ys : List Value} (h : PtX w base v ps ys) : PtM w base v k ps ys 0 ys :=
  ⟨h.row, fun _ => rfl, fun _ hj => absurd hj (Nat.not_lt_zero _), fun j _ hj => by obtain ⟨a, b, u, c, d⟩ := h.each.2 j hj; exact ⟨⟨_, a⟩, ⟨_, b⟩, u, c, d⟩⟩
theorem PtM.stop {w w0 : World} {base k : Nat} {v : Value} {ps : List PtrD} {ys0 ys : List Value} (h : PtM w base v k ps ys0 ps.length ys) (h0 : PtX w0 base v ps ys0) : PtX w base v (mkPt k ps) ys := by
  refine ⟨by rw [mkPt_length]; exact h.row, ⟨by rw [mkPt_length]; exact h.row.1, fun j hj => ?_⟩, fun i j ui uj bi bj hij hj hi hj2 hbi hbj => ?_⟩
  · rw [mkPt_length] at hj
    rw [mkPt_get k ps j hj]
    exact h.done j hj
  · rw [mkPt_length] at hj
    rw [h.same] at hi hj2
    exact h0.asc i j ui uj bi bj hij hj hi hj2 hbi hbj
/-- One more is marked. -/
theorem PtM.next {w w9 : World} {base k i g n cap : Nat} {ps : List PtrD} {ys0 ys : List Value} {u : Value} {w0 : World} (h0 : PtX w0 base (.slice (some ⟨g, 0, none⟩) n cap) ps ys0) (h : PtM w base (.slice (some ⟨g, 0, none⟩) n cap) k ps ys0 i ys) (hn : n = ps.length) (hi : i < ps.length)
    (hu : ys[i * 3 + 2]? = some u) (G : ((w.setCell ⟨g, i * 3, none⟩ (.int .i64 ((ptAt k ps i : Nat) : Int))).setCell ⟨g, i * 3 + 1, none⟩ (.int .i64 (((ptAt k ps i : Nat) : Int) + 1))).grownBy w9 u.ownBlock) (hm : OwnPl w9 base u (mkPl (ptAt k ps i + 2) (ps.getD i ptr0).places.length)) :
    PtM w9 base (.slice (some ⟨g, 0, none⟩) n cap) k ps ys0 (i + 1) ((ys.set (i * 3) (.int .i64 ((ptAt k ps i : Nat) : Int))).set (i * 3 + 1) (.int .i64 (((ptAt k ps i : Nat) : Int) + 1))) ∧ MkF (PtB (.slice (some ⟨g, 0, none⟩) n cap) ys0 ps.length) w w9 := by
  subst hn
  have hl : ys.length = ps.length * 3 := h.row.1
  have R1 := own_set (own_set h.row (i * 3) (.int .i64 ((ptAt k ps i : Nat) : Int))) (i * 3 + 1) (.int .i64 (((ptAt k ps i : Nat) : Int) + 1))
  have G0 : w.grownBy ((w.setCell ⟨g, i * 3, none⟩ (.int .i64 ((ptAt k ps i : Nat) : Int))).setCell ⟨g, i * 3 + 1, none⟩ (.int .i64 (((ptAt k ps i : Nat) : Int) + 1))) (some g) := grown_trans (grown_set _ _ _ _) (grown_set _ _ _ _)
  generalize ((w.setCell ⟨g, i * 3, none⟩ (.int .i64 ((ptAt k ps i : Nat) : Int))).setCell ⟨g, i * 3 + 1, none⟩ (.int .i64 (((ptAt k ps i : Nat) : Int) + 1))) = w1 at R1 G0 G
  obtain ⟨_, _, u', c', d'⟩ := h.todo i (Nat.le_refl _) hi
  rw [hu] at c'
  cases c'
  have sL : NotT w (some g) 83 := (NotT.row (T := 83) h.row (by decide))
  have d1 : OwnPl w1 base u (ps.getD i ptr0).places := d'.keptT G0 sL
  have uP : NotT w1 u.ownBlock 54 := .row d1 (by decide)
  have hne : ∀ j, j ≠ i → j < ps.length → ∀ x, ys[j * 3 + 2]? = some x → x.ownBlock = none ∨ x.ownBlock ≠ u.ownBlock := fun j hji hj x hx => by
    cases hb : x.ownBlock with
    | none => exact .inl rfl
    | some b =>
      refine .inr fun e => ?_
      rw [h.same] at hx hu
      rcases Nat.lt_or_gt_of_ne hji with hlt | hlt
      · have := h0.asc j i x u b b hlt hi hx hu hb e.symm; omega
      · have := h0.asc i j u x b b hlt hj hu hx e.symm hb; omega
  have hk : ∀ j, j ≠ i → j < ps.length → ∀ x l, ys[j * 3 + 2]? = some x → OwnPl w base x l → OwnPl w9 base x l := fun j hji hj x l hx hl' => by
    have h1 : OwnPl w1 base x l := hl'.keptT G0 sL
    have h2 := h1.kept G (hne j hji hj x hx)
    exact h2
  refine ⟨⟨own_keptT R1 G uP, fun j => ?_, fun j hj => ?_, fun j hj hj2 => ?_⟩, (MkF.grown G0 (fun b e => .inl e)).trans (MkF.grown G (fun b e => .inr ⟨i, u, hi, by rw [← h.same]; exact hu, e⟩))⟩
  · rw [List.getElem?_set_ne (by omega), List.getElem?_set_ne (by omega)]; exact h.same j
  · by_cases e : j = i
    · subst e
      rw [List.getElem?_set_ne (by omega), List.getElem?_set_self (by omega), List.getElem?_set_self (by rw [List.length_set]; omega), List.getElem?_set_ne (by omega), List.getElem?_set_ne (by omega)]
      exact ⟨rfl, rfl, u, hu, hm⟩
    · obtain ⟨a, b, x, c, d⟩ := h.done j (by omega)
      rw [List.getElem?_set_ne (by omega), List.getElem?_set_ne (by omega), List.getElem?_set_ne (by omega), List.getElem?_set_ne (by omega), List.getElem?_set_ne (by omega), List.getElem?_set_ne (by omega)]
      exact ⟨a, b, x, c, hk j e (by omega) x _ c d⟩
  · obtain ⟨a, b, x, c, d⟩ := h.todo j (by omega) hj2
    rw [List.getElem?_set_ne (by omega), List.getElem?_set_ne (by omega), List.getElem?_set_ne (by omega), List.getElem?_set_ne (by omega), List.getElem?_set_ne (by omega), List.getElem?_set_ne (by omega)]
    exact ⟨a, b, x, c, hk j (by omega) hj2 x _ c d⟩

set_option linter.unusedSimpArgs false in
set_option maxRecDepth 100000 in
set_option maxHeartbeats 4000000 in
theorem markPtR_any (base k N : Nat) (v : Value) (ps : List PtrD) (ys0 : List Value) (w : World) (_hb : base ≤ w.heap.size) (hN : ∀ j, j < ps.length → (ps.getD j ptr0).places.length ≤ N) (hk : k + ps.length * (2 + N * 2) ≤ 100000000) (h : PtX w base v ps ys0) :
    Calls Tryz.prog 80 #[v, .int .i64 (k : Int)] w fun e w' => e = .returned (.int .i64 ((ptAt k ps ps.length : Nat) : Int)) ∧ MkF (PtB v ys0 ps.length) w w' ∧ ∃ ys, PtX w' base v (mkPt k ps) ys ∧ ∀ j, ys[j * 3 + 2]? = ys0[j * 3 + 2]? := by
  have HX := Lib.hid h
  have hpl : ps.length ≤ 100000000 := by have := Nat.le_mul_of_pos_right ps.length (show 0 < 2 + N * 2 by omega); omega
  have hat := fun i hi => ptAt_le (k := k) hN i hi
  obtain ⟨va, vc, hv, hvn⟩ : ∃ a c, v = .slice a ps.length c ∧ (0 < ps.length → ∃ g, a = some ⟨g, 0, none⟩) := by
    rcases h.row.2 with ⟨e, hz⟩ | ⟨g, cap, _, e, _⟩
    · exact ⟨none, 0, by rw [e, hz], fun hp => by omega⟩
    · exact ⟨_, cap, e, fun _ => ⟨g, rfl⟩⟩
  subst hv
  clear h
  have HAT := Lib.hid hat
  have HVN := Lib.hid hvn
  clear hat hvn
  go_enter Tryz.func80, Tryz.ntmps80
  go_wp2_with fail
  go_loopw [1, 5] (fun kv iv wr => ∃ i : Nat, iv = .int .i64 (i : Int) ∧ i ≤ ps.length ∧ kv = .int .i64 ((ptAt k ps i : Nat) : Int) ∧ Hid (∃ ys, PtM wr base (.slice va ps.length vc) k ps ys0 i ys ∧ MkF (PtB (.slice va ps.length vc) ys0 ps.length) w wr)) (fun _ iv _ => ps.length - (RowKit.intOf iv).toNat)
  case atStart => exact ⟨0, rfl, by omega, rfl, _, PtM.start HX.out, MkF.refl _ _⟩
  case round =>
    obtain ⟨i, rfl, hi, rfl, hI⟩ := hrel
    by_cases hlt : i < ps.length
    · obtain ⟨ys, hM, hF⟩ := hI.out
      obtain ⟨g, rfl⟩ := HVN.out (by omega)
      obtain ⟨⟨y0, h0⟩, ⟨y1, h1⟩, u, h2, h3⟩ := hM.todo i (Nat.le_refl _) hlt
      obtain ⟨x0, f0, _, _⟩ := own_cell hM.row (i * 3) (by omega)
      obtain ⟨x1, f1, _, _⟩ := own_cell hM.row (i * 3 + 1) (by omega)
      obtain ⟨x2, _, _, _⟩ := own_cell hM.row (i * 3 + 2) (by omega)
      rw [h0] at x0
      rw [h1] at x1
      rw [h2] at x2
      have hkb := HAT.out i hi
      have hn1 := hN i hlt
      have hbd : ptAt k ps i ≤ 100000000 := by
        have : i * (2 + N * 2) ≤ ps.length * (2 + N * 2) := Nat.mul_le_mul_right _ hi
        omega
      have hbd2 : ptAt k ps i + 2 + (ps.getD i ptr0).places.length * 2 ≤ 100000000 := by
        have h4 := HAT.out (i + 1) hlt
        have : (i + 1) * (2 + N * 2) ≤ ps.length * (2 + N * 2) := Nat.mul_le_mul_right _ hlt
        have e : ptAt k ps (i + 1) = ptAt k ps i + 2 + (ps.getD i ptr0).places.length * 2 := rfl
        omega
      have hnext : Hid (ptAt k ps (i + 1) = ptAt k ps i + 2 + (ps.getD i ptr0).places.length * 2) := rfl
      have HP := Lib.hid (fun W hW => markPlR_any base (ptAt k ps i + 2) u (ps.getD i ptr0).places W (by omega) hW)
      have HNX := Lib.hid (fun w9 G hm => PtM.next (w9 := w9) HX.out hM rfl hlt h2 G hm)
      have sL : NotT wr (some g) 83 := (NotT.row (T := 83) hM.row (by decide))
      have O1 := Lib.hid (h3.keptT (grown_trans (grown_set wr g (i * 3) (.int .i64 ((ptAt k ps i : Nat) : Int))) (grown_set _ g (i * 3 + 1) (.int .i64 (((ptAt k ps i : Nat) : Int) + 1)))) sL)
      have HF := Lib.hid hF
      generalize (ps.getD i ptr0).places.length = len at hnext HP HNX hbd2
      generalize (ps.getD i ptr0).places = pls at HP O1
      clear hM hF h0 h1 h2 h3 sL hI hkb hn1
      generalize hK : ptAt k ps i = K at hnext HP HNX O1 hbd hbd2 ⊢
      clear hK
      obtain ⟨ua, un, uc, rfl⟩ : ∃ a n c, u = .slice a n c := by
        rcases O1.out.2 with ⟨e, _⟩ | ⟨_, _, _, e, _⟩
        · exact ⟨_, _, _, e⟩
        · exact ⟨_, _, _, e⟩
      have i0 : (0 : Int) ≤ (i : Int) := by omega
      have i1 : (i : Int) < (ps.length : Int) := by omega
      go_wp2_with fail
      rw [show (K : Int) + 1 + 1 = ((K + 2 : Nat) : Int) by omega]
      refine (HP.out _ O1.out).mono ?_
      rintro e w9 ⟨rfl, G9, hm9⟩
      obtain ⟨hM9, hF9⟩ := HNX.out w9 G9 hm9
      have H9 : Hid (∃ ys, PtM w9 base (.slice (some ⟨g, 0, none⟩) ps.length vc) k ps ys0 (i + 1) ys ∧ MkF (PtB (.slice (some ⟨g, 0, none⟩) ps.length vc) ys0 ps.length) w w9) := ⟨_, hM9, HF.out.trans hF9⟩
      clear hM9 hF9 G9 hm9 HNX O1 HP HF
      go_wp2
      exact ⟨⟨i + 1, by go_num, by omega, by rw [hnext.out]; congr 1, H9⟩, by simp [RowKit.intOf]; omega⟩
    · obtain rfl : i = ps.length := by omega
      go_wp2
      go_ret
      obtain ⟨ys, hM, hF⟩ := hI.out
      exact ⟨rfl, hF, ys, hM.stop HX.out, hM.same⟩

end Go.Proofs.YtliadobopideaaaGreatDoor
