/- The exact laws' own marks on places, pointers, volumes and roots. Conditions: the row's own bound on sizes. -/
import Derived.Test.YtlonecgmldjdpaaS8
import Derived.Test.YtlonecgmldjdpaaW1
namespace Go.Proofs.Ytlonecgmldjdpaa
open Go.RowKit Go.Sort

/-- Whether a cell holds a slice. -/
def isSl : Value → Bool | .slice _ _ _ => true | _ => false
/-- ONLY MARKS WERE WRITTEN, in blocks from lo to hi: no cell that holds a slice has turned. -/
structure Mk (lo hi : Nat) (w w' : World) : Prop where
  low : Below lo w w'
  high : ∀ k, hi ≤ k → k < w.heap.size → w'.heap[k]? = w.heap[k]?
  cell : ∀ b o v, w.cell? ⟨b, o, none⟩ = some v → ∃ v', w'.cell? ⟨b, o, none⟩ = some v' ∧ isSl v' = isSl v ∧ (isSl v = true → v' = v)
  fr : ∀ b o, b < w.heap.size → w'.frozen? ⟨b, o, none⟩ = w.frozen? ⟨b, o, none⟩
theorem Mk.refl (lo hi : Nat) (w : World) : Mk lo hi w w := ⟨Below.refl _ _, fun _ _ _ => rfl, fun _ _ v h => ⟨v, h, rfl, fun _ => rfl⟩, fun _ _ _ => rfl⟩
theorem Mk.trans {lo hi : Nat} {a b c : World} (h : Mk lo hi a b) (k : Mk lo hi b c) : Mk lo hi a c := by
  refine ⟨h.low.trans k.low, fun i h1 h2 => (k.high i h1 (by have := h.low.size; omega)).trans (h.high i h1 h2), fun i o v hv => ?_, fun i o hi' => (k.fr i o (by have := h.low.size; omega)).trans (h.fr i o hi')⟩
  obtain ⟨v1, c1, s1, e1⟩ := h.cell i o v hv
  obtain ⟨v2, c2, s2, e2⟩ := k.cell i o v1 c1
  exact ⟨v2, c2, s2.trans s1, fun hs => (e2 (s1.trans hs)).trans (e1 hs)⟩
theorem Mk.below {lo hi : Nat} {a b c : World} (h : Mk lo hi a b) (hB : Below b.heap.size b c) (hlo : lo ≤ a.heap.size) : Mk lo hi a c :=
  h.trans ⟨hB.mono (by have := h.low.size; omega), fun i _ h2 => hB.block i h2, fun i o v hv => ⟨v, cell_below hB hv, rfl, fun _ => rfl⟩, fun i o hi' => hB.frozen (p := ⟨i, o, none⟩) hi'⟩
theorem Mk.set {lo hi : Nat} {a w : World} (h : Mk lo hi a w) {b o : Nat} {v u : Value} (hv : w.cell? ⟨b, o, none⟩ = some v) (h1 : isSl v = false) (h2 : isSl u = false) (hb : lo ≤ b) (hb' : b < hi) : Mk lo hi a (w.setCell ⟨b, o, none⟩ u) := by
  refine h.trans ⟨(Below.refl _ _).setCell (p := ⟨b, o, none⟩) hb _, fun k hk _ => Below.heap_setCell _ _ _ _ (by show k ≠ b; omega), fun b' o' v' hv' => ?_, fun b' o' _ => World.frozen?_setCell _ _ _ _⟩
  by_cases e : (⟨b, o, none⟩ : Addr) = ⟨b', o', none⟩
  · rw [← e] at hv' ⊢
    rw [hv] at hv'
    injection hv' with hv'
    subst hv'
    exact ⟨u, World.cell?_setCell_same _ _ _ hv, h2.trans h1.symm, fun hs => by rw [h1] at hs; cases hs⟩
  · exact ⟨v', (World.cell?_setCell_other _ _ _ _ e).trans hv', rfl, fun _ => rfl⟩
theorem Mk.sl {lo hi : Nat} {w w' : World} (h : Mk lo hi w w') {b o : Nat} {a : Option Addr} {n c : Nat} (hv : w.cell? ⟨b, o, none⟩ = some (.slice a n c)) : w'.cell? ⟨b, o, none⟩ = some (.slice a n c) := by
  obtain ⟨v', c1, _, e⟩ := h.cell b o _ hv
  rw [e rfl] at c1
  exact c1

/-- A CELL THAT MAY BE MARKED. -/
def Fit (w : World) (b o : Nat) : Prop := ∃ v, w.cell? ⟨b, o, none⟩ = some v ∧ isSl v = false ∧ w.frozen? ⟨b, o, none⟩ = false
theorem Fit.mk {lo hi : Nat} {w w' : World} {b o : Nat} (h : Fit w b o) (m : Mk lo hi w w') : Fit w' b o := by
  obtain ⟨v, h1, h2, h3⟩ := h
  obtain ⟨v', c1, s1, _⟩ := m.cell b o v h1
  exact ⟨v', c1, s1.trans h2, (m.fr b o (World.block_lt_of_cell? w _ h1)).trans h3⟩
/-- SHAPES of what may be marked. -/
def PlSh (w : World) (lo hi : Nat) (a : Option Addr) (n : Nat) : Prop :=
  n = 0 ∨ ∃ b off, a = some ⟨b, off, none⟩ ∧ lo ≤ b ∧ b < hi ∧ ∀ j, j < n → Fit w b (off + j * 2) ∧ Fit w b (off + j * 2 + 1)
def PtSh (w : World) (lo hi : Nat) (a : Option Addr) (n : Nat) : Prop :=
  n = 0 ∨ ∃ b off, a = some ⟨b, off, none⟩ ∧ lo ≤ b ∧ b < hi ∧ ∀ j, j < n → Fit w b (off + j * 3) ∧ Fit w b (off + j * 3 + 1) ∧ ∃ a' n' c', w.cell? ⟨b, off + j * 3 + 2, none⟩ = some (.slice a' n' c') ∧ n' ≤ 1048576 ∧ PlSh w lo hi a' n'
def VoSh (w : World) (lo hi : Nat) (a : Option Addr) (n : Nat) : Prop :=
  n = 0 ∨ ∃ b off, a = some ⟨b, off, none⟩ ∧ lo ≤ b ∧ b < hi ∧ ∀ j, j < n → Fit w b (off + j * 2) ∧ ∃ a' n' c', w.cell? ⟨b, off + j * 2 + 1, none⟩ = some (.slice a' n' c') ∧ n' ≤ 1048576 ∧ PtSh w lo hi a' n'
theorem PlSh.mk {lo hi : Nat} {w w' : World} {a : Option Addr} {n : Nat} (h : PlSh w lo hi a n) (m : Mk lo hi w w') : PlSh w' lo hi a n := by
  rcases h with h | ⟨b, off, e, h1, h2, hc⟩
  · exact .inl h
  · exact .inr ⟨b, off, e, h1, h2, fun j hj => ⟨(hc j hj).1.mk m, (hc j hj).2.mk m⟩⟩
theorem PtSh.mk {lo hi : Nat} {w w' : World} {a : Option Addr} {n : Nat} (h : PtSh w lo hi a n) (m : Mk lo hi w w') : PtSh w' lo hi a n := by
  rcases h with h | ⟨b, off, e, h1, h2, hc⟩
  · exact .inl h
  · refine .inr ⟨b, off, e, h1, h2, fun j hj => ?_⟩
    obtain ⟨f1, f2, a', n', c', k1, k2, k3⟩ := hc j hj
    exact ⟨f1.mk m, f2.mk m, a', n', c', m.sl k1, k2, k3.mk m⟩
theorem VoSh.mk {lo hi : Nat} {w w' : World} {a : Option Addr} {n : Nat} (h : VoSh w lo hi a n) (m : Mk lo hi w w') : VoSh w' lo hi a n := by
  rcases h with h | ⟨b, off, e, h1, h2, hc⟩
  · exact .inl h
  · refine .inr ⟨b, off, e, h1, h2, fun j hj => ?_⟩
    obtain ⟨f1, a', n', c', k1, k2, k3⟩ := hc j hj
    exact ⟨f1.mk m, a', n', c', m.sl k1, k2, k3.mk m⟩

/-- What one owns may be marked. -/
theorem own_fit {w : World} {base K : Nat} {e : TypeId} {g n cap : Nat} {xs : List Value} {v : Value} (h : w.ownsRow base e K (.slice (some ⟨g, 0, none⟩) n cap) n xs) (i : Nat) (hi : i < n * K) (hv : xs[i]? = some v) (hs : isSl v = false) : Fit w g (0 + i) := by
  obtain ⟨h1, h2, _, _⟩ := own_cell h i hi
  rw [Nat.zero_add]
  exact ⟨v, h1.trans hv, hs, h2⟩
theorem OwnPl.shape {w : World} {base : Nat} {ps : List PlD} {a : Option Addr} {n c : Nat} (h : OwnPl w base (.slice a n c) ps) : PlSh w base w.heap.size a n := by
  have h' := h
  rcases h.2 with ⟨hv, hk⟩ | ⟨g, cap, cur, hv, hb, hg, hkc, hcm, hcs, hx⟩
  · cases hv
    exact .inl rfl
  · cases hv
    refine .inr ⟨g, 0, rfl, hb, (Array.getElem?_eq_some_iff.1 hg).1, fun j hj => ⟨?_, ?_⟩⟩
    · exact own_fit h' (j * 2) (by omega) (by rw [plCells_get ps _ (by omega), plCell_0]) rfl
    · rw [Nat.add_assoc]
      exact own_fit h' (j * 2 + 1) (by omega) (by rw [plCells_get ps _ (by omega), plCell_1]) rfl
theorem OwnPtD.shape {w : World} {base : Nat} {ps : List PtrD} {a : Option Addr} {n c : Nat} (h : OwnPtD w base (.slice a n c) ps) (hs : PtSmall 1048576 ps) : PtSh w base w.heap.size a n := by
  obtain ⟨xs, ho, hr⟩ := h
  have ho' := ho
  rcases ho.2 with ⟨hv, hk⟩ | ⟨g, cap, cur, hv, hb, hg, hkc, hcm, hcs, hx⟩
  · cases hv
    exact .inl rfl
  · cases hv
    refine .inr ⟨g, 0, rfl, hb, (Array.getElem?_eq_some_iff.1 hg).1, fun j hj => ?_⟩
    obtain ⟨q0, q1, u, q2, hu⟩ := hr.2 j hj
    obtain ⟨a', c', rfl, _⟩ := hu.reads
    refine ⟨own_fit ho' (j * 3) (by omega) q0 rfl, ?_, a', _, c', ?_, hs.2 j hj, hu.shape⟩
    · rw [Nat.add_assoc]
      exact own_fit ho' (j * 3 + 1) (by omega) q1 rfl
    · rw [Nat.add_assoc, Nat.zero_add]
      exact (own_cell ho' (j * 3 + 2) (by omega)).1.trans q2
theorem OwnVoD.shape {w : World} {base : Nat} {vs : List VolD} {a : Option Addr} {n c : Nat} (h : OwnVoD w base (.slice a n c) vs) (hs : VoSmall 1048576 vs) : VoSh w base w.heap.size a n := by
  obtain ⟨xs, ho, hr⟩ := h
  have ho' := ho
  rcases ho.2 with ⟨hv, hk⟩ | ⟨g, cap, cur, hv, hb, hg, hkc, hcm, hcs, hx⟩
  · cases hv
    exact .inl rfl
  · cases hv
    refine .inr ⟨g, 0, rfl, hb, (Array.getElem?_eq_some_iff.1 hg).1, fun j hj => ?_⟩
    obtain ⟨q0, u, q2, hu⟩ := hr.2 j hj
    obtain ⟨a', c', rfl, _⟩ := hu.reads
    refine ⟨own_fit ho' (j * 2) (by omega) q0 rfl, a', _, c', ?_, (hs.2 j hj).2.1, hu.shape (hs.2 j hj).2⟩
    rw [Nat.add_assoc, Nat.zero_add]
    exact (own_cell ho' (j * 2 + 1) (by omega)).1.trans q2
/-- A shape lasts while what is there stays. -/
theorem Mk.of_below {lo hi : Nat} {w w' : World} (hB : Below w.heap.size w w') (hlo : lo ≤ w.heap.size) : Mk lo hi w w' := (Mk.refl lo hi w).below hB hlo

/-- MARKED PLACES. -/
def mkPl (k n : Nat) : List PlD := (List.range n).map fun j => (((k + j * 2 : Nat) : Int), ((k + j * 2 : Nat) : Int) + 1)
theorem mkPl_length (k n : Nat) : (mkPl k n).length = n := by simp [mkPl]
theorem mkPl_get (k n j : Nat) (hj : j < n) : (mkPl k n).getD j pl0 = (((k + j * 2 : Nat) : Int), ((k + j * 2 : Nat) : Int) + 1) := by
  rw [List.getD, mkPl, List.getElem?_map, List.getElem?_range hj]; rfl

set_option maxRecDepth 100000 in
set_option maxHeartbeats 1000000 in
theorem markPlaceS_own (base g n cap k : Nat) (ys0 : List Value) (w : World) (hb : base ≤ g) (hk : k + n * 2 ≤ 9000000000000000000) (ho : Hid (w.ownsRow base 39 2 (.slice (some ⟨g, 0, none⟩) n cap) n ys0)) :
    Calls Try.prog 29 #[.slice (some ⟨g, 0, none⟩) n cap, .int .i64 (k : Int)] w fun e w' => e = .returned (.int .i64 ((k + n * 2 : Nat) : Int)) ∧ Below base w w' ∧ w'.ownsRow base 39 2 (.slice (some ⟨g, 0, none⟩) n cap) n (plCells (mkPl k n)) := by
  go_enter Try.func29, Try.ntmps29
  go_wp2_with fail
  go_loopw [1, 5] (fun kv iv wr => ∃ i : Nat, iv = .int .i64 (i : Int) ∧ i ≤ n ∧ kv = .int .i64 ((k + i * 2 : Nat) : Int) ∧ Hid (Below base w wr ∧ ∃ ys, Done (plCells (mkPl k n)) (i * 2) ys ∧ wr.ownsRow base 39 2 (.slice (some ⟨g, 0, none⟩) n cap) n ys)) (fun _ iv _ => n - (intOf iv).toNat)
  case atStart => exact ⟨0, rfl, by omega, rfl, Below.refl _ _, ys0, ⟨by rw [plCells_length, mkPl_length]; exact ho.out.1, fun j hj => by omega⟩, ho.out⟩
  case round =>
    obtain ⟨i, rfl, hi, rfl, hI⟩ := hrel
    by_cases hlt : i < n
    · obtain ⟨hB, ys, hd, ho1⟩ := hI.out
      obtain ⟨x0, f0, _, hxl⟩ := own_cell ho1 (i * 2) (by omega)
      obtain ⟨x1, f1, _, _⟩ := own_cell ho1 (i * 2 + 1) (by omega)
      rw [List.getElem?_eq_getElem (by omega)] at x0 x1
      generalize ys[i * 2]'(by omega) = y0 at x0
      generalize ys[i * 2 + 1]'(by omega) = y1 at x1
      have hkb : k + i * 2 ≤ 8999999999999999998 := by omega
      have hnext : k + (i + 1) * 2 = k + i * 2 + 2 := by omega
      have Q0 : Hid ((plCells (mkPl k n))[i * 2]? = some (.int .i64 ((k + i * 2 : Nat) : Int))) := by
        show (plCells (mkPl k n))[i * 2]? = _
        rw [plCells_get _ _ (by rw [mkPl_length]; omega), plCell_0, mkPl_get k n i hlt]
      have Q1 : Hid ((plCells (mkPl k n))[i * 2 + 1]? = some (.int .i64 (((k + i * 2 : Nat) : Int) + 1))) := by
        show (plCells (mkPl k n))[i * 2 + 1]? = _
        rw [plCells_get _ _ (by rw [mkPl_length]; omega), plCell_1, mkPl_get k n i hlt]
      generalize k + i * 2 = ki at hkb hnext Q0 Q1
      have HN : Hid (Below base w ((wr.setCell ⟨g, i * 2, none⟩ (.int .i64 (ki : Int))).setCell ⟨g, i * 2 + 1, none⟩ (.int .i64 ((ki : Int) + 1))) ∧ ∃ ys, Done (plCells (mkPl k n)) ((i + 1) * 2) ys ∧ ((wr.setCell ⟨g, i * 2, none⟩ (.int .i64 (ki : Int))).setCell ⟨g, i * 2 + 1, none⟩ (.int .i64 ((ki : Int) + 1))).ownsRow base 39 2 (.slice (some ⟨g, 0, none⟩) n cap) n ys) :=
        ⟨(hB.setCell (p := ⟨g, i * 2, none⟩) hb _).setCell (p := ⟨g, i * 2 + 1, none⟩) hb _, _, by rw [show (i + 1) * 2 = i * 2 + 1 + 1 by omega]; exact (hd.next Q0.out).next Q1.out, own_set (own_set ho1 _ _) _ _⟩
      clear hB hd ho1 hI Q0 Q1 hxl
      go_wp2
      exact ⟨⟨i + 1, by go_num, by omega, by rw [hnext]; go_num, HN⟩, by simp [intOf]; omega⟩
    · obtain rfl : i = n := by omega
      go_wp2
      go_ret
      obtain ⟨hB, ys, hd, ho1⟩ := hI.out
      rw [hd.all (by rw [plCells_length, mkPl_length]; omega)] at ho1
      exact ⟨rfl, hB, ho1⟩

set_option maxRecDepth 100000 in
set_option maxHeartbeats 1000000 in
theorem markPlaceS_nil (k : Nat) (w : World) :
    Calls Try.prog 29 #[.slice none 0 0, .int .i64 (k : Int)] w fun e w' => e = .returned (.int .i64 (k : Int)) ∧ w = w' := by
  go_enter Try.func29, Try.ntmps29
  go_wp2_with fail
  go_loop [1, 5] (fun kv iv => kv = .int .i64 (k : Int) ∧ iv = .int .i64 0) (fun _ _ => 0)
  case atStart => exact ⟨rfl, rfl⟩
  case round =>
    obtain ⟨rfl, rfl⟩ := hrel
    go_wp2
    go_ret
    exact ⟨rfl, rfl⟩

/-- MARKING PLACES OF ONE's OWN. -/
theorem markPlaceS_any (base k : Nat) (v : Value) (ps : List PlD) (w : World) (hk : k + ps.length * 2 ≤ 9000000000000000000) (ho : OwnPl w base v ps) :
    Calls Try.prog 29 #[v, .int .i64 (k : Int)] w fun e w' => e = .returned (.int .i64 ((k + ps.length * 2 : Nat) : Int)) ∧ Below base w w' ∧ OwnPl w' base v (mkPl k ps.length) := by
  have ho' := ho
  rcases ho.2 with ⟨rfl, hn⟩ | ⟨g, cap, cur, rfl, hb, _⟩
  · refine (markPlaceS_nil k w).mono ?_
    rintro e w' ⟨rfl, rfl⟩
    rw [hn]
    exact ⟨rfl, Below.refl _ _, ⟨rfl, .inl ⟨rfl, rfl⟩⟩⟩
  · refine (markPlaceS_own base g ps.length cap k _ w hb hk ho').mono ?_
    rintro e w' ⟨he, hB, hw⟩
    refine ⟨he, hB, ?_⟩
    unfold OwnPl
    rw [mkPl_length]
    exact hw

set_option maxRecDepth 100000 in
set_option maxHeartbeats 1000000 in
theorem heldPlaceS_marks (a : Option Addr) (n cap k : Nat) (w : World) (hk : k + n * 2 ≤ 9000000000000000000) (ha : Hid (PlacesAt w a (mkPl k n))) :
    Calls Try.prog 30 #[.slice a n cap, .int .i64 (k : Int)] w fun e w' => e = .returned (.int .i64 ((k + n * 2 : Nat) : Int)) ∧ Below w.heap.size w w' := by
  go_enter Try.func30, Try.ntmps30
  go_wp2_with fail
  go_loopw [1, 5] (fun kv iv wr => ∃ i : Nat, iv = .int .i64 (i : Int) ∧ i ≤ n ∧ kv = .int .i64 ((k + i * 2 : Nat) : Int) ∧ Hid (Below w.heap.size w wr)) (fun _ iv _ => n - (intOf iv).toNat)
  case atStart => exact ⟨0, rfl, by omega, rfl, Below.refl _ _⟩
  case round =>
    obtain ⟨i, rfl, hi, rfl, hB⟩ := hrel
    by_cases hlt : i < n
    · obtain ⟨b, off, rfl, hc⟩ := (ha.out.below hB.out).resolve_left (fun e => by have := mkPl_length k n; rw [e] at this; simp at this; omega)
      obtain ⟨c0, c1⟩ := hc i (by rw [mkPl_length]; exact hlt)
      rw [mkPl_get k n i hlt] at c0 c1
      simp only at c0 c1
      clear hc
      have hkb : k + i * 2 ≤ 8999999999999999998 := by omega
      have hnext : k + (i + 1) * 2 = k + i * 2 + 2 := by omega
      generalize k + i * 2 = ki at hkb hnext c0 c1
      have i1 : (i : Int) < (n : Int) := by omega
      have i0 : (0 : Int) ≤ (i : Int) := by omega
      have e0 : ((ki : Int) != (ki : Int)) = false := by simp
      have e1 : ((ki : Int) + 1 != (ki : Int) + 1) = false := by simp
      go_wp2
      exact ⟨⟨i + 1, by go_num, by omega, by rw [hnext]; go_num, hB⟩, by simp [intOf]; omega⟩
    · obtain rfl : i = n := by omega
      go_wp2
      go_ret
      exact ⟨rfl, hB.out⟩

end Go.Proofs.Ytlonecgmldjdpaa
