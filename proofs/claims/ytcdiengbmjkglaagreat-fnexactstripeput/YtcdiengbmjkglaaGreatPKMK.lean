/- Marks: what a function that writes only marks leaves as it was. Conditions: none. The exact laws' own marks on texts, whatever they are. Conditions: the row's own bound on sizes. -/
import Derived.Test.YtcdiengbmjkglaaGreatPKK
import Derived.OwnWalk
import Derived.Maps.Range
import Derived.Lib.QuietBelow
import Derived.Test.YtcdiengbmjkglaaGreatPKGT8
import Derived.Test.YtcdiengbmjkglaaGreatPKGT3
namespace Go.Proofs.YtcdiengbmjkglaaGreat
open Go.RowKit Go.Sort

/-- Whether a cell holds a slice. -/
def isSl : Value → Bool | .slice _ _ _ => true | _ => false
/-- ONLY MARKS WERE WRITTEN, in blocks from lo to hi: no cell that holds a slice has turned. -/
structure Mk (lo hi : Nat) (w w' : World) : Prop where
  low : Below lo w w'
  high : ∀ k, hi ≤ k → k < w.heap.size → w'.heap[k]? = w.heap[k]?
  cell : ∀ b o v, w.cell? ⟨b, o, none⟩ = some v → ∃ v', w'.cell? ⟨b, o, none⟩ = some v' ∧ isSl v' = isSl v ∧ (isSl v = true → v' = v)
  fr : ∀ b o, b < w.heap.size → w'.frozen? ⟨b, o, none⟩ = w.frozen? ⟨b, o, none⟩
theorem Mk.refl (lo hi : Nat) (w : World) : Mk lo hi w w := ⟨Below.refl _ _, fun _ _ _ => rfl, fun _ _ v h => ⟨v, h, rfl, fun _ => rfl⟩, fun _ _ _ => rfl⟩
theorem Mk.trans {lo hi : Nat} {a b c : World} (h : Mk lo hi a b) (k : Mk lo hi b c) : Mk lo hi a c := by
  refine ⟨h.low.trans k.low, fun i h1 h2 => (k.high i h1 (by have := h.low.size; omega)).trans (h.high i h1 h2), fun i o v hv => ?_, fun i o hi' => (k.fr i o (by have := h.low.size; omega)).trans (h.fr i o hi')⟩
  obtain ⟨v1, c1, s1, e1⟩ := h.cell i o v hv
  obtain ⟨v2, c2, s2, e2⟩ := k.cell i o v1 c1
  exact ⟨v2, c2, s2.trans s1, fun hs => (e2 (s1.trans hs)).trans (e1 hs)⟩
theorem Mk.below {lo hi : Nat} {a b c : World} (h : Mk lo hi a b) (hB : Below b.heap.size b c) (hlo : lo ≤ a.heap.size) : Mk lo hi a c :=
  h.trans ⟨hB.mono (by have := h.low.size; omega), fun i _ h2 => hB.block i h2, fun i o v hv => ⟨v, cell_below hB hv, rfl, fun _ => rfl⟩, fun i o hi' => hB.frozen (p := ⟨i, o, none⟩) hi'⟩
theorem Mk.set {lo hi : Nat} {a w : World} (h : Mk lo hi a w) {b o : Nat} {v u : Value} (hv : w.cell? ⟨b, o, none⟩ = some v) (h1 : isSl v = false) (h2 : isSl u = false) (hb : lo ≤ b) (hb' : b < hi) : Mk lo hi a (w.setCell ⟨b, o, none⟩ u) := by
  refine h.trans ⟨(Below.refl _ _).setCell (p := ⟨b, o, none⟩) hb _, fun k hk _ => Below.heap_setCell _ _ _ _ (by show k ≠ b; omega), fun b' o' v' hv' => ?_, fun b' o' _ => World.frozen?_setCell _ _ _ _⟩
  by_cases e : (⟨b, o, none⟩ : Addr) = ⟨b', o', none⟩
  · rw [← e] at hv' ⊢
    rw [hv] at hv'
    injection hv' with hv'
    subst hv'
    exact ⟨u, World.cell?_setCell_same _ _ _ hv, h2.trans h1.symm, fun hs => by rw [h1] at hs; cases hs⟩
  · exact ⟨v', (World.cell?_setCell_other _ _ _ _ e).trans hv', rfl, fun _ => rfl⟩
theorem Mk.sl {lo hi : Nat} {w w' : World} (h : Mk lo hi w w') {b o : Nat} {a : Option Addr} {n c : Nat} (hv : w.cell? ⟨b, o, none⟩ = some (.slice a n c)) : w'.cell? ⟨b, o, none⟩ = some (.slice a n c) := by
  obtain ⟨v', c1, _, e⟩ := h.cell b o _ hv
  rw [e rfl] at c1
  exact c1

/-- A CELL THAT MAY BE MARKED. -/
def Fit (w : World) (b o : Nat) : Prop := ∃ v, w.cell? ⟨b, o, none⟩ = some v ∧ isSl v = false ∧ w.frozen? ⟨b, o, none⟩ = false
theorem Fit.mk {lo hi : Nat} {w w' : World} {b o : Nat} (h : Fit w b o) (m : Mk lo hi w w') : Fit w' b o := by
  obtain ⟨v, h1, h2, h3⟩ := h
  obtain ⟨v', c1, s1, _⟩ := m.cell b o v h1
  exact ⟨v', c1, s1.trans h2, (m.fr b o (World.block_lt_of_cell? w _ h1)).trans h3⟩
/-- A shape lasts while what is there stays. -/
theorem Mk.of_below {lo hi : Nat} {w w' : World} (hB : Below w.heap.size w w') (hlo : lo ≤ w.heap.size) : Mk lo hi w w' := (Mk.refl lo hi w).below hB hlo

end Go.Proofs.YtcdiengbmjkglaaGreat

namespace Go.Proofs.YtcdiengbmjkglaaGreat
open Go.RowKit Go.Sort

set_option maxRecDepth 100000 in
set_option maxHeartbeats 1000000 in
theorem mkText_some (k0 : Nat) (w : World) (hk0 : 0 < k0) (hb : k0 ≤ 9000000000000000000) :
    Calls Tryz.prog 80 #[.int .i64 (k0 : Int)] w fun e w' => (∃ t, e = .returned (.string t)) ∧ Below w.heap.size w w' := by
  have d0 : decide ((k0 : Int) ≤ 0) = false := by simp; omega
  go_enter Tryz.func80, Tryz.ntmps80
  go_wp2_with fail
  go_loopw [0, 3] (fun kv o wr => ∃ (k : Nat) (out : ByteArray), kv = .int .i64 (k : Int) ∧ o = .string out ∧ out.size + k ≤ k0 ∧ Below w.heap.size w wr) (fun kv _ _ => (intOf kv).toNat)
  case atStart => exact ⟨k0, ByteArray.empty, rfl, rfl, by simp, Below.refl _ _⟩
  case round =>
    obtain ⟨k, out, rfl, rfl, hs, hB⟩ := hrel
    by_cases hk : 0 < k
    · have hconv := conv_1 wr (48 + (k : Int) % 10)
      have hz : (strOfNums [48 + (k : Int) % 10]).size = 1 := by rw [strOfNums_size]; rfl
      have hsz : (strOfNums [48 + (k : Int) % 10] ++ out).size = 1 + out.size := by rw [ByteArray.size_append, hz]
      generalize strOfNums [48 + (k : Int) % 10] = d at hconv hz hsz
      have HB2 : Hid (Below w.heap.size w (wr.alloc (.cells #[.int .u8 (48 + (k : Int) % 10)] 5))) := hB.alloc hB.size _
      go_wp2
      exact ⟨⟨k / 10, d ++ out, by go_num, rfl, by omega, HB2.out⟩, by simp [intOf]; omega⟩
    · obtain rfl : k = 0 := by omega
      go_wp2
      go_ret
      exact ⟨⟨_, rfl⟩, hB⟩

/-- SHAPES of texts that may be marked. -/
def TxSh (w : World) (lo hi : Nat) (a : Option Addr) (n : Nat) : Prop :=
  n = 0 ∨ ∃ b off, a = some ⟨b, off, none⟩ ∧ lo ≤ b ∧ b < hi ∧ ∀ j, j < n → Fit w b (off + j)
theorem TxSh.mk {lo hi : Nat} {w w' : World} {a : Option Addr} {n : Nat} (h : TxSh w lo hi a n) (m : Mk lo hi w w') : TxSh w' lo hi a n := by
  rcases h with h | ⟨b, off, e, h1, h2, hc⟩
  · exact .inl h
  · exact .inr ⟨b, off, e, h1, h2, fun j hj => (hc j hj).mk m⟩
theorem own_fits {w : World} {base K : Nat} {e : TypeId} {g n cap : Nat} {xs : List Value} {v : Value} (h : w.ownsRow base e K (.slice (some ⟨g, 0, none⟩) n cap) n xs) (i : Nat) (hi : i < n * K) (hv : xs[i]? = some v) (hs : isSl v = false) : Fit w g (0 + i) := by
  obtain ⟨h1, h2, _, _⟩ := own_cell h i hi
  rw [Nat.zero_add]
  exact ⟨v, h1.trans hv, hs, h2⟩
theorem OwnTx.shape {w : World} {base : Nat} {xs : List ByteArray} {a : Option Addr} {n c : Nat} (h : OwnTx w base (.slice a n c) xs) : TxSh w base w.heap.size a n := by
  have h' := h
  rcases h.2 with ⟨hv, hk⟩ | ⟨g, cap, cur, hv, hb, hg, hkc, hcm, hcs, hx⟩
  · cases hv
    exact .inl rfl
  · cases hv
    exact .inr ⟨g, 0, rfl, hb, (Array.getElem?_eq_some_iff.1 hg).1, fun j hj => own_fits h' j (by omega) (txC_get xs j hj) rfl⟩

set_option maxRecDepth 100000 in
set_option maxHeartbeats 1000000 in
theorem markTx_mk (lo hi : Nat) (a : Option Addr) (n cap k : Nat) (w : World) (hlo : lo ≤ w.heap.size) (hk0 : 0 < k) (hk : k + n ≤ 9000000000000000000) (hs : Hid (TxSh w lo hi a n)) :
    Calls Tryz.prog 35 #[.slice a n cap, .int .i64 (k : Int)] w fun e w' => e = .returned (.int .i64 ((k + n : Nat) : Int)) ∧ Mk lo hi w w' := by
  go_enter Tryz.func35, Tryz.ntmps35
  go_wp2_with fail
  go_loopw [1, 5] (fun kv iv wr => ∃ i : Nat, iv = .int .i64 (i : Int) ∧ i ≤ n ∧ kv = .int .i64 ((k + i : Nat) : Int) ∧ Hid (Mk lo hi w wr)) (fun _ iv _ => n - (intOf iv).toNat)
  case atStart => exact ⟨0, rfl, by omega, rfl, Mk.refl _ _ _⟩
  case round =>
    obtain ⟨i, rfl, hi', rfl, hM⟩ := hrel
    by_cases hlt : i < n
    · have hkb : k + i ≤ 8999999999999999999 := by omega
      have hkp : 0 < k + i := by omega
      have hnext : k + (i + 1) = k + i + 1 := by omega
      generalize k + i = ki at hkb hnext hkp
      go_wp2_with fail
      refine (mkText_some ki _ hkp (by omega)).mono ?_
      rintro e w1 ⟨⟨t, rfl⟩, hB1⟩
      have hM1 := hM.out.below hB1 hlo
      obtain ⟨b, off, rfl, hb1, hb2, hc⟩ := (hs.out.mk hM1).resolve_left (fun e => by omega)
      obtain ⟨y0, x0, s0, f0⟩ := hc i hlt
      clear hc
      have HN : Hid (Mk lo hi w (w1.setCell ⟨b, off + i, none⟩ (.string t))) := hM1.set x0 s0 rfl hb1 hb2
      clear s0 hM hM1 hB1
      go_wp2
      exact ⟨⟨i + 1, by go_num, by omega, by rw [hnext]; go_num, HN⟩, by simp [intOf]; omega⟩
    · obtain rfl : i = n := by omega
      go_wp2
      go_ret
      exact ⟨rfl, hM.out⟩

end Go.Proofs.YtcdiengbmjkglaaGreat
