/- The exact laws' own marks on models. Conditions: the row's own bound on sizes; of an answer: each volume has three blocks. -/
import Derived.Test.YtmmckpjapnkepaaI8
import Derived.Test.YtmmckpjapnkepaaGT9
namespace Go.Proofs.Ytmmckpjapnkepaa
open Go.RowKit Go.Sort

set_option maxRecDepth 100000 in
set_option maxHeartbeats 1000000 in
theorem mkText_some (k0 : Nat) (w : World) (hk0 : 0 < k0) (hb : k0 ≤ 9000000000000000000) :
    Calls Try.prog 78 #[.int .i64 (k0 : Int)] w fun e w' => (∃ t, e = .returned (.string t)) ∧ Below w.heap.size w w' := by
  have d0 : decide ((k0 : Int) ≤ 0) = false := by simp; omega
  go_enter Try.func78, Try.ntmps78
  go_wp2_with fail
  go_loopw [0, 3] (fun kv o wr => ∃ (k : Nat) (out : ByteArray), kv = .int .i64 (k : Int) ∧ o = .string out ∧ out.size + k ≤ k0 ∧ Below w.heap.size w wr) (fun kv _ _ => (intOf kv).toNat)
  case atStart => exact ⟨k0, ByteArray.empty, rfl, rfl, by simp, Below.refl _ _⟩
  case round =>
    obtain ⟨k, out, rfl, rfl, hs, hB⟩ := hrel
    by_cases hk : 0 < k
    · have hconv := conv_1 wr (48 + (k : Int) % 10)
      have hz : (strOfNums [48 + (k : Int) % 10]).size = 1 := by rw [strOfNums_size]; rfl
      have hsz : (strOfNums [48 + (k : Int) % 10] ++ out).size = 1 + out.size := by rw [ByteArray.size_append, hz]
      generalize strOfNums [48 + (k : Int) % 10] = d at hconv hz hsz
      have HB2 : Hid (Below w.heap.size w (wr.alloc (.cells #[.int .u8 (48 + (k : Int) % 10)] 5))) := hB.alloc hB.size _
      go_wp2
      exact ⟨⟨k / 10, d ++ out, by go_num, rfl, by omega, HB2.out⟩, by simp [intOf]; omega⟩
    · obtain rfl : k = 0 := by omega
      go_wp2
      go_ret
      exact ⟨⟨_, rfl⟩, hB⟩

/-- SHAPES of what may be marked: texts, volumes. -/
def TxSh (w : World) (lo hi : Nat) (a : Option Addr) (n : Nat) : Prop :=
  n = 0 ∨ ∃ b off, a = some ⟨b, off, none⟩ ∧ lo ≤ b ∧ b < hi ∧ ∀ j, j < n → Fit w b (off + j)
def SxSh (w : World) (lo hi : Nat) (a : Option Addr) (n : Nat) : Prop :=
  n = 0 ∨ ∃ b off, a = some ⟨b, off, none⟩ ∧ lo ≤ b ∧ b < hi ∧ ∀ j, j < n → Fit w b (off + j * 2) ∧ ∃ a' n' c', w.cell? ⟨b, off + j * 2 + 1, none⟩ = some (.slice a' n' c') ∧ n' ≤ 1048576 ∧ TxSh w lo hi a' n'
theorem TxSh.mk {lo hi : Nat} {w w' : World} {a : Option Addr} {n : Nat} (h : TxSh w lo hi a n) (m : Mk lo hi w w') : TxSh w' lo hi a n := by
  rcases h with h | ⟨b, off, e, h1, h2, hc⟩
  · exact .inl h
  · exact .inr ⟨b, off, e, h1, h2, fun j hj => (hc j hj).mk m⟩
theorem SxSh.mk {lo hi : Nat} {w w' : World} {a : Option Addr} {n : Nat} (h : SxSh w lo hi a n) (m : Mk lo hi w w') : SxSh w' lo hi a n := by
  rcases h with h | ⟨b, off, e, h1, h2, hc⟩
  · exact .inl h
  · refine .inr ⟨b, off, e, h1, h2, fun j hj => ?_⟩
    obtain ⟨f1, a', n', c', k1, k2, k3⟩ := hc j hj
    exact ⟨f1.mk m, a', n', c', m.sl k1, k2, k3.mk m⟩
theorem own_fits {w : World} {base K : Nat} {e : TypeId} {g n cap : Nat} {xs : List Value} {v : Value} (h : w.ownsRow base e K (.slice (some ⟨g, 0, none⟩) n cap) n xs) (i : Nat) (hi : i < n * K) (hv : xs[i]? = some v) (hs : isSl v = false) : Fit w g (0 + i) := by
  obtain ⟨h1, h2, _, _⟩ := own_cell h i hi
  rw [Nat.zero_add]
  exact ⟨v, h1.trans hv, hs, h2⟩
theorem OwnTx.shape {w : World} {base : Nat} {xs : List ByteArray} {a : Option Addr} {n c : Nat} (h : OwnTx w base (.slice a n c) xs) : TxSh w base w.heap.size a n := by
  have h' := h
  rcases h.2 with ⟨hv, hk⟩ | ⟨g, cap, cur, hv, hb, hg, hkc, hcm, hcs, hx⟩
  · cases hv
    exact .inl rfl
  · cases hv
    exact .inr ⟨g, 0, rfl, hb, (Array.getElem?_eq_some_iff.1 hg).1, fun j hj => own_fits h' j (by omega) (txC_get xs j hj) rfl⟩
theorem OwnSx.shape {w : World} {base : Nat} {ss : List ShD} {a : Option Addr} {n c : Nat} (h : OwnSx w base (.slice a n c) ss) (hs : MdSmall ss) : SxSh w base w.heap.size a n := by
  obtain ⟨xs, ho, hr⟩ := h
  have ho' := ho
  rcases ho.2 with ⟨hv, hk⟩ | ⟨g, cap, cur, hv, hb, hg, hkc, hcm, hcs, hx⟩
  · cases hv
    exact .inl rfl
  · cases hv
    refine .inr ⟨g, 0, rfl, hb, (Array.getElem?_eq_some_iff.1 hg).1, fun j hj => ?_⟩
    obtain ⟨q0, u, q2, hu⟩ := hr.2 j hj
    obtain ⟨a', c', rfl, _⟩ := OwnTx.reads hu
    refine ⟨own_fits ho' (j * 2) (by omega) q0 rfl, a', _, c', ?_, (hs.2 j hj).2.1, hu.shape⟩
    rw [Nat.add_assoc, Nat.zero_add]
    exact (own_cell ho' (j * 2 + 1) (by omega)).1.trans q2

set_option maxRecDepth 100000 in
set_option maxHeartbeats 1000000 in
theorem markTx_mk (lo hi : Nat) (a : Option Addr) (n cap k : Nat) (w : World) (hlo : lo ≤ w.heap.size) (hk0 : 0 < k) (hk : k + n ≤ 9000000000000000000) (hs : Hid (TxSh w lo hi a n)) :
    Calls Try.prog 79 #[.slice a n cap, .int .i64 (k : Int)] w fun e w' => e = .returned (.int .i64 ((k + n : Nat) : Int)) ∧ Mk lo hi w w' := by
  go_enter Try.func79, Try.ntmps79
  go_wp2_with fail
  go_loopw [1, 5] (fun kv iv wr => ∃ i : Nat, iv = .int .i64 (i : Int) ∧ i ≤ n ∧ kv = .int .i64 ((k + i : Nat) : Int) ∧ Hid (Mk lo hi w wr)) (fun _ iv _ => n - (intOf iv).toNat)
  case atStart => exact ⟨0, rfl, by omega, rfl, Mk.refl _ _ _⟩
  case round =>
    obtain ⟨i, rfl, hi', rfl, hM⟩ := hrel
    by_cases hlt : i < n
    · have hkb : k + i ≤ 8999999999999999999 := by omega
      have hkp : 0 < k + i := by omega
      have hnext : k + (i + 1) = k + i + 1 := by omega
      generalize k + i = ki at hkb hnext hkp
      go_wp2_with fail
      refine (mkText_some ki _ hkp (by omega)).mono ?_
      rintro e w1 ⟨⟨t, rfl⟩, hB1⟩
      have hM1 := hM.out.below hB1 hlo
      obtain ⟨b, off, rfl, hb1, hb2, hc⟩ := (hs.out.mk hM1).resolve_left (fun e => by omega)
      obtain ⟨y0, x0, s0, f0⟩ := hc i hlt
      clear hc
      have HN : Hid (Mk lo hi w (w1.setCell ⟨b, off + i, none⟩ (.string t))) := hM1.set x0 s0 rfl hb1 hb2
      clear s0 hM hM1 hB1
      go_wp2
      exact ⟨⟨i + 1, by go_num, by omega, by rw [hnext]; go_num, HN⟩, by simp [intOf]; omega⟩
    · obtain rfl : i = n := by omega
      go_wp2
      go_ret
      exact ⟨rfl, hM.out⟩

set_option maxRecDepth 100000 in
set_option maxHeartbeats 1000000 in
theorem markSh_mk (lo hi : Nat) (a : Option Addr) (n cap k : Nat) (w : World) (hlo : lo ≤ w.heap.size) (hk0 : 0 < k) (hk : k + n * 2097152 ≤ 9000000000000000000) (hs : Hid (SxSh w lo hi a n)) :
    Calls Try.prog 64 #[.slice a n cap, .int .i64 (k : Int)] w fun e w' => (∃ r : Nat, e = .returned (.int .i64 (r : Int)) ∧ k ≤ r) ∧ Mk lo hi w w' := by
  go_enter Try.func64, Try.ntmps64
  go_wp2_with fail
  go_loopw [1, 5] (fun kv iv wr => ∃ i ki : Nat, iv = .int .i64 (i : Int) ∧ i ≤ n ∧ kv = .int .i64 (ki : Int) ∧ k ≤ ki ∧ ki ≤ k + i * 2097152 ∧ Hid (Mk lo hi w wr)) (fun _ iv _ => n - (intOf iv).toNat)
  case atStart => exact ⟨0, k, rfl, by omega, rfl, by omega, by omega, Mk.refl _ _ _⟩
  case round =>
    obtain ⟨i, ki, rfl, hi', rfl, hk1, hk2, hM⟩ := hrel
    by_cases hlt : i < n
    · have hkb : ki + 2097152 ≤ 9000000000000000000 := by omega
      go_wp2_with fail
      refine (mkText_some ki _ (by omega) (by omega)).mono ?_
      rintro e w1 ⟨⟨t, rfl⟩, hB1⟩
      have hM1 := hM.out.below hB1 hlo
      obtain ⟨b, off, rfl, hb1, hb2, hc⟩ := (hs.out.mk hM1).resolve_left (fun e => by omega)
      obtain ⟨⟨y0, x0, s0, f0⟩, a', n', c', x2, hn', hsh⟩ := hc i hlt
      clear hc
      have hst : Mk lo hi w1 (w1.setCell ⟨b, off + i * 2, none⟩ (.string t)) := (Mk.refl lo hi w1).set x0 s0 rfl hb1 hb2
      have HN := Lib.hid (hM1.trans hst)
      have HS := Lib.hid (hsh.mk hst)
      have hsz : lo ≤ (w1.setCell ⟨b, off + i * 2, none⟩ (.string t)).heap.size := by have := HN.out.low.size; omega
      have HC := Lib.hid (markTx_mk lo hi a' n' c' (ki + 1) _ hsz (by omega) (by omega) HS)
      rw [show ((ki + 1 : Nat) : Int) = (ki : Int) + 1 by omega] at HC
      clear s0 hM hst hsh hsz hM1 hB1
      go_wp2_with fail
      refine HC.out.mono ?_
      rintro e w2 ⟨rfl, hm2⟩
      have HN2 := Lib.hid (HN.out.trans hm2)
      clear hm2
      have hk3 : ki + 1 + n' ≤ k + (i + 1) * 2097152 := by omega
      have hk4 : k ≤ ki + 1 + n' := by omega
      generalize ki + 1 + n' = kj at hk3 hk4
      go_wp2
      exact ⟨⟨i + 1, kj, by go_num, by omega, rfl, hk4, hk3, HN2⟩, by simp [intOf]; omega⟩
    · obtain rfl : i = n := by omega
      go_wp2
      go_ret
      exact ⟨⟨ki, rfl, hk1⟩, hM.out⟩

set_option maxRecDepth 100000 in
set_option maxHeartbeats 1000000 in
theorem markMd_mk (lo hi : Nat) (a : Option Addr) (n cap : Nat) (w : World) (hlo : lo ≤ w.heap.size) (hn : n ≤ 1048576) (hs : Hid (SxSh w lo hi a n)) :
    Calls Try.prog 30 #[.agg #[.slice a n cap], .int .i64 1] w fun e w' => (∃ r : Nat, e = .returned (.int .i64 (r : Int))) ∧ Mk lo hi w w' := by
  have hB0 : Below w.heap.size w (w.alloc (.cells #[.slice a n cap] 25)) := (Below.refl _ _).alloc (Nat.le_refl _) _
  have HM0 := Lib.hid (Mk.of_below (lo := lo) (hi := hi) hB0 hlo)
  clear hB0
  have HC := Lib.hid (markSh_mk lo hi a n cap 1 _ (by have := HM0.out.low.size; omega) (by omega) (by omega) (hs.out.mk HM0.out))
  rw [show ((1 : Nat) : Int) = (1 : Int) by rfl] at HC
  go_enter Try.func30, Try.ntmps30
  go_wp2_with fail
  refine HC.out.mono ?_
  rintro e w2 ⟨⟨kj, rfl, hj1⟩, hm2⟩
  have HN2 := Lib.hid (HM0.out.trans hm2)
  clear hm2
  go_wp2
  go_ret
  exact ⟨⟨kj, rfl⟩, HN2.out⟩
/-- What lies below or above is as it was. -/
theorem OwnSh.mkLow {lo hi base : Nat} {w w' : World} {v : Value} {ss : List ShD} (h : OwnSh w base v ss) (m : Mk lo hi w w') (hl : ∀ i cs t fr, base ≤ i → w.heap[i]? = some (.cells cs t fr) → (i < lo ∨ hi ≤ i)) : OwnSh w' base v ss := by
  obtain ⟨ys, g, k1, k2, k3⟩ := h
  have keep : ∀ i cs t fr, base ≤ i → w.heap[i]? = some (.cells cs t fr) → w'.heap[i]? = some (.cells cs t fr) := fun i cs t fr hb hi' => by
    have hlt := (Array.getElem?_eq_some_iff.1 hi').1
    rcases hl i cs t fr hb hi' with h1 | h1
    · exact (m.low.block i h1).trans hi'
    · exact (m.high i h1 hlt).trans hi'
  have kr : ∀ {e : TypeId} {K n : Nat} {v : Value} {xs : List Value}, w.ownsRow base e K v n xs → w'.ownsRow base e K v n xs := fun ho => by
    refine ⟨ho.1, ?_⟩
    rcases ho.2 with h0 | ⟨g0, cap, cur, hv, hb, hg, rest⟩
    · exact .inl h0
    · exact .inr ⟨g0, cap, cur, hv, hb, keep _ _ _ _ hb hg, rest⟩
  refine ⟨ys, g, kr k1, fun j hj => ?_, k3⟩
  obtain ⟨c0, cp, c1, c2⟩ := k2 j hj
  exact ⟨c0, cp, c1, kr c2⟩

end Go.Proofs.Ytmmckpjapnkepaa
