/- The exact laws' own marks on lists of disks, whatever they are. Conditions: the row's own bound on sizes. -/
import Derived.Test.YtceielkcplcccaaGreatDoorPKGT9
import Derived.Test.YtceielkcplcccaaGreatDoorPKDS1
namespace Go.Proofs.YtceielkcplcccaaGreatDoor
open Go.RowKit Go.Sort

/-- SHAPES of writes and disks that may be marked. -/
def PuSh (w : World) (lo hi : Nat) (a : Option Addr) (n : Nat) : Prop :=
  n = 0 ∨ ∃ b off, a = some ⟨b, off, none⟩ ∧ lo ≤ b ∧ b < hi ∧ ∀ j, j < n → Fit w b (off + j * 3) ∧ Fit w b (off + j * 3 + 1) ∧ Fit w b (off + j * 3 + 2)
theorem PuSh.mk {lo hi : Nat} {w w' : World} {a : Option Addr} {n : Nat} (h : PuSh w lo hi a n) (m : Mk lo hi w w') : PuSh w' lo hi a n := by
  rcases h with h | ⟨b, off, e, h1, h2, hc⟩
  · exact .inl h
  · exact .inr ⟨b, off, e, h1, h2, fun j hj => ⟨(hc j hj).1.mk m, (hc j hj).2.1.mk m, (hc j hj).2.2.mk m⟩⟩
theorem OwnBo.shape {w : World} {base : Nat} {xs : List Bool} {a : Option Addr} {n c : Nat} (h : OwnBo w base (.slice a n c) xs) : TxSh w base w.heap.size a n := by
  have h' := h
  rcases h.2 with ⟨hv, hk⟩ | ⟨g, cap, cur, hv, hb, hg, hkc, hcm, hcs, hx⟩
  · cases hv
    exact .inl rfl
  · cases hv
    exact .inr ⟨g, 0, rfl, hb, (Array.getElem?_eq_some_iff.1 hg).1, fun j hj => own_fits h' j (by omega) (boC_get xs j hj) rfl⟩
theorem OwnPu.shape {w : World} {base : Nat} {xs : List PutD} {a : Option Addr} {n c : Nat} (h : OwnPu w base (.slice a n c) xs) : PuSh w base w.heap.size a n := by
  have h' := h
  rcases h.2 with ⟨hv, hk⟩ | ⟨g, cap, cur, hv, hb, hg, hkc, hcm, hcs, hx⟩
  · cases hv
    exact .inl rfl
  · cases hv
    refine .inr ⟨g, 0, rfl, hb, (Array.getElem?_eq_some_iff.1 hg).1, fun j hj => ?_⟩
    obtain ⟨q0, q1, q2⟩ := puC_get xs j hj
    refine ⟨own_fits h' (j * 3) (by omega) q0 rfl, ?_, ?_⟩
    · rw [Nat.add_assoc]; exact own_fits h' (j * 3 + 1) (by omega) q1 rfl
    · rw [Nat.add_assoc]; exact own_fits h' (j * 3 + 2) (by omega) q2 rfl

set_option maxRecDepth 100000 in
set_option maxHeartbeats 1000000 in
theorem markBo_mk (lo hi : Nat) (a : Option Addr) (n cap k : Nat) (w : World) (hk : k + n ≤ 9000000000000000000) (hs : Hid (TxSh w lo hi a n)) :
    Calls Tryz.prog 35 #[.slice a n cap, .int .i64 (k : Int)] w fun e w' => e = .returned (.int .i64 ((k + n : Nat) : Int)) ∧ Mk lo hi w w' := by
  go_enter Tryz.func35, Tryz.ntmps35
  go_wp2_with fail
  go_loopw [1, 5] (fun kv iv wr => ∃ i : Nat, iv = .int .i64 (i : Int) ∧ i ≤ n ∧ kv = .int .i64 ((k + i : Nat) : Int) ∧ Hid (Mk lo hi w wr)) (fun _ iv _ => n - (intOf iv).toNat)
  case atStart => exact ⟨0, rfl, by omega, rfl, Mk.refl _ _ _⟩
  case round =>
    obtain ⟨i, rfl, hi', rfl, hM⟩ := hrel
    by_cases hlt : i < n
    · have hkb : k + i ≤ 8999999999999999999 := by omega
      have hnext : k + (i + 1) = k + i + 1 := by omega
      generalize k + i = ki at hkb hnext
      obtain ⟨b, off, rfl, hb1, hb2, hc⟩ := (hs.out.mk hM.out).resolve_left (fun e => by omega)
      obtain ⟨y0, x0, s0, f0⟩ := hc i hlt
      clear hc
      have HN : Hid (Mk lo hi w (wr.setCell ⟨b, off + i, none⟩ (.bool ((ki : Int) % 3 == 0)))) := hM.out.set x0 s0 rfl hb1 hb2
      clear s0 hM
      go_wp2
      exact ⟨⟨i + 1, by go_num, by omega, by rw [hnext]; go_num, HN⟩, by simp [intOf]; omega⟩
    · obtain rfl : i = n := by omega
      go_wp2
      go_ret
      exact ⟨rfl, hM.out⟩

set_option maxRecDepth 100000 in
set_option maxHeartbeats 1000000 in
theorem markPu_mk (lo hi : Nat) (a : Option Addr) (n cap k : Nat) (w : World) (hlo : lo ≤ w.heap.size) (hk : k + n * 3 ≤ 9000000000000000000) (hs : Hid (PuSh w lo hi a n)) :
    Calls Tryz.prog 36 #[.slice a n cap, .int .i64 (k : Int)] w fun e w' => e = .returned (.int .i64 ((k + n * 3 : Nat) : Int)) ∧ Mk lo hi w w' := by
  go_enter Tryz.func36, Tryz.ntmps36
  go_wp2_with fail
  go_loopw [1, 5] (fun kv iv wr => ∃ i : Nat, iv = .int .i64 (i : Int) ∧ i ≤ n ∧ kv = .int .i64 ((k + i * 3 : Nat) : Int) ∧ Hid (Mk lo hi w wr)) (fun _ iv _ => n - (intOf iv).toNat)
  case atStart => exact ⟨0, rfl, by omega, rfl, Mk.refl _ _ _⟩
  case round =>
    obtain ⟨i, rfl, hi', rfl, hM⟩ := hrel
    by_cases hlt : i < n
    · have hkb : k + i * 3 + 2 ≤ 8999999999999999999 := by omega
      have hnext : k + (i + 1) * 3 = k + i * 3 + 3 := by omega
      generalize k + i * 3 = ki at hkb hnext
      obtain ⟨b, off, rfl, hb1, hb2, hc⟩ := (hs.out.mk hM.out).resolve_left (fun e => by omega)
      obtain ⟨⟨y0, x0, s0, f0⟩, ⟨y1, x1, s1, f1⟩, hf2⟩ := hc i hlt
      clear hc
      have hst : Mk lo hi wr ((wr.setCell ⟨b, off + i * 3, none⟩ (.bool ((ki : Int) % 3 == 0))).setCell ⟨b, off + i * 3 + 1, none⟩ (.int .i64 ((ki : Int) + 1))) :=
        ((Mk.refl lo hi wr).set x0 s0 rfl hb1 hb2).set ((World.cell?_setCell_other _ _ _ _ (by intro e; injection e with _ e; omega)).trans x1) s1 rfl hb1 hb2
      have HST := Lib.hid (hM.out.trans hst)
      have HF2 := Lib.hid (hf2.mk hst)
      have HM := Lib.hid (fun W => mkText_some (ki + 2) W (by omega) (by omega))
      rw [show ((ki + 2 : Nat) : Int) = (ki : Int) + 1 + 1 by omega] at HM
      clear s0 s1 hM hst hf2
      go_wp2_with fail
      refine (HM.out _).mono ?_
      rintro e w2 ⟨⟨t, rfl⟩, hB2⟩
      have hM2 := HST.out.below hB2 hlo
      obtain ⟨y2, x2, s2, f2⟩ := HF2.out.mk (Mk.of_below (lo := lo) (hi := hi) hB2 (by have := HST.out.low.size; omega))
      have HN : Hid (Mk lo hi w (w2.setCell ⟨b, off + i * 3 + 2, none⟩ (.string t))) := hM2.set x2 s2 rfl hb1 hb2
      clear s2 hM2 hB2 x0 x1 f0 f1
      go_wp2
      exact ⟨⟨i + 1, by go_num, by omega, by rw [hnext]; go_num, HN⟩, by simp [intOf]; omega⟩
    · obtain rfl : i = n := by omega
      go_wp2
      go_ret
      exact ⟨rfl, hM.out⟩

/-- ONE DISK of a list that may be marked. -/
def Dk1 (w : World) (lo hi b o : Nat) : Prop :=
  Fit w b o ∧ ∃ a1 n1 c1 a2 n2 c2 a3 n3 c3 a4 n4 c4, w.cell? ⟨b, o + 1, none⟩ = some (.slice a1 n1 c1) ∧ w.cell? ⟨b, o + 2, none⟩ = some (.slice a2 n2 c2) ∧ w.cell? ⟨b, o + 3, none⟩ = some (.slice a3 n3 c3) ∧ w.cell? ⟨b, o + 4, none⟩ = some (.slice a4 n4 c4) ∧
    (n1 ≤ 1048576 ∧ TxSh w lo hi a1 n1) ∧ (n2 ≤ 1048576 ∧ TxSh w lo hi a2 n2) ∧ (n3 ≤ 1048576 ∧ TxSh w lo hi a3 n3) ∧ (n4 ≤ 1048576 ∧ PuSh w lo hi a4 n4)
def DkSh (w : World) (lo hi : Nat) (a : Option Addr) (n : Nat) : Prop :=
  n = 0 ∨ ∃ b off, a = some ⟨b, off, none⟩ ∧ lo ≤ b ∧ b < hi ∧ ∀ j, j < n → Dk1 w lo hi b (off + j * 5)
theorem Dk1.mk {lo hi b o : Nat} {w w' : World} (h : Dk1 w lo hi b o) (m : Mk lo hi w w') : Dk1 w' lo hi b o := by
  obtain ⟨f, a1, n1, c1, a2, n2, c2, a3, n3, c3, a4, n4, c4, k1, k2, k3, k4, ⟨l1, s1⟩, ⟨l2, s2⟩, ⟨l3, s3⟩, ⟨l4, s4⟩⟩ := h
  exact ⟨f.mk m, a1, n1, c1, a2, n2, c2, a3, n3, c3, a4, n4, c4, m.sl k1, m.sl k2, m.sl k3, m.sl k4, ⟨l1, s1.mk m⟩, ⟨l2, s2.mk m⟩, ⟨l3, s3.mk m⟩, ⟨l4, s4.mk m⟩⟩
theorem DkSh.mk {lo hi : Nat} {w w' : World} {a : Option Addr} {n : Nat} (h : DkSh w lo hi a n) (m : Mk lo hi w w') : DkSh w' lo hi a n := by
  rcases h with h | ⟨b, off, e, h1, h2, hc⟩
  · exact .inl h
  · exact .inr ⟨b, off, e, h1, h2, fun j hj => (hc j hj).mk m⟩
theorem OwnDks.shape {w : World} {base : Nat} {ds : List DiskD} {a : Option Addr} {n c : Nat} (h : OwnDks w base (.slice a n c) ds) (hs : DksSmall ds) (hn : n = ds.length) : DkSh w base w.heap.size a n := by
  subst hn
  obtain ⟨ys, h1, h2, _⟩ := h
  have h1' := h1
  rcases h1.2 with ⟨hv, hk⟩ | ⟨g, cap, cur, hv, hb, hg, hkc, hcm, hcs, hx⟩
  · exact .inl hk
  · cases hv
    refine .inr ⟨g, 0, rfl, hb, (Array.getElem?_eq_some_iff.1 hg).1, fun j hj => ?_⟩
    obtain ⟨v1, v2, v3, v4, q0, q1, q2, q3, q4, hv⟩ := h2.2 j hj
    obtain ⟨u1, u2, u3, u4, e, o1, o2, o3, o4, _⟩ := hv
    injection e with e
    injection e with e
    injection e with _ e
    injection e with e1 e
    injection e with e2 e
    injection e with e3 e
    injection e with e4 _
    subst e1 e2 e3 e4
    obtain ⟨z1, z2, z3, z4⟩ := hs.2 j hj
    obtain ⟨a1, c1, rfl, _⟩ := OwnTx.reads o1
    obtain ⟨a2, c2, rfl, _⟩ := OwnTx.reads o2
    obtain ⟨a3, c3, rfl, _⟩ := OwnBo.reads o3
    obtain ⟨a4, c4, rfl, _⟩ := OwnPu.reads o4
    refine ⟨own_fits h1' (j * 5) (by omega) q0 rfl, a1, _, c1, a2, _, c2, a3, _, c3, a4, _, c4, ?_, ?_, ?_, ?_, ⟨z1.1, OwnTx.shape o1⟩, ⟨z2.1, OwnTx.shape o2⟩, ⟨z3, OwnBo.shape o3⟩, ⟨z4.1, OwnPu.shape o4⟩⟩
    · rw [Nat.add_assoc, Nat.zero_add]; exact (own_cell h1' (j * 5 + 1) (by omega)).1.trans q1
    · rw [Nat.add_assoc, Nat.zero_add]; exact (own_cell h1' (j * 5 + 2) (by omega)).1.trans q2
    · rw [Nat.add_assoc, Nat.zero_add]; exact (own_cell h1' (j * 5 + 3) (by omega)).1.trans q3
    · rw [Nat.add_assoc, Nat.zero_add]; exact (own_cell h1' (j * 5 + 4) (by omega)).1.trans q4

set_option maxRecDepth 100000 in
set_option maxHeartbeats 2000000 in
theorem markDkS_mk (lo hi : Nat) (a : Option Addr) (n cap k : Nat) (w : World) (hlo : lo ≤ w.heap.size) (hk0 : 0 < k) (hk : k + n * 6291457 ≤ 9000000000000000000) (hs : Hid (DkSh w lo hi a n)) :
    Calls Tryz.prog 18 #[.slice a n cap, .int .i64 (k : Int)] w fun e w' => (∃ r : Nat, e = .returned (.int .i64 (r : Int)) ∧ k ≤ r ∧ r ≤ k + n * 6291457) ∧ Mk lo hi w w' := by
  go_enter Tryz.func18, Tryz.ntmps18
  go_wp2_with fail
  go_loopw [1, 5] (fun kv iv wr => ∃ i ki : Nat, iv = .int .i64 (i : Int) ∧ i ≤ n ∧ kv = .int .i64 (ki : Int) ∧ k ≤ ki ∧ ki ≤ k + i * 6291457 ∧ Hid (Mk lo hi w wr)) (fun _ iv _ => n - (intOf iv).toNat)
  case atStart => exact ⟨0, k, rfl, by omega, rfl, by omega, by omega, Mk.refl _ _ _⟩
  case round =>
    obtain ⟨i, ki, rfl, hi', rfl, hk1, hk2, hM⟩ := hrel
    by_cases hlt : i < n
    · have hkb : ki + 6291457 ≤ 9000000000000000000 := by omega
      obtain ⟨b, off, rfl, hb1, hb2, hc⟩ := (hs.out.mk hM.out).resolve_left (fun e => by omega)
      have hst0 : ∀ y0, wr.cell? ⟨b, off + i * 5, none⟩ = some y0 → isSl y0 = false → Mk lo hi wr (wr.setCell ⟨b, off + i * 5, none⟩ (.int .i64 (ki : Int))) := fun y0 x0 s0 => (Mk.refl lo hi wr).set x0 s0 rfl hb1 hb2
      obtain ⟨⟨y0, x0, s0, f0⟩, a1, n1, c1, a2, n2, c2, a3, n3, c3, a4, n4, c4, x1, x2, x3, x4, ⟨l1, s1⟩, ⟨l2, s2⟩, ⟨l3, s3⟩, ⟨l4, s4⟩⟩ := hc i hlt
      clear hc
      have hst := hst0 y0 x0 s0
      have HST := Lib.hid (hM.out.trans hst)
      have S1 := Lib.hid (s1.mk hst)
      have S2 := Lib.hid (s2.mk hst)
      have S3 := Lib.hid (s3.mk hst)
      have S4 := Lib.hid (s4.mk hst)
      have X1 := hst.sl x1
      have X2 := hst.sl x2
      have X3 := hst.sl x3
      have X4 := hst.sl x4
      have hsz : lo ≤ (wr.setCell ⟨b, off + i * 5, none⟩ (.int .i64 (ki : Int))).heap.size := by have := HST.out.low.size; omega
      have HC1 := Lib.hid (markTx_mk lo hi a1 n1 c1 (ki + 1) _ hsz (by omega) (by omega) S1)
      rw [show ((ki + 1 : Nat) : Int) = (ki : Int) + 1 by omega] at HC1
      clear s0 hM hst hst0 s1 s2 s3 s4 hsz S1 x1 x2 x3 x4
      go_wp2_with fail
      refine HC1.out.mono ?_
      rintro e w2 ⟨rfl, hm2⟩
      have HN2 := Lib.hid (HST.out.trans hm2)
      have S2 := Lib.hid (S2.out.mk hm2)
      have S3 := Lib.hid (S3.out.mk hm2)
      have S4 := Lib.hid (S4.out.mk hm2)
      have X2 := hm2.sl X2
      have X3 := hm2.sl X3
      have X4 := hm2.sl X4
      clear hm2 HC1 HST X1
      obtain ⟨k2, hk2e⟩ : ∃ k2, ki + 1 + n1 = k2 := ⟨_, rfl⟩
      rw [hk2e]
      have HC2 := Lib.hid (markTx_mk lo hi a2 n2 c2 k2 _ (by have := HN2.out.low.size; omega) (by omega) (by omega) S2)
      have K2 := Lib.hid hk2e
      clear hk2e
      go_wp2_with fail
      refine HC2.out.mono ?_
      rintro e w3 ⟨rfl, hm3⟩
      have HN3 := Lib.hid (HN2.out.trans hm3)
      have S3 := Lib.hid (S3.out.mk hm3)
      have S4 := Lib.hid (S4.out.mk hm3)
      have X3 := hm3.sl X3
      have X4 := hm3.sl X4
      clear hm3 HC2 HN2 X2
      obtain ⟨k3, hk3e⟩ : ∃ k3, k2 + n2 = k3 := ⟨_, rfl⟩
      rw [hk3e]
      have HC3 := Lib.hid (markBo_mk lo hi a3 n3 c3 k3 _ (by have := K2.out; omega) S3)
      have K3 := Lib.hid hk3e
      clear hk3e
      go_wp2_with fail
      refine HC3.out.mono ?_
      rintro e w4 ⟨rfl, hm4⟩
      have HN4 := Lib.hid (HN3.out.trans hm4)
      have S4 := Lib.hid (S4.out.mk hm4)
      have X4 := hm4.sl X4
      clear hm4 HC3 HN3 X3
      obtain ⟨k4, hk4e⟩ : ∃ k4, k3 + n3 = k4 := ⟨_, rfl⟩
      rw [hk4e]
      have HC4 := Lib.hid (markPu_mk lo hi a4 n4 c4 k4 _ (by have := HN4.out.low.size; omega) (by have := K2.out; have := K3.out; omega) S4)
      have K4 := Lib.hid hk4e
      clear hk4e
      go_wp2_with fail
      refine HC4.out.mono ?_
      rintro e w5 ⟨rfl, hm5⟩
      have HN5 := Lib.hid (HN4.out.trans hm5)
      clear hm5 HC4 HN4 X4
      have hb5 : k4 + n4 * 3 ≤ k + (i + 1) * 6291457 := by have := K2.out; have := K3.out; have := K4.out; omega
      have hb6 : k ≤ k4 + n4 * 3 := by have := K2.out; have := K3.out; have := K4.out; omega
      generalize k4 + n4 * 3 = kj at hb5 hb6
      go_wp2
      exact ⟨⟨i + 1, kj, by go_num, by omega, rfl, hb6, hb5, HN5⟩, by simp [intOf]; omega⟩
    · obtain rfl : i = n := by omega
      go_wp2
      go_ret
      exact ⟨⟨ki, rfl, hk1, hk2⟩, hM.out⟩

/-- What lies below or above is as it was. -/
theorem OwnDisk.mkLow {lo hi base : Nat} {w w' : World} {v : Value} {d : DiskD} (h : OwnDisk w base v d) (m : Mk lo hi w w') (hl : ∀ i cs t fr, base ≤ i → w.heap[i]? = some (.cells cs t fr) → (i < lo ∨ hi ≤ i)) : OwnDisk w' base v d := by
  have kr : ∀ {e : TypeId} {K n : Nat} {v : Value} {xs : List Value}, w.ownsRow base e K v n xs → w'.ownsRow base e K v n xs := fun ho => by
    refine ⟨ho.1, ?_⟩
    rcases ho.2 with h0 | ⟨g0, cap, cur, hv, hb, hg, rest⟩
    · exact .inl h0
    · refine .inr ⟨g0, cap, cur, hv, hb, ?_, rest⟩
      have hlt := (Array.getElem?_eq_some_iff.1 hg).1
      rcases hl _ _ _ _ hb hg with h1 | h1
      · exact (m.low.block _ h1).trans hg
      · exact (m.high _ h1 hlt).trans hg
  obtain ⟨v1, v2, v3, v4, e, h1, h2, h3, h4, h5⟩ := h
  exact ⟨v1, v2, v3, v4, e, kr h1, kr h2, kr h3, kr h4, h5⟩
theorem OwnDks.mkLow {lo hi base : Nat} {w w' : World} {v : Value} {ds : List DiskD} (h : OwnDks w base v ds) (m : Mk lo hi w w') (hl : ∀ i cs t fr, base ≤ i → w.heap[i]? = some (.cells cs t fr) → (i < lo ∨ hi ≤ i)) : OwnDks w' base v ds := by
  obtain ⟨ys, h1, h2, h3⟩ := h
  refine ⟨ys, ⟨h1.1, ?_⟩, ⟨h2.1, fun j hj => ?_⟩, h3⟩
  · rcases h1.2 with h0 | ⟨g0, cap, cur, hv, hb, hg, rest⟩
    · exact .inl h0
    · refine .inr ⟨g0, cap, cur, hv, hb, ?_, rest⟩
      have hlt := (Array.getElem?_eq_some_iff.1 hg).1
      rcases hl _ _ _ _ hb hg with h1 | h1
      · exact (m.low.block _ h1).trans hg
      · exact (m.high _ h1 hlt).trans hg
  · obtain ⟨v1, v2, v3, v4, q0, q1, q2, q3, q4, hv⟩ := h2.2 j hj
    exact ⟨v1, v2, v3, v4, q0, q1, q2, q3, q4, hv.mkLow m hl⟩

end Go.Proofs.YtceielkcplcccaaGreatDoor
