/- The exact laws' own marks on places, whatever they are. Conditions: the row's own bound on sizes. The exact laws' own marks on lists of disks that are answers: whether they are still there. Conditions: at most a hundred million marks. StripePut of the program and of the specification answer alike; marks on pointers and on answers. Conditions: none but the row's own bound on sizes. -/
import Derived.Test.YtcdiengbmjkglaaGreatPKMK
import Derived.Test.YtcdiengbmjkglaaGreatPKS5
import Derived.Test.YtcdiengbmjkglaaGreatPKM3
import Derived.Test.YtcdiengbmjkglaaGreatPKMX3
import Derived.Test.YtcdiengbmjkglaaGreatPKDS6
import Derived.Test.YtcdiengbmjkglaaGreatPKDS3
namespace Go.Proofs.YtcdiengbmjkglaaGreat
open Go.RowKit Go.Sort

/-- SHAPES of places that may be marked. -/
def PlSh (w : World) (lo hi : Nat) (a : Option Addr) (n : Nat) : Prop :=
  n = 0 ∨ ∃ b off, a = some ⟨b, off, none⟩ ∧ lo ≤ b ∧ b < hi ∧ ∀ j, j < n → Fit w b (off + j * 2) ∧ Fit w b (off + j * 2 + 1)
theorem PlSh.mk {lo hi : Nat} {w w' : World} {a : Option Addr} {n : Nat} (h : PlSh w lo hi a n) (m : Mk lo hi w w') : PlSh w' lo hi a n := by
  rcases h with h | ⟨b, off, e, h1, h2, hc⟩
  · exact .inl h
  · exact .inr ⟨b, off, e, h1, h2, fun j hj => ⟨(hc j hj).1.mk m, (hc j hj).2.mk m⟩⟩
theorem own_fit {w : World} {base K : Nat} {e : TypeId} {g n cap : Nat} {xs : List Value} {v : Value} (h : w.ownsRow base e K (.slice (some ⟨g, 0, none⟩) n cap) n xs) (i : Nat) (hi : i < n * K) (hv : xs[i]? = some v) (hs : isSl v = false) : Fit w g (0 + i) := by
  obtain ⟨h1, h2, _, _⟩ := own_cell h i hi
  rw [Nat.zero_add]
  exact ⟨v, h1.trans hv, hs, h2⟩
theorem OwnPl.shape {w : World} {base : Nat} {ps : List PlD} {a : Option Addr} {n c : Nat} (h : OwnPl w base (.slice a n c) ps) : PlSh w base w.heap.size a n := by
  have h' := h
  rcases h.2 with ⟨hv, hk⟩ | ⟨g, cap, cur, hv, hb, hg, hkc, hcm, hcs, hx⟩
  · cases hv
    exact .inl rfl
  · cases hv
    refine .inr ⟨g, 0, rfl, hb, (Array.getElem?_eq_some_iff.1 hg).1, fun j hj => ⟨?_, ?_⟩⟩
    · exact own_fit h' (j * 2) (by omega) (by rw [plCells_get ps _ (by omega), plCell_0]) rfl
    · rw [Nat.add_assoc]
      exact own_fit h' (j * 2 + 1) (by omega) (by rw [plCells_get ps _ (by omega), plCell_1]) rfl

set_option maxRecDepth 100000 in
set_option maxHeartbeats 1000000 in
theorem markPlaceS_mk (lo hi : Nat) (a : Option Addr) (n cap k : Nat) (w : World) (_hlo : lo ≤ w.heap.size) (hk : k + n * 2 ≤ 9000000000000000000) (hs : Hid (PlSh w lo hi a n)) :
    Calls Tryz.prog 38 #[.slice a n cap, .int .i64 (k : Int)] w fun e w' => e = .returned (.int .i64 ((k + n * 2 : Nat) : Int)) ∧ Mk lo hi w w' := by
  go_enter Tryz.func38, Tryz.ntmps38
  go_wp2_with fail
  go_loopw [1, 5] (fun kv iv wr => ∃ i : Nat, iv = .int .i64 (i : Int) ∧ i ≤ n ∧ kv = .int .i64 ((k + i * 2 : Nat) : Int) ∧ Hid (Mk lo hi w wr)) (fun _ iv _ => n - (intOf iv).toNat)
  case atStart => exact ⟨0, rfl, by omega, rfl, Mk.refl _ _ _⟩
  case round =>
    obtain ⟨i, rfl, hi', rfl, hM⟩ := hrel
    by_cases hlt : i < n
    · obtain ⟨b, off, rfl, hb1, hb2, hc⟩ := (hs.out.mk hM.out).resolve_left (fun e => by omega)
      obtain ⟨⟨y0, x0, s0, f0⟩, ⟨y1, x1, s1, f1⟩⟩ := hc i hlt
      clear hc
      have hkb : k + i * 2 ≤ 8999999999999999998 := by omega
      have hnext : k + (i + 1) * 2 = k + i * 2 + 2 := by omega
      generalize k + i * 2 = ki at hkb hnext
      have HN : Hid (Mk lo hi w ((wr.setCell ⟨b, off + i * 2, none⟩ (.int .i64 (ki : Int))).setCell ⟨b, off + i * 2 + 1, none⟩ (.int .i64 ((ki : Int) + 1)))) :=
        (hM.out.set x0 s0 rfl hb1 hb2).set ((World.cell?_setCell_other _ _ _ _ (by intro e; injection e with _ e; omega)).trans x1) s1 rfl hb1 hb2
      clear s0 s1 hM
      go_wp2
      exact ⟨⟨i + 1, by go_num, by omega, by rw [hnext]; go_num, HN⟩, by simp [intOf]; omega⟩
    · obtain rfl : i = n := by omega
      go_wp2
      go_ret
      exact ⟨rfl, hM.out⟩

end Go.Proofs.YtcdiengbmjkglaaGreat

namespace Go.Proofs.YtcdiengbmjkglaaGreat
open Go.RowKit Go.Sort

set_option maxRecDepth 100000 in
set_option maxHeartbeats 4000000 in
theorem heldDkS_any (a : Option Addr) (cap k : Nat) (ds : List DiskD) (w : World) (hk0 : 0 < k) (hN : Hid (∀ j, j < ds.length → mkN (ds.getD j disk0) ≤ 1000)) (hk : k + ds.length * 1001 ≤ 100000000) (hx : Hid (DksAt w a (mkDkTo k ds ds.length))) :
    Calls Tryz.prog 15 #[.slice a ds.length cap, .int .i64 (k : Int)] w fun e w' => e = .returned (.int .i64 ((dkAt k ds ds.length : Nat) : Int)) ∧ Below w.heap.size w w' := by
  go_enter Tryz.func15, Tryz.ntmps15
  go_wp2_with fail
  go_loopw [1, 5] (fun kv iv wr => ∃ i : Nat, iv = .int .i64 (i : Int) ∧ i ≤ ds.length ∧ kv = .int .i64 ((dkAt k ds i : Nat) : Int) ∧ Hid (Below w.heap.size w wr)) (fun _ iv _ => ds.length - (intOf iv).toNat)
  case atStart => exact ⟨0, rfl, by omega, rfl, Below.refl _ _⟩
  case round =>
    obtain ⟨i, rfl, hi', rfl, hB⟩ := hrel
    by_cases hlt : i < ds.length
    · have hNi := hN.out i hlt
      have hat := dkAt_le (k := k) hN.out i (by omega)
      have hnx : dkAt k ds (i + 1) = dkAt k ds i + 1 + mkN (ds.getD i disk0) := rfl
      have hkb : dkAt k ds i + 1 + mkN (ds.getD i disk0) ≤ 100000000 := by
        have : (i + 1) * 1001 ≤ ds.length * 1001 := Nat.mul_le_mul_right _ hlt
        omega
      have hks : 0 < dkAt k ds i := by omega
      obtain ⟨b, off, a1, n1, c1, a2, n2, c2, a3, n3, c3, a4, n4, c4, rfl, e0, e1, e2, e3, e4, hv⟩ := (hx.out.below hB.out).at i (by rw [mkDkTo_length]; exact hlt)
      rw [mkDkTo_get k ds ds.length i hlt, if_pos hlt] at e0 hv
      generalize ds.getD i disk0 = d at hNi hnx hkb e0 hv
      generalize dkAt k ds i = ki at hnx hkb hks e0 hv
      obtain ⟨st, xs, yys, bs, ps⟩ := d
      unfold mkN at hkb hnx
      simp only at hkb hnx
      obtain ⟨u1, u2, u3, u4, e, ⟨b1, l1, r1, _, _, t1⟩, ⟨b2, l2, r2, _, _, t2⟩, ⟨b3, l3, r3, _, _, t3⟩, ⟨b4, l4, r4, _, _, t4⟩⟩ := hv
      subst r1 r2 r3 r4
      injection e with e
      injection e with e
      injection e with _ e
      injection e with e1' e
      injection e with e2' e
      injection e with e3' e
      injection e with e4' _
      injection e1' with p1 q1 s1
      injection e2' with p2 q2 s2
      injection e3' with p3 q3 s3
      injection e4' with p4 q4 s4
      subst p1 q1 s1 p2 q2 s2 p3 q3 s3 p4 q4 s4
      unfold mkDk mkD at e0 e1 e2 e3 e4 t1 t2 t3 t4
      simp only [mkS_length, mkB_length, mkP_length] at e0 e1 e2 e3 e4 t1 t2 t3 t4
      have HC1 := Lib.hid (heldTx_any a1 xs.length c1 (ki + 1) _ (by omega) (by omega) t1)
      rw [show ((ki + 1 : Nat) : Int) = (ki : Int) + 1 by omega] at HC1
      have T2 := Lib.hid t2
      have T3 := Lib.hid t3
      have T4 := Lib.hid t4
      clear t1 t2 t3 t4
      have HNX := Lib.hid hnx
      clear hnx
      go_wp2_with fail
      refine HC1.out.mono ?_
      rintro e w2 ⟨rfl, hB2⟩
      have T2 := Lib.hid (T2.out.below hB2)
      have T3 := Lib.hid (T3.out.below hB2)
      have T4 := Lib.hid (T4.out.below hB2)
      have e2 := cell_below hB2 e2
      have e3 := cell_below hB2 e3
      have e4 := cell_below hB2 e4
      have HB2 := Lib.hid (hB.out.trans (hB2.mono hB.out.size))
      clear hB2 HC1 e0 e1
      obtain ⟨k2, hk2e⟩ : ∃ k2, ki + 1 + xs.length = k2 := ⟨_, rfl⟩
      rw [hk2e]
      have HC2 := Lib.hid (heldTx_any a2 yys.length c2 k2 _ (by omega) (by omega) (by have := T2.out; rw [hk2e] at this; exact this))
      have K2 := Lib.hid hk2e
      have d1 : decide (((k2 : Nat) : Int) < 0) = false := decide_eq_false (by omega)
      clear hk2e
      go_wp2_with fail
      refine HC2.out.mono ?_
      rintro e w3 ⟨rfl, hB3⟩
      have T3 := Lib.hid (T3.out.below hB3)
      have T4 := Lib.hid (T4.out.below hB3)
      have e3 := cell_below hB3 e3
      have e4 := cell_below hB3 e4
      have HB3 := Lib.hid (HB2.out.trans (hB3.mono HB2.out.size))
      clear hB3 HC2 e2 T2 HB2
      obtain ⟨k3, hk3e⟩ : ∃ k3, k2 + yys.length = k3 := ⟨_, rfl⟩
      rw [hk3e]
      have HC3 := Lib.hid (heldBo_any a3 bs.length c3 k3 _ (by have := K2.out; omega) (by have := T3.out; rw [K2.out, hk3e] at this; exact this))
      have K3 := Lib.hid hk3e
      have d2 : decide (((k3 : Nat) : Int) < 0) = false := decide_eq_false (by omega)
      clear hk3e
      go_wp2_with fail
      refine HC3.out.mono ?_
      rintro e w4 ⟨rfl, rfl⟩
      obtain ⟨k4, hk4e⟩ : ∃ k4, k3 + bs.length = k4 := ⟨_, rfl⟩
      rw [hk4e]
      have HC4 := Lib.hid (heldPu_any a4 ps.length c4 k4 _ (by have := K2.out; have := K3.out; omega) (by have := K2.out; have := K3.out; omega) (by have := T4.out; rw [K2.out, K3.out, hk4e] at this; exact this))
      have K4 := Lib.hid hk4e
      have d3 : decide (((k4 : Nat) : Int) < 0) = false := decide_eq_false (by omega)
      clear hk4e HC3 e3 T3
      go_wp2_with fail
      refine HC4.out.mono ?_
      rintro e w5 ⟨rfl, hB5⟩
      have HB5 := Lib.hid (HB3.out.trans (hB5.mono HB3.out.size))
      have HE : Hid (dkAt k ds (i + 1) = k4 + ps.length * 3) := by have := K2.out; have := K3.out; have := K4.out; have := HNX.out; show dkAt k ds (i + 1) = _; omega
      clear hB5 HC4 e4 T4 HB3
      generalize k4 + ps.length * 3 = kj at HE
      have d4 : decide (((kj : Nat) : Int) < 0) = false := decide_eq_false (by omega)
      go_wp2
      exact ⟨⟨i + 1, by go_num, by omega, by rw [HE.out], HB5⟩, by simp [intOf]; omega⟩
    · obtain rfl : i = ds.length := by omega
      go_wp2
      go_ret
      exact ⟨rfl, hB.out⟩

end Go.Proofs.YtcdiengbmjkglaaGreat

namespace Go.Proofs.YtcdiengbmjkglaaGreat
open Go.RowKit Go.Sort

set_option maxRecDepth 100000 in
set_option maxHeartbeats 1000000 in
theorem markPtr_mk (lo hi : Nat) (z s : Int) (a : Option Addr) (n cap k : Nat) (w : World) (hlo : lo ≤ w.heap.size) (hk : k + n * 2 ≤ 9000000000000000000) (hs : Hid (PlSh w lo hi a n)) :
    Calls Tryz.prog 14 #[.agg #[.int .i64 z, .int .i64 s, .slice a n cap], .int .i64 (k : Int)] w fun e w' => e = .returned (.int .i64 ((k + n * 2 : Nat) : Int)) ∧ Mk lo hi w w' := by
  have hB : Below w.heap.size w (w.alloc (.cells #[.int .i64 z, .int .i64 s, .slice a n cap] 34)) := (Below.refl _ _).alloc (Nat.le_refl _) _
  have HM0 := Lib.hid (Mk.of_below (lo := lo) (hi := hi) hB hlo)
  have HC := Lib.hid (markPlaceS_mk lo hi a n cap k _ (by have := HM0.out.low.size; omega) hk (hs.out.mk HM0.out))
  clear hB
  go_enter Tryz.func14, Tryz.ntmps14
  go_wp2_with fail
  refine HC.out.mono ?_
  rintro e w1 ⟨rfl, hm⟩
  have HM := Lib.hid (HM0.out.trans hm)
  clear hm
  generalize hm : k + n * 2 = m
  have Hm := Lib.hid hm
  clear hm
  go_wp2
  go_ret
  exact ⟨by rw [Hm.out]; rfl, HM.out⟩

/-- MARKING DISKS OF ONE's OWN, none too. -/
theorem markDk_any (base cap k : Nat) (a : Option Addr) (ds : List DiskD) (w : World) (hbs : base ≤ w.heap.size) (hk0 : 0 < k) (hN : Hid (∀ j, j < ds.length → mkN (ds.getD j disk0) ≤ 1000)) (hk : k + ds.length * 1001 ≤ 100000000) (ho : OwnDks w base (.slice a ds.length cap) ds) :
    Calls Tryz.prog 13 #[.slice a ds.length cap, .int .i64 (k : Int)] w fun e w' => e = .returned (.int .i64 ((dkAt k ds ds.length : Nat) : Int)) ∧ Below base w w' ∧ DksAt w' a (mkDkTo k ds ds.length) := by
  have ho' := ho
  obtain ⟨ys, h1, _⟩ := ho
  rcases h1.2 with ⟨hv, hz⟩ | ⟨g, cap', cur, hv, _⟩
  · have hd : ds = [] := List.eq_nil_of_length_eq_zero hz
    subst hd
    refine (markDkS_mk base base a 0 cap k w hbs hk0 (by omega) (.inl rfl)).mono ?_
    rintro e w' ⟨⟨r, rfl, h1, h2⟩, hm⟩
    obtain rfl : r = k := by omega
    exact ⟨rfl, hm.low, .inl rfl⟩
  · cases hv
    refine (markDkS_own base g cap k ds w hbs hk0 hN hk ho').mono ?_
    rintro e w' ⟨rfl, hB, hO⟩
    refine ⟨rfl, hB, ?_⟩
    obtain ⟨a', c', he, _, _, hx⟩ := OwnDks.reads (v := .slice (some ⟨g, 0, none⟩) (mkDkTo k ds ds.length).length cap) (by rw [mkDkTo_length]; exact hO)
    injection he with he _ _
    rw [he]; exact hx

theorem dkFine_few {ds : List DiskD} (h : AllDk ds) : ∀ j, j < ds.length → mkN (ds.getD j disk0) ≤ 1000 := by
  intro j hj
  obtain ⟨h1, h2, h3, h4⟩ := (h j hj).2.1
  unfold mkN
  omega

/-- BOTH ANSWER ALIKE. -/
theorem both_put (ds : List DiskD) (p : PtrD) (t : ByteArray) (hl : ds.length ≤ maxLen) (ht : t.size ≤ maxLen) (hpl : p.places.length ≤ maxLen) : ∃ (R : List DiskD) (bb : Bool), R.length ≤ 4 ∧ AllDk R ∧
    Hid (∀ a c pa pc W, Hid (DksAt W a ds) → Hid (PlacesAt W pa p.places) → Calls Tryz.prog 7 #[.slice a ds.length c, .agg #[.int .i64 p.size, .int .i64 p.sum, .slice pa p.places.length pc], .string t] W fun e w' => ∃ av c', e = .returned (.tuple #[.slice av R.length c', .bool bb]) ∧ DksAt w' av R ∧ Below W.heap.size W w') ∧
    Hid (∀ a c pa pc W, Hid (DksAt W a ds) → Hid (PlacesAt W pa p.places) → Calls Tryz.prog 10 #[.slice a ds.length c, .agg #[.int .i64 p.size, .int .i64 p.sum, .slice pa p.places.length pc], .string t] W fun e w' => ∃ av c', e = .returned (.tuple #[.slice av R.length c', .bool bb]) ∧ OwnDks w' W.heap.size (.slice av R.length c') R ∧ Below W.heap.size W w') := by
  by_cases h : Puts ds p t
  · obtain ⟨h1, h9, hlen, hok⟩ := h.told
    have hsl := stripeL_length t h9
    refine ⟨putTo ds p.places (stripeL t) (stripeL t).length, true, by rw [putTo_length]; have := h.1.1.1.2; omega, putTo_fine h.1.1.2 (fun k hk => ?_) _ (Nat.le_refl _), fun a c pa pc W hx hp => ?_, fun a c pa pc W hx hp => ?_⟩
    · have := (hok k (by omega)).1
      exact ⟨⟨this.2.2.1, this.2.2.2⟩, stripeL_size h1 h9 k hk⟩
    · refine (specPutS_yes a pa c pc ds p t W hpl h hx hp).mono ?_
      rintro e w' ⟨g, c', rfl, ho, hB⟩
      refine ⟨some ⟨g, 0, none⟩, c', by rw [putTo_length], ?_, hB⟩
      obtain ⟨a', c'', he, _, _, hr⟩ := OwnDks.reads (v := .slice (some ⟨g, 0, none⟩) (putTo ds p.places (stripeL t) (stripeL t).length).length c') (by rw [putTo_length]; exact ho)
      injection he with he _ _
      rw [he]; exact hr
    · refine (implPutS_yes a pa c pc ds p t W hpl h hx hp).mono ?_
      rintro e w' ⟨g, c', rfl, ho, hB⟩
      exact ⟨some ⟨g, 0, none⟩, c', by rw [putTo_length], by rw [putTo_length]; exact ho, hB⟩
  · refine ⟨[], false, by simp, fun j hj => by simp at hj, fun a c pa pc W hx hp => ?_, fun a c pa pc W hx hp => ?_⟩
    · refine (specPutS_no a pa c pc ds p t W hl ht hpl h hx hp).mono ?_
      rintro e w' ⟨g, rfl, hB⟩
      exact ⟨some ⟨g, 0, none⟩, 0, rfl, .inl rfl, hB⟩
    · refine (implPutS_no a pa c pc ds p t W hl hpl h hx hp).mono ?_
      rintro e w' ⟨rfl, hB⟩
      exact ⟨none, 0, rfl, OwnDks.nil _ _, hB⟩

end Go.Proofs.YtcdiengbmjkglaaGreat
