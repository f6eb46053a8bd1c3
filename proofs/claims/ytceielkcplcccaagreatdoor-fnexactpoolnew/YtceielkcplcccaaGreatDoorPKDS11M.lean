/- The exact laws' own marks on lists of disks that are answers: blocks of other types stay. Conditions: at most a hundred million marks. -/
import Derived.Test.YtceielkcplcccaaGreatDoorPKMX4
namespace Go.Proofs.YtceielkcplcccaaGreatDoor
open Go.RowKit Go.Sort

/-- BLOCKS of other types than a disk's and its rows' stay. -/
def OthersDk (w w' : World) : Prop := ∀ (D : Nat) (cs : Array Value) (t : TypeId), 9 ≠ t → 4 ≠ t → 41 ≠ t → 37 ≠ t → Blk w D cs t → Blk w' D cs t
theorem OthersDk.setg {w w1 : World} (h : OthersDk w w1) {base g n cap n' : Nat} {xs : List Value} (hr : w1.ownsRow base 37 5 (.slice (some ⟨g, 0, none⟩) n cap) n' xs) (o : Nat) (u : Value) : OthersDk w (w1.setCell ⟨g, o, none⟩ u) := fun D cs t n1 n2 n3 n4 hb => by
  have hb1 := h D cs t n1 n2 n3 n4 hb
  exact hb1.other _ _ _ (fun e => own_blk_ne hr hb1 n4 (by rw [← e]; rfl))
theorem OthersDk.row {w w1 w2 : World} (h : OthersDk w w1) {base K n : Nat} {e : TypeId} {v : Value} {xs : List Value} (ho : w1.ownsRow base e K v n xs) (hg : w1.grownBy w2 v.ownBlock) (he : e = 9 ∨ e = 4 ∨ e = 41) : OthersDk w w2 := fun D cs t n1 n2 n3 n4 hb => by
  have hb1 := h D cs t n1 n2 n3 n4 hb
  refine hb1.gb hg (own_blk_ne ho hb1 ?_)
  rcases he with rfl | rfl | rfl
  · exact n1
  · exact n2
  · exact n3

set_option maxRecDepth 100000 in
set_option maxHeartbeats 4000000 in
theorem markDkS_ownK (base g cap k : Nat) (ds : List DiskD) (w : World) (hbs : base ≤ w.heap.size) (hk0 : 0 < k) (hN : Hid (∀ j, j < ds.length → mkN (ds.getD j disk0) ≤ 1000)) (hk : k + ds.length * 1001 ≤ 100000000) (ho : Hid (OwnDks w base (.slice (some ⟨g, 0, none⟩) ds.length cap) ds)) :
    Calls Tryz.prog 18 #[.slice (some ⟨g, 0, none⟩) ds.length cap, .int .i64 (k : Int)] w fun e w' => e = .returned (.int .i64 ((dkAt k ds ds.length : Nat) : Int)) ∧ Below base w w' ∧ OthersDk w w' ∧ OwnDks w' base (.slice (some ⟨g, 0, none⟩) ds.length cap) (mkDkTo k ds ds.length) := by
  go_enter Tryz.func18, Tryz.ntmps18
  go_wp2_with fail
  go_loopw [1, 5] (fun kv iv wr => ∃ i : Nat, iv = .int .i64 (i : Int) ∧ i ≤ ds.length ∧ kv = .int .i64 ((dkAt k ds i : Nat) : Int) ∧ Hid (Below base w wr ∧ OthersDk w wr ∧ OwnDks wr base (.slice (some ⟨g, 0, none⟩) ds.length cap) (mkDkTo k ds i))) (fun _ iv _ => ds.length - (intOf iv).toNat)
  case atStart => exact ⟨0, rfl, by omega, rfl, Below.refl _ _, (fun _ _ _ _ _ _ _ h => h), by rw [mkDkTo_zero]; exact ho.out⟩
  case round =>
    obtain ⟨i, rfl, hi', rfl, hI⟩ := hrel
    by_cases hlt : i < ds.length
    · have hids : i < ds.length := by omega
      obtain ⟨hB, hOt, hO⟩ := hI.out
      have hNi := hN.out i hids
      have hat := dkAt_le (k := k) hN.out i (by omega)
      have hnx : dkAt k ds (i + 1) = dkAt k ds i + 1 + mkN (ds.getD i disk0) := rfl
      have HNX := Lib.hid (mkDkTo_next k ds i hids)
      have hlen : (mkDkTo k ds i).length = ds.length := mkDkTo_length k ds i
      have hget : (mkDkTo k ds i).getD i disk0 = ds.getD i disk0 := by rw [mkDkTo_get k ds i i hids, if_neg (by omega)]
      generalize mkDkTo k ds i = cs at hO HNX hlen hget
      obtain ⟨ys, v1, v2, v3, v4, hH, hO4, q0, q1, q2, q3, q4⟩ := hO.hole (i := i) (by omega)
      rw [hget] at hO4 q0
      generalize ds.getD i disk0 = d at hNi hnx HNX hO4 q0
      have hkb : dkAt k ds i + 1 + mkN d ≤ 100000000 := by
        have : (i + 1) * 1001 ≤ ds.length * 1001 := Nat.mul_le_mul_right _ hlt
        omega
      have hks : 0 < dkAt k ds i := by omega
      generalize dkAt k ds i = ki at hnx HNX hkb hks
      obtain ⟨st, xs, yys, bs, ps⟩ := d
      unfold mkN at hkb hnx
      simp only at q0 hkb hnx
      have hcl : i < cs.length := by omega
      have hyl : ys.length = cs.length * 5 := hH.2.1
      obtain ⟨y0, y1, y2, y3, y4, x0, x1, x2, x3, x4, f0, f1, f2, f3, f4⟩ := own_cells5 (k := i) (show wr.ownsRow base 37 5 (.slice (some ⟨g, 0, none⟩) ds.length cap) ds.length ys by have := hH.1; rw [show cs.length = ds.length by omega] at this; exact this) hlt
      obtain ⟨hH1, hO1⟩ := hH.state (by omega) hcl hO4 (ki : Int)
      have hB1 : Below base w (wr.setCell ⟨g, i * 5, none⟩ (.int .i64 (ki : Int))) := hB.setCell (p := ⟨g, i * 5, none⟩) (hH.1.lt g rfl).1 _
      have HT1 := Lib.hid (hOt.setg hH.1 (i * 5) (.int .i64 (ki : Int)))
      have p0 : (ys.set (i * 5) (.int .i64 (ki : Int)))[i * 5]? = some (.int .i64 (ki : Int)) := List.getElem?_set_self (by omega)
      have p1 : (ys.set (i * 5) (.int .i64 (ki : Int)))[i * 5 + 1]? = some v1 := by rw [List.getElem?_set_ne (by omega)]; exact q1
      have p2 : (ys.set (i * 5) (.int .i64 (ki : Int)))[i * 5 + 2]? = some v2 := by rw [List.getElem?_set_ne (by omega)]; exact q2
      have p3 : (ys.set (i * 5) (.int .i64 (ki : Int)))[i * 5 + 3]? = some v3 := by rw [List.getElem?_set_ne (by omega)]; exact q3
      have p4 : (ys.set (i * 5) (.int .i64 (ki : Int)))[i * 5 + 4]? = some v4 := by rw [List.getElem?_set_ne (by omega)]; exact q4
      have HLEN := Lib.hid (show cs.length = ds.length by omega)
      have cell : ∀ (W : World) c v, DkHole W base (.slice (some ⟨g, 0, none⟩) ds.length cap) cs i (ys.set (i * 5) (.int .i64 (ki : Int))) → c < 5 → (ys.set (i * 5) (.int .i64 (ki : Int)))[i * 5 + c]? = some v → W.cell? ⟨g, i * 5 + c, none⟩ = some v := fun W c v hh hc hv =>
        (own_cell (show W.ownsRow base 37 5 (.slice (some ⟨g, 0, none⟩) ds.length cap) ds.length _ by have := hh.1; rw [HLEN.out] at this; exact this) (i * 5 + c) (by omega)).1.trans hv
      generalize (ys.set (i * 5) (.int .i64 (ki : Int))) = zs at hH1 p0 p1 p2 p3 p4 cell
      have z1 := cell _ 1 _ hH1 (by omega) p1
      have HH := Lib.hid hH1
      have HO4 := Lib.hid hO1
      have HB1 := Lib.hid hB1
      have Q0 := Lib.hid p0
      have Q1 := Lib.hid p1
      have Q2 := Lib.hid p2
      have Q3 := Lib.hid p3
      have Q4 := Lib.hid p4
      obtain ⟨a1, c1, rfl, _⟩ := OwnTx.reads hO4.1
      obtain ⟨a2, c2, rfl, _⟩ := OwnTx.reads hO4.2.1
      obtain ⟨a3, c3, rfl, _⟩ := OwnBo.reads hO4.2.2.1
      obtain ⟨a4, c4, rfl, _⟩ := OwnPu.reads hO4.2.2.2.1
      simp only at z1 HO4 Q1 Q2 Q3 Q4
      have HC1 := Lib.hid (markTx_any base (ki + 1) _ xs _ (by omega) (by omega) HO4.out.1)
      rw [show ((ki + 1 : Nat) : Int) = (ki : Int) + 1 by omega] at HC1
      clear hH hO4 hH1 hO1 hB1 p0 p1 p2 p3 p4 q0 q1 q2 q3 q4 hB hO hI hget hlen x1 x2 x3 x4 f1 f2 f3 f4 hyl
      go_wp2_with fail
      generalize (wr.setCell ⟨g, i * 5, none⟩ (.int .i64 (ki : Int))) = W1 at HH HO4 HB1 HC1 HT1 z1 ⊢
      refine HC1.out.mono ?_
      rintro e w2 ⟨rfl, hg2, ho2⟩
      have HO4b := Lib.hid (HO4.out.turn1 hg2 ho2)
      have HH2 := Lib.hid (HH.out.turn hcl hg2 (fun E e => ⟨⟨1, _, by omega, Q1.out, e⟩, row_ne HH.out.1 HO4.out.1 (by decide) E e⟩))
      have HT2 := Lib.hid (HT1.out.row HO4.out.1 hg2 (by decide))
      have HB2 := Lib.hid (HB1.out.grown hg2 (Nat.le_trans hbs (by have := HB1.out.size; omega)) (fun j e => (HO4.out.1.lt j e).1))
      have z2 := cell _ 2 _ HH2.out (by omega) Q2.out
      clear hg2 ho2 HC1 HH HO4 HB1 z1
      obtain ⟨k2, hk2e⟩ : ∃ k2, ki + 1 + xs.length = k2 := ⟨_, rfl⟩
      rw [hk2e]
      have HC2 := Lib.hid (markTx_any base k2 _ yys _ (by omega) (by omega) HO4b.out.2.1)
      have K2 := Lib.hid hk2e
      clear hk2e
      go_wp2_with fail
      refine HC2.out.mono ?_
      rintro e w3 ⟨rfl, hg3, ho3⟩
      have HO4c := Lib.hid (HO4b.out.turn2 hg3 ho3)
      have HH3 := Lib.hid (HH2.out.turn hcl hg3 (fun E e => ⟨⟨2, _, by omega, Q2.out, e⟩, row_ne HH2.out.1 HO4b.out.2.1 (by decide) E e⟩))
      have HT3 := Lib.hid (HT2.out.row HO4b.out.2.1 hg3 (by decide))
      have HB3 := Lib.hid (HB2.out.grown hg3 (Nat.le_trans hbs (by have := HB2.out.size; omega)) (fun j e => (HO4b.out.2.1.lt j e).1))
      have z3 := cell _ 3 _ HH3.out (by omega) Q3.out
      clear hg3 ho3 HC2 HH2 HO4b HB2 z2
      obtain ⟨k3, hk3e⟩ : ∃ k3, k2 + yys.length = k3 := ⟨_, rfl⟩
      rw [hk3e]
      have HC3 := Lib.hid (markBo_any base k3 _ bs _ (by have := K2.out; omega) (by have := K2.out; omega) HO4c.out.2.2.1)
      have K3 := Lib.hid hk3e
      clear hk3e
      go_wp2_with fail
      refine HC3.out.mono ?_
      rintro e w4 ⟨rfl, hg4, ho4⟩
      have HO4d := Lib.hid (HO4c.out.turn3 hg4 ho4)
      have HH4 := Lib.hid (HH3.out.turn hcl hg4 (fun E e => ⟨⟨3, _, by omega, Q3.out, e⟩, row_ne HH3.out.1 HO4c.out.2.2.1 (by decide) E e⟩))
      have HT4 := Lib.hid (HT3.out.row HO4c.out.2.2.1 hg4 (by decide))
      have HB4 := Lib.hid (HB3.out.grown hg4 (Nat.le_trans hbs (by have := HB3.out.size; omega)) (fun j e => (HO4c.out.2.2.1.lt j e).1))
      have z4 := cell _ 4 _ HH4.out (by omega) Q4.out
      clear hg4 ho4 HC3 HH3 HO4c HB3 z3
      obtain ⟨k4, hk4e⟩ : ∃ k4, k3 + bs.length = k4 := ⟨_, rfl⟩
      rw [hk4e]
      have HC4 := Lib.hid (markPu_any base k4 _ ps _ (by have := K2.out; have := K3.out; omega) (by have := K2.out; have := K3.out; omega) HO4d.out.2.2.2.1)
      have K4 := Lib.hid hk4e
      clear hk4e
      go_wp2_with fail
      refine HC4.out.mono ?_
      rintro e w5 ⟨rfl, hg5, ho5⟩
      have HO4e := Lib.hid (HO4d.out.turn4 hg5 ho5)
      have HH5 := Lib.hid (HH4.out.turn hcl hg5 (fun E e => ⟨⟨4, _, by omega, Q4.out, e⟩, row_ne HH4.out.1 HO4d.out.2.2.2.1 (by decide) E e⟩))
      have HT5 := Lib.hid (HT4.out.row HO4d.out.2.2.2.1 hg5 (by decide))
      have HB5 := Lib.hid (HB4.out.grown hg5 (Nat.le_trans hbs (by have := HB4.out.size; omega)) (fun j e => (HO4d.out.2.2.2.1.lt j e).1))
      clear hg5 ho5 HC4 HH4 HO4d HB4 z4
      have HE : Hid (dkAt k ds (i + 1) = k4 + ps.length * 3) := by have := K2.out; have := K3.out; have := K4.out; show dkAt k ds (i + 1) = _; omega
      have HZ : Hid (OwnDks w5 base (.slice (some ⟨g, 0, none⟩) ds.length cap) (mkDkTo k ds (i + 1))) := by
        show OwnDks _ _ _ (mkDkTo k ds (i + 1))
        rw [← HNX.out]
        have hd : mkDk ki ⟨st, xs, yys, bs, ps⟩ = ⟨(ki : Int), mkS (ki + 1) xs.length, mkS k2 yys.length, mkB k3 bs.length, mkP k4 ps.length⟩ := by
          unfold mkDk mkD
          simp only
          rw [K2.out, K3.out, K4.out]
        rw [hd]
        exact HH5.out.close hcl (d := ⟨(ki : Int), mkS (ki + 1) xs.length, mkS k2 yys.length, mkB k3 bs.length, mkP k4 ps.length⟩) HO4e.out Q0.out Q1.out Q2.out Q3.out Q4.out
      clear HO4e HH5 HNX
      generalize k4 + ps.length * 3 = kj at HE
      go_wp2
      exact ⟨⟨i + 1, by go_num, by omega, by rw [HE.out], HB5.out, HT5.out, HZ.out⟩, by simp [intOf]; omega⟩
    · obtain rfl : i = ds.length := by omega
      go_wp2
      go_ret
      obtain ⟨hB, hOt, hO⟩ := hI.out
      exact ⟨rfl, hB, hOt, hO⟩

/-- MARKING DISKS OF ONE's OWN, none too. -/
theorem markDk_anyK (base cap k : Nat) (a : Option Addr) (ds : List DiskD) (w : World) (hbs : base ≤ w.heap.size) (hk0 : 0 < k) (hN : Hid (∀ j, j < ds.length → mkN (ds.getD j disk0) ≤ 1000)) (hk : k + ds.length * 1001 ≤ 100000000) (ho : OwnDks w base (.slice a ds.length cap) ds) :
    Calls Tryz.prog 18 #[.slice a ds.length cap, .int .i64 (k : Int)] w fun e w' => e = .returned (.int .i64 ((dkAt k ds ds.length : Nat) : Int)) ∧ Below base w w' ∧ DksAt w' a (mkDkTo k ds ds.length) ∧ OthersDk w w' := by
  have ho' := ho
  obtain ⟨ys, h1, _⟩ := ho
  rcases h1.2 with ⟨hv, hz⟩ | ⟨g, cap', cur, hv, _⟩
  · have hd : ds = [] := List.eq_nil_of_length_eq_zero hz
    subst hd
    refine (markDkS_mk w.heap.size w.heap.size a 0 cap k w (Nat.le_refl _) hk0 (by omega) (.inl rfl)).mono ?_
    rintro e w' ⟨⟨r, rfl, h1, h2⟩, hm⟩
    obtain rfl : r = k := by omega
    exact ⟨rfl, hm.low.mono hbs, .inl rfl, fun D cs t _ _ _ _ hb => hb.below hm.low hb.lt⟩
  · cases hv
    refine (markDkS_ownK base g cap k ds w hbs hk0 hN hk ho').mono ?_
    rintro e w' ⟨rfl, hB, hT, hO⟩
    refine ⟨rfl, hB, ?_, hT⟩
    obtain ⟨a', c', he, _, _, hx⟩ := OwnDks.reads (v := .slice (some ⟨g, 0, none⟩) (mkDkTo k ds ds.length).length cap) (by rw [mkDkTo_length]; exact hO)
    injection he with he _ _
    rw [he]; exact hx
theorem dkFine_fewM {ds : List DiskD} (h : AllDk ds) : ∀ j, j < ds.length → mkN (ds.getD j disk0) ≤ 1000 := by
  intro j hj
  obtain ⟨h1, h2, h3, h4⟩ := (h j hj).2.1
  unfold mkN
  omega

end Go.Proofs.YtceielkcplcccaaGreatDoor
