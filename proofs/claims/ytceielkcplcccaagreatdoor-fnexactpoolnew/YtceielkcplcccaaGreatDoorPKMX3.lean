/- The exact laws' own marks on lists of disks that are answers, and whether they are still there. Conditions: at most a hundred million marks. -/
import Derived.Test.YtceielkcplcccaaGreatDoorPKMX2
import Derived.Test.YtceielkcplcccaaGreatDoorPKDS2
namespace Go.Proofs.YtceielkcplcccaaGreatDoor
open Go.RowKit Go.Sort

def mkDk (k : Nat) (d : DiskD) : DiskD := ⟨(k : Int), (mkD (k + 1) d).slots, (mkD (k + 1) d).rings, (mkD (k + 1) d).spoilt, (mkD (k + 1) d).wait⟩
def dkAt (k : Nat) (ds : List DiskD) : Nat → Nat
  | 0 => k
  | i + 1 => dkAt k ds i + 1 + mkN (ds.getD i disk0)
def mkDkTo (k : Nat) (ds : List DiskD) (i : Nat) : List DiskD := (List.range ds.length).map fun j => if j < i then mkDk (dkAt k ds j) (ds.getD j disk0) else ds.getD j disk0
theorem mkDkTo_length (k : Nat) (ds : List DiskD) (i : Nat) : (mkDkTo k ds i).length = ds.length := by simp [mkDkTo]
theorem mkDkTo_get (k : Nat) (ds : List DiskD) (i j : Nat) (hj : j < ds.length) : (mkDkTo k ds i).getD j disk0 = if j < i then mkDk (dkAt k ds j) (ds.getD j disk0) else ds.getD j disk0 := by
  rw [List.getD, mkDkTo, List.getElem?_map, List.getElem?_range hj]; rfl
theorem mkDkTo_zero (k : Nat) (ds : List DiskD) : mkDkTo k ds 0 = ds := by
  refine List.ext_getElem? fun j => ?_
  by_cases hj : j < ds.length
  · rw [mkDkTo, List.getElem?_map, List.getElem?_range hj]
    simp [List.getD, List.getElem?_eq_getElem hj]
  · rw [List.getElem?_eq_none (by rw [mkDkTo_length]; omega), List.getElem?_eq_none (by omega)]
theorem mkDkTo_next (k : Nat) (ds : List DiskD) (i : Nat) (hi : i < ds.length) : (mkDkTo k ds i).set i (mkDk (dkAt k ds i) (ds.getD i disk0)) = mkDkTo k ds (i + 1) := by
  refine List.ext_getElem? fun j => ?_
  by_cases hj : j < ds.length
  · rw [List.getElem?_set]
    by_cases e : i = j
    · subst e
      rw [if_pos rfl, if_pos (by rw [mkDkTo_length]; exact hi), mkDkTo, List.getElem?_map, List.getElem?_range hi]
      simp
    · rw [if_neg e, mkDkTo, mkDkTo, List.getElem?_map, List.getElem?_map, List.getElem?_range hj]
      simp only [Option.map_some]
      congr 1
      by_cases h : j < i
      · rw [if_pos h, if_pos (by omega)]
      · rw [if_neg h, if_neg (by omega)]
  · rw [List.getElem?_eq_none (by rw [List.length_set, mkDkTo_length]; omega), List.getElem?_eq_none (by rw [mkDkTo_length]; omega)]
theorem dkAt_le {k : Nat} {ds : List DiskD} (h : ∀ j, j < ds.length → mkN (ds.getD j disk0) ≤ 1000) : ∀ i, i ≤ ds.length → k ≤ dkAt k ds i ∧ dkAt k ds i ≤ k + i * 1001
  | 0, _ => ⟨Nat.le_refl _, by simp [dkAt]⟩
  | i + 1, hi => by
    have h1 := dkAt_le (k := k) h i (by omega)
    have h2 := h i (by omega)
    unfold dkAt
    omega

/-- A ROW OF DISKS, one of them taken out. -/
def DkHole (w : World) (base : Nat) (v : Value) (cs : List DiskD) (i : Nat) (ys : List Value) : Prop :=
  w.ownsRow base 37 5 v cs.length ys ∧ ys.length = cs.length * 5 ∧ DkFar ys cs.length ∧
  ∀ j, j < cs.length → j ≠ i → ∃ v1 v2 v3 v4, ys[j * 5]? = some (.int .i64 (cs.getD j disk0).state) ∧ ys[j * 5 + 1]? = some v1 ∧ ys[j * 5 + 2]? = some v2 ∧ ys[j * 5 + 3]? = some v3 ∧ ys[j * 5 + 4]? = some v4 ∧ OwnDisk w base (.agg #[.int .i64 (cs.getD j disk0).state, v1, v2, v3, v4]) (cs.getD j disk0)
theorem OwnDks.hole {w : World} {base : Nat} {v : Value} {cs : List DiskD} (h : OwnDks w base v cs) {i : Nat} (hi : i < cs.length) : ∃ ys v1 v2 v3 v4, DkHole w base v cs i ys ∧ Own4 w base v1 v2 v3 v4 (cs.getD i disk0) ∧
    ys[i * 5]? = some (.int .i64 (cs.getD i disk0).state) ∧ ys[i * 5 + 1]? = some v1 ∧ ys[i * 5 + 2]? = some v2 ∧ ys[i * 5 + 3]? = some v3 ∧ ys[i * 5 + 4]? = some v4 := by
  obtain ⟨ys, h1, h2, h3⟩ := h
  obtain ⟨v1, v2, v3, v4, q0, q1, q2, q3, q4, u1, u2, u3, u4, e, ho⟩ := h2.2 i hi
  injection e with e
  injection e with e
  injection e with _ e
  injection e with e1 e
  injection e with e2 e
  injection e with e3 e
  injection e with e4 _
  subst e1 e2 e3 e4
  exact ⟨ys, v1, v2, v3, v4, ⟨h1, h2.1, h3, fun j hj _ => h2.2 j hj⟩, ho, q0, q1, q2, q3, q4⟩
theorem DkHole.close {w : World} {base : Nat} {v : Value} {cs : List DiskD} {i : Nat} {ys : List Value} (h : DkHole w base v cs i ys) (hi : i < cs.length) {v1 v2 v3 v4 : Value} {d : DiskD} (ho : Own4 w base v1 v2 v3 v4 d)
    (q0 : ys[i * 5]? = some (.int .i64 d.state)) (q1 : ys[i * 5 + 1]? = some v1) (q2 : ys[i * 5 + 2]? = some v2) (q3 : ys[i * 5 + 3]? = some v3) (q4 : ys[i * 5 + 4]? = some v4) : OwnDks w base v (cs.set i d) := by
  obtain ⟨h1, h2, h3, h4⟩ := h
  refine ⟨ys, by rw [List.length_set]; exact h1, ⟨by rw [List.length_set]; exact h2, fun j hj => ?_⟩, by rw [List.length_set]; exact h3⟩
  rw [List.length_set] at hj
  rw [getD_setD _ _ _ _ hi]
  by_cases e : i = j
  · subst e
    rw [if_pos rfl]
    exact ⟨v1, v2, v3, v4, q0, q1, q2, q3, q4, v1, v2, v3, v4, rfl, ho⟩
  · rw [if_neg e]
    exact h4 j hj (fun q => e q.symm)
theorem DkHole.turn {w w' : World} {base : Nat} {v : Value} {cs : List DiskD} {i : Nat} {ys : List Value} {r : Option Nat} (h : DkHole w base v cs i ys) (hi : i < cs.length) (hg : w.grownBy w' r) (hr : ∀ E, r = some E → DkE ys i E ∧ v.ownBlock ≠ some E) : DkHole w' base v cs i ys := by
  obtain ⟨h1, h2, h3, h4⟩ := h
  refine ⟨own_gb h1 hg (fun E e => (hr E e).2), h2, h3, fun j hj hji => ?_⟩
  obtain ⟨v1, v2, v3, v4, q0, q1, q2, q3, q4, u1, u2, u3, u4, e, o1, o2, o3, o4, o5⟩ := h4 j hj hji
  have hfar : ∀ E, r = some E → ¬DkE ys j E := fun E e => h3 i j E hi hj (fun q => hji q.symm) (hr E e).1
  have e' := e
  injection e with e
  injection e with e
  injection e with _ e
  injection e with e1 e
  injection e with e2 e
  injection e with e3 e
  injection e with e4 _
  subst e1 e2 e3 e4
  exact ⟨v1, v2, v3, v4, q0, q1, q2, q3, q4, v1, v2, v3, v4, e', own_gb o1 hg (fun E e k => hfar E e ⟨1, _, by omega, q1, k⟩), own_gb o2 hg (fun E e k => hfar E e ⟨2, _, by omega, q2, k⟩), own_gb o3 hg (fun E e k => hfar E e ⟨3, _, by omega, q3, k⟩), own_gb o4 hg (fun E e k => hfar E e ⟨4, _, by omega, q4, k⟩), o5⟩
/-- The state of a disk, written into the row. -/
theorem DkHole.state {w : World} {base g n cap : Nat} {cs : List DiskD} {i : Nat} {ys : List Value} (h : DkHole w base (.slice (some ⟨g, 0, none⟩) n cap) cs i ys) (hn : n = cs.length) (hi : i < cs.length) {v1 v2 v3 v4 : Value} {d : DiskD} (ho : Own4 w base v1 v2 v3 v4 d)
    (z : Int) : DkHole (w.setCell ⟨g, i * 5, none⟩ (.int .i64 z)) base (.slice (some ⟨g, 0, none⟩) n cap) cs i (ys.set (i * 5) (.int .i64 z)) ∧ Own4 (w.setCell ⟨g, i * 5, none⟩ (.int .i64 z)) base v1 v2 v3 v4 d := by
  subst hn
  obtain ⟨h1, h2, h3, h4⟩ := h
  obtain ⟨g', cap', cur, e, _, hblk⟩ := own_form h1 (by omega)
  injection e with e
  injection e with e
  injection e with e _ _
  subst e
  have hE : ∀ j E, DkE (ys.set (i * 5) (.int .i64 z)) j E → DkE ys j E := fun j E ⟨c, u, hc, hu, he⟩ => by
    by_cases q : i * 5 = j * 5 + c
    · rw [← q, List.getElem?_set_self (by omega)] at hu
      cases hu
      cases he
    · rw [List.getElem?_set_ne q] at hu
      exact ⟨c, u, hc, hu, he⟩
  refine ⟨⟨own_set h1 _ _, by rw [List.length_set]; exact h2, fun a b E ha hb hab hEa hEb => h3 a b E ha hb hab (hE a E hEa) (hE b E hEb), fun j hj hji => ?_⟩, ?_⟩
  · obtain ⟨u1, u2, u3, u4, p0, p1, p2, p3, p4, hv⟩ := h4 j hj hji
    exact ⟨u1, u2, u3, u4, by rw [List.getElem?_set_ne (by omega)]; exact p0, by rw [List.getElem?_set_ne (by omega)]; exact p1, by rw [List.getElem?_set_ne (by omega)]; exact p2, by rw [List.getElem?_set_ne (by omega)]; exact p3, by rw [List.getElem?_set_ne (by omega)]; exact p4, hv.other hblk (by decide) (by decide) (by decide) _ _⟩
  · exact ⟨own_other ho.1 _ _ _ (own_blk_ne ho.1 hblk (by decide)), own_other ho.2.1 _ _ _ (own_blk_ne ho.2.1 hblk (by decide)), own_other ho.2.2.1 _ _ _ (own_blk_ne ho.2.2.1 hblk (by decide)), own_other ho.2.2.2.1 _ _ _ (own_blk_ne ho.2.2.2.1 hblk (by decide)), ho.2.2.2.2⟩
/-- A row of texts, truth values, writes is no row of disks. -/
theorem row_ne {w : World} {base b1 K1 n1 n2 : Nat} {t : TypeId} {v v1 : Value} {x1 x2 : List Value} (h : w.ownsRow base 37 5 v n2 x2) (h1 : w.ownsRow b1 t K1 v1 n1 x1) (ht : t ≠ 37) : ∀ E, v1.ownBlock = some E → v.ownBlock ≠ some E := own_apart h1 h ht

theorem Own4.turn1 {w w' : World} {base : Nat} {v1 v2 v3 v4 : Value} {d : DiskD} {xs : List ByteArray} (h : Own4 w base v1 v2 v3 v4 d) (hg : w.grownBy w' v1.ownBlock) (ho : OwnTx w' base v1 xs) : Own4 w' base v1 v2 v3 v4 ⟨d.state, xs, d.rings, d.spoilt, d.wait⟩ :=
  ⟨ho, own_gb h.2.1 hg (fun i e => h.2.2.2.2 i e), own_gb h.2.2.1 hg (fun i e => own_apart h.1 h.2.2.1 (by decide) i e), own_gb h.2.2.2.1 hg (fun i e => own_apart h.1 h.2.2.2.1 (by decide) i e), h.2.2.2.2⟩
theorem Own4.turn2 {w w' : World} {base : Nat} {v1 v2 v3 v4 : Value} {d : DiskD} {xs : List ByteArray} (h : Own4 w base v1 v2 v3 v4 d) (hg : w.grownBy w' v2.ownBlock) (ho : OwnTx w' base v2 xs) : Own4 w' base v1 v2 v3 v4 ⟨d.state, d.slots, xs, d.spoilt, d.wait⟩ :=
  ⟨own_gb h.1 hg (fun i e k => h.2.2.2.2 i k e), ho, own_gb h.2.2.1 hg (fun i e => own_apart h.2.1 h.2.2.1 (by decide) i e), own_gb h.2.2.2.1 hg (fun i e => own_apart h.2.1 h.2.2.2.1 (by decide) i e), h.2.2.2.2⟩
theorem Own4.turn3 {w w' : World} {base : Nat} {v1 v2 v3 v4 : Value} {d : DiskD} {xs : List Bool} (h : Own4 w base v1 v2 v3 v4 d) (hg : w.grownBy w' v3.ownBlock) (ho : OwnBo w' base v3 xs) : Own4 w' base v1 v2 v3 v4 ⟨d.state, d.slots, d.rings, xs, d.wait⟩ :=
  ⟨own_gb h.1 hg (fun i e => own_apart h.2.2.1 h.1 (by decide) i e), own_gb h.2.1 hg (fun i e => own_apart h.2.2.1 h.2.1 (by decide) i e), ho, own_gb h.2.2.2.1 hg (fun i e => own_apart h.2.2.1 h.2.2.2.1 (by decide) i e), h.2.2.2.2⟩
theorem Own4.turn4 {w w' : World} {base : Nat} {v1 v2 v3 v4 : Value} {d : DiskD} {xs : List PutD} (h : Own4 w base v1 v2 v3 v4 d) (hg : w.grownBy w' v4.ownBlock) (ho : OwnPu w' base v4 xs) : Own4 w' base v1 v2 v3 v4 ⟨d.state, d.slots, d.rings, d.spoilt, xs⟩ :=
  ⟨own_gb h.1 hg (fun i e => own_apart h.2.2.2.1 h.1 (by decide) i e), own_gb h.2.1 hg (fun i e => own_apart h.2.2.2.1 h.2.1 (by decide) i e), own_gb h.2.2.1 hg (fun i e => own_apart h.2.2.2.1 h.2.2.1 (by decide) i e), ho, h.2.2.2.2⟩

set_option maxRecDepth 100000 in
set_option maxHeartbeats 4000000 in
theorem markDkS_own (base g cap k : Nat) (ds : List DiskD) (w : World) (hbs : base ≤ w.heap.size) (hk0 : 0 < k) (hN : Hid (∀ j, j < ds.length → mkN (ds.getD j disk0) ≤ 1000)) (hk : k + ds.length * 1001 ≤ 100000000) (ho : Hid (OwnDks w base (.slice (some ⟨g, 0, none⟩) ds.length cap) ds)) :
    Calls Tryz.prog 18 #[.slice (some ⟨g, 0, none⟩) ds.length cap, .int .i64 (k : Int)] w fun e w' => e = .returned (.int .i64 ((dkAt k ds ds.length : Nat) : Int)) ∧ Below base w w' ∧ OwnDks w' base (.slice (some ⟨g, 0, none⟩) ds.length cap) (mkDkTo k ds ds.length) := by
  go_enter Tryz.func18, Tryz.ntmps18
  go_wp2_with fail
  go_loopw [1, 5] (fun kv iv wr => ∃ i : Nat, iv = .int .i64 (i : Int) ∧ i ≤ ds.length ∧ kv = .int .i64 ((dkAt k ds i : Nat) : Int) ∧ Hid (Below base w wr ∧ OwnDks wr base (.slice (some ⟨g, 0, none⟩) ds.length cap) (mkDkTo k ds i))) (fun _ iv _ => ds.length - (intOf iv).toNat)
  case atStart => exact ⟨0, rfl, by omega, rfl, Below.refl _ _, by rw [mkDkTo_zero]; exact ho.out⟩
  case round =>
    obtain ⟨i, rfl, hi', rfl, hI⟩ := hrel
    by_cases hlt : i < ds.length
    · have hids : i < ds.length := by omega
      obtain ⟨hB, hO⟩ := hI.out
      have hNi := hN.out i hids
      have hat := dkAt_le (k := k) hN.out i (by omega)
      have hnx : dkAt k ds (i + 1) = dkAt k ds i + 1 + mkN (ds.getD i disk0) := rfl
      have HNX := Lib.hid (mkDkTo_next k ds i hids)
      have hlen : (mkDkTo k ds i).length = ds.length := mkDkTo_length k ds i
      have hget : (mkDkTo k ds i).getD i disk0 = ds.getD i disk0 := by rw [mkDkTo_get k ds i i hids, if_neg (by omega)]
      generalize mkDkTo k ds i = cs at hO HNX hlen hget
      obtain ⟨ys, v1, v2, v3, v4, hH, hO4, q0, q1, q2, q3, q4⟩ := hO.hole (i := i) (by omega)
      rw [hget] at hO4 q0
      generalize ds.getD i disk0 = d at hNi hnx HNX hO4 q0
      have hkb : dkAt k ds i + 1 + mkN d ≤ 100000000 := by
        have : (i + 1) * 1001 ≤ ds.length * 1001 := Nat.mul_le_mul_right _ hlt
        omega
      have hks : 0 < dkAt k ds i := by omega
      generalize dkAt k ds i = ki at hnx HNX hkb hks
      obtain ⟨st, xs, yys, bs, ps⟩ := d
      unfold mkN at hkb hnx
      simp only at q0 hkb hnx
      have hcl : i < cs.length := by omega
      have hyl : ys.length = cs.length * 5 := hH.2.1
      obtain ⟨y0, y1, y2, y3, y4, x0, x1, x2, x3, x4, f0, f1, f2, f3, f4⟩ := own_cells5 (k := i) (show wr.ownsRow base 37 5 (.slice (some ⟨g, 0, none⟩) ds.length cap) ds.length ys by have := hH.1; rw [show cs.length = ds.length by omega] at this; exact this) hlt
      obtain ⟨hH1, hO1⟩ := hH.state (by omega) hcl hO4 (ki : Int)
      have hB1 : Below base w (wr.setCell ⟨g, i * 5, none⟩ (.int .i64 (ki : Int))) := hB.setCell (p := ⟨g, i * 5, none⟩) (hH.1.lt g rfl).1 _
      have p0 : (ys.set (i * 5) (.int .i64 (ki : Int)))[i * 5]? = some (.int .i64 (ki : Int)) := List.getElem?_set_self (by omega)
      have p1 : (ys.set (i * 5) (.int .i64 (ki : Int)))[i * 5 + 1]? = some v1 := by rw [List.getElem?_set_ne (by omega)]; exact q1
      have p2 : (ys.set (i * 5) (.int .i64 (ki : Int)))[i * 5 + 2]? = some v2 := by rw [List.getElem?_set_ne (by omega)]; exact q2
      have p3 : (ys.set (i * 5) (.int .i64 (ki : Int)))[i * 5 + 3]? = some v3 := by rw [List.getElem?_set_ne (by omega)]; exact q3
      have p4 : (ys.set (i * 5) (.int .i64 (ki : Int)))[i * 5 + 4]? = some v4 := by rw [List.getElem?_set_ne (by omega)]; exact q4
      have HLEN := Lib.hid (show cs.length = ds.length by omega)
      have cell : ∀ (W : World) c v, DkHole W base (.slice (some ⟨g, 0, none⟩) ds.length cap) cs i (ys.set (i * 5) (.int .i64 (ki : Int))) → c < 5 → (ys.set (i * 5) (.int .i64 (ki : Int)))[i * 5 + c]? = some v → W.cell? ⟨g, i * 5 + c, none⟩ = some v := fun W c v hh hc hv =>
        (own_cell (show W.ownsRow base 37 5 (.slice (some ⟨g, 0, none⟩) ds.length cap) ds.length _ by have := hh.1; rw [HLEN.out] at this; exact this) (i * 5 + c) (by omega)).1.trans hv
      generalize (ys.set (i * 5) (.int .i64 (ki : Int))) = zs at hH1 p0 p1 p2 p3 p4 cell
      have z1 := cell _ 1 _ hH1 (by omega) p1
      have HH := Lib.hid hH1
      have HO4 := Lib.hid hO1
      have HB1 := Lib.hid hB1
      have Q0 := Lib.hid p0
      have Q1 := Lib.hid p1
      have Q2 := Lib.hid p2
      have Q3 := Lib.hid p3
      have Q4 := Lib.hid p4
      obtain ⟨a1, c1, rfl, _⟩ := OwnTx.reads hO4.1
      obtain ⟨a2, c2, rfl, _⟩ := OwnTx.reads hO4.2.1
      obtain ⟨a3, c3, rfl, _⟩ := OwnBo.reads hO4.2.2.1
      obtain ⟨a4, c4, rfl, _⟩ := OwnPu.reads hO4.2.2.2.1
      simp only at z1 HO4 Q1 Q2 Q3 Q4
      have HC1 := Lib.hid (markTx_any base (ki + 1) _ xs _ (by omega) (by omega) HO4.out.1)
      rw [show ((ki + 1 : Nat) : Int) = (ki : Int) + 1 by omega] at HC1
      clear hH hO4 hH1 hO1 hB1 p0 p1 p2 p3 p4 q0 q1 q2 q3 q4 hB hO hI hget hlen x1 x2 x3 x4 f1 f2 f3 f4 hyl
      go_wp2_with fail
      generalize (wr.setCell ⟨g, i * 5, none⟩ (.int .i64 (ki : Int))) = W1 at HH HO4 HB1 HC1 z1 ⊢
      refine HC1.out.mono ?_
      rintro e w2 ⟨rfl, hg2, ho2⟩
      have HO4b := Lib.hid (HO4.out.turn1 hg2 ho2)
      have HH2 := Lib.hid (HH.out.turn hcl hg2 (fun E e => ⟨⟨1, _, by omega, Q1.out, e⟩, row_ne HH.out.1 HO4.out.1 (by decide) E e⟩))
      have HB2 := Lib.hid (HB1.out.grown hg2 (Nat.le_trans hbs (by have := HB1.out.size; omega)) (fun j e => (HO4.out.1.lt j e).1))
      have z2 := cell _ 2 _ HH2.out (by omega) Q2.out
      clear hg2 ho2 HC1 HH HO4 HB1 z1
      obtain ⟨k2, hk2e⟩ : ∃ k2, ki + 1 + xs.length = k2 := ⟨_, rfl⟩
      rw [hk2e]
      have HC2 := Lib.hid (markTx_any base k2 _ yys _ (by omega) (by omega) HO4b.out.2.1)
      have K2 := Lib.hid hk2e
      clear hk2e
      go_wp2_with fail
      refine HC2.out.mono ?_
      rintro e w3 ⟨rfl, hg3, ho3⟩
      have HO4c := Lib.hid (HO4b.out.turn2 hg3 ho3)
      have HH3 := Lib.hid (HH2.out.turn hcl hg3 (fun E e => ⟨⟨2, _, by omega, Q2.out, e⟩, row_ne HH2.out.1 HO4b.out.2.1 (by decide) E e⟩))
      have HB3 := Lib.hid (HB2.out.grown hg3 (Nat.le_trans hbs (by have := HB2.out.size; omega)) (fun j e => (HO4b.out.2.1.lt j e).1))
      have z3 := cell _ 3 _ HH3.out (by omega) Q3.out
      clear hg3 ho3 HC2 HH2 HO4b HB2 z2
      obtain ⟨k3, hk3e⟩ : ∃ k3, k2 + yys.length = k3 := ⟨_, rfl⟩
      rw [hk3e]
      have HC3 := Lib.hid (markBo_any base k3 _ bs _ (by have := K2.out; omega) (by have := K2.out; omega) HO4c.out.2.2.1)
      have K3 := Lib.hid hk3e
      clear hk3e
      go_wp2_with fail
      refine HC3.out.mono ?_
      rintro e w4 ⟨rfl, hg4, ho4⟩
      have HO4d := Lib.hid (HO4c.out.turn3 hg4 ho4)
      have HH4 := Lib.hid (HH3.out.turn hcl hg4 (fun E e => ⟨⟨3, _, by omega, Q3.out, e⟩, row_ne HH3.out.1 HO4c.out.2.2.1 (by decide) E e⟩))
      have HB4 := Lib.hid (HB3.out.grown hg4 (Nat.le_trans hbs (by have := HB3.out.size; omega)) (fun j e => (HO4c.out.2.2.1.lt j e).1))
      have z4 := cell _ 4 _ HH4.out (by omega) Q4.out
      clear hg4 ho4 HC3 HH3 HO4c HB3 z3
      obtain ⟨k4, hk4e⟩ : ∃ k4, k3 + bs.length = k4 := ⟨_, rfl⟩
      rw [hk4e]
      have HC4 := Lib.hid (markPu_any base k4 _ ps _ (by have := K2.out; have := K3.out; omega) (by have := K2.out; have := K3.out; omega) HO4d.out.2.2.2.1)
      have K4 := Lib.hid hk4e
      clear hk4e
      go_wp2_with fail
      refine HC4.out.mono ?_
      rintro e w5 ⟨rfl, hg5, ho5⟩
      have HO4e := Lib.hid (HO4d.out.turn4 hg5 ho5)
      have HH5 := Lib.hid (HH4.out.turn hcl hg5 (fun E e => ⟨⟨4, _, by omega, Q4.out, e⟩, row_ne HH4.out.1 HO4d.out.2.2.2.1 (by decide) E e⟩))
      have HB5 := Lib.hid (HB4.out.grown hg5 (Nat.le_trans hbs (by have := HB4.out.size; omega)) (fun j e => (HO4d.out.2.2.2.1.lt j e).1))
      clear hg5 ho5 HC4 HH4 HO4d HB4 z4
      have HE : Hid (dkAt k ds (i + 1) = k4 + ps.length * 3) := by have := K2.out; have := K3.out; have := K4.out; show dkAt k ds (i + 1) = _; omega
      have HZ : Hid (OwnDks w5 base (.slice (some ⟨g, 0, none⟩) ds.length cap) (mkDkTo k ds (i + 1))) := by
        show OwnDks _ _ _ (mkDkTo k ds (i + 1))
        rw [← HNX.out]
        have hd : mkDk ki ⟨st, xs, yys, bs, ps⟩ = ⟨(ki : Int), mkS (ki + 1) xs.length, mkS k2 yys.length, mkB k3 bs.length, mkP k4 ps.length⟩ := by
          unfold mkDk mkD
          simp only
          rw [K2.out, K3.out, K4.out]
        rw [hd]
        exact HH5.out.close hcl (d := ⟨(ki : Int), mkS (ki + 1) xs.length, mkS k2 yys.length, mkB k3 bs.length, mkP k4 ps.length⟩) HO4e.out Q0.out Q1.out Q2.out Q3.out Q4.out
      clear HO4e HH5 HNX
      generalize k4 + ps.length * 3 = kj at HE
      go_wp2
      exact ⟨⟨i + 1, by go_num, by omega, by rw [HE.out], HB5.out, HZ.out⟩, by simp [intOf]; omega⟩
    · obtain rfl : i = ds.length := by omega
      go_wp2
      go_ret
      obtain ⟨hB, hO⟩ := hI.out
      exact ⟨rfl, hB, hO⟩

end Go.Proofs.YtceielkcplcccaaGreatDoor
