/- Disks marked, and held against their marks. Conditions: at most a hundred million marks. -/
import Derived.Test.YtbkagnlomlnhcaaG8
namespace Go.Proofs.Ytbkagnlomlnhcaa
open Go.RowKit Go.Sort

theorem own_gb {w w' : World} {base K : Nat} {e : TypeId} {v : Value} {n : Nat} {xs : List Value} {r : Option Nat} (h : w.ownsRow base e K v n xs) (hg : w.grownBy w' r) (hne : ∀ i, r = some i → v.ownBlock ≠ some i) : w'.ownsRow base e K v n xs :=
  h.kept hg (by
    cases hv : v.ownBlock with
    | none => exact .inl rfl
    | some j => exact .inr (fun e => hne j e.symm hv))
theorem Blk.gb {w w' : World} {D : Nat} {cs : Array Value} {t : TypeId} {r : Option Nat} (h : Blk w D cs t) (hg : w.grownBy w' r) (hne : r ≠ some D) : Blk w' D cs t :=
  (hg.block D h.lt (fun e => hne e.symm)).trans h

theorem own_blk_ne {w : World} {base K : Nat} {e : TypeId} {v : Value} {n : Nat} {xs : List Value} (h : w.ownsRow base e K v n xs) {D : Nat} {cs : Array Value} {t : TypeId} (hb : Blk w D cs t) (hne : e ≠ t) : v.ownBlock ≠ some D := by
  intro hp
  rcases h.2 with ⟨rfl, _⟩ | ⟨g1, cap1, cur1, rfl, _, hg1, _⟩
  · cases hp
  · simp only [Value.ownBlock, Option.some.injEq] at hp
    rw [hp] at hg1
    exact hne (Blk.type hg1 hb)
/-- BLOCKS OF OTHER TYPES stay. -/
def Others (w w' : World) : Prop := ∀ (D : Nat) (cs : Array Value) (t : TypeId), 9 ≠ t → 4 ≠ t → 44 ≠ t → Blk w D cs t → Blk w' D cs t
/-- HOW MANY MARKS a disk takes, and the disk with them. -/
def mkN (d : DiskD) : Nat := d.slots.length + d.rings.length + d.spoilt.length + d.wait.length * 3
def mkD (k : Nat) (d : DiskD) : DiskD := ⟨d.state, mkS k d.slots.length, mkS (k + d.slots.length) d.rings.length, mkB (k + d.slots.length + d.rings.length) d.spoilt.length, mkP (k + d.slots.length + d.rings.length + d.spoilt.length) d.wait.length⟩

set_option maxRecDepth 100000 in
set_option maxHeartbeats 2000000 in
theorem markDisk_any (base k : Nat) (v : Value) (d : DiskD) (w : World) (hbs : base ≤ w.heap.size) (hk : 0 < k) (hkn : k + mkN d ≤ 100000000) (ho : OwnDisk w base v d) :
    Calls Try.prog 20 #[v, .int .i64 (k : Int)] w fun e w' => e = .returned (.int .i64 ((k + mkN d : Nat) : Int)) ∧ Below base w w' ∧ OwnDisk w' base v (mkD k d) ∧ Others w w' := by
  obtain ⟨st, xs, ys, bs, ps⟩ := d
  obtain ⟨v1, v2, v3, v4, rfl, o1, o2, o3, o4, hne⟩ := ho
  simp only at o1 o2 o3 o4
  have n12 := Lib.hid hne
  have n13 := Lib.hid (own_apart o1 o3 (by decide))
  have n14 := Lib.hid (own_apart o1 o4 (by decide))
  have n21 := Lib.hid (show ∀ i, v2.ownBlock = some i → v1.ownBlock ≠ some i from fun i h k => hne i k h)
  have n23 := Lib.hid (own_apart o2 o3 (by decide))
  have n24 := Lib.hid (own_apart o2 o4 (by decide))
  have n31 := Lib.hid (own_apart o3 o1 (by decide))
  have n32 := Lib.hid (own_apart o3 o2 (by decide))
  have n34 := Lib.hid (own_apart o3 o4 (by decide))
  have n41 := Lib.hid (own_apart o4 o1 (by decide))
  have n42 := Lib.hid (own_apart o4 o2 (by decide))
  have n43 := Lib.hid (own_apart o4 o3 (by decide))
  have q1 := Lib.hid (show ∀ i, v1.ownBlock = some i → base ≤ i ∧ i < w.heap.size from fun i h => o1.lt i h)
  have q2 := Lib.hid (show ∀ i, v2.ownBlock = some i → base ≤ i ∧ i < w.heap.size from fun i h => o2.lt i h)
  have q3 := Lib.hid (show ∀ i, v3.ownBlock = some i → base ≤ i ∧ i < w.heap.size from fun i h => o3.lt i h)
  have q4 := Lib.hid (show ∀ i, v4.ownBlock = some i → base ≤ i ∧ i < w.heap.size from fun i h => o4.lt i h)
  have t1 := Lib.hid (show ∀ (D : Nat) (cs : Array Value) (t : TypeId), 9 ≠ t → Blk w D cs t → v1.ownBlock ≠ some D from fun D cs t h hb => own_blk_ne o1 hb h)
  have t2 := Lib.hid (show ∀ (D : Nat) (cs : Array Value) (t : TypeId), 9 ≠ t → Blk w D cs t → v2.ownBlock ≠ some D from fun D cs t h hb => own_blk_ne o2 hb h)
  have t3 := Lib.hid (show ∀ (D : Nat) (cs : Array Value) (t : TypeId), 4 ≠ t → Blk w D cs t → v3.ownBlock ≠ some D from fun D cs t h hb => own_blk_ne o3 hb h)
  have t4 := Lib.hid (show ∀ (D : Nat) (cs : Array Value) (t : TypeId), 44 ≠ t → Blk w D cs t → v4.ownBlock ≠ some D from fun D cs t h hb => own_blk_ne o4 hb h)
  unfold mkN at hkn
  simp only at hkn
  have hB := Lib.hid (show ∀ o : Obj, Below w.heap.size w (w.alloc o) from fun o => (Below.refl _ w).alloc (Nat.le_refl _) o)
  have O1 := Lib.hid (fun o => own_below o1 (hB.out o))
  have O2 := Lib.hid (fun o => own_below o2 (hB.out o))
  have O3 := Lib.hid (fun o => own_below o3 (hB.out o))
  have O4 := Lib.hid (fun o => own_below o4 (hB.out o))
  have HR : Hid (Own4 w base v1 v2 v3 v4 ⟨st, xs, ys, bs, ps⟩) := ⟨o1, o2, o3, o4, hne⟩
  obtain ⟨a1, c1, rfl, _⟩ := o1.reads
  obtain ⟨a2, c2, rfl, _⟩ := o2.reads
  obtain ⟨a3, c3, rfl, _⟩ := o3.reads
  obtain ⟨a4, c4, rfl, _⟩ := o4.reads
  clear o1 o2 o3 o4 hne HR
  have HA0 := Lib.hid (hB.out (.cells #[.int .i64 st, .slice a1 xs.length c1, .slice a2 ys.length c2, .slice a3 bs.length c3, .slice a4 ps.length c4] 30))
  have HBa := Lib.hid (show Below base w (w.alloc (.cells #[.int .i64 st, .slice a1 xs.length c1, .slice a2 ys.length c2, .slice a3 bs.length c3, .slice a4 ps.length c4] 30)) from (hB.out _).mono hbs)
  have hKa := Blk.new w #[.int .i64 st, .slice a1 xs.length c1, .slice a2 ys.length c2, .slice a3 bs.length c3, .slice a4 ps.length c4] 30
  have HKa := Lib.hid hKa
  have P1 := Lib.hid (O1.out (.cells #[.int .i64 st, .slice a1 xs.length c1, .slice a2 ys.length c2, .slice a3 bs.length c3, .slice a4 ps.length c4] 30))
  have P2 := Lib.hid (O2.out (.cells #[.int .i64 st, .slice a1 xs.length c1, .slice a2 ys.length c2, .slice a3 bs.length c3, .slice a4 ps.length c4] 30))
  have P3 := Lib.hid (O3.out (.cells #[.int .i64 st, .slice a1 xs.length c1, .slice a2 ys.length c2, .slice a3 bs.length c3, .slice a4 ps.length c4] 30))
  have P4 := Lib.hid (O4.out (.cells #[.int .i64 st, .slice a1 xs.length c1, .slice a2 ys.length c2, .slice a3 bs.length c3, .slice a4 ps.length c4] 30))
  clear O1 O2 O3 O4 hKa hB
  have M1 := Lib.hid (fun W h => markTx_any base k (.slice a1 xs.length c1) xs W hk (by omega) h)
  have M2 := Lib.hid (fun W h => markTx_any base (k + xs.length) (.slice a2 ys.length c2) ys W (by omega) (by omega) h)
  have M3 := Lib.hid (fun W h => markBo_any base (k + xs.length + ys.length) (.slice a3 bs.length c3) bs W (by omega) (by omega) h)
  have M4 := Lib.hid (fun W h => markPu_any base (k + xs.length + ys.length + bs.length) (.slice a4 ps.length c4) ps W (by omega) (by omega) h)
  have HZ := Lib.hid (show k + mkN ⟨st, xs, ys, bs, ps⟩ = k + xs.length + ys.length + bs.length + ps.length * 3 by unfold mkN; simp only; omega)
  have HMD := Lib.hid (show mkD k ⟨st, xs, ys, bs, ps⟩ = ⟨st, mkS k xs.length, mkS (k + xs.length) ys.length, mkB (k + xs.length + ys.length) bs.length, mkP (k + xs.length + ys.length + bs.length) ps.length⟩ from rfl)
  rw [HZ.out]
  generalize k + xs.length + ys.length + bs.length + ps.length * 3 = k4 at M4
  generalize k + xs.length + ys.length + bs.length = k3 at M4 M3 HMD
  generalize k + xs.length + ys.length = k2 at M3 M2 HMD
  generalize k + xs.length = k1 at M1 M2 HMD
  go_enter Try.func20, Try.ntmps20
  go_wp2_with fail
  generalize w.alloc (.cells #[.int .i64 st, .slice a1 xs.length c1, .slice a2 ys.length c2, .slice a3 bs.length c3, .slice a4 ps.length c4] 30) = W at HA0 HBa HKa P1 P2 P3 P4 ⊢
  refine (M1.out _ P1.out).mono ?_
  rintro e w1 ⟨rfl, hg, ho⟩
  have G1 := Lib.hid hg
  have K := Lib.hid (HKa.out.gb hg (fun e => by have := (q1.out _ e).2; omega))
  have B1 := Lib.hid (show Below base w w1 from HBa.out.trans (below_gb hg (by have := HBa.out.size; omega) (fun i e => (q1.out i e).1)))
  have R1 := Lib.hid ho
  have R2 := Lib.hid (show OwnTx w1 base _ ys from own_gb P2.out hg n12.out)
  have R3 := Lib.hid (show OwnBo w1 base _ bs from own_gb P3.out hg n13.out)
  have R4 := Lib.hid (show OwnPu w1 base _ ps from own_gb P4.out hg n14.out)
  obtain ⟨p0, p1, p2, p3, p4⟩ : w1.cell? ⟨w.heap.size, 0, none⟩ = some (.int .i64 st) ∧ w1.cell? ⟨w.heap.size, 1, none⟩ = some (.slice a1 xs.length c1) ∧ w1.cell? ⟨w.heap.size, 2, none⟩ = some (.slice a2 ys.length c2) ∧ w1.cell? ⟨w.heap.size, 3, none⟩ = some (.slice a3 bs.length c3) ∧ w1.cell? ⟨w.heap.size, 4, none⟩ = some (.slice a4 ps.length c4) := ⟨(K.out.cell 0), (K.out.cell 1), (K.out.cell 2), (K.out.cell 3), (K.out.cell 4)⟩
  clear hg ho P1 P2 P3 P4 HKa HBa
  go_wp2_with fail
  refine (M2.out _ R2.out).mono ?_
  rintro e w2 ⟨rfl, hg, ho⟩
  have G2 := Lib.hid hg
  have K2 := Lib.hid (K.out.gb hg (fun e => by have := (q2.out _ e).2; omega))
  have B2 := Lib.hid (show Below base w w2 from B1.out.trans (below_gb hg (by have := B1.out.size; omega) (fun i e => (q2.out i e).1)))
  have R1 := Lib.hid (own_gb R1.out hg n21.out)
  have R2 := Lib.hid ho
  have R3 := Lib.hid (show OwnBo w2 base _ bs from own_gb R3.out hg n23.out)
  have R4 := Lib.hid (show OwnPu w2 base _ ps from own_gb R4.out hg n24.out)
  clear p0 p1 p2 p3 p4
  obtain ⟨p0, p1, p2, p3, p4⟩ : w2.cell? ⟨w.heap.size, 0, none⟩ = some (.int .i64 st) ∧ w2.cell? ⟨w.heap.size, 1, none⟩ = some (.slice a1 xs.length c1) ∧ w2.cell? ⟨w.heap.size, 2, none⟩ = some (.slice a2 ys.length c2) ∧ w2.cell? ⟨w.heap.size, 3, none⟩ = some (.slice a3 bs.length c3) ∧ w2.cell? ⟨w.heap.size, 4, none⟩ = some (.slice a4 ps.length c4) := ⟨(K2.out.cell 0), (K2.out.cell 1), (K2.out.cell 2), (K2.out.cell 3), (K2.out.cell 4)⟩
  clear hg ho
  go_wp2_with fail
  refine (M3.out _ R3.out).mono ?_
  rintro e w3 ⟨rfl, hg, ho⟩
  have G3 := Lib.hid hg
  have K3 := Lib.hid (K2.out.gb hg (fun e => by have := (q3.out _ e).2; omega))
  have B3 := Lib.hid (show Below base w w3 from B2.out.trans (below_gb hg (by have := B2.out.size; omega) (fun i e => (q3.out i e).1)))
  have R1 := Lib.hid (own_gb R1.out hg n31.out)
  have R2 := Lib.hid (own_gb R2.out hg n32.out)
  have R3 := Lib.hid ho
  have R4 := Lib.hid (show OwnPu w3 base _ ps from own_gb R4.out hg n34.out)
  clear p0 p1 p2 p3 p4
  obtain ⟨p0, p1, p2, p3, p4⟩ : w3.cell? ⟨w.heap.size, 0, none⟩ = some (.int .i64 st) ∧ w3.cell? ⟨w.heap.size, 1, none⟩ = some (.slice a1 xs.length c1) ∧ w3.cell? ⟨w.heap.size, 2, none⟩ = some (.slice a2 ys.length c2) ∧ w3.cell? ⟨w.heap.size, 3, none⟩ = some (.slice a3 bs.length c3) ∧ w3.cell? ⟨w.heap.size, 4, none⟩ = some (.slice a4 ps.length c4) := ⟨(K3.out.cell 0), (K3.out.cell 1), (K3.out.cell 2), (K3.out.cell 3), (K3.out.cell 4)⟩
  clear hg ho
  go_wp2_with fail
  refine (M4.out _ R4.out).mono ?_
  rintro e w4 ⟨rfl, hg, ho⟩
  have G4 := Lib.hid hg
  have B4 := Lib.hid (show Below base w w4 from B3.out.trans (below_gb hg (by have := B3.out.size; omega) (fun i e => (q4.out i e).1)))
  have R1 := Lib.hid (own_gb R1.out hg n41.out)
  have R2 := Lib.hid (own_gb R2.out hg n42.out)
  have R3 := Lib.hid (own_gb R3.out hg n43.out)
  have R4 := Lib.hid ho
  clear p0 p1 p2 p3 p4 hg ho
  go_wp2
  go_ret
  refine ⟨rfl, B4.out, ⟨_, _, _, _, rfl, ?_⟩, fun D cs t h1 h2 h3 hb => ?_⟩
  · rw [HMD.out]
    exact ⟨R1.out, R2.out, R3.out, R4.out, n12.out⟩
  · exact ((((hb.below HA0.out hb.lt).gb G1.out (t1.out D cs t h1 hb)).gb G2.out (t2.out D cs t h1 hb)).gb G3.out (t3.out D cs t h2 hb)).gb G4.out (t4.out D cs t h3 hb)

set_option maxRecDepth 100000 in
set_option maxHeartbeats 2000000 in
theorem heldDisk_any (k : Nat) (v : Value) (d : DiskD) (w : World) (hk : 0 < k) (hkn : k + mkN d ≤ 100000000) (hv : DiskV w v (mkD k d)) :
    Calls Try.prog 21 #[v, .int .i64 (k : Int)] w fun e w' => e = .returned (.int .i64 ((k + mkN d : Nat) : Int)) ∧ Below w.heap.size w w' := by
  obtain ⟨st, xs, ys, bs, ps⟩ := d
  obtain ⟨v1, v2, v3, v4, rfl, ⟨a1, c1, rfl, l1, m1, x1⟩, ⟨a2, c2, rfl, l2, m2, x2⟩, ⟨a3, c3, rfl, l3, m3, x3⟩, ⟨a4, c4, rfl, l4, m4, x4⟩⟩ := hv
  unfold mkN at hkn
  simp only at hkn
  simp only [mkD] at x1 x2 x3 x4 ⊢
  rw [mkS_length, mkS_length, mkB_length, mkP_length]
  clear l1 l2 l3 l4 m1 m2 m3 m4
  have hB : Below w.heap.size w (w.alloc (.cells #[.int .i64 st, .slice a1 xs.length c1, .slice a2 ys.length c2, .slice a3 bs.length c3, .slice a4 ps.length c4] 30)) := (Below.refl _ _).alloc (Nat.le_refl _) _
  have HB := Lib.hid hB
  have HK := Lib.hid (Blk.new w #[.int .i64 st, .slice a1 xs.length c1, .slice a2 ys.length c2, .slice a3 bs.length c3, .slice a4 ps.length c4] 30)
  have M1 := Lib.hid (fun W (h : Below w.heap.size w W) => heldTx_any a1 xs.length c1 k W hk (by omega) (x1.below h))
  have M2 := Lib.hid (fun W (h : Below w.heap.size w W) => heldTx_any a2 ys.length c2 (k + xs.length) W (by omega) (by omega) (x2.below h))
  have M3 := Lib.hid (fun W (h : Below w.heap.size w W) => heldBo_any a3 bs.length c3 (k + xs.length + ys.length) W (by omega) (x3.below h))
  have M4 := Lib.hid (fun W (h : Below w.heap.size w W) => heldPu_any a4 ps.length c4 (k + xs.length + ys.length + bs.length) W (by omega) (by omega) (x4.below h))
  have HZ := Lib.hid (show k + mkN ⟨st, xs, ys, bs, ps⟩ = k + xs.length + ys.length + bs.length + ps.length * 3 by unfold mkN; simp only; omega)
  rw [HZ.out]
  clear x1 x2 x3 x4 hB
  have d1 : decide (((k + xs.length : Nat) : Int) < 0) = false := decide_eq_false (by omega)
  have d2 : decide (((k + xs.length + ys.length : Nat) : Int) < 0) = false := decide_eq_false (by omega)
  have d3 : decide (((k + xs.length + ys.length + bs.length : Nat) : Int) < 0) = false := decide_eq_false (by omega)
  have d4 : decide (((k + xs.length + ys.length + bs.length + ps.length * 3 : Nat) : Int) < 0) = false := decide_eq_false (by omega)
  generalize k + xs.length + ys.length + bs.length + ps.length * 3 = k4 at M4 d4
  generalize k + xs.length + ys.length + bs.length = k3 at M4 M3 d3
  generalize k + xs.length + ys.length = k2 at M3 M2 d2
  generalize k + xs.length = k1 at M2 M1 d1
  go_enter Try.func21, Try.ntmps21
  go_wp2_with fail
  generalize w.alloc (.cells #[.int .i64 st, .slice a1 xs.length c1, .slice a2 ys.length c2, .slice a3 bs.length c3, .slice a4 ps.length c4] 30) = W at HB HK ⊢
  refine (M1.out _ HB.out).mono ?_
  rintro e w1 ⟨rfl, hB1⟩
  have K1 := Lib.hid (HK.out.below hB1 HK.out.lt)
  have B1 := Lib.hid (below_trans HB.out hB1 HB.out.size)
  obtain ⟨p0, p1, p2, p3, p4⟩ : w1.cell? ⟨w.heap.size, 0, none⟩ = some (.int .i64 st) ∧ w1.cell? ⟨w.heap.size, 1, none⟩ = some (.slice a1 xs.length c1) ∧ w1.cell? ⟨w.heap.size, 2, none⟩ = some (.slice a2 ys.length c2) ∧ w1.cell? ⟨w.heap.size, 3, none⟩ = some (.slice a3 bs.length c3) ∧ w1.cell? ⟨w.heap.size, 4, none⟩ = some (.slice a4 ps.length c4) := ⟨(K1.out.cell 0), (K1.out.cell 1), (K1.out.cell 2), (K1.out.cell 3), (K1.out.cell 4)⟩
  clear hB1
  go_wp2_with fail
  refine (M2.out _ B1.out).mono ?_
  rintro e w2 ⟨rfl, hB2⟩
  have K2 := Lib.hid (K1.out.below hB2 K1.out.lt)
  have B2 := Lib.hid (below_trans B1.out hB2 B1.out.size)
  clear p0 p1 p2 p3 p4
  obtain ⟨p0, p1, p2, p3, p4⟩ : w2.cell? ⟨w.heap.size, 0, none⟩ = some (.int .i64 st) ∧ w2.cell? ⟨w.heap.size, 1, none⟩ = some (.slice a1 xs.length c1) ∧ w2.cell? ⟨w.heap.size, 2, none⟩ = some (.slice a2 ys.length c2) ∧ w2.cell? ⟨w.heap.size, 3, none⟩ = some (.slice a3 bs.length c3) ∧ w2.cell? ⟨w.heap.size, 4, none⟩ = some (.slice a4 ps.length c4) := ⟨(K2.out.cell 0), (K2.out.cell 1), (K2.out.cell 2), (K2.out.cell 3), (K2.out.cell 4)⟩
  clear hB2
  go_wp2_with fail
  refine (M3.out _ B2.out).mono ?_
  rintro e w3 ⟨rfl, rfl⟩
  go_wp2_with fail
  refine (M4.out _ B2.out).mono ?_
  rintro e w4 ⟨rfl, hB4⟩
  go_wp2
  go_ret
  exact ⟨rfl, below_trans B2.out hB4 B2.out.size⟩

end Go.Proofs.Ytbkagnlomlnhcaa
