/- What is drawn for DiskFlush, DiskPut and DiskCrash: a disk that can be read, a write, a number; nothing old turns. Conditions: none. -/
import Derived.Test.YtifgoanicbaohaaPDY5
namespace Go.Proofs.Ytifgoanicbaohaa
open Go.RowKit Go.Sort

/-- A DRAWN DISK. -/
def DrawnD (w : World) (e : Ending) (w' : World) : Prop := ∃ (d : DiskD) (v : Value), e = .returned v ∧ DiskV w' v d ∧ Below w.heap.size w w'
theorem below_g {n : Nat} {w w1 w2 : World} {B : Nat} (h : Below n w w1) (hg : w1.grownBy w2 (some B)) (hB : n ≤ B) (hn : n ≤ w1.heap.size) : Below n w w2 := h.trans (Below.ofGrown hg hB hn)

/-- Two worlds agree on the blocks between two places. -/
def Agr (n m : Nat) (w wx : World) : Prop := ∀ E, n < E → E < m → wx.heap[E]? = w.heap[E]?
theorem Agr.below {n m : Nat} {w wx wy : World} (h : Agr n m w wx) (hB : Below wx.heap.size wx wy) (hm : m ≤ wx.heap.size) : Agr n m w wy := fun E h1 h2 => (hB.block E (by omega)).trans (h E h1 h2)
theorem Agr.grown {n m B : Nat} {w wx wy : World} (h : Agr n m w wx) (hg : wx.grownBy wy (some B)) (hB : B ≤ n) (hm : m ≤ wx.heap.size) : Agr n m w wy := fun E h1 h2 => (hg.block E (by omega) (by simp; omega)).trans (h E h1 h2)
theorem Agr.set {n m : Nat} {w wx : World} (h : Agr n m w wx) {R : Nat} (hR : R ≤ n ∨ m ≤ R) (j : Nat) (u : Value) : Agr n m w (wx.setCell ⟨R, j, none⟩ u) := fun E h1 h2 => (Below.heap_setCell _ _ _ _ (by show E ≠ R; omega)).trans (h E h1 h2)
theorem Agr.drew {n m : Nat} {w wx : World} (h : Agr n m w wx) : Agr n m w wx.drew := fun E h1 h2 => h E h1 h2

/-- A DRAWN DISK AND WRITE. -/
def DrawnDP (w : World) (e : Ending) (w' : World) : Prop := ∃ (d : DiskD) (v : Value) (x : PutD), e = .returned (.tuple #[v, .agg #[.bool x.ring, .int .i64 x.pos, .string x.text]]) ∧ DiskV w' v d ∧ Below w.heap.size w w'
def tabY (v : Int) : Int := if v = 0 then -1 else 12
theorem tabY_cell (v : Int) (h0 : 0 ≤ v) (h4 : v < 2) : (#[.int .i64 (-1), .int .i64 12] : Array Value)[v.toNat]? = some (.int .i64 (tabY v)) := by
  obtain ⟨n, rfl⟩ := Int.eq_ofNat_of_zero_le h0
  match n, h4 with
  | 0, _ => rfl
  | 1, _ => rfl
  | n + 2, h => omega

set_option maxRecDepth 100000 in
set_option maxHeartbeats 4000000 in
theorem drawPut_any (a : Option Addr) (len cap : Nat) (z : List Int) (w : World) (h : IsBytes w a len cap z) :
    Calls Try.prog 18 #[.slice a len cap] w (DrawnDP w) := by
  have B0 := Lib.hid (show Below w.heap.size w ((w.alloc (.cells #[.int .i64 0, .slice none 0 0, .slice none 0 0, .slice none 0 0, .slice none 0 0] 27)).alloc (.cells #[.bool false, .int .i64 0, .string ⟨#[]⟩] 33)) from ((Below.refl _ _).alloc (Nat.le_refl _) _).alloc (by simp) _)
  have H := Lib.hid (h.below B0.out)
  have K := Lib.hid (show Blk ((w.alloc (.cells #[.int .i64 0, .slice none 0 0, .slice none 0 0, .slice none 0 0, .slice none 0 0] 27)).alloc (.cells #[.bool false, .int .i64 0, .string ⟨#[]⟩] 33)) w.heap.size zeroC 27 from (Blk.new w #[.int .i64 0, .slice none 0 0, .slice none 0 0, .slice none 0 0, .slice none 0 0] 27).below (n := w.heap.size + 1) ((Below.refl _ _).alloc (by simp) _) (by omega))
  have KP := Lib.hid (show Blk ((w.alloc (.cells #[.int .i64 0, .slice none 0 0, .slice none 0 0, .slice none 0 0, .slice none 0 0] 27)).alloc (.cells #[.bool false, .int .i64 0, .string ⟨#[]⟩] 33)) (w.heap.size + 1) #[.bool false, .int .i64 0, .string ⟨#[]⟩] 33 by
    have := Blk.new (w.alloc (.cells #[.int .i64 0, .slice none 0 0, .slice none 0 0, .slice none 0 0, .slice none 0 0] 27)) #[.bool false, .int .i64 0, .string ⟨#[]⟩] 33
    rw [World.size_alloc] at this
    exact this)
  have hs : w.heap.size + 1 < ((w.alloc (.cells #[.int .i64 0, .slice none 0 0, .slice none 0 0, .slice none 0 0, .slice none 0 0] 27)).alloc (.cells #[.bool false, .int .i64 0, .string ⟨#[]⟩] 33)).heap.size := by simp
  clear h
  go_enter Try.func18, Try.ntmps18
  go_wp2_with fail
  generalize ((w.alloc (.cells #[.int .i64 0, .slice none 0 0, .slice none 0 0, .slice none 0 0, .slice none 0 0] 27)).alloc (.cells #[.bool false, .int .i64 0, .string ⟨#[]⟩] 33)) = W at B0 H K KP hs ⊢
  refine (l6Open_any a len cap z _ H.out).mono ?_
  rintro e w1 ⟨B, rfl, hR1, hB1⟩
  have hBB := hR1.1
  have K := Lib.hid (K.out.below hB1 K.out.lt)
  have KP := Lib.hid (KP.out.below hB1 KP.out.lt)
  have B0 := Lib.hid (below_trans B0.out hB1 B0.out.size)
  have HR := Lib.hid hR1
  clear hR1 hB1
  go_wp2_with fail
  have B1 := B0.out.size
  refine (l71Disk_any _ B 0 _ (by omega) HR.out).mono ?_
  rintro e w2 ⟨d, v, q, rfl, hV, hq, hR2, hg⟩
  have hBl1 := HR.out.lt
  have K := Lib.hid (K.out.grown hg (by omega))
  have KP := Lib.hid (KP.out.grown hg (by omega))
  have B0 := Lib.hid (below_g B0.out hg (by omega) B0.out.size)
  have HV := Lib.hid hV
  have HR := Lib.hid hR2
  have hBl := hR2.lt
  have hz12 := hg.size
  clear hg hR2
  have hV2 := hV w2 (fun _ _ _ => rfl)
  clear hV
  obtain ⟨_, _, _, _, rfl, ⟨o1, c1, rfl, _⟩, ⟨o2, c2, rfl, _⟩, ⟨o3, c3, rfl, _⟩, ⟨o4, c4, rfl, _⟩⟩ := hV2
  have hA := Lib.hid (show Below w2.heap.size w2 (w2.alloc (.cells #[.int .i64 d.state, .slice o1 d.slots.length c1, .slice o2 d.rings.length c2, .slice o3 d.spoilt.length c3, .slice o4 d.wait.length c4] 27)) from (Below.refl _ _).alloc (Nat.le_refl _) _)
  have K := Lib.hid (K.out.below hA.out K.out.lt)
  have KP := Lib.hid (KP.out.below hA.out KP.out.lt)
  have KD := Lib.hid (Blk.new w2 #[.int .i64 d.state, .slice o1 d.slots.length c1, .slice o2 d.rings.length c2, .slice o3 d.spoilt.length c3, .slice o4 d.wait.length c4] 27)
  have hzw := B0.out.size
  have B0 := Lib.hid (below_trans B0.out hA.out B0.out.size)
  have HR := Lib.hid (HR.out.below hA.out)
  have Ag : Hid (Agr w1.heap.size w2.heap.size w2 (w2.alloc (.cells #[.int .i64 d.state, .slice o1 d.slots.length c1, .slice o2 d.rings.length c2, .slice o3 d.spoilt.length c3, .slice o4 d.wait.length c4] 27))) := fun E h1 h2 => hA.out.block E h2
  have hD2 : w.heap.size + 1 < w2.heap.size ∧ w.heap.size + 1 ≤ w1.heap.size := by have := KP.out.lt; have := K.out.lt; omega
  have hN : w2.heap.size < (w2.alloc (.cells #[.int .i64 d.state, .slice o1 d.slots.length c1, .slice o2 d.rings.length c2, .slice o3 d.spoilt.length c3, .slice o4 d.wait.length c4] 27)).heap.size := by simp
  clear hA
  go_wp2_with fail
  generalize w2.alloc (.cells #[.int .i64 d.state, .slice o1 d.slots.length c1, .slice o2 d.rings.length c2, .slice o3 d.spoilt.length c3, .slice o4 d.wait.length c4] 27) = W2 at K KP KD B0 HR Ag hN ⊢
  refine (l71Put_any _ B q _ (by omega) HR.out).mono ?_
  rintro e w3 ⟨x, q3, rfl, hx, hq3, hR3, hg3⟩
  have hxs := put_text hx
  obtain ⟨xr, xz, xt⟩ := x
  simp only at hxs ⊢
  have K := Lib.hid (K.out.grown hg3 (by omega))
  have KP := Lib.hid (KP.out.grown hg3 (by omega))
  have KD := Lib.hid (KD.out.grown hg3 (by omega))
  have B0 := Lib.hid (below_g B0.out hg3 (by omega) B0.out.size)
  have Ag := Lib.hid (Ag.out.grown hg3 (by omega) (by omega))
  have HR := Lib.hid hR3
  have hN3 := Nat.lt_of_lt_of_le hN hg3.size
  clear hg3 hR3 hx
  have hA := Lib.hid (show Below w3.heap.size w3 (w3.alloc (.cells #[.bool xr, .int .i64 xz, .string xt] 33)) from (Below.refl _ _).alloc (Nat.le_refl _) _)
  have K := Lib.hid (K.out.below hA.out K.out.lt)
  have KP := Lib.hid (KP.out.below hA.out KP.out.lt)
  have KD := Lib.hid (KD.out.below hA.out KD.out.lt)
  have KX := Lib.hid (Blk.new w3 #[.bool xr, .int .i64 xz, .string xt] 33)
  have B0 := Lib.hid (below_trans B0.out hA.out B0.out.size)
  have HR := Lib.hid (HR.out.below hA.out)
  have Ag := Lib.hid (Ag.out.below hA.out (by omega))
  have hN4 : w3.heap.size < (w3.alloc (.cells #[.bool xr, .int .i64 xz, .string xt] 33)).heap.size := by simp
  clear hA
  go_wp2_with fail
  generalize w3.alloc (.cells #[.bool xr, .int .i64 xz, .string xt] 33) = W3 at K KP KD KX B0 HR Ag hN4 ⊢
  generalize w3.heap.size = E at KX hN3 hN4 ⊢
  generalize hDD : w2.heap.size = D at KD hN3 hD2 Ag hN ⊢
  refine (pick_any _ B q3 20 _ (by omega) HR.out).mono ?_
  rintro e w4 ⟨v4, rfl, hv4, _, hR4, hg4⟩
  have K := Lib.hid (K.out.grown hg4 (by omega))
  have KP := Lib.hid (KP.out.grown hg4 (by omega))
  have KD := Lib.hid (KD.out.grown hg4 (by omega))
  have KX := Lib.hid (KX.out.grown hg4 (by omega))
  have B0 := Lib.hid (below_g B0.out hg4 (by omega) B0.out.size)
  have Ag := Lib.hid (Ag.out.grown hg4 (by omega) (by omega))
  have HR := Lib.hid hR4
  have hN5 := Nat.lt_of_lt_of_le hN4 hg4.size
  clear hg4 hR4
  have hn1 : w.heap.size ≠ D := by omega
  have hn2 : w.heap.size ≠ E := by omega
  have hn3 : w.heap.size + 1 ≠ D := by omega
  have hn4 : w.heap.size + 1 ≠ E := by omega
  have hn5 : D ≠ E := by omega
  have hz1 : w.heap.size ≤ w1.heap.size := by omega
  have hz2 : w.heap.size + 1 ≤ w1.heap.size := by omega
  have hBD : B < D := by omega
  have hBE : B < E := by omega
  have HDD := Lib.hid hDD
  clear hDD
  have En := Lib.hid (fun (wx : World) (x0 x1 x2 x3 x4 u0 u1 u2 : Value) (hA : Agr w1.heap.size D w2 wx) (hB : Below w.heap.size w wx) =>
    (show DiskV ((((((((wx.setCell ⟨w.heap.size, 0, none⟩ x0).setCell ⟨w.heap.size, 1, none⟩ x1).setCell ⟨w.heap.size, 2, none⟩ x2).setCell ⟨w.heap.size, 3, none⟩ x3).setCell ⟨w.heap.size, 4, none⟩ x4).setCell ⟨w.heap.size + 1, 0, none⟩ u0).setCell ⟨w.heap.size + 1, 1, none⟩ u1).setCell ⟨w.heap.size + 1, 2, none⟩ u2).drew (.agg #[.int .i64 d.state, .slice o1 d.slots.length c1, .slice o2 d.rings.length c2, .slice o3 d.spoilt.length c3, .slice o4 d.wait.length c4]) d ∧ Below w.heap.size w ((((((((wx.setCell ⟨w.heap.size, 0, none⟩ x0).setCell ⟨w.heap.size, 1, none⟩ x1).setCell ⟨w.heap.size, 2, none⟩ x2).setCell ⟨w.heap.size, 3, none⟩ x3).setCell ⟨w.heap.size, 4, none⟩ x4).setCell ⟨w.heap.size + 1, 0, none⟩ u0).setCell ⟨w.heap.size + 1, 1, none⟩ u1).setCell ⟨w.heap.size + 1, 2, none⟩ u2).drew from
      ⟨HV.out _ (by rw [HDD.out]; exact ((((((((hA.set (.inl hz1) 0 x0).set (.inl hz1) 1 x1).set (.inl hz1) 2 x2).set (.inl hz1) 3 x3).set (.inl hz1) 4 x4).set (.inl hz2) 0 u0).set (.inl hz2) 1 u1).set (.inl hz2) 2 u2).drew),
        ((((sets_below hB (Nat.le_refl _)).setCell (p := ⟨w.heap.size + 1, 0, none⟩) (Nat.le_succ _) u0).setCell (p := ⟨w.heap.size + 1, 1, none⟩) (Nat.le_succ _) u1).setCell (p := ⟨w.heap.size + 1, 2, none⟩) (Nat.le_succ _) u2).drew⟩))
  by_cases h0 : v4 = 0
  · have e0 : ((v4 : Int) == 0) = true := by simp; omega
    clear h0
    obtain ⟨x0, x1, x2, x3, x4, t0, t1, t2, t3, t4⟩ := zero5 K.out
    obtain ⟨u0, u1, u2, r0, r1, r2⟩ := blk3 KP.out
    obtain ⟨k0, k1, k2, k3, k4⟩ : w4.cell? ⟨D, 0, none⟩ = some (.int .i64 d.state) ∧ w4.cell? ⟨D, 1, none⟩ = some (.slice o1 d.slots.length c1) ∧ w4.cell? ⟨D, 2, none⟩ = some (.slice o2 d.rings.length c2) ∧ w4.cell? ⟨D, 3, none⟩ = some (.slice o3 d.spoilt.length c3) ∧ w4.cell? ⟨D, 4, none⟩ = some (.slice o4 d.wait.length c4) := ⟨KD.out.cell 0, KD.out.cell 1, KD.out.cell 2, KD.out.cell 3, KD.out.cell 4⟩
    obtain ⟨m0, m1, m2, l0, l1, l2⟩ := blk3 KX.out
    go_wp2_with fail
    go_region
    all_goals
      go_wp2
      refine bodyPost_ret (v := .tuple #[.agg #[.int .i64 d.state, .slice o1 d.slots.length c1, .slice o2 d.rings.length c2, .slice o3 d.spoilt.length c3, .slice o4 d.wait.length c4], .agg #[.bool xr, .int .i64 xz, .string (xt ++ ⟨#[97]⟩)]]) (by simp [results, Try.results18, go_sem, x0, x1, x2, x3, x4, u0, u1, u2]) rfl ?_
      obtain ⟨e1, e2⟩ := En.out (w4.setCell ⟨E, 2, none⟩ (.string (xt ++ ⟨#[97]⟩))) _ _ _ _ _ _ _ _ (Ag.out.set (.inr (by omega)) 2 _) (B0.out.setCell (p := ⟨E, 2, none⟩) (by simp; omega) _)
      exact ⟨d, _, ⟨xr,  xz, (xt ++ ⟨#[97]⟩)⟩, rfl, e1, e2⟩
  · have e0 : ((v4 : Int) == 0) = false := by simp; omega
    clear h0
    by_cases h1 : v4 = 1
    · have e1 : ((v4 : Int) == 1) = true := by simp; omega
      clear h1
      have hA := Lib.hid (show Below w4.heap.size w4 (w4.alloc (.cells #[.int .i64 (-1), .int .i64 12] 3)) from (Below.refl _ _).alloc (Nat.le_refl _) _)
      have K := Lib.hid (K.out.below hA.out K.out.lt)
      have KP := Lib.hid (KP.out.below hA.out KP.out.lt)
      have KD := Lib.hid (KD.out.below hA.out KD.out.lt)
      have KX := Lib.hid (KX.out.below hA.out KX.out.lt)
      have KT := Lib.hid (Blk.new w4 #[.int .i64 (-1), .int .i64 12] 3)
      have B0 := Lib.hid (below_trans B0.out hA.out B0.out.size)
      have HR := Lib.hid (HR.out.below hA.out)
      have Ag := Lib.hid (Ag.out.below hA.out (by omega))
      have hN6 := hA.out.size
      clear hA
      go_wp2_with fail
      generalize w4.alloc (.cells #[.int .i64 (-1), .int .i64 12] 3) = W4 at K KP KD KX KT B0 HR Ag hN6 ⊢
      refine (pick_any _ B (q3 + 1) 2 _ (by omega) HR.out).mono ?_
      rintro e w5 ⟨v5, rfl, hv5, hv5n, hR5, hg5⟩
      have hv52 := hv5n (by omega)
      have K := Lib.hid (K.out.grown hg5 (by omega))
      have KP := Lib.hid (KP.out.grown hg5 (by omega))
      have KD := Lib.hid (KD.out.grown hg5 (by omega))
      have KX := Lib.hid (KX.out.grown hg5 (by omega))
      have KT := Lib.hid (KT.out.grown hg5 (by omega))
      have B0 := Lib.hid (below_g B0.out hg5 (by omega) B0.out.size)
      have Ag := Lib.hid (Ag.out.grown hg5 (by omega) (by omega))
      have ht : w5.cell? ⟨w4.heap.size, v5.toNat, none⟩ = some (.int .i64 (tabY v5)) := (KT.out.cell _).trans (tabY_cell v5 hv5 hv52)
      clear hg5 hR5 hv5n
      generalize tabY v5 = tv at ht
      obtain ⟨x0, x1, x2, x3, x4, t0, t1, t2, t3, t4⟩ := zero5 K.out
      obtain ⟨u0, u1, u2, r0, r1, r2⟩ := blk3 KP.out
      obtain ⟨k0, k1, k2, k3, k4⟩ : w5.cell? ⟨D, 0, none⟩ = some (.int .i64 d.state) ∧ w5.cell? ⟨D, 1, none⟩ = some (.slice o1 d.slots.length c1) ∧ w5.cell? ⟨D, 2, none⟩ = some (.slice o2 d.rings.length c2) ∧ w5.cell? ⟨D, 3, none⟩ = some (.slice o3 d.spoilt.length c3) ∧ w5.cell? ⟨D, 4, none⟩ = some (.slice o4 d.wait.length c4) := ⟨KD.out.cell 0, KD.out.cell 1, KD.out.cell 2, KD.out.cell 3, KD.out.cell 4⟩
      obtain ⟨m0, m1, m2, l0, l1, l2⟩ := blk3 KX.out
      go_wp2_with fail
      go_region
      all_goals
        go_wp2
        refine bodyPost_ret (v := .tuple #[.agg #[.int .i64 d.state, .slice o1 d.slots.length c1, .slice o2 d.rings.length c2, .slice o3 d.spoilt.length c3, .slice o4 d.wait.length c4], .agg #[.bool xr, .int .i64 tv, .string xt]]) (by simp [results, Try.results18, go_sem, x0, x1, x2, x3, x4, u0, u1, u2]) rfl ?_
        obtain ⟨e1, e2⟩ := En.out (w5.setCell ⟨E, 1, none⟩ (.int .i64 tv)) _ _ _ _ _ _ _ _ (Ag.out.set (.inr (by omega)) 1 _) (B0.out.setCell (p := ⟨E, 1, none⟩) (by simp; omega) _)
        exact ⟨d, _, ⟨xr,  tv, xt⟩, rfl, e1, e2⟩
    · have e1 : ((v4 : Int) == 1) = false := by simp; omega
      clear h1
      obtain ⟨x0, x1, x2, x3, x4, t0, t1, t2, t3, t4⟩ := zero5 K.out
      obtain ⟨u0, u1, u2, r0, r1, r2⟩ := blk3 KP.out
      obtain ⟨k0, k1, k2, k3, k4⟩ : w4.cell? ⟨D, 0, none⟩ = some (.int .i64 d.state) ∧ w4.cell? ⟨D, 1, none⟩ = some (.slice o1 d.slots.length c1) ∧ w4.cell? ⟨D, 2, none⟩ = some (.slice o2 d.rings.length c2) ∧ w4.cell? ⟨D, 3, none⟩ = some (.slice o3 d.spoilt.length c3) ∧ w4.cell? ⟨D, 4, none⟩ = some (.slice o4 d.wait.length c4) := ⟨KD.out.cell 0, KD.out.cell 1, KD.out.cell 2, KD.out.cell 3, KD.out.cell 4⟩
      obtain ⟨m0, m1, m2, l0, l1, l2⟩ := blk3 KX.out
      go_wp2_with fail
      go_region
      all_goals
        go_wp2
        refine bodyPost_ret (v := .tuple #[.agg #[.int .i64 d.state, .slice o1 d.slots.length c1, .slice o2 d.rings.length c2, .slice o3 d.spoilt.length c3, .slice o4 d.wait.length c4], .agg #[.bool xr, .int .i64 xz, .string xt]]) (by simp [results, Try.results18, go_sem, x0, x1, x2, x3, x4, u0, u1, u2]) rfl ?_
        obtain ⟨e1, e2⟩ := En.out w4 _ _ _ _ _ _ _ _ Ag.out B0.out
        exact ⟨d, _, ⟨xr,  xz, xt⟩, rfl, e1, e2⟩

end Go.Proofs.Ytifgoanicbaohaa
