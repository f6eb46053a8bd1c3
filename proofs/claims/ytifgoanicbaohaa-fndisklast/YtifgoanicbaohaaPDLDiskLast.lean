/- 'laws.FnDiskLast' returns true at every code: of a drawn disk and write DiskPut of the program answers as DiskPut of the specification; of two writes that wait for a slot the last is read, and behind a fall what came. Conditions: none. -/
import Derived.Test.YtifgoanicbaohaaPDY6
import Derived.Test.YtifgoanicbaohaaPDVT
import Derived.Test.YtifgoanicbaohaaPDV6
import Derived.Test.YtifgoanicbaohaaPDN3
import Derived.Test.YtifgoanicbaohaaPDN2
import Derived.Test.YtifgoanicbaohaaPDH9
import Derived.Test.YtifgoanicbaohaaPDK
import Derived.Lib.QuietBelow
namespace Go.Proofs.Ytifgoanicbaohaa
open Go.ChangeShapes Go.WideShapes Go.ChangeAt Go.RowKit Go.Sort
namespace FnDiskLast
set_option linter.unusedVariables false

section
variable {P : Program} {ops : Array Oper} {Q : Exit → Act → World → Prop} {md : Region.Mode} {S : World → Prop}
/-- Two are ready. -/
theorem two (i j : Nat) {oi oj : Oper} {n : Nat} {done : Array Bool} {a : Act} {w : World} (hr : Region.ready md ops done = [i, j]) (hoi : ops[i]? = some oi) (hoj : ops[j]? = some oj)
    (hi : ∀ K' : Act → World → Prop, (∀ a w, AnyT P md ops Q S n (done.setIfInBounds i true) a w ∧ S w → K' a w) → if Region.wanted oi (yielded ops a.tmps) = true then Oper.wp P oi a w K' Q else K' (a.put oi.dst undef) w)
    (hj : ∀ K' : Act → World → Prop, (∀ a w, AnyT P md ops Q S n (done.setIfInBounds j true) a w ∧ S w → K' a w) → if Region.wanted oj (yielded ops a.tmps) = true then Oper.wp P oj a w K' Q else K' (a.put oj.dst undef) w) : AnyT P md ops Q S (n + 1) done a w := by
  refine ⟨fun k hk => ?_, fun h0 => by rw [hr] at h0; cases h0⟩
  rw [hr] at hk
  have hk' : k = i ∨ k = j := by simpa using hk
  rcases hk' with rfl | rfl
  · exact wpOp_step hoi hi
  · exact wpOp_step hoj hj
end
def After (w wx : World) (s : Value) (r : DiskD) : Prop :=
  ∃ D cs, s = .pointer (some ⟨D, 0, none⟩) ∧ Hid (Blk wx D cs 27) ∧ Hid (OwnDisk wx w.heap.size (.agg cs) r) ∧ Hid (Below w.heap.size w wx) ∧ w.heap.size ≤ D
theorem After.below {w wx : World} {s : Value} {r : DiskD} (h : After w wx s r) : Below w.heap.size w wx := by
  obtain ⟨_, _, _, _, _, h, _⟩ := h
  exact h.out
theorem after_new {w w3 : World} {r : DiskD} {cs : Array Value} {base : Nat} (o : OwnDisk w3 base (.agg cs) r) (hb : w.heap.size ≤ base) (B : Below w.heap.size w w3) :
    After w (w3.alloc (.cells cs 27)) (.pointer (some ⟨w3.heap.size, 0, none⟩)) r :=
  ⟨_, cs, rfl, Blk.new _ _ _, (o.mono hb).below ((Below.refl _ _).alloc (Nat.le_refl _) _), below_trans B ((Below.refl _ _).alloc (Nat.le_refl _) _) B.size, B.size⟩
theorem below_set {n : Nat} {w w3 : World} (B : Below n w w3) (D j : Nat) (u : Value) (h : n ≤ D) : Below n w (w3.setCell ⟨D, j, none⟩ u) := by
  first
    | exact B.setCell h _
    | exact B.setCell _ _ h
    | exact B.trans (Below.setCell (Below.refl _ _) h _)
    | exact ⟨B.os, B.tape, B.output, by simpa using B.size, fun b hb => (Below.heap_setCell _ _ _ _ (by omega)).trans (B.block b hb)⟩
/-- A block of five cells, set anew. -/
def put5 (w : World) (D : Nat) (x0 x1 x2 x3 x4 : Value) : World := ((((w.setCell ⟨D, 0, none⟩ x0).setCell ⟨D, 1, none⟩ x1).setCell ⟨D, 2, none⟩ x2).setCell ⟨D, 3, none⟩ x3).setCell ⟨D, 4, none⟩ x4
theorem put5_eq (w : World) (D : Nat) (x0 x1 x2 x3 x4 : Value) : ((((w.setCell ⟨D, 0, none⟩ x0).setCell ⟨D, 1, none⟩ x1).setCell ⟨D, 2, none⟩ x2).setCell ⟨D, 3, none⟩ x3).setCell ⟨D, 4, none⟩ x4 = put5 w D x0 x1 x2 x3 x4 := rfl
theorem put5_far {w : World} {base D : Nat} {v : Value} {r : DiskD} (o : OwnDisk w base v r) (h : D < base) (x0 x1 x2 x3 x4 : Value) : OwnDisk (put5 w D x0 x1 x2 x3 x4) base v r :=
  ((((o.far D 0 x0 h).far D 1 x1 h).far D 2 x2 h).far D 3 x3 h).far D 4 x4 h
theorem put5_blk {w : World} {D : Nat} {x0 x1 x2 x3 x4 z0 z1 z2 z3 z4 : Value} {t : TypeId} (K : Blk w D #[z0, z1, z2, z3, z4] t) : Blk (put5 w D x0 x1 x2 x3 x4) D #[x0, x1, x2, x3, x4] t :=
  ((((K.set 0 x0).set 1 x1).set 2 x2).set 3 x3).set 4 x4
theorem put5_other {w : World} {D E : Nat} {cs : Array Value} {t : TypeId} (K : Blk w E cs t) (h : D ≠ E) (x0 x1 x2 x3 x4 : Value) : Blk (put5 w D x0 x1 x2 x3 x4) E cs t :=
  ((((K.other D 0 x0 h).other D 1 x1 h).other D 2 x2 h).other D 3 x3 h).other D 4 x4 h
theorem put5_below {n : Nat} {w w3 : World} (B : Below n w w3) {D : Nat} (h : n ≤ D) (x0 x1 x2 x3 x4 : Value) : Below n w (put5 w3 D x0 x1 x2 x3 x4) :=
  below_set (below_set (below_set (below_set (below_set B D 0 x0 h) D 1 x1 h) D 2 x2 h) D 3 x3 h) D 4 x4 h
theorem after_set {w w3 : World} {r : DiskD} {x0 x1 x2 x3 x4 z0 z1 z2 z3 z4 : Value} {base D : Nat} (o : OwnDisk w3 base (.agg #[x0, x1, x2, x3, x4]) r) (hb : w.heap.size ≤ base) (B : Below w.heap.size w w3)
    (K : Blk w3 D #[z0, z1, z2, z3, z4] 27) (hD : w.heap.size ≤ D) (hDb : D < base) :
    After w (((((w3.setCell ⟨D, 0, none⟩ x0).setCell ⟨D, 1, none⟩ x1).setCell ⟨D, 2, none⟩ x2).setCell ⟨D, 3, none⟩ x3).setCell ⟨D, 4, none⟩ x4) (.pointer (some ⟨D, 0, none⟩)) r :=
  ⟨D, #[x0, x1, x2, x3, x4], rfl, put5_blk K, (put5_far o hDb x0 x1 x2 x3 x4).mono hb, put5_below B hD x0 x1 x2 x3 x4, hD⟩
theorem blk5 {w : World} {D : Nat} {z0 z1 z2 z3 z4 : Value} {t : TypeId} (K : Blk w D #[z0, z1, z2, z3, z4] t) :
    w.cell? ⟨D, 0, none⟩ = some z0 ∧ w.cell? ⟨D, 1, none⟩ = some z1 ∧ w.cell? ⟨D, 2, none⟩ = some z2 ∧ w.cell? ⟨D, 3, none⟩ = some z3 ∧ w.cell? ⟨D, 4, none⟩ = some z4 ∧
      w.frozen? ⟨D, 0, none⟩ = false ∧ w.frozen? ⟨D, 1, none⟩ = false ∧ w.frozen? ⟨D, 2, none⟩ = false ∧ w.frozen? ⟨D, 3, none⟩ = false ∧ w.frozen? ⟨D, 4, none⟩ = false :=
  ⟨K.cell 0, K.cell 1, K.cell 2, K.cell 3, K.cell 4, K.frozen 0, K.frozen 1, K.frozen 2, K.frozen 3, K.frozen 4⟩

theorem there3 {t : ByteArray} (h : t.size = 3) : isThere t = true := by
  unfold isThere
  rw [tt_false (show ¬Empty0 t from fun e => by unfold Empty0 at e; omega)]
  rfl
theorem reads {y : DiskD} {z : Int} {t : ByteArray} (h : readD y z = t) (h3 : t.size = 3) (u : Value) (W : World) (hu : DiskV W u y) : Calls Try.prog 20 #[u, .int .i64 z] W (fun e w' => e = .returned (.tuple #[.string t, .bool true]) ∧ Below W.heap.size W w') := by
  have := implRead_any u y z W hu
  rw [h, there3 h3] at this
  exact this
/-- WHAT FOLLOWS: the flush, the two writes, the flush and the falls of what then is, and what is read of each. -/
def Rest (d : DiskD) (xz : Int) (xt ab xy : ByteArray) (r : DiskD) : Prop := ∃ f y1 y yf yc : DiskD,
    Hid (∀ u W, DiskV W u r → Calls Try.prog 12 #[u] W (NewDisk f W)) ∧ Hid (∀ t, t = ab → ∀ u W, DiskV W u f → Calls Try.prog 16 #[u, .agg #[.bool false, .int .i64 xz, .string t]] W (NewDisk y1 W)) ∧ Hid (∀ t, t = xy → ∀ u W, DiskV W u y1 → Calls Try.prog 16 #[u, .agg #[.bool false, .int .i64 xz, .string t]] W (NewDisk y W)) ∧
    Hid (∀ u W, DiskV W u y → Calls Try.prog 12 #[u] W (NewDisk yf W)) ∧ Hid (∀ u W, DiskV W u y → Calls Try.prog 7 #[u, .int .i64 1] W (NewDisk yc W)) ∧
    Hid (∀ u W, DiskV W u y → Calls Try.prog 20 #[u, .int .i64 xz] W (fun e w' => e = .returned (.tuple #[.string xy, .bool true]) ∧ Below W.heap.size W w')) ∧ Hid (∀ u W, DiskV W u yf → Calls Try.prog 20 #[u, .int .i64 xz] W (fun e w' => e = .returned (.tuple #[.string xy, .bool true]) ∧ Below W.heap.size W w')) ∧
    Hid (∀ u W, DiskV W u yc → Calls Try.prog 20 #[u, .int .i64 xz] W (fun e w' => e = .returned (.tuple #[.string ab, .bool true]) ∧ Below W.heap.size W w')) ∧
    Hid (∀ c : Int, c = 0 ∨ c = 2 → ∃ (yd : DiskD) (t : ByteArray), (t = xt ∨ t = xy) ∧ (∀ u W, DiskV W u y → Calls Try.prog 7 #[u, .int .i64 c] W (NewDisk yd W)) ∧ (∀ u W, DiskV W u yd → Calls Try.prog 20 #[u, .int .i64 xz] W (fun e w' => e = .returned (.tuple #[.string t, .bool true]) ∧ Below W.heap.size W w')))
theorem choose (d : DiskD) (xr : Bool) (xz : Int) (xt ab xy : ByteArray) (ha : ab.size = 3) (hx : xy.size = 3) : ∃ r : DiskD, Hid (∀ u W, DiskV W u d → Calls Try.prog 19 #[u, .agg #[.bool xr, .int .i64 xz, .string xt]] W (NewDisk r W)) ∧ Hid (∀ u W, DiskV W u d → Calls Try.prog 16 #[u, .agg #[.bool xr, .int .i64 xz, .string xt]] W (NewDisk r W)) ∧
    (r.slots.length = 0 ∨ (r.slots.length = 12 ∧ (xr = true ∨ (xr = false ∧ (d.state = 1 ∨ (d.state ≠ 1 ∧ Rest d xz xt ab xy r)))))) := by
  by_cases h : DiskFine d ∧ PutOk ⟨xr, xz, xt⟩
  · have h2 := put_fine h.1 h.2
    refine ⟨putD d ⟨xr, xz, xt⟩, fun u W hu => specPut_ok u d ⟨xr, xz, xt⟩ W h.1 h.2 hu, fun u W hu => implPut_ok u d ⟨xr, xz, xt⟩ W h.1 h.2 hu, .inr ⟨h2.2.1.1, ?_⟩⟩
    cases hr : xr
    · refine .inr ⟨rfl, ?_⟩
      by_cases hs : d.state = 1
      · exact .inl hs
      · refine .inr ⟨hs, ?_⟩
        subst hr
        obtain ⟨k, hk, hpk, h3⟩ := put_pos h.2 rfl
        obtain ⟨z, y1, y, hz, hy1, hy, f1, f2, f3, f4, r1, r2, r3, r4, r5⟩ := last_facts h.1 h.2 rfl hs hk hpk ha hx
        simp only at hpk h3 r4
        subst hpk
        refine ⟨z, y1, y, _, _, fun u W hu => by subst hz; exact implFlush_ok u _ W f1 hu, fun t ht u W hu => ?_, fun t ht u W hu => ?_, fun u W hu => implFlush_ok u _ W f4 hu, fun u W hu => implCrash_ok u _ 1 W f4 (by decide) (by decide) hu,
          fun u W hu => reads r1 hx u W hu, fun u W hu => reads r2 hx u W hu, fun u W hu => reads r3 ha u W hu, fun c hc => ?_⟩
        · subst ht; subst hy1; exact implPut_ok u _ ⟨false, (k : Int), t⟩ W f2 (slot_put hk ha) hu
        · subst ht; subst hy; exact implPut_ok u _ ⟨false, (k : Int), t⟩ W f3 (slot_put hk hx) hu
        · rcases hc with rfl | rfl
          · exact ⟨_, _, .inl rfl, fun u W hu => implCrash_ok u _ 0 W f4 (by decide) (by decide) hu, fun u W hu => reads r4 h3 u W hu⟩
          · exact ⟨_, _, .inr rfl, fun u W hu => implCrash_ok u _ 2 W f4 (by decide) (by decide) hu, fun u W hu => reads r5 hx u W hu⟩
    · exact .inl rfl
  · exact ⟨disk0, fun u W hu => specPut_no u d ⟨xr, xz, xt⟩ W h hu, fun u W hu => implPut_no u d ⟨xr, xz, xt⟩ W h hu, .inl rfl⟩

set_option linter.unusedSimpArgs false in
set_option maxRecDepth 100000 in
set_option maxHeartbeats 20000000 in
theorem main (a : Option Addr) (len cap : Nat) (z0 : List Int) (a1 : Option Addr) (len1 cap1 : Nat) (w : World) (h0 : len ≤ 1048576) (h1 : len1 ≤ 1048576) (H : Hid (IsBytes w a len cap z0)) :
    Calls Try.prog 5 #[.slice a len cap, .slice a1 len1 cap1] w fun e w' => e = .returned (.bool true) ∧ Below w.heap.size w w' := by
  obtain ⟨ab, hae, hab⟩ : ∃ t : ByteArray, t = ⟨#[97, 98, 99]⟩ ∧ t.size = 3 := ⟨_, rfl, rfl⟩
  obtain ⟨xy, hxe, hxy⟩ : ∃ t : ByteArray, t = ⟨#[120, 121, 122]⟩ ∧ t.size = 3 := ⟨_, rfl, rfl⟩
  have HAE := Lib.hid hae
  have HXE := Lib.hid hxe
  clear hae hxe
  have d0 : decide (1048576 < (len : Int)) = false := by simp; omega
  have d1 : decide (1048576 < (len1 : Int)) = false := by simp; omega
  go_enter Try.func5, Try.ntmps5
  go_wp2_with fail
  refine (drawPut_any a len cap z0 _ H.out).mono ?_
  rintro e w1 ⟨d, _, ⟨xr, xz, xt⟩, rfl, hv1, HB⟩
  replace HB := Lib.hid HB
  have VD := Lib.hid hv1
  obtain ⟨r, HS, HI, HF⟩ := choose d xr xz xt ab xy hab hxy
  clear hab hxy
  simp only at HS HI HF ⊢
  obtain ⟨_, _, _, _, rfl, ⟨o1, c1, rfl, _⟩, ⟨o2, c2, rfl, _⟩, ⟨o3, c3, rfl, _⟩, ⟨o4, c4, rfl, _⟩⟩ := hv1
  have hb : Below w1.heap.size w1 ((w1.alloc (.cells #[.int .i64 d.state, .slice o1 d.slots.length c1, .slice o2 d.rings.length c2, .slice o3 d.spoilt.length c3, .slice o4 d.wait.length c4] 27)).alloc (.cells #[.bool xr, .int .i64 xz, .string xt] 33)) := ((Below.refl _ _).alloc (Nat.le_refl _) _).alloc (by simp) _
  replace VD := Lib.hid (VD.out.below hb)
  replace HB := Lib.hid (below_trans HB.out hb HB.out.size)
  have Kd := Lib.hid (show Blk ((w1.alloc (.cells #[.int .i64 d.state, .slice o1 d.slots.length c1, .slice o2 d.rings.length c2, .slice o3 d.spoilt.length c3, .slice o4 d.wait.length c4] 27)).alloc (.cells #[.bool xr, .int .i64 xz, .string xt] 33)) w1.heap.size #[.int .i64 d.state, .slice o1 d.slots.length c1, .slice o2 d.rings.length c2, .slice o3 d.spoilt.length c3, .slice o4 d.wait.length c4] 27 from (Blk.new w1 _ _).below (n := w1.heap.size + 1) ((Below.refl _ _).alloc (by simp) _) (by omega))
  have Kp := Lib.hid (show Blk ((w1.alloc (.cells #[.int .i64 d.state, .slice o1 d.slots.length c1, .slice o2 d.rings.length c2, .slice o3 d.spoilt.length c3, .slice o4 d.wait.length c4] 27)).alloc (.cells #[.bool xr, .int .i64 xz, .string xt] 33)) (w1.heap.size + 1) #[.bool xr, .int .i64 xz, .string xt] 33 by
    have := Blk.new (w1.alloc (.cells #[.int .i64 d.state, .slice o1 d.slots.length c1, .slice o2 d.rings.length c2, .slice o3 d.spoilt.length c3, .slice o4 d.wait.length c4] 27)) #[.bool xr, .int .i64 xz, .string xt] 33
    rw [World.size_alloc] at this
    exact this)
  clear hb
  have pd0 : ((w1.alloc (.cells #[.int .i64 d.state, .slice o1 d.slots.length c1, .slice o2 d.rings.length c2, .slice o3 d.spoilt.length c3, .slice o4 d.wait.length c4] 27)).alloc (.cells #[.bool xr, .int .i64 xz, .string xt] 33)).cell? ⟨w1.heap.size, 0, none⟩ = some (.int .i64 d.state) := Kd.out.cell 0
  have pd1 : ((w1.alloc (.cells #[.int .i64 d.state, .slice o1 d.slots.length c1, .slice o2 d.rings.length c2, .slice o3 d.spoilt.length c3, .slice o4 d.wait.length c4] 27)).alloc (.cells #[.bool xr, .int .i64 xz, .string xt] 33)).cell? ⟨w1.heap.size, 1, none⟩ = some (.slice o1 d.slots.length c1) := Kd.out.cell 1
  have pd2 : ((w1.alloc (.cells #[.int .i64 d.state, .slice o1 d.slots.length c1, .slice o2 d.rings.length c2, .slice o3 d.spoilt.length c3, .slice o4 d.wait.length c4] 27)).alloc (.cells #[.bool xr, .int .i64 xz, .string xt] 33)).cell? ⟨w1.heap.size, 2, none⟩ = some (.slice o2 d.rings.length c2) := Kd.out.cell 2
  have pd3 : ((w1.alloc (.cells #[.int .i64 d.state, .slice o1 d.slots.length c1, .slice o2 d.rings.length c2, .slice o3 d.spoilt.length c3, .slice o4 d.wait.length c4] 27)).alloc (.cells #[.bool xr, .int .i64 xz, .string xt] 33)).cell? ⟨w1.heap.size, 3, none⟩ = some (.slice o3 d.spoilt.length c3) := Kd.out.cell 3
  have pd4 : ((w1.alloc (.cells #[.int .i64 d.state, .slice o1 d.slots.length c1, .slice o2 d.rings.length c2, .slice o3 d.spoilt.length c3, .slice o4 d.wait.length c4] 27)).alloc (.cells #[.bool xr, .int .i64 xz, .string xt] 33)).cell? ⟨w1.heap.size, 4, none⟩ = some (.slice o4 d.wait.length c4) := Kd.out.cell 4
  have pp0 : ((w1.alloc (.cells #[.int .i64 d.state, .slice o1 d.slots.length c1, .slice o2 d.rings.length c2, .slice o3 d.spoilt.length c3, .slice o4 d.wait.length c4] 27)).alloc (.cells #[.bool xr, .int .i64 xz, .string xt] 33)).cell? ⟨w1.heap.size + 1, 0, none⟩ = some (.bool xr) := Kp.out.cell 0
  have pp1 : ((w1.alloc (.cells #[.int .i64 d.state, .slice o1 d.slots.length c1, .slice o2 d.rings.length c2, .slice o3 d.spoilt.length c3, .slice o4 d.wait.length c4] 27)).alloc (.cells #[.bool xr, .int .i64 xz, .string xt] 33)).cell? ⟨w1.heap.size + 1, 1, none⟩ = some (.int .i64 xz) := Kp.out.cell 1
  have pp2 : ((w1.alloc (.cells #[.int .i64 d.state, .slice o1 d.slots.length c1, .slice o2 d.rings.length c2, .slice o3 d.spoilt.length c3, .slice o4 d.wait.length c4] 27)).alloc (.cells #[.bool xr, .int .i64 xz, .string xt] 33)).cell? ⟨w1.heap.size + 1, 2, none⟩ = some (.string xt) := Kp.out.cell 2
  go_wp2_with fail
  clear pd0 pd1 pd2 pd3 pd4
  clear pp0 pp1 pp2
  generalize (w1.alloc (.cells #[.int .i64 d.state, .slice o1 d.slots.length c1, .slice o2 d.rings.length c2, .slice o3 d.spoilt.length c3, .slice o4 d.wait.length c4] 27)).alloc (.cells #[.bool xr, .int .i64 xz, .string xt] 33) = w2 at Kd Kp VD HB ⊢
  generalize w1.heap.size + 1 = mp at Kp ⊢
  generalize w1.heap.size = md at Kd ⊢
  refine (HI.out _ _ VD.out).mono ?_
  rintro e w3 ⟨_, rfl, hO, hB⟩
  have hv2 := hO.reads
  replace Kd := Lib.hid (Kd.out.below hB Kd.out.lt)
  replace Kp := Lib.hid (Kp.out.below hB Kp.out.lt)
  replace VD := Lib.hid (VD.out.below hB)
  replace HB := Lib.hid (below_trans HB.out hB HB.out.size)
  have VX := Lib.hid hv2
  clear hO hB
  obtain ⟨_, _, _, _, rfl, ⟨x1, xc1, rfl, _⟩, ⟨x2, xc2, rfl, _⟩, ⟨x3, xc3, rfl, _⟩, ⟨x4, xc4, rfl, _⟩⟩ := hv2
  have hb : Below w3.heap.size w3 (w3.alloc (.cells #[.int .i64 r.state, .slice x1 r.slots.length xc1, .slice x2 r.rings.length xc2, .slice x3 r.spoilt.length xc3, .slice x4 r.wait.length xc4] 27)) := (Below.refl _ _).alloc (Nat.le_refl _) _
  replace Kd := Lib.hid (Kd.out.below hb Kd.out.lt)
  replace Kp := Lib.hid (Kp.out.below hb Kp.out.lt)
  replace VD := Lib.hid (VD.out.below hb)
  replace VX := Lib.hid (VX.out.below hb)
  replace HB := Lib.hid (below_trans HB.out hb HB.out.size)
  have Kx := Lib.hid (Blk.new w3 #[.int .i64 r.state, .slice x1 r.slots.length xc1, .slice x2 r.rings.length xc2, .slice x3 r.spoilt.length xc3, .slice x4 r.wait.length xc4] 27)
  clear hb
  go_upto_region 5 with (fail)
  generalize w3.alloc (.cells #[.int .i64 r.state, .slice x1 r.slots.length xc1, .slice x2 r.rings.length xc2, .slice x3 r.spoilt.length xc3, .slice x4 r.wait.length xc4] 27) = w4 at Kd Kp Kx VD VX HB ⊢
  generalize w3.heap.size = mx at Kx ⊢
  rcases HF with hz | ⟨hz, hh | ⟨hh, hs | ⟨hs, hrest⟩⟩⟩
  · have dz : ((r.slots.length : Int) == 0) = true := beq_iff_eq.2 (by omega)
    clear hz
    have pd0 : w4.cell? ⟨md, 0, none⟩ = some (.int .i64 d.state) := Kd.out.cell 0
    have pd1 : w4.cell? ⟨md, 1, none⟩ = some (.slice o1 d.slots.length c1) := Kd.out.cell 1
    have pd2 : w4.cell? ⟨md, 2, none⟩ = some (.slice o2 d.rings.length c2) := Kd.out.cell 2
    have pd3 : w4.cell? ⟨md, 3, none⟩ = some (.slice o3 d.spoilt.length c3) := Kd.out.cell 3
    have pd4 : w4.cell? ⟨md, 4, none⟩ = some (.slice o4 d.wait.length c4) := Kd.out.cell 4
    have pp0 : w4.cell? ⟨mp, 0, none⟩ = some (.bool xr) := Kp.out.cell 0
    have pp1 : w4.cell? ⟨mp, 1, none⟩ = some (.int .i64 xz) := Kp.out.cell 1
    have pp2 : w4.cell? ⟨mp, 2, none⟩ = some (.string xt) := Kp.out.cell 2
    have px0 : w4.cell? ⟨mx, 0, none⟩ = some (.int .i64 r.state) := Kx.out.cell 0
    have px1 : w4.cell? ⟨mx, 1, none⟩ = some (.slice x1 r.slots.length xc1) := Kx.out.cell 1
    have px2 : w4.cell? ⟨mx, 2, none⟩ = some (.slice x2 r.rings.length xc2) := Kx.out.cell 2
    have px3 : w4.cell? ⟨mx, 3, none⟩ = some (.slice x3 r.spoilt.length xc3) := Kx.out.cell 3
    have px4 : w4.cell? ⟨mx, 4, none⟩ = some (.slice x4 r.wait.length xc4) := Kx.out.cell 4
    have cur : Below w4.heap.size w4 w4.drew := (Below.refl _ _).drew
    refine AnyT.start (S := (fun w' : World => Below w4.heap.size w4 w')) (by kernel_rfl) ?_
    refine AnyT.take 0 (show _ = some _ from rfl) rfl (by kernel_rfl) (by kernel_rfl) (by kernel_rfl) (fun _ _ _ h => h) cur (by first | kernel_rfl | rfl) (fun w' hSw => by have s0 := cell_below hSw px0; have s1 := cell_below hSw px1; have s2 := cell_below hSw px2; have s3 := cell_below hSw px3; have s4 := cell_below hSw px4; clear hSw; go_simp; try with_reducible rfl) ?_
    try simp only [Act.put, List.setIfInBounds_toArray, List.set_cons_zero, List.set_cons_succ]
    refine AnyT.take 1 (show _ = some _ from rfl) rfl (by kernel_rfl) (by kernel_rfl) (by kernel_rfl) (fun _ _ _ h => h) cur (by first | kernel_rfl | rfl) (fun w' hSw => by have s0 := cell_below hSw pd0; have s1 := cell_below hSw pd1; have s2 := cell_below hSw pd2; have s3 := cell_below hSw pd3; have s4 := cell_below hSw pd4; clear hSw; go_simp; try with_reducible rfl) ?_
    try simp only [Act.put, List.setIfInBounds_toArray, List.set_cons_zero, List.set_cons_succ]
    refine AnyT.take 2 (show _ = some _ from rfl) rfl (by kernel_rfl) (by kernel_rfl) (by kernel_rfl) (fun _ _ _ h => h) cur (by first | kernel_rfl | rfl) (fun w' hSw => by have s0 := cell_below hSw pp0; have s1 := cell_below hSw pp1; have s2 := cell_below hSw pp2; clear hSw; go_simp; try with_reducible rfl) ?_
    try simp only [Act.put, List.setIfInBounds_toArray, List.set_cons_zero, List.set_cons_succ]
    refine AnyT.one 3 (by kernel_rfl) (show _ = some _ from rfl) (fun K' hK' => ?_)
    go_simp
    go_at_call 19
    refine (HS.out _ _ (VD.out.below cur)).mono ?_
    rintro e w5 ⟨_, rfl, o7, hB7⟩
    have V7 := Lib.hid o7.reads
    have hx7 := o7.reads
    obtain ⟨_, _, _, _, rfl, ⟨g1, h1, rfl, _⟩, ⟨g2, h2, rfl, _⟩, ⟨g3, h3, rfl, _⟩, ⟨g4, h4, rfl, _⟩⟩ := hx7
    clear o7
    have cur := below_trans cur hB7 cur.size
    clear hB7
    go_simp
    refine hK' _ _ ⟨?_, cur⟩
    clear hK' K'
    try simp only [Act.put, List.setIfInBounds_toArray, List.set_cons_zero, List.set_cons_succ]
    refine AnyT.one 4 (by kernel_rfl) (show _ = some _ from rfl) (fun K' hK' => ?_)
    go_simp
    go_at_call 8
    refine (lpaDisk_same _ _ r _ (VX.out.below cur) V7.out).mono ?_
    rintro e w6 ⟨rfl, hB8⟩
    have cur := below_trans cur hB8 cur.size
    clear hB8
    go_simp
    refine hK' _ _ ⟨?_, cur⟩
    clear hK' K'
    try simp only [Act.put, List.setIfInBounds_toArray, List.set_cons_zero, List.set_cons_succ]
    refine AnyT.take 5 (show _ = some _ from rfl) rfl (by kernel_rfl) (by kernel_rfl) (by kernel_rfl) (fun _ _ _ h => h) cur (by first | kernel_rfl | rfl) (fun w' hSw => by clear hSw; go_simp; try with_reducible rfl) ?_
    try simp only [Act.put, List.setIfInBounds_toArray, List.set_cons_zero, List.set_cons_succ]
    refine AnyT.take 6 (show _ = some _ from rfl) rfl (by kernel_rfl) (by kernel_rfl) (by kernel_rfl) (fun _ _ _ h => h) cur (by first | kernel_rfl | rfl) (fun w' hSw => by clear hSw; go_simp; try with_reducible rfl) ?_
    try simp only [Act.put, List.setIfInBounds_toArray, List.set_cons_zero, List.set_cons_succ]
    refine AnyT.take 7 (show _ = some _ from rfl) rfl (by kernel_rfl) (by kernel_rfl) (by kernel_rfl) (fun _ _ _ h => h) cur (by first | kernel_rfl | rfl) (fun w' hSw => by clear hSw; go_simp; try with_reducible rfl) ?_
    try simp only [Act.put, List.setIfInBounds_toArray, List.set_cons_zero, List.set_cons_succ]
    refine AnyT.take 8 (show _ = some _ from rfl) rfl (by kernel_rfl) (by kernel_rfl) (by kernel_rfl) (fun _ _ _ h => h) cur (by first | kernel_rfl | rfl) (fun w' hSw => by have s0 := cell_below hSw px1; clear hSw; go_simp; try with_reducible rfl) ?_
    try simp only [Act.put, List.setIfInBounds_toArray, List.set_cons_zero, List.set_cons_succ]
    refine AnyT.take 9 (show _ = some _ from rfl) rfl (by kernel_rfl) (by kernel_rfl) (by kernel_rfl) (fun _ _ _ h => h) cur (by first | kernel_rfl | rfl) (fun w' hSw => by clear hSw; go_simp; try with_reducible rfl) ?_
    try simp only [Act.put, List.setIfInBounds_toArray, List.set_cons_zero, List.set_cons_succ]
    refine AnyT.take 10 (show _ = some _ from rfl) rfl (by kernel_rfl) (by kernel_rfl) (by kernel_rfl) (fun _ _ _ h => h) cur (by first | kernel_rfl | rfl) (fun w' hSw => by clear hSw; go_simp; try with_reducible rfl) ?_
    try simp only [Act.put, List.setIfInBounds_toArray, List.set_cons_zero, List.set_cons_succ]
    refine AnyT.take 11 (show _ = some _ from rfl) rfl (by kernel_rfl) (by kernel_rfl) (by kernel_rfl) (fun _ _ _ h => h) cur (by first | kernel_rfl | rfl) (fun w' hSw => by clear hSw; go_simp; try with_reducible rfl) ?_
    try simp only [Act.put, List.setIfInBounds_toArray, List.set_cons_zero, List.set_cons_succ]
    refine AnyT.take 12 (show _ = some _ from rfl) rfl (by kernel_rfl) (by kernel_rfl) (by kernel_rfl) (fun _ _ _ h => h) cur (by first | kernel_rfl | rfl) (fun w' hSw => by clear hSw; go_simp; try with_reducible rfl) ?_
    try simp only [Act.put, List.setIfInBounds_toArray, List.set_cons_zero, List.set_cons_succ]
    refine AnyT.one 13 (by kernel_rfl) (show _ = some _ from rfl) (fun K' hK' => ?_)
    go_simp
    refine hK' _ _ ⟨?_, cur⟩
    clear hK' K'
    try simp only [Act.put, List.setIfInBounds_toArray, List.set_cons_zero, List.set_cons_succ]
    refine AnyT.one 14 (by kernel_rfl) (show _ = some _ from rfl) (fun K' hK' => ?_)
    go_simp
    refine hK' _ _ ⟨?_, cur⟩
    clear hK' K'
    try simp only [Act.put, List.setIfInBounds_toArray, List.set_cons_zero, List.set_cons_succ]
    refine AnyT.take 15 (show _ = some _ from rfl) rfl (by kernel_rfl) (by kernel_rfl) (by kernel_rfl) (fun _ _ _ h => h) cur (by first | kernel_rfl | rfl) (fun w' hSw => by clear hSw; go_simp; try with_reducible rfl) ?_
    try simp only [Act.put, List.setIfInBounds_toArray, List.set_cons_zero, List.set_cons_succ]
    refine AnyT.take 16 (show _ = some _ from rfl) rfl (by kernel_rfl) (by kernel_rfl) (by kernel_rfl) (fun _ _ _ h => h) cur (by first | kernel_rfl | rfl) (fun w' hSw => by clear hSw; go_simp; try with_reducible rfl) ?_
    try simp only [Act.put, List.setIfInBounds_toArray, List.set_cons_zero, List.set_cons_succ]
    refine AnyT.one 17 (by kernel_rfl) (show _ = some _ from rfl) (fun K' hK' => ?_)
    go_simp
    refine hK' _ _ ⟨?_, cur⟩
    clear hK' K'
    try simp only [Act.put, List.setIfInBounds_toArray, List.set_cons_zero, List.set_cons_succ]
    refine AnyT.one 18 (by kernel_rfl) (show _ = some _ from rfl) (fun K' hK' => ?_)
    go_simp
    refine hK' _ _ ⟨?_, cur⟩
    clear hK' K'
    try simp only [Act.put, List.setIfInBounds_toArray, List.set_cons_zero, List.set_cons_succ]
    refine AnyT.one 19 (by kernel_rfl) (show _ = some _ from rfl) (fun K' hK' => ?_)
    go_simp
    refine hK' _ _ ⟨?_, cur⟩
    clear hK' K'
    try simp only [Act.put, List.setIfInBounds_toArray, List.set_cons_zero, List.set_cons_succ]
    refine AnyT.one 20 (by kernel_rfl) (show _ = some _ from rfl) (fun K' hK' => ?_)
    go_simp
    refine hK' _ _ ⟨AnyT.done (by kernel_rfl) ?_, cur⟩
    clear hK' K'
    try simp only [Act.put, List.setIfInBounds_toArray, List.set_cons_zero, List.set_cons_succ]
    clear pd0 pd1 pd2 pd3 pd4
    clear pp0 pp1 pp2
    clear px0 px1 px2 px3 px4
    clear V7
    replace Kd := Lib.hid (Kd.out.below cur Kd.out.lt)
    replace Kp := Lib.hid (Kp.out.below cur Kp.out.lt)
    replace Kx := Lib.hid (Kx.out.below cur Kx.out.lt)
    replace VD := Lib.hid (VD.out.below cur)
    replace VX := Lib.hid (VX.out.below cur)
    replace HB := Lib.hid (below_trans HB.out cur HB.out.size)
    clear cur
    have pd0 : w6.cell? ⟨md, 0, none⟩ = some (.int .i64 d.state) := Kd.out.cell 0
    have pd1 : w6.cell? ⟨md, 1, none⟩ = some (.slice o1 d.slots.length c1) := Kd.out.cell 1
    have pd2 : w6.cell? ⟨md, 2, none⟩ = some (.slice o2 d.rings.length c2) := Kd.out.cell 2
    have pd3 : w6.cell? ⟨md, 3, none⟩ = some (.slice o3 d.spoilt.length c3) := Kd.out.cell 3
    have pd4 : w6.cell? ⟨md, 4, none⟩ = some (.slice o4 d.wait.length c4) := Kd.out.cell 4
    have pp0 : w6.cell? ⟨mp, 0, none⟩ = some (.bool xr) := Kp.out.cell 0
    have pp1 : w6.cell? ⟨mp, 1, none⟩ = some (.int .i64 xz) := Kp.out.cell 1
    have pp2 : w6.cell? ⟨mp, 2, none⟩ = some (.string xt) := Kp.out.cell 2
    have px0 : w6.cell? ⟨mx, 0, none⟩ = some (.int .i64 r.state) := Kx.out.cell 0
    have px1 : w6.cell? ⟨mx, 1, none⟩ = some (.slice x1 r.slots.length xc1) := Kx.out.cell 1
    have px2 : w6.cell? ⟨mx, 2, none⟩ = some (.slice x2 r.rings.length xc2) := Kx.out.cell 2
    have px3 : w6.cell? ⟨mx, 3, none⟩ = some (.slice x3 r.spoilt.length xc3) := Kx.out.cell 3
    have px4 : w6.cell? ⟨mx, 4, none⟩ = some (.slice x4 r.wait.length xc4) := Kx.out.cell 4
    go_upto_region 6 with (fail)
    have cur : Below w6.heap.size w6 w6.drew := (Below.refl _ _).drew
    refine AnyT.start (S := (fun w' : World => Below w6.heap.size w6 w')) (by kernel_rfl) ?_
    refine AnyT.take 0 (show _ = some _ from rfl) rfl (by kernel_rfl) (by kernel_rfl) (by kernel_rfl) (fun _ _ _ h => h) cur (by first | kernel_rfl | rfl) (fun w' hSw => by have s0 := cell_below hSw px0; have s1 := cell_below hSw px1; have s2 := cell_below hSw px2; have s3 := cell_below hSw px3; have s4 := cell_below hSw px4; clear hSw; go_simp; try with_reducible rfl) ?_
    try simp only [Act.put, List.setIfInBounds_toArray, List.set_cons_zero, List.set_cons_succ]
    refine AnyT.take 1 (show _ = some _ from rfl) rfl (by kernel_rfl) (by kernel_rfl) (by kernel_rfl) (fun _ _ _ h => h) cur (by first | kernel_rfl | rfl) (fun w' hSw => by have s0 := cell_below hSw pd0; have s1 := cell_below hSw pd1; have s2 := cell_below hSw pd2; have s3 := cell_below hSw pd3; have s4 := cell_below hSw pd4; clear hSw; go_simp; try with_reducible rfl) ?_
    try simp only [Act.put, List.setIfInBounds_toArray, List.set_cons_zero, List.set_cons_succ]
    refine AnyT.take 2 (show _ = some _ from rfl) rfl (by kernel_rfl) (by kernel_rfl) (by kernel_rfl) (fun _ _ _ h => h) cur (by first | kernel_rfl | rfl) (fun w' hSw => by have s0 := cell_below hSw pp0; have s1 := cell_below hSw pp1; have s2 := cell_below hSw pp2; clear hSw; go_simp; try with_reducible rfl) ?_
    try simp only [Act.put, List.setIfInBounds_toArray, List.set_cons_zero, List.set_cons_succ]
    refine AnyT.one 3 (by kernel_rfl) (show _ = some _ from rfl) (fun K' hK' => ?_)
    go_simp
    go_at_call 19
    refine (HS.out _ _ (VD.out.below cur)).mono ?_
    rintro e w15 ⟨_, rfl, o7, hB7⟩
    have V7 := Lib.hid o7.reads
    have hx7 := o7.reads
    obtain ⟨_, _, _, _, rfl, ⟨g1, h1, rfl, _⟩, ⟨g2, h2, rfl, _⟩, ⟨g3, h3, rfl, _⟩, ⟨g4, h4, rfl, _⟩⟩ := hx7
    clear o7
    have cur := below_trans cur hB7 cur.size
    clear hB7
    go_simp
    refine hK' _ _ ⟨?_, cur⟩
    clear hK' K'
    try simp only [Act.put, List.setIfInBounds_toArray, List.set_cons_zero, List.set_cons_succ]
    refine AnyT.one 4 (by kernel_rfl) (show _ = some _ from rfl) (fun K' hK' => ?_)
    go_simp
    go_at_call 8
    refine (lpaDisk_same _ _ r _ (VX.out.below cur) V7.out).mono ?_
    rintro e w16 ⟨rfl, hB8⟩
    have cur := below_trans cur hB8 cur.size
    clear hB8
    go_simp
    refine hK' _ _ ⟨?_, cur⟩
    clear hK' K'
    try simp only [Act.put, List.setIfInBounds_toArray, List.set_cons_zero, List.set_cons_succ]
    refine AnyT.one 5 (by kernel_rfl) (show _ = some _ from rfl) (fun K' hK' => ?_)
    go_simp
    refine hK' _ _ ⟨AnyT.done (by kernel_rfl) ?_, cur⟩
    clear hK' K'
    try simp only [Act.put, List.setIfInBounds_toArray, List.set_cons_zero, List.set_cons_succ]
    replace Kd := Lib.hid (Kd.out.below cur Kd.out.lt)
    replace Kp := Lib.hid (Kp.out.below cur Kp.out.lt)
    replace Kx := Lib.hid (Kx.out.below cur Kx.out.lt)
    replace VD := Lib.hid (VD.out.below cur)
    replace VX := Lib.hid (VX.out.below cur)
    replace HB := Lib.hid (below_trans HB.out cur HB.out.size)
    clear pd0 pd1 pd2 pd3 pd4
    clear pp0 pp1 pp2
    clear px0 px1 px2 px3 px4
    go_wp2
    go_ret
    exact ⟨rfl, HB.out⟩
  · have dz : ((r.slots.length : Int) == 0) = false := beq_eq_false_iff_ne.2 (by omega)
    subst hh
    clear hz
    have pd0 : w4.cell? ⟨md, 0, none⟩ = some (.int .i64 d.state) := Kd.out.cell 0
    have pd1 : w4.cell? ⟨md, 1, none⟩ = some (.slice o1 d.slots.length c1) := Kd.out.cell 1
    have pd2 : w4.cell? ⟨md, 2, none⟩ = some (.slice o2 d.rings.length c2) := Kd.out.cell 2
    have pd3 : w4.cell? ⟨md, 3, none⟩ = some (.slice o3 d.spoilt.length c3) := Kd.out.cell 3
    have pd4 : w4.cell? ⟨md, 4, none⟩ = some (.slice o4 d.wait.length c4) := Kd.out.cell 4
    have pp0 : w4.cell? ⟨mp, 0, none⟩ = some (.bool true) := Kp.out.cell 0
    have pp1 : w4.cell? ⟨mp, 1, none⟩ = some (.int .i64 xz) := Kp.out.cell 1
    have pp2 : w4.cell? ⟨mp, 2, none⟩ = some (.string xt) := Kp.out.cell 2
    have px0 : w4.cell? ⟨mx, 0, none⟩ = some (.int .i64 r.state) := Kx.out.cell 0
    have px1 : w4.cell? ⟨mx, 1, none⟩ = some (.slice x1 r.slots.length xc1) := Kx.out.cell 1
    have px2 : w4.cell? ⟨mx, 2, none⟩ = some (.slice x2 r.rings.length xc2) := Kx.out.cell 2
    have px3 : w4.cell? ⟨mx, 3, none⟩ = some (.slice x3 r.spoilt.length xc3) := Kx.out.cell 3
    have px4 : w4.cell? ⟨mx, 4, none⟩ = some (.slice x4 r.wait.length xc4) := Kx.out.cell 4
    have cur : Below w4.heap.size w4 w4.drew := (Below.refl _ _).drew
    refine AnyT.start (S := (fun w' : World => Below w4.heap.size w4 w')) (by kernel_rfl) ?_
    refine AnyT.take 0 (show _ = some _ from rfl) rfl (by kernel_rfl) (by kernel_rfl) (by kernel_rfl) (fun _ _ _ h => h) cur (by first | kernel_rfl | rfl) (fun w' hSw => by have s0 := cell_below hSw px0; have s1 := cell_below hSw px1; have s2 := cell_below hSw px2; have s3 := cell_below hSw px3; have s4 := cell_below hSw px4; clear hSw; go_simp; try with_reducible rfl) ?_
    try simp only [Act.put, List.setIfInBounds_toArray, List.set_cons_zero, List.set_cons_succ]
    refine AnyT.take 1 (show _ = some _ from rfl) rfl (by kernel_rfl) (by kernel_rfl) (by kernel_rfl) (fun _ _ _ h => h) cur (by first | kernel_rfl | rfl) (fun w' hSw => by have s0 := cell_below hSw pd0; have s1 := cell_below hSw pd1; have s2 := cell_below hSw pd2; have s3 := cell_below hSw pd3; have s4 := cell_below hSw pd4; clear hSw; go_simp; try with_reducible rfl) ?_
    try simp only [Act.put, List.setIfInBounds_toArray, List.set_cons_zero, List.set_cons_succ]
    refine AnyT.take 2 (show _ = some _ from rfl) rfl (by kernel_rfl) (by kernel_rfl) (by kernel_rfl) (fun _ _ _ h => h) cur (by first | kernel_rfl | rfl) (fun w' hSw => by have s0 := cell_below hSw pp0; have s1 := cell_below hSw pp1; have s2 := cell_below hSw pp2; clear hSw; go_simp; try with_reducible rfl) ?_
    try simp only [Act.put, List.setIfInBounds_toArray, List.set_cons_zero, List.set_cons_succ]
    refine AnyT.one 3 (by kernel_rfl) (show _ = some _ from rfl) (fun K' hK' => ?_)
    go_simp
    go_at_call 19
    refine (HS.out _ _ (VD.out.below cur)).mono ?_
    rintro e w5 ⟨_, rfl, o7, hB7⟩
    have V7 := Lib.hid o7.reads
    have hx7 := o7.reads
    obtain ⟨_, _, _, _, rfl, ⟨g1, h1, rfl, _⟩, ⟨g2, h2, rfl, _⟩, ⟨g3, h3, rfl, _⟩, ⟨g4, h4, rfl, _⟩⟩ := hx7
    clear o7
    have cur := below_trans cur hB7 cur.size
    clear hB7
    go_simp
    refine hK' _ _ ⟨?_, cur⟩
    clear hK' K'
    try simp only [Act.put, List.setIfInBounds_toArray, List.set_cons_zero, List.set_cons_succ]
    refine AnyT.one 4 (by kernel_rfl) (show _ = some _ from rfl) (fun K' hK' => ?_)
    go_simp
    go_at_call 8
    refine (lpaDisk_same _ _ r _ (VX.out.below cur) V7.out).mono ?_
    rintro e w6 ⟨rfl, hB8⟩
    have cur := below_trans cur hB8 cur.size
    clear hB8
    go_simp
    refine hK' _ _ ⟨?_, cur⟩
    clear hK' K'
    try simp only [Act.put, List.setIfInBounds_toArray, List.set_cons_zero, List.set_cons_succ]
    refine AnyT.take 5 (show _ = some _ from rfl) rfl (by kernel_rfl) (by kernel_rfl) (by kernel_rfl) (fun _ _ _ h => h) cur (by first | kernel_rfl | rfl) (fun w' hSw => by clear hSw; go_simp; try with_reducible rfl) ?_
    try simp only [Act.put, List.setIfInBounds_toArray, List.set_cons_zero, List.set_cons_succ]
    refine AnyT.take 6 (show _ = some _ from rfl) rfl (by kernel_rfl) (by kernel_rfl) (by kernel_rfl) (fun _ _ _ h => h) cur (by first | kernel_rfl | rfl) (fun w' hSw => by clear hSw; go_simp; try with_reducible rfl) ?_
    try simp only [Act.put, List.setIfInBounds_toArray, List.set_cons_zero, List.set_cons_succ]
    refine AnyT.take 7 (show _ = some _ from rfl) rfl (by kernel_rfl) (by kernel_rfl) (by kernel_rfl) (fun _ _ _ h => h) cur (by first | kernel_rfl | rfl) (fun w' hSw => by clear hSw; go_simp; try with_reducible rfl) ?_
    try simp only [Act.put, List.setIfInBounds_toArray, List.set_cons_zero, List.set_cons_succ]
    refine AnyT.take 8 (show _ = some _ from rfl) rfl (by kernel_rfl) (by kernel_rfl) (by kernel_rfl) (fun _ _ _ h => h) cur (by first | kernel_rfl | rfl) (fun w' hSw => by have s0 := cell_below hSw px1; clear hSw; go_simp; try with_reducible rfl) ?_
    try simp only [Act.put, List.setIfInBounds_toArray, List.set_cons_zero, List.set_cons_succ]
    refine AnyT.take 9 (show _ = some _ from rfl) rfl (by kernel_rfl) (by kernel_rfl) (by kernel_rfl) (fun _ _ _ h => h) cur (by first | kernel_rfl | rfl) (fun w' hSw => by clear hSw; go_simp; try with_reducible rfl) ?_
    try simp only [Act.put, List.setIfInBounds_toArray, List.set_cons_zero, List.set_cons_succ]
    refine AnyT.take 10 (show _ = some _ from rfl) rfl (by kernel_rfl) (by kernel_rfl) (by kernel_rfl) (fun _ _ _ h => h) cur (by first | kernel_rfl | rfl) (fun w' hSw => by clear hSw; go_simp; try with_reducible rfl) ?_
    try simp only [Act.put, List.setIfInBounds_toArray, List.set_cons_zero, List.set_cons_succ]
    refine AnyT.take 11 (show _ = some _ from rfl) rfl (by kernel_rfl) (by kernel_rfl) (by kernel_rfl) (fun _ _ _ h => h) cur (by first | kernel_rfl | rfl) (fun w' hSw => by clear hSw; go_simp; try with_reducible rfl) ?_
    try simp only [Act.put, List.setIfInBounds_toArray, List.set_cons_zero, List.set_cons_succ]
    refine AnyT.take 12 (show _ = some _ from rfl) rfl (by kernel_rfl) (by kernel_rfl) (by kernel_rfl) (fun _ _ _ h => h) cur (by first | kernel_rfl | rfl) (fun w' hSw => by clear hSw; go_simp; try with_reducible rfl) ?_
    try simp only [Act.put, List.setIfInBounds_toArray, List.set_cons_zero, List.set_cons_succ]
    refine AnyT.take 13 (show _ = some _ from rfl) rfl (by kernel_rfl) (by kernel_rfl) (by kernel_rfl) (fun _ _ _ h => h) cur (by first | kernel_rfl | rfl) (fun w' hSw => by clear hSw; go_simp; try with_reducible rfl) ?_
    try simp only [Act.put, List.setIfInBounds_toArray, List.set_cons_zero, List.set_cons_succ]
    refine AnyT.take 14 (show _ = some _ from rfl) rfl (by kernel_rfl) (by kernel_rfl) (by kernel_rfl) (fun _ _ _ h => h) cur (by first | kernel_rfl | rfl) (fun w' hSw => by have s0 := cell_below hSw pp0; clear hSw; go_simp; try with_reducible rfl) ?_
    try simp only [Act.put, List.setIfInBounds_toArray, List.set_cons_zero, List.set_cons_succ]
    refine AnyT.take 15 (show _ = some _ from rfl) rfl (by kernel_rfl) (by kernel_rfl) (by kernel_rfl) (fun _ _ _ h => h) cur (by first | kernel_rfl | rfl) (fun w' hSw => by clear hSw; go_simp; try with_reducible rfl) ?_
    try simp only [Act.put, List.setIfInBounds_toArray, List.set_cons_zero, List.set_cons_succ]
    refine AnyT.take 16 (show _ = some _ from rfl) rfl (by kernel_rfl) (by kernel_rfl) (by kernel_rfl) (fun _ _ _ h => h) cur (by first | kernel_rfl | rfl) (fun w' hSw => by clear hSw; go_simp; try with_reducible rfl) ?_
    try simp only [Act.put, List.setIfInBounds_toArray, List.set_cons_zero, List.set_cons_succ]
    refine AnyT.one 17 (by kernel_rfl) (show _ = some _ from rfl) (fun K' hK' => ?_)
    go_simp
    refine hK' _ _ ⟨?_, cur⟩
    clear hK' K'
    try simp only [Act.put, List.setIfInBounds_toArray, List.set_cons_zero, List.set_cons_succ]
    refine AnyT.one 18 (by kernel_rfl) (show _ = some _ from rfl) (fun K' hK' => ?_)
    go_simp
    refine hK' _ _ ⟨?_, cur⟩
    clear hK' K'
    try simp only [Act.put, List.setIfInBounds_toArray, List.set_cons_zero, List.set_cons_succ]
    refine AnyT.one 19 (by kernel_rfl) (show _ = some _ from rfl) (fun K' hK' => ?_)
    go_simp
    refine hK' _ _ ⟨?_, cur⟩
    clear hK' K'
    try simp only [Act.put, List.setIfInBounds_toArray, List.set_cons_zero, List.set_cons_succ]
    refine AnyT.one 20 (by kernel_rfl) (show _ = some _ from rfl) (fun K' hK' => ?_)
    go_simp
    refine hK' _ _ ⟨AnyT.done (by kernel_rfl) ?_, cur⟩
    clear hK' K'
    try simp only [Act.put, List.setIfInBounds_toArray, List.set_cons_zero, List.set_cons_succ]
    clear pd0 pd1 pd2 pd3 pd4
    clear pp0 pp1 pp2
    clear px0 px1 px2 px3 px4
    clear V7
    replace Kd := Lib.hid (Kd.out.below cur Kd.out.lt)
    replace Kp := Lib.hid (Kp.out.below cur Kp.out.lt)
    replace Kx := Lib.hid (Kx.out.below cur Kx.out.lt)
    replace VD := Lib.hid (VD.out.below cur)
    replace VX := Lib.hid (VX.out.below cur)
    replace HB := Lib.hid (below_trans HB.out cur HB.out.size)
    clear cur
    have pd0 : w6.cell? ⟨md, 0, none⟩ = some (.int .i64 d.state) := Kd.out.cell 0
    have pd1 : w6.cell? ⟨md, 1, none⟩ = some (.slice o1 d.slots.length c1) := Kd.out.cell 1
    have pd2 : w6.cell? ⟨md, 2, none⟩ = some (.slice o2 d.rings.length c2) := Kd.out.cell 2
    have pd3 : w6.cell? ⟨md, 3, none⟩ = some (.slice o3 d.spoilt.length c3) := Kd.out.cell 3
    have pd4 : w6.cell? ⟨md, 4, none⟩ = some (.slice o4 d.wait.length c4) := Kd.out.cell 4
    have pp0 : w6.cell? ⟨mp, 0, none⟩ = some (.bool true) := Kp.out.cell 0
    have pp1 : w6.cell? ⟨mp, 1, none⟩ = some (.int .i64 xz) := Kp.out.cell 1
    have pp2 : w6.cell? ⟨mp, 2, none⟩ = some (.string xt) := Kp.out.cell 2
    have px0 : w6.cell? ⟨mx, 0, none⟩ = some (.int .i64 r.state) := Kx.out.cell 0
    have px1 : w6.cell? ⟨mx, 1, none⟩ = some (.slice x1 r.slots.length xc1) := Kx.out.cell 1
    have px2 : w6.cell? ⟨mx, 2, none⟩ = some (.slice x2 r.rings.length xc2) := Kx.out.cell 2
    have px3 : w6.cell? ⟨mx, 3, none⟩ = some (.slice x3 r.spoilt.length xc3) := Kx.out.cell 3
    have px4 : w6.cell? ⟨mx, 4, none⟩ = some (.slice x4 r.wait.length xc4) := Kx.out.cell 4
    go_upto_region 6 with (fail)
    have cur : Below w6.heap.size w6 w6.drew := (Below.refl _ _).drew
    refine AnyT.start (S := (fun w' : World => Below w6.heap.size w6 w')) (by kernel_rfl) ?_
    refine AnyT.take 0 (show _ = some _ from rfl) rfl (by kernel_rfl) (by kernel_rfl) (by kernel_rfl) (fun _ _ _ h => h) cur (by first | kernel_rfl | rfl) (fun w' hSw => by have s0 := cell_below hSw px0; have s1 := cell_below hSw px1; have s2 := cell_below hSw px2; have s3 := cell_below hSw px3; have s4 := cell_below hSw px4; clear hSw; go_simp; try with_reducible rfl) ?_
    try simp only [Act.put, List.setIfInBounds_toArray, List.set_cons_zero, List.set_cons_succ]
    refine AnyT.take 1 (show _ = some _ from rfl) rfl (by kernel_rfl) (by kernel_rfl) (by kernel_rfl) (fun _ _ _ h => h) cur (by first | kernel_rfl | rfl) (fun w' hSw => by have s0 := cell_below hSw pd0; have s1 := cell_below hSw pd1; have s2 := cell_below hSw pd2; have s3 := cell_below hSw pd3; have s4 := cell_below hSw pd4; clear hSw; go_simp; try with_reducible rfl) ?_
    try simp only [Act.put, List.setIfInBounds_toArray, List.set_cons_zero, List.set_cons_succ]
    refine AnyT.take 2 (show _ = some _ from rfl) rfl (by kernel_rfl) (by kernel_rfl) (by kernel_rfl) (fun _ _ _ h => h) cur (by first | kernel_rfl | rfl) (fun w' hSw => by have s0 := cell_below hSw pp0; have s1 := cell_below hSw pp1; have s2 := cell_below hSw pp2; clear hSw; go_simp; try with_reducible rfl) ?_
    try simp only [Act.put, List.setIfInBounds_toArray, List.set_cons_zero, List.set_cons_succ]
    refine AnyT.one 3 (by kernel_rfl) (show _ = some _ from rfl) (fun K' hK' => ?_)
    go_simp
    go_at_call 19
    refine (HS.out _ _ (VD.out.below cur)).mono ?_
    rintro e w15 ⟨_, rfl, o7, hB7⟩
    have V7 := Lib.hid o7.reads
    have hx7 := o7.reads
    obtain ⟨_, _, _, _, rfl, ⟨g1, h1, rfl, _⟩, ⟨g2, h2, rfl, _⟩, ⟨g3, h3, rfl, _⟩, ⟨g4, h4, rfl, _⟩⟩ := hx7
    clear o7
    have cur := below_trans cur hB7 cur.size
    clear hB7
    go_simp
    refine hK' _ _ ⟨?_, cur⟩
    clear hK' K'
    try simp only [Act.put, List.setIfInBounds_toArray, List.set_cons_zero, List.set_cons_succ]
    refine AnyT.one 4 (by kernel_rfl) (show _ = some _ from rfl) (fun K' hK' => ?_)
    go_simp
    go_at_call 8
    refine (lpaDisk_same _ _ r _ (VX.out.below cur) V7.out).mono ?_
    rintro e w16 ⟨rfl, hB8⟩
    have cur := below_trans cur hB8 cur.size
    clear hB8
    go_simp
    refine hK' _ _ ⟨?_, cur⟩
    clear hK' K'
    try simp only [Act.put, List.setIfInBounds_toArray, List.set_cons_zero, List.set_cons_succ]
    refine AnyT.one 5 (by kernel_rfl) (show _ = some _ from rfl) (fun K' hK' => ?_)
    go_simp
    refine hK' _ _ ⟨AnyT.done (by kernel_rfl) ?_, cur⟩
    clear hK' K'
    try simp only [Act.put, List.setIfInBounds_toArray, List.set_cons_zero, List.set_cons_succ]
    replace Kd := Lib.hid (Kd.out.below cur Kd.out.lt)
    replace Kp := Lib.hid (Kp.out.below cur Kp.out.lt)
    replace Kx := Lib.hid (Kx.out.below cur Kx.out.lt)
    replace VD := Lib.hid (VD.out.below cur)
    replace VX := Lib.hid (VX.out.below cur)
    replace HB := Lib.hid (below_trans HB.out cur HB.out.size)
    clear pd0 pd1 pd2 pd3 pd4
    clear pp0 pp1 pp2
    clear px0 px1 px2 px3 px4
    go_wp2
    go_ret
    exact ⟨rfl, HB.out⟩
  · have dz : ((r.slots.length : Int) == 0) = false := beq_eq_false_iff_ne.2 (by omega)
    subst hh
    clear hz
    have ds : ((d.state : Int) == 1) = true := beq_iff_eq.2 hs
    clear hs
    have pd0 : w4.cell? ⟨md, 0, none⟩ = some (.int .i64 d.state) := Kd.out.cell 0
    have pd1 : w4.cell? ⟨md, 1, none⟩ = some (.slice o1 d.slots.length c1) := Kd.out.cell 1
    have pd2 : w4.cell? ⟨md, 2, none⟩ = some (.slice o2 d.rings.length c2) := Kd.out.cell 2
    have pd3 : w4.cell? ⟨md, 3, none⟩ = some (.slice o3 d.spoilt.length c3) := Kd.out.cell 3
    have pd4 : w4.cell? ⟨md, 4, none⟩ = some (.slice o4 d.wait.length c4) := Kd.out.cell 4
    have pp0 : w4.cell? ⟨mp, 0, none⟩ = some (.bool false) := Kp.out.cell 0
    have pp1 : w4.cell? ⟨mp, 1, none⟩ = some (.int .i64 xz) := Kp.out.cell 1
    have pp2 : w4.cell? ⟨mp, 2, none⟩ = some (.string xt) := Kp.out.cell 2
    have px0 : w4.cell? ⟨mx, 0, none⟩ = some (.int .i64 r.state) := Kx.out.cell 0
    have px1 : w4.cell? ⟨mx, 1, none⟩ = some (.slice x1 r.slots.length xc1) := Kx.out.cell 1
    have px2 : w4.cell? ⟨mx, 2, none⟩ = some (.slice x2 r.rings.length xc2) := Kx.out.cell 2
    have px3 : w4.cell? ⟨mx, 3, none⟩ = some (.slice x3 r.spoilt.length xc3) := Kx.out.cell 3
    have px4 : w4.cell? ⟨mx, 4, none⟩ = some (.slice x4 r.wait.length xc4) := Kx.out.cell 4
    have cur : Below w4.heap.size w4 w4.drew := (Below.refl _ _).drew
    refine AnyT.start (S := (fun w' : World => Below w4.heap.size w4 w')) (by kernel_rfl) ?_
    refine AnyT.take 0 (show _ = some _ from rfl) rfl (by kernel_rfl) (by kernel_rfl) (by kernel_rfl) (fun _ _ _ h => h) cur (by first | kernel_rfl | rfl) (fun w' hSw => by have s0 := cell_below hSw px0; have s1 := cell_below hSw px1; have s2 := cell_below hSw px2; have s3 := cell_below hSw px3; have s4 := cell_below hSw px4; clear hSw; go_simp; try with_reducible rfl) ?_
    try simp only [Act.put, List.setIfInBounds_toArray, List.set_cons_zero, List.set_cons_succ]
    refine AnyT.take 1 (show _ = some _ from rfl) rfl (by kernel_rfl) (by kernel_rfl) (by kernel_rfl) (fun _ _ _ h => h) cur (by first | kernel_rfl | rfl) (fun w' hSw => by have s0 := cell_below hSw pd0; have s1 := cell_below hSw pd1; have s2 := cell_below hSw pd2; have s3 := cell_below hSw pd3; have s4 := cell_below hSw pd4; clear hSw; go_simp; try with_reducible rfl) ?_
    try simp only [Act.put, List.setIfInBounds_toArray, List.set_cons_zero, List.set_cons_succ]
    refine AnyT.take 2 (show _ = some _ from rfl) rfl (by kernel_rfl) (by kernel_rfl) (by kernel_rfl) (fun _ _ _ h => h) cur (by first | kernel_rfl | rfl) (fun w' hSw => by have s0 := cell_below hSw pp0; have s1 := cell_below hSw pp1; have s2 := cell_below hSw pp2; clear hSw; go_simp; try with_reducible rfl) ?_
    try simp only [Act.put, List.setIfInBounds_toArray, List.set_cons_zero, List.set_cons_succ]
    refine AnyT.one 3 (by kernel_rfl) (show _ = some _ from rfl) (fun K' hK' => ?_)
    go_simp
    go_at_call 19
    refine (HS.out _ _ (VD.out.below cur)).mono ?_
    rintro e w5 ⟨_, rfl, o7, hB7⟩
    have V7 := Lib.hid o7.reads
    have hx7 := o7.reads
    obtain ⟨_, _, _, _, rfl, ⟨g1, h1, rfl, _⟩, ⟨g2, h2, rfl, _⟩, ⟨g3, h3, rfl, _⟩, ⟨g4, h4, rfl, _⟩⟩ := hx7
    clear o7
    have cur := below_trans cur hB7 cur.size
    clear hB7
    go_simp
    refine hK' _ _ ⟨?_, cur⟩
    clear hK' K'
    try simp only [Act.put, List.setIfInBounds_toArray, List.set_cons_zero, List.set_cons_succ]
    refine AnyT.one 4 (by kernel_rfl) (show _ = some _ from rfl) (fun K' hK' => ?_)
    go_simp
    go_at_call 8
    refine (lpaDisk_same _ _ r _ (VX.out.below cur) V7.out).mono ?_
    rintro e w6 ⟨rfl, hB8⟩
    have cur := below_trans cur hB8 cur.size
    clear hB8
    go_simp
    refine hK' _ _ ⟨?_, cur⟩
    clear hK' K'
    try simp only [Act.put, List.setIfInBounds_toArray, List.set_cons_zero, List.set_cons_succ]
    refine AnyT.take 5 (show _ = some _ from rfl) rfl (by kernel_rfl) (by kernel_rfl) (by kernel_rfl) (fun _ _ _ h => h) cur (by first | kernel_rfl | rfl) (fun w' hSw => by clear hSw; go_simp; try with_reducible rfl) ?_
    try simp only [Act.put, List.setIfInBounds_toArray, List.set_cons_zero, List.set_cons_succ]
    refine AnyT.take 6 (show _ = some _ from rfl) rfl (by kernel_rfl) (by kernel_rfl) (by kernel_rfl) (fun _ _ _ h => h) cur (by first | kernel_rfl | rfl) (fun w' hSw => by clear hSw; go_simp; try with_reducible rfl) ?_
    try simp only [Act.put, List.setIfInBounds_toArray, List.set_cons_zero, List.set_cons_succ]
    refine AnyT.take 7 (show _ = some _ from rfl) rfl (by kernel_rfl) (by kernel_rfl) (by kernel_rfl) (fun _ _ _ h => h) cur (by first | kernel_rfl | rfl) (fun w' hSw => by clear hSw; go_simp; try with_reducible rfl) ?_
    try simp only [Act.put, List.setIfInBounds_toArray, List.set_cons_zero, List.set_cons_succ]
    refine AnyT.take 8 (show _ = some _ from rfl) rfl (by kernel_rfl) (by kernel_rfl) (by kernel_rfl) (fun _ _ _ h => h) cur (by first | kernel_rfl | rfl) (fun w' hSw => by have s0 := cell_below hSw px1; clear hSw; go_simp; try with_reducible rfl) ?_
    try simp only [Act.put, List.setIfInBounds_toArray, List.set_cons_zero, List.set_cons_succ]
    refine AnyT.take 9 (show _ = some _ from rfl) rfl (by kernel_rfl) (by kernel_rfl) (by kernel_rfl) (fun _ _ _ h => h) cur (by first | kernel_rfl | rfl) (fun w' hSw => by clear hSw; go_simp; try with_reducible rfl) ?_
    try simp only [Act.put, List.setIfInBounds_toArray, List.set_cons_zero, List.set_cons_succ]
    refine AnyT.take 10 (show _ = some _ from rfl) rfl (by kernel_rfl) (by kernel_rfl) (by kernel_rfl) (fun _ _ _ h => h) cur (by first | kernel_rfl | rfl) (fun w' hSw => by clear hSw; go_simp; try with_reducible rfl) ?_
    try simp only [Act.put, List.setIfInBounds_toArray, List.set_cons_zero, List.set_cons_succ]
    refine AnyT.take 11 (show _ = some _ from rfl) rfl (by kernel_rfl) (by kernel_rfl) (by kernel_rfl) (fun _ _ _ h => h) cur (by first | kernel_rfl | rfl) (fun w' hSw => by clear hSw; go_simp; try with_reducible rfl) ?_
    try simp only [Act.put, List.setIfInBounds_toArray, List.set_cons_zero, List.set_cons_succ]
    refine AnyT.take 12 (show _ = some _ from rfl) rfl (by kernel_rfl) (by kernel_rfl) (by kernel_rfl) (fun _ _ _ h => h) cur (by first | kernel_rfl | rfl) (fun w' hSw => by clear hSw; go_simp; try with_reducible rfl) ?_
    try simp only [Act.put, List.setIfInBounds_toArray, List.set_cons_zero, List.set_cons_succ]
    refine AnyT.take 13 (show _ = some _ from rfl) rfl (by kernel_rfl) (by kernel_rfl) (by kernel_rfl) (fun _ _ _ h => h) cur (by first | kernel_rfl | rfl) (fun w' hSw => by clear hSw; go_simp; try with_reducible rfl) ?_
    try simp only [Act.put, List.setIfInBounds_toArray, List.set_cons_zero, List.set_cons_succ]
    refine AnyT.take 14 (show _ = some _ from rfl) rfl (by kernel_rfl) (by kernel_rfl) (by kernel_rfl) (fun _ _ _ h => h) cur (by first | kernel_rfl | rfl) (fun w' hSw => by have s0 := cell_below hSw pp0; clear hSw; go_simp; try with_reducible rfl) ?_
    try simp only [Act.put, List.setIfInBounds_toArray, List.set_cons_zero, List.set_cons_succ]
    refine AnyT.take 15 (show _ = some _ from rfl) rfl (by kernel_rfl) (by kernel_rfl) (by kernel_rfl) (fun _ _ _ h => h) cur (by first | kernel_rfl | rfl) (fun w' hSw => by clear hSw; go_simp; try with_reducible rfl) ?_
    try simp only [Act.put, List.setIfInBounds_toArray, List.set_cons_zero, List.set_cons_succ]
    refine AnyT.take 16 (show _ = some _ from rfl) rfl (by kernel_rfl) (by kernel_rfl) (by kernel_rfl) (fun _ _ _ h => h) cur (by first | kernel_rfl | rfl) (fun w' hSw => by clear hSw; go_simp; try with_reducible rfl) ?_
    try simp only [Act.put, List.setIfInBounds_toArray, List.set_cons_zero, List.set_cons_succ]
    refine AnyT.take 17 (show _ = some _ from rfl) rfl (by kernel_rfl) (by kernel_rfl) (by kernel_rfl) (fun _ _ _ h => h) cur (by first | kernel_rfl | rfl) (fun w' hSw => by clear hSw; go_simp; try with_reducible rfl) ?_
    try simp only [Act.put, List.setIfInBounds_toArray, List.set_cons_zero, List.set_cons_succ]
    refine AnyT.take 18 (show _ = some _ from rfl) rfl (by kernel_rfl) (by kernel_rfl) (by kernel_rfl) (fun _ _ _ h => h) cur (by first | kernel_rfl | rfl) (fun w' hSw => by have s0 := cell_below hSw pd0; clear hSw; go_simp; try with_reducible rfl) ?_
    try simp only [Act.put, List.setIfInBounds_toArray, List.set_cons_zero, List.set_cons_succ]
    refine AnyT.take 19 (show _ = some _ from rfl) rfl (by kernel_rfl) (by kernel_rfl) (by kernel_rfl) (fun _ _ _ h => h) cur (by first | kernel_rfl | rfl) (fun w' hSw => by clear hSw; go_simp; try with_reducible rfl) ?_
    try simp only [Act.put, List.setIfInBounds_toArray, List.set_cons_zero, List.set_cons_succ]
    refine AnyT.one 20 (by kernel_rfl) (show _ = some _ from rfl) (fun K' hK' => ?_)
    go_simp
    refine hK' _ _ ⟨AnyT.done (by kernel_rfl) ?_, cur⟩
    clear hK' K'
    try simp only [Act.put, List.setIfInBounds_toArray, List.set_cons_zero, List.set_cons_succ]
    clear pd0 pd1 pd2 pd3 pd4
    clear pp0 pp1 pp2
    clear px0 px1 px2 px3 px4
    clear V7
    replace Kd := Lib.hid (Kd.out.below cur Kd.out.lt)
    replace Kp := Lib.hid (Kp.out.below cur Kp.out.lt)
    replace Kx := Lib.hid (Kx.out.below cur Kx.out.lt)
    replace VD := Lib.hid (VD.out.below cur)
    replace VX := Lib.hid (VX.out.below cur)
    replace HB := Lib.hid (below_trans HB.out cur HB.out.size)
    clear cur
    have pd0 : w6.cell? ⟨md, 0, none⟩ = some (.int .i64 d.state) := Kd.out.cell 0
    have pd1 : w6.cell? ⟨md, 1, none⟩ = some (.slice o1 d.slots.length c1) := Kd.out.cell 1
    have pd2 : w6.cell? ⟨md, 2, none⟩ = some (.slice o2 d.rings.length c2) := Kd.out.cell 2
    have pd3 : w6.cell? ⟨md, 3, none⟩ = some (.slice o3 d.spoilt.length c3) := Kd.out.cell 3
    have pd4 : w6.cell? ⟨md, 4, none⟩ = some (.slice o4 d.wait.length c4) := Kd.out.cell 4
    have pp0 : w6.cell? ⟨mp, 0, none⟩ = some (.bool false) := Kp.out.cell 0
    have pp1 : w6.cell? ⟨mp, 1, none⟩ = some (.int .i64 xz) := Kp.out.cell 1
    have pp2 : w6.cell? ⟨mp, 2, none⟩ = some (.string xt) := Kp.out.cell 2
    have px0 : w6.cell? ⟨mx, 0, none⟩ = some (.int .i64 r.state) := Kx.out.cell 0
    have px1 : w6.cell? ⟨mx, 1, none⟩ = some (.slice x1 r.slots.length xc1) := Kx.out.cell 1
    have px2 : w6.cell? ⟨mx, 2, none⟩ = some (.slice x2 r.rings.length xc2) := Kx.out.cell 2
    have px3 : w6.cell? ⟨mx, 3, none⟩ = some (.slice x3 r.spoilt.length xc3) := Kx.out.cell 3
    have px4 : w6.cell? ⟨mx, 4, none⟩ = some (.slice x4 r.wait.length xc4) := Kx.out.cell 4
    go_upto_region 6 with (fail)
    have cur : Below w6.heap.size w6 w6.drew := (Below.refl _ _).drew
    refine AnyT.start (S := (fun w' : World => Below w6.heap.size w6 w')) (by kernel_rfl) ?_
    refine AnyT.take 0 (show _ = some _ from rfl) rfl (by kernel_rfl) (by kernel_rfl) (by kernel_rfl) (fun _ _ _ h => h) cur (by first | kernel_rfl | rfl) (fun w' hSw => by have s0 := cell_below hSw px0; have s1 := cell_below hSw px1; have s2 := cell_below hSw px2; have s3 := cell_below hSw px3; have s4 := cell_below hSw px4; clear hSw; go_simp; try with_reducible rfl) ?_
    try simp only [Act.put, List.setIfInBounds_toArray, List.set_cons_zero, List.set_cons_succ]
    refine AnyT.take 1 (show _ = some _ from rfl) rfl (by kernel_rfl) (by kernel_rfl) (by kernel_rfl) (fun _ _ _ h => h) cur (by first | kernel_rfl | rfl) (fun w' hSw => by have s0 := cell_below hSw pd0; have s1 := cell_below hSw pd1; have s2 := cell_below hSw pd2; have s3 := cell_below hSw pd3; have s4 := cell_below hSw pd4; clear hSw; go_simp; try with_reducible rfl) ?_
    try simp only [Act.put, List.setIfInBounds_toArray, List.set_cons_zero, List.set_cons_succ]
    refine AnyT.take 2 (show _ = some _ from rfl) rfl (by kernel_rfl) (by kernel_rfl) (by kernel_rfl) (fun _ _ _ h => h) cur (by first | kernel_rfl | rfl) (fun w' hSw => by have s0 := cell_below hSw pp0; have s1 := cell_below hSw pp1; have s2 := cell_below hSw pp2; clear hSw; go_simp; try with_reducible rfl) ?_
    try simp only [Act.put, List.setIfInBounds_toArray, List.set_cons_zero, List.set_cons_succ]
    refine AnyT.one 3 (by kernel_rfl) (show _ = some _ from rfl) (fun K' hK' => ?_)
    go_simp
    go_at_call 19
    refine (HS.out _ _ (VD.out.below cur)).mono ?_
    rintro e w15 ⟨_, rfl, o7, hB7⟩
    have V7 := Lib.hid o7.reads
    have hx7 := o7.reads
    obtain ⟨_, _, _, _, rfl, ⟨g1, h1, rfl, _⟩, ⟨g2, h2, rfl, _⟩, ⟨g3, h3, rfl, _⟩, ⟨g4, h4, rfl, _⟩⟩ := hx7
    clear o7
    have cur := below_trans cur hB7 cur.size
    clear hB7
    go_simp
    refine hK' _ _ ⟨?_, cur⟩
    clear hK' K'
    try simp only [Act.put, List.setIfInBounds_toArray, List.set_cons_zero, List.set_cons_succ]
    refine AnyT.one 4 (by kernel_rfl) (show _ = some _ from rfl) (fun K' hK' => ?_)
    go_simp
    go_at_call 8
    refine (lpaDisk_same _ _ r _ (VX.out.below cur) V7.out).mono ?_
    rintro e w16 ⟨rfl, hB8⟩
    have cur := below_trans cur hB8 cur.size
    clear hB8
    go_simp
    refine hK' _ _ ⟨?_, cur⟩
    clear hK' K'
    try simp only [Act.put, List.setIfInBounds_toArray, List.set_cons_zero, List.set_cons_succ]
    refine AnyT.one 5 (by kernel_rfl) (show _ = some _ from rfl) (fun K' hK' => ?_)
    go_simp
    refine hK' _ _ ⟨AnyT.done (by kernel_rfl) ?_, cur⟩
    clear hK' K'
    try simp only [Act.put, List.setIfInBounds_toArray, List.set_cons_zero, List.set_cons_succ]
    replace Kd := Lib.hid (Kd.out.below cur Kd.out.lt)
    replace Kp := Lib.hid (Kp.out.below cur Kp.out.lt)
    replace Kx := Lib.hid (Kx.out.below cur Kx.out.lt)
    replace VD := Lib.hid (VD.out.below cur)
    replace VX := Lib.hid (VX.out.below cur)
    replace HB := Lib.hid (below_trans HB.out cur HB.out.size)
    clear pd0 pd1 pd2 pd3 pd4
    clear pp0 pp1 pp2
    clear px0 px1 px2 px3 px4
    go_wp2
    go_ret
    exact ⟨rfl, HB.out⟩
  · have dz : ((r.slots.length : Int) == 0) = false := beq_eq_false_iff_ne.2 (by omega)
    subst hh
    clear hz
    have ds : ((d.state : Int) == 1) = false := beq_eq_false_iff_ne.2 hs
    clear hs
    obtain ⟨f, y1, y, yf, yc, HFl, HP1, HP2, HFy, HC1, HR, HRf, HRc, HRd⟩ := hrest
    have pd0 : w4.cell? ⟨md, 0, none⟩ = some (.int .i64 d.state) := Kd.out.cell 0
    have pd1 : w4.cell? ⟨md, 1, none⟩ = some (.slice o1 d.slots.length c1) := Kd.out.cell 1
    have pd2 : w4.cell? ⟨md, 2, none⟩ = some (.slice o2 d.rings.length c2) := Kd.out.cell 2
    have pd3 : w4.cell? ⟨md, 3, none⟩ = some (.slice o3 d.spoilt.length c3) := Kd.out.cell 3
    have pd4 : w4.cell? ⟨md, 4, none⟩ = some (.slice o4 d.wait.length c4) := Kd.out.cell 4
    have pp0 : w4.cell? ⟨mp, 0, none⟩ = some (.bool false) := Kp.out.cell 0
    have pp1 : w4.cell? ⟨mp, 1, none⟩ = some (.int .i64 xz) := Kp.out.cell 1
    have pp2 : w4.cell? ⟨mp, 2, none⟩ = some (.string xt) := Kp.out.cell 2
    have px0 : w4.cell? ⟨mx, 0, none⟩ = some (.int .i64 r.state) := Kx.out.cell 0
    have px1 : w4.cell? ⟨mx, 1, none⟩ = some (.slice x1 r.slots.length xc1) := Kx.out.cell 1
    have px2 : w4.cell? ⟨mx, 2, none⟩ = some (.slice x2 r.rings.length xc2) := Kx.out.cell 2
    have px3 : w4.cell? ⟨mx, 3, none⟩ = some (.slice x3 r.spoilt.length xc3) := Kx.out.cell 3
    have px4 : w4.cell? ⟨mx, 4, none⟩ = some (.slice x4 r.wait.length xc4) := Kx.out.cell 4
    have cur : Below w4.heap.size w4 w4.drew := (Below.refl _ _).drew
    refine AnyT.start (S := (fun w' : World => Below w4.heap.size w4 w')) (by kernel_rfl) ?_
    refine AnyT.take 0 (show _ = some _ from rfl) rfl (by kernel_rfl) (by kernel_rfl) (by kernel_rfl) (fun _ _ _ h => h) cur (by first | kernel_rfl | rfl) (fun w' hSw => by have s0 := cell_below hSw px0; have s1 := cell_below hSw px1; have s2 := cell_below hSw px2; have s3 := cell_below hSw px3; have s4 := cell_below hSw px4; clear hSw; go_simp; try with_reducible rfl) ?_
    try simp only [Act.put, List.setIfInBounds_toArray, List.set_cons_zero, List.set_cons_succ]
    refine AnyT.take 1 (show _ = some _ from rfl) rfl (by kernel_rfl) (by kernel_rfl) (by kernel_rfl) (fun _ _ _ h => h) cur (by first | kernel_rfl | rfl) (fun w' hSw => by have s0 := cell_below hSw pd0; have s1 := cell_below hSw pd1; have s2 := cell_below hSw pd2; have s3 := cell_below hSw pd3; have s4 := cell_below hSw pd4; clear hSw; go_simp; try with_reducible rfl) ?_
    try simp only [Act.put, List.setIfInBounds_toArray, List.set_cons_zero, List.set_cons_succ]
    refine AnyT.take 2 (show _ = some _ from rfl) rfl (by kernel_rfl) (by kernel_rfl) (by kernel_rfl) (fun _ _ _ h => h) cur (by first | kernel_rfl | rfl) (fun w' hSw => by have s0 := cell_below hSw pp0; have s1 := cell_below hSw pp1; have s2 := cell_below hSw pp2; clear hSw; go_simp; try with_reducible rfl) ?_
    try simp only [Act.put, List.setIfInBounds_toArray, List.set_cons_zero, List.set_cons_succ]
    refine AnyT.one 3 (by kernel_rfl) (show _ = some _ from rfl) (fun K' hK' => ?_)
    go_simp
    go_at_call 19
    refine (HS.out _ _ (VD.out.below cur)).mono ?_
    rintro e w5 ⟨_, rfl, o7, hB7⟩
    have V7 := Lib.hid o7.reads
    have hx7 := o7.reads
    obtain ⟨_, _, _, _, rfl, ⟨g1, h1, rfl, _⟩, ⟨g2, h2, rfl, _⟩, ⟨g3, h3, rfl, _⟩, ⟨g4, h4, rfl, _⟩⟩ := hx7
    clear o7
    have cur := below_trans cur hB7 cur.size
    clear hB7
    go_simp
    refine hK' _ _ ⟨?_, cur⟩
    clear hK' K'
    try simp only [Act.put, List.setIfInBounds_toArray, List.set_cons_zero, List.set_cons_succ]
    refine AnyT.one 4 (by kernel_rfl) (show _ = some _ from rfl) (fun K' hK' => ?_)
    go_simp
    go_at_call 8
    refine (lpaDisk_same _ _ r _ (VX.out.below cur) V7.out).mono ?_
    rintro e w6 ⟨rfl, hB8⟩
    have cur := below_trans cur hB8 cur.size
    clear hB8
    go_simp
    refine hK' _ _ ⟨?_, cur⟩
    clear hK' K'
    try simp only [Act.put, List.setIfInBounds_toArray, List.set_cons_zero, List.set_cons_succ]
    refine AnyT.take 5 (show _ = some _ from rfl) rfl (by kernel_rfl) (by kernel_rfl) (by kernel_rfl) (fun _ _ _ h => h) cur (by first | kernel_rfl | rfl) (fun w' hSw => by clear hSw; go_simp; try with_reducible rfl) ?_
    try simp only [Act.put, List.setIfInBounds_toArray, List.set_cons_zero, List.set_cons_succ]
    refine AnyT.take 6 (show _ = some _ from rfl) rfl (by kernel_rfl) (by kernel_rfl) (by kernel_rfl) (fun _ _ _ h => h) cur (by first | kernel_rfl | rfl) (fun w' hSw => by clear hSw; go_simp; try with_reducible rfl) ?_
    try simp only [Act.put, List.setIfInBounds_toArray, List.set_cons_zero, List.set_cons_succ]
    refine AnyT.take 7 (show _ = some _ from rfl) rfl (by kernel_rfl) (by kernel_rfl) (by kernel_rfl) (fun _ _ _ h => h) cur (by first | kernel_rfl | rfl) (fun w' hSw => by clear hSw; go_simp; try with_reducible rfl) ?_
    try simp only [Act.put, List.setIfInBounds_toArray, List.set_cons_zero, List.set_cons_succ]
    refine AnyT.take 8 (show _ = some _ from rfl) rfl (by kernel_rfl) (by kernel_rfl) (by kernel_rfl) (fun _ _ _ h => h) cur (by first | kernel_rfl | rfl) (fun w' hSw => by have s0 := cell_below hSw px1; clear hSw; go_simp; try with_reducible rfl) ?_
    try simp only [Act.put, List.setIfInBounds_toArray, List.set_cons_zero, List.set_cons_succ]
    refine AnyT.take 9 (show _ = some _ from rfl) rfl (by kernel_rfl) (by kernel_rfl) (by kernel_rfl) (fun _ _ _ h => h) cur (by first | kernel_rfl | rfl) (fun w' hSw => by clear hSw; go_simp; try with_reducible rfl) ?_
    try simp only [Act.put, List.setIfInBounds_toArray, List.set_cons_zero, List.set_cons_succ]
    refine AnyT.take 10 (show _ = some _ from rfl) rfl (by kernel_rfl) (by kernel_rfl) (by kernel_rfl) (fun _ _ _ h => h) cur (by first | kernel_rfl | rfl) (fun w' hSw => by clear hSw; go_simp; try with_reducible rfl) ?_
    try simp only [Act.put, List.setIfInBounds_toArray, List.set_cons_zero, List.set_cons_succ]
    refine AnyT.take 11 (show _ = some _ from rfl) rfl (by kernel_rfl) (by kernel_rfl) (by kernel_rfl) (fun _ _ _ h => h) cur (by first | kernel_rfl | rfl) (fun w' hSw => by clear hSw; go_simp; try with_reducible rfl) ?_
    try simp only [Act.put, List.setIfInBounds_toArray, List.set_cons_zero, List.set_cons_succ]
    refine AnyT.take 12 (show _ = some _ from rfl) rfl (by kernel_rfl) (by kernel_rfl) (by kernel_rfl) (fun _ _ _ h => h) cur (by first | kernel_rfl | rfl) (fun w' hSw => by clear hSw; go_simp; try with_reducible rfl) ?_
    try simp only [Act.put, List.setIfInBounds_toArray, List.set_cons_zero, List.set_cons_succ]
    refine AnyT.take 13 (show _ = some _ from rfl) rfl (by kernel_rfl) (by kernel_rfl) (by kernel_rfl) (fun _ _ _ h => h) cur (by first | kernel_rfl | rfl) (fun w' hSw => by clear hSw; go_simp; try with_reducible rfl) ?_
    try simp only [Act.put, List.setIfInBounds_toArray, List.set_cons_zero, List.set_cons_succ]
    refine AnyT.take 14 (show _ = some _ from rfl) rfl (by kernel_rfl) (by kernel_rfl) (by kernel_rfl) (fun _ _ _ h => h) cur (by first | kernel_rfl | rfl) (fun w' hSw => by have s0 := cell_below hSw pp0; clear hSw; go_simp; try with_reducible rfl) ?_
    try simp only [Act.put, List.setIfInBounds_toArray, List.set_cons_zero, List.set_cons_succ]
    refine AnyT.take 15 (show _ = some _ from rfl) rfl (by kernel_rfl) (by kernel_rfl) (by kernel_rfl) (fun _ _ _ h => h) cur (by first | kernel_rfl | rfl) (fun w' hSw => by clear hSw; go_simp; try with_reducible rfl) ?_
    try simp only [Act.put, List.setIfInBounds_toArray, List.set_cons_zero, List.set_cons_succ]
    refine AnyT.take 16 (show _ = some _ from rfl) rfl (by kernel_rfl) (by kernel_rfl) (by kernel_rfl) (fun _ _ _ h => h) cur (by first | kernel_rfl | rfl) (fun w' hSw => by clear hSw; go_simp; try with_reducible rfl) ?_
    try simp only [Act.put, List.setIfInBounds_toArray, List.set_cons_zero, List.set_cons_succ]
    refine AnyT.take 17 (show _ = some _ from rfl) rfl (by kernel_rfl) (by kernel_rfl) (by kernel_rfl) (fun _ _ _ h => h) cur (by first | kernel_rfl | rfl) (fun w' hSw => by clear hSw; go_simp; try with_reducible rfl) ?_
    try simp only [Act.put, List.setIfInBounds_toArray, List.set_cons_zero, List.set_cons_succ]
    refine AnyT.take 18 (show _ = some _ from rfl) rfl (by kernel_rfl) (by kernel_rfl) (by kernel_rfl) (fun _ _ _ h => h) cur (by first | kernel_rfl | rfl) (fun w' hSw => by have s0 := cell_below hSw pd0; clear hSw; go_simp; try with_reducible rfl) ?_
    try simp only [Act.put, List.setIfInBounds_toArray, List.set_cons_zero, List.set_cons_succ]
    refine AnyT.take 19 (show _ = some _ from rfl) rfl (by kernel_rfl) (by kernel_rfl) (by kernel_rfl) (fun _ _ _ h => h) cur (by first | kernel_rfl | rfl) (fun w' hSw => by clear hSw; go_simp; try with_reducible rfl) ?_
    try simp only [Act.put, List.setIfInBounds_toArray, List.set_cons_zero, List.set_cons_succ]
    refine AnyT.one 20 (by kernel_rfl) (show _ = some _ from rfl) (fun K' hK' => ?_)
    go_simp
    refine hK' _ _ ⟨AnyT.done (by kernel_rfl) ?_, cur⟩
    clear hK' K'
    try simp only [Act.put, List.setIfInBounds_toArray, List.set_cons_zero, List.set_cons_succ]
    clear pd0 pd1 pd2 pd3 pd4
    clear pp0 pp1 pp2
    clear px0 px1 px2 px3 px4
    clear V7
    replace Kd := Lib.hid (Kd.out.below cur Kd.out.lt)
    replace Kp := Lib.hid (Kp.out.below cur Kp.out.lt)
    replace Kx := Lib.hid (Kx.out.below cur Kx.out.lt)
    replace VD := Lib.hid (VD.out.below cur)
    replace VX := Lib.hid (VX.out.below cur)
    replace HB := Lib.hid (below_trans HB.out cur HB.out.size)
    clear cur
    clear Kd VD dz ds
    have pp0 : w6.cell? ⟨mp, 0, none⟩ = some (.bool false) := Kp.out.cell 0
    have pp1 : w6.cell? ⟨mp, 1, none⟩ = some (.int .i64 xz) := Kp.out.cell 1
    have pp2 : w6.cell? ⟨mp, 2, none⟩ = some (.string xt) := Kp.out.cell 2
    have px0 : w6.cell? ⟨mx, 0, none⟩ = some (.int .i64 r.state) := Kx.out.cell 0
    have px1 : w6.cell? ⟨mx, 1, none⟩ = some (.slice x1 r.slots.length xc1) := Kx.out.cell 1
    have px2 : w6.cell? ⟨mx, 2, none⟩ = some (.slice x2 r.rings.length xc2) := Kx.out.cell 2
    have px3 : w6.cell? ⟨mx, 3, none⟩ = some (.slice x3 r.spoilt.length xc3) := Kx.out.cell 3
    have px4 : w6.cell? ⟨mx, 4, none⟩ = some (.slice x4 r.wait.length xc4) := Kx.out.cell 4
    go_upto_region 7 with (fail)
    go_cut [8] (fun sx WA => After w6 WA sx y1)
    case first =>
      have cur : Below w6.heap.size w6 w6.drew := (Below.refl _ _).drew
      refine AnyT.start (S := (fun w' : World => Below w6.heap.size w6 w')) (by kernel_rfl) ?_
      refine AnyT.take 0 (show _ = some _ from rfl) rfl (by kernel_rfl) (by kernel_rfl) (by kernel_rfl) (fun _ _ _ h => h) cur (by first | kernel_rfl | rfl) (fun w' hSw => by have s0 := cell_below hSw px0; have s1 := cell_below hSw px1; have s2 := cell_below hSw px2; have s3 := cell_below hSw px3; have s4 := cell_below hSw px4; clear hSw; go_simp; try with_reducible rfl) ?_
      try simp only [Act.put, List.setIfInBounds_toArray, List.set_cons_zero, List.set_cons_succ]
      refine AnyT.take 2 (show _ = some _ from rfl) rfl (by kernel_rfl) (by kernel_rfl) (by kernel_rfl) (fun _ _ _ h => h) cur (by first | kernel_rfl | rfl) (fun w' hSw => by clear hSw; go_simp; try with_reducible rfl) ?_
      try simp only [Act.put, List.setIfInBounds_toArray, List.set_cons_zero, List.set_cons_succ]
      refine AnyT.take 3 (show _ = some _ from rfl) rfl (by kernel_rfl) (by kernel_rfl) (by kernel_rfl) (fun _ _ _ h => h) cur (by first | kernel_rfl | rfl) (fun w' hSw => by have s0 := cell_below hSw pp1; clear hSw; go_simp; try with_reducible rfl) ?_
      try simp only [Act.put, List.setIfInBounds_toArray, List.set_cons_zero, List.set_cons_succ]
      refine AnyT.take 4 (show _ = some _ from rfl) rfl (by kernel_rfl) (by kernel_rfl) (by kernel_rfl) (fun _ _ _ h => h) cur (by first | kernel_rfl | rfl) (fun w' hSw => by clear hSw; go_simp; try with_reducible rfl) ?_
      try simp only [Act.put, List.setIfInBounds_toArray, List.set_cons_zero, List.set_cons_succ]
      have hs0 : Hid True := Lib.hid trivial
      clear pp0 pp1 pp2
      clear px0 px1 px2 px3 px4
      generalize w6.drew = wr at cur ⊢
      refine two 1 6 (by kernel_rfl) (show _ = some _ from rfl) (show _ = some _ from rfl) (fun K' hK' => ?_) (fun K' hK' => ?_)
      · go_simp
        go_at_call 12
        refine (HFl.out _ _ (VX.out.below cur)).mono ?_
        rintro e w7 ⟨_, rfl, o6, hB6⟩
        have V6 := Lib.hid o6.reads
        have hx6 := o6.reads
        obtain ⟨_, _, _, _, rfl, ⟨i1, j1, rfl, _⟩, ⟨i2, j2, rfl, _⟩, ⟨i3, j3, rfl, _⟩, ⟨i4, j4, rfl, _⟩⟩ := hx6
        clear o6
        have cur := below_trans cur hB6 cur.size
        clear hB6
        go_simp
        refine hK' _ _ ⟨?_, cur⟩
        clear hK' K'
        try simp only [Act.put, List.setIfInBounds_toArray, List.set_cons_zero, List.set_cons_succ]
        refine two 5 6 (by kernel_rfl) (show _ = some _ from rfl) (show _ = some _ from rfl) (fun K' hK' => ?_) (fun K' hK' => ?_)
        · go_simp
          go_at_call 16
          refine (HP1.out _ HAE.out.symm _ _ V6.out).mono ?_
          rintro e w8 ⟨_, rfl, o8, hB8⟩
          have hb8 := cur.size
          have hx8 := o8.reads
          obtain ⟨_, _, _, _, rfl, ⟨g1, h1, rfl, _⟩, ⟨g2, h2, rfl, _⟩, ⟨g3, h3, rfl, _⟩, ⟨g4, h4, rfl, _⟩⟩ := hx8
          have O8 := Lib.hid o8
          clear o8
          have cur := below_trans cur hB8 cur.size
          clear hB8
          go_simp
          refine hK' _ _ ⟨?_, cur⟩
          clear hK' K'
          try simp only [Act.put, List.setIfInBounds_toArray, List.set_cons_zero, List.set_cons_succ]
          refine AnyT.one 6 (by kernel_rfl) (show _ = some _ from rfl) (fun K' hK' => ?_)
          have c8 := Lib.hid cur
          have hal : Below w8.heap.size w8 (w8.alloc (.cells #[.int .i64 0, .slice none 0 0, .slice none 0 0, .slice none 0 0, .slice none 0 0] 27)) := (Below.refl _ _).alloc (Nat.le_refl _) _
          have KZ := Lib.hid (Blk.new w8 #[.int .i64 0, .slice none 0 0, .slice none 0 0, .slice none 0 0, .slice none 0 0] 27)
          have hD : w6.heap.size ≤ w8.heap.size := cur.size
          have cur := below_trans cur hal cur.size
          clear hal
          go_simp
          refine hK' _ _ ⟨?_, cur⟩
          clear hK' K'
          try simp only [Act.put, List.setIfInBounds_toArray, List.set_cons_zero, List.set_cons_succ]
          have HA := after_new (w := w6) O8.out hb8 c8.out
          obtain ⟨b0, b1, b2, b3, b4, f0, f1, f2, f3, f4⟩ := blk5 KZ.out
          refine AnyT.one 7 (by kernel_rfl) (show _ = some _ from rfl) (fun K' hK' => ?_)
          go_simp
          clear b0 b1 b2 b3 b4 f0 f1 f2 f3 f4
          refine hK' _ _ ⟨AnyT.done (by kernel_rfl) ?_, HA.below⟩
          clear hK' K'
          try simp only [Act.put, List.setIfInBounds_toArray, List.set_cons_zero, List.set_cons_succ]
          go_wp2
          go_meet
          exact HA
        · have hal : Below w7.heap.size w7 (w7.alloc (.cells #[.int .i64 0, .slice none 0 0, .slice none 0 0, .slice none 0 0, .slice none 0 0] 27)) := (Below.refl _ _).alloc (Nat.le_refl _) _
          have KZ := Lib.hid (Blk.new w7 #[.int .i64 0, .slice none 0 0, .slice none 0 0, .slice none 0 0, .slice none 0 0] 27)
          have hD : w6.heap.size ≤ w7.heap.size := cur.size
          replace V6 := Lib.hid (V6.out.below hal)
          have cur := below_trans cur hal cur.size
          clear hal
          go_simp
          refine hK' _ _ ⟨?_, cur⟩
          clear hK' K'
          try simp only [Act.put, List.setIfInBounds_toArray, List.set_cons_zero, List.set_cons_succ]
          refine AnyT.one 5 (by kernel_rfl) (show _ = some _ from rfl) (fun K' hK' => ?_)
          go_simp
          go_at_call 16
          refine (HP1.out _ HAE.out.symm _ _ V6.out).mono ?_
          rintro e w8 ⟨_, rfl, o8, hB8⟩
          have hb8 := cur.size
          have hDb := KZ.out.lt
          replace KZ := Lib.hid (KZ.out.below hB8 KZ.out.lt)
          have hx8 := o8.reads
          obtain ⟨_, _, _, _, rfl, ⟨g1, h1, rfl, _⟩, ⟨g2, h2, rfl, _⟩, ⟨g3, h3, rfl, _⟩, ⟨g4, h4, rfl, _⟩⟩ := hx8
          have O8 := Lib.hid o8
          clear o8
          have cur := below_trans cur hB8 cur.size
          clear hB8
          go_simp
          refine hK' _ _ ⟨?_, cur⟩
          clear hK' K'
          try simp only [Act.put, List.setIfInBounds_toArray, List.set_cons_zero, List.set_cons_succ]
          have HA := after_set (w := w6) O8.out hb8 cur KZ.out hD hDb
          obtain ⟨b0, b1, b2, b3, b4, f0, f1, f2, f3, f4⟩ := blk5 KZ.out
          refine AnyT.one 7 (by kernel_rfl) (show _ = some _ from rfl) (fun K' hK' => ?_)
          go_simp
          clear b0 b1 b2 b3 b4 f0 f1 f2 f3 f4
          refine hK' _ _ ⟨AnyT.done (by kernel_rfl) ?_, HA.below⟩
          clear hK' K'
          try simp only [Act.put, List.setIfInBounds_toArray, List.set_cons_zero, List.set_cons_succ]
          go_wp2
          go_meet
          exact HA
      · have hal : Below wr.heap.size wr (wr.alloc (.cells #[.int .i64 0, .slice none 0 0, .slice none 0 0, .slice none 0 0, .slice none 0 0] 27)) := (Below.refl _ _).alloc (Nat.le_refl _) _
        have KZ := Lib.hid (Blk.new wr #[.int .i64 0, .slice none 0 0, .slice none 0 0, .slice none 0 0, .slice none 0 0] 27)
        have hD : w6.heap.size ≤ wr.heap.size := cur.size
        have cur := below_trans cur hal cur.size
        clear hal
        go_simp
        refine hK' _ _ ⟨?_, cur⟩
        clear hK' K'
        try simp only [Act.put, List.setIfInBounds_toArray, List.set_cons_zero, List.set_cons_succ]
        refine AnyT.one 1 (by kernel_rfl) (show _ = some _ from rfl) (fun K' hK' => ?_)
        go_simp
        go_at_call 12
        refine (HFl.out _ _ (VX.out.below cur)).mono ?_
        rintro e w7 ⟨_, rfl, o6, hB6⟩
        have V6 := Lib.hid o6.reads
        have hx6 := o6.reads
        obtain ⟨_, _, _, _, rfl, ⟨i1, j1, rfl, _⟩, ⟨i2, j2, rfl, _⟩, ⟨i3, j3, rfl, _⟩, ⟨i4, j4, rfl, _⟩⟩ := hx6
        clear o6
        replace KZ := Lib.hid (KZ.out.below hB6 KZ.out.lt)
        have cur := below_trans cur hB6 cur.size
        clear hB6
        go_simp
        refine hK' _ _ ⟨?_, cur⟩
        clear hK' K'
        try simp only [Act.put, List.setIfInBounds_toArray, List.set_cons_zero, List.set_cons_succ]
        refine AnyT.one 5 (by kernel_rfl) (show _ = some _ from rfl) (fun K' hK' => ?_)
        go_simp
        go_at_call 16
        refine (HP1.out _ HAE.out.symm _ _ V6.out).mono ?_
        rintro e w8 ⟨_, rfl, o8, hB8⟩
        have hb8 := cur.size
        have hDb := KZ.out.lt
        replace KZ := Lib.hid (KZ.out.below hB8 KZ.out.lt)
        have hx8 := o8.reads
        obtain ⟨_, _, _, _, rfl, ⟨g1, h1, rfl, _⟩, ⟨g2, h2, rfl, _⟩, ⟨g3, h3, rfl, _⟩, ⟨g4, h4, rfl, _⟩⟩ := hx8
        have O8 := Lib.hid o8
        clear o8
        have cur := below_trans cur hB8 cur.size
        clear hB8
        go_simp
        refine hK' _ _ ⟨?_, cur⟩
        clear hK' K'
        try simp only [Act.put, List.setIfInBounds_toArray, List.set_cons_zero, List.set_cons_succ]
        have HA := after_set (w := w6) O8.out hb8 cur KZ.out hD hDb
        obtain ⟨b0, b1, b2, b3, b4, f0, f1, f2, f3, f4⟩ := blk5 KZ.out
        refine AnyT.one 7 (by kernel_rfl) (show _ = some _ from rfl) (fun K' hK' => ?_)
        go_simp
        clear b0 b1 b2 b3 b4 f0 f1 f2 f3 f4
        refine hK' _ _ ⟨AnyT.done (by kernel_rfl) ?_, HA.below⟩
        clear hK' K'
        try simp only [Act.put, List.setIfInBounds_toArray, List.set_cons_zero, List.set_cons_succ]
        go_wp2
        go_meet
        exact HA
    case rest =>
      clear px0 px1 px2 px3 px4 pp0 pp1 pp2 Kx VX
      obtain ⟨WA, e0⟩ : ∃ x, x = wc := ⟨_, rfl⟩
      subst e0
      obtain ⟨my, cs, rfl, Ky, HA, hBa, hDY⟩ := hcut
      have hx := HA.out.reads
      obtain ⟨_, _, _, _, ⟨⟩, ⟨k1, g1, rfl, _⟩, ⟨k2, g2, rfl, _⟩, ⟨k3, g3, rfl, _⟩, ⟨k4, g4, rfl, _⟩⟩ := hx
      have VY := Lib.hid HA.out.reads
      have hDw : w.heap.size ≤ my := Nat.le_trans HB.out.size hDY
      replace Kp := Lib.hid (Kp.out.below hBa.out Kp.out.lt)
      replace HB := Lib.hid (below_trans HB.out hBa.out HB.out.size)
      clear hBa HA hDY
      have pp0 : WA.cell? ⟨mp, 0, none⟩ = some (.bool false) := Kp.out.cell 0
      have pp1 : WA.cell? ⟨mp, 1, none⟩ = some (.int .i64 xz) := Kp.out.cell 1
      have pp2 : WA.cell? ⟨mp, 2, none⟩ = some (.string xt) := Kp.out.cell 2
      have py0 : WA.cell? ⟨my, 0, none⟩ = some (.int .i64 y1.state) := Ky.out.cell 0
      have py1 : WA.cell? ⟨my, 1, none⟩ = some (.slice k1 y1.slots.length g1) := Ky.out.cell 1
      have py2 : WA.cell? ⟨my, 2, none⟩ = some (.slice k2 y1.rings.length g2) := Ky.out.cell 2
      have py3 : WA.cell? ⟨my, 3, none⟩ = some (.slice k3 y1.spoilt.length g3) := Ky.out.cell 3
      have py4 : WA.cell? ⟨my, 4, none⟩ = some (.slice k4 y1.wait.length g4) := Ky.out.cell 4
      go_wp2_with fail
      clear pp0 pp1 pp2
      clear py0 py1 py2 py3 py4
      refine (HP2.out _ HXE.out.symm _ _ VY.out).mono ?_
      rintro e w9 ⟨_, rfl, o9, hB9⟩
      have hDYl := Ky.out.lt
      replace Kp := Lib.hid (Kp.out.below hB9 Kp.out.lt)
      replace Ky := Lib.hid (Ky.out.below hB9 Ky.out.lt)
      replace HB := Lib.hid (below_trans HB.out hB9 HB.out.size)
      have O9 := Lib.hid o9
      have hx9 := o9.reads
      obtain ⟨_, _, _, _, rfl, ⟨t1, u1, rfl, _⟩, ⟨t2, u2, rfl, _⟩, ⟨t3, u3, rfl, _⟩, ⟨t4, u4, rfl, _⟩⟩ := hx9
      clear o9 hB9 VY
      obtain ⟨b0, b1, b2, b3, b4, f0, f1, f2, f3, f4⟩ := blk5 Ky.out
      have hne : my ≠ mp := fun e => absurd (Blk.type Ky.out (by rw [e]; exact Kp.out)) (by decide)
      have Kp2 := Lib.hid (put5_other Kp.out hne (.int .i64 y.state) (.slice t1 y.slots.length u1) (.slice t2 y.rings.length u2) (.slice t3 y.spoilt.length u3) (.slice t4 y.wait.length u4))
      have Ky2 := Lib.hid (put5_blk (x0 := .int .i64 y.state) (x1 := .slice t1 y.slots.length u1) (x2 := .slice t2 y.rings.length u2) (x3 := .slice t3 y.spoilt.length u3) (x4 := .slice t4 y.wait.length u4) Ky.out)
      have VY := Lib.hid (put5_far O9.out hDYl (.int .i64 y.state) (.slice t1 y.slots.length u1) (.slice t2 y.rings.length u2) (.slice t3 y.spoilt.length u3) (.slice t4 y.wait.length u4)).reads
      have HB2 := Lib.hid (put5_below HB.out hDw (.int .i64 y.state) (.slice t1 y.slots.length u1) (.slice t2 y.rings.length u2) (.slice t3 y.spoilt.length u3) (.slice t4 y.wait.length u4))
      clear Kp Ky O9 HB hne hDYl
      go_upto_region 9 with (fail)
      clear b0 b1 b2 b3 b4 f0 f1 f2 f3 f4
      rw [put5_eq]
      generalize put5 w9 my (.int .i64 y.state) (.slice t1 y.slots.length u1) (.slice t2 y.rings.length u2) (.slice t3 y.spoilt.length u3) (.slice t4 y.wait.length u4) = w10 at Kp2 Ky2 VY HB2 ⊢
      have Kp := Kp2
      have Ky := Ky2
      have HB := HB2
      clear Kp2 Ky2 HB2
      have pp0 : w10.cell? ⟨mp, 0, none⟩ = some (.bool false) := Kp.out.cell 0
      have pp1 : w10.cell? ⟨mp, 1, none⟩ = some (.int .i64 xz) := Kp.out.cell 1
      have pp2 : w10.cell? ⟨mp, 2, none⟩ = some (.string xt) := Kp.out.cell 2
      have py0 : w10.cell? ⟨my, 0, none⟩ = some (.int .i64 y.state) := Ky.out.cell 0
      have py1 : w10.cell? ⟨my, 1, none⟩ = some (.slice t1 y.slots.length u1) := Ky.out.cell 1
      have py2 : w10.cell? ⟨my, 2, none⟩ = some (.slice t2 y.rings.length u2) := Ky.out.cell 2
      have py3 : w10.cell? ⟨my, 3, none⟩ = some (.slice t3 y.spoilt.length u3) := Ky.out.cell 3
      have py4 : w10.cell? ⟨my, 4, none⟩ = some (.slice t4 y.wait.length u4) := Ky.out.cell 4
      go_wp2_with fail
      clear pp0 pp1 pp2
      clear py0 py1 py2 py3 py4
      refine (HR.out _ _ VY.out).mono ?_
      rintro e w11 ⟨rfl, hB⟩
      replace Kp := Lib.hid (Kp.out.below hB Kp.out.lt)
      replace Ky := Lib.hid (Ky.out.below hB Ky.out.lt)
      replace VY := Lib.hid (VY.out.below hB)
      replace HB := Lib.hid (below_trans HB.out hB HB.out.size)
      clear hB
      have pp0 : w11.cell? ⟨mp, 0, none⟩ = some (.bool false) := Kp.out.cell 0
      have pp1 : w11.cell? ⟨mp, 1, none⟩ = some (.int .i64 xz) := Kp.out.cell 1
      have pp2 : w11.cell? ⟨mp, 2, none⟩ = some (.string xt) := Kp.out.cell 2
      have py0 : w11.cell? ⟨my, 0, none⟩ = some (.int .i64 y.state) := Ky.out.cell 0
      have py1 : w11.cell? ⟨my, 1, none⟩ = some (.slice t1 y.slots.length u1) := Ky.out.cell 1
      have py2 : w11.cell? ⟨my, 2, none⟩ = some (.slice t2 y.rings.length u2) := Ky.out.cell 2
      have py3 : w11.cell? ⟨my, 3, none⟩ = some (.slice t3 y.spoilt.length u3) := Ky.out.cell 3
      have py4 : w11.cell? ⟨my, 4, none⟩ = some (.slice t4 y.wait.length u4) := Ky.out.cell 4
      go_upto_region 10 with (fail)
      have cur : Below w11.heap.size w11 w11.drew := (Below.refl _ _).drew
      refine AnyT.start (S := (fun w' : World => Below w11.heap.size w11 w')) (by kernel_rfl) ?_
      refine AnyT.take 0 (show _ = some _ from rfl) rfl (by kernel_rfl) (by kernel_rfl) (by kernel_rfl) (fun _ _ _ h => h) cur (by first | kernel_rfl | rfl) (fun w' hSw => by have s0 := cell_below hSw py0; have s1 := cell_below hSw py1; have s2 := cell_below hSw py2; have s3 := cell_below hSw py3; have s4 := cell_below hSw py4; clear hSw; go_simp; try with_reducible rfl) ?_
      try simp only [Act.put, List.setIfInBounds_toArray, List.set_cons_zero, List.set_cons_succ]
      refine AnyT.take 2 (show _ = some _ from rfl) rfl (by kernel_rfl) (by kernel_rfl) (by kernel_rfl) (fun _ _ _ h => h) cur (by first | kernel_rfl | rfl) (fun w' hSw => by clear hSw; go_simp; try with_reducible rfl) ?_
      try simp only [Act.put, List.setIfInBounds_toArray, List.set_cons_zero, List.set_cons_succ]
      refine AnyT.take 3 (show _ = some _ from rfl) rfl (by kernel_rfl) (by kernel_rfl) (by kernel_rfl) (fun _ _ _ h => h) cur (by first | kernel_rfl | rfl) (fun w' hSw => by have s0 := cell_below hSw pp1; clear hSw; go_simp; try with_reducible rfl) ?_
      try simp only [Act.put, List.setIfInBounds_toArray, List.set_cons_zero, List.set_cons_succ]
      refine AnyT.one 1 (by kernel_rfl) (show _ = some _ from rfl) (fun K' hK' => ?_)
      go_simp
      go_at_call 12
      refine (HFy.out _ _ (VY.out.below cur)).mono ?_
      rintro e w210 ⟨_, rfl, o7, hB7⟩
      have V7 := Lib.hid o7.reads
      have hx7 := o7.reads
      obtain ⟨_, _, _, _, rfl, ⟨i1, j1, rfl, _⟩, ⟨i2, j2, rfl, _⟩, ⟨i3, j3, rfl, _⟩, ⟨i4, j4, rfl, _⟩⟩ := hx7
      clear o7
      have cur := below_trans cur hB7 cur.size
      clear hB7
      go_simp
      refine hK' _ _ ⟨?_, cur⟩
      clear hK' K'
      try simp only [Act.put, List.setIfInBounds_toArray, List.set_cons_zero, List.set_cons_succ]
      refine AnyT.one 4 (by kernel_rfl) (show _ = some _ from rfl) (fun K' hK' => ?_)
      go_simp
      go_at_call 20
      refine (HRf.out _ _ V7.out).mono ?_
      rintro e w310 ⟨rfl, hB8⟩
      have cur := below_trans cur hB8 cur.size
      clear hB8
      go_simp
      refine hK' _ _ ⟨?_, cur⟩
      clear hK' K'
      try simp only [Act.put, List.setIfInBounds_toArray, List.set_cons_zero, List.set_cons_succ]
      refine AnyT.take 5 (show _ = some _ from rfl) rfl (by kernel_rfl) (by kernel_rfl) (by kernel_rfl) (fun _ _ _ h => h) cur (by first | kernel_rfl | rfl) (fun w' hSw => by clear hSw; go_simp; try with_reducible rfl) ?_
      try simp only [Act.put, List.setIfInBounds_toArray, List.set_cons_zero, List.set_cons_succ]
      refine AnyT.take 6 (show _ = some _ from rfl) rfl (by kernel_rfl) (by kernel_rfl) (by kernel_rfl) (fun _ _ _ h => h) cur (by first | kernel_rfl | rfl) (fun w' hSw => by clear hSw; go_simp; try with_reducible rfl) ?_
      try simp only [Act.put, List.setIfInBounds_toArray, List.set_cons_zero, List.set_cons_succ]
      refine AnyT.take 7 (show _ = some _ from rfl) rfl (by kernel_rfl) (by kernel_rfl) (by kernel_rfl) (fun _ _ _ h => h) cur (by first | kernel_rfl | rfl) (fun w' hSw => by clear hSw; go_simp; try with_reducible rfl) ?_
      try simp only [Act.put, List.setIfInBounds_toArray, List.set_cons_zero, List.set_cons_succ]
      refine AnyT.take 8 (show _ = some _ from rfl) rfl (by kernel_rfl) (by kernel_rfl) (by kernel_rfl) (fun _ _ _ h => h) cur (by first | kernel_rfl | rfl) (fun w' hSw => by clear hSw; go_simp; try with_reducible rfl) ?_
      try simp only [Act.put, List.setIfInBounds_toArray, List.set_cons_zero, List.set_cons_succ]
      refine AnyT.one 9 (by kernel_rfl) (show _ = some _ from rfl) (fun K' hK' => ?_)
      go_simp
      refine hK' _ _ ⟨AnyT.done (by kernel_rfl) ?_, cur⟩
      clear hK' K'
      try simp only [Act.put, List.setIfInBounds_toArray, List.set_cons_zero, List.set_cons_succ]
      clear pp0 pp1 pp2
      clear py0 py1 py2 py3 py4
      clear V7
      replace Kp := Lib.hid (Kp.out.below cur Kp.out.lt)
      replace Ky := Lib.hid (Ky.out.below cur Ky.out.lt)
      replace VY := Lib.hid (VY.out.below cur)
      replace HB := Lib.hid (below_trans HB.out cur HB.out.size)
      clear cur
      have pp0 : w310.cell? ⟨mp, 0, none⟩ = some (.bool false) := Kp.out.cell 0
      have pp1 : w310.cell? ⟨mp, 1, none⟩ = some (.int .i64 xz) := Kp.out.cell 1
      have pp2 : w310.cell? ⟨mp, 2, none⟩ = some (.string xt) := Kp.out.cell 2
      have py0 : w310.cell? ⟨my, 0, none⟩ = some (.int .i64 y.state) := Ky.out.cell 0
      have py1 : w310.cell? ⟨my, 1, none⟩ = some (.slice t1 y.slots.length u1) := Ky.out.cell 1
      have py2 : w310.cell? ⟨my, 2, none⟩ = some (.slice t2 y.rings.length u2) := Ky.out.cell 2
      have py3 : w310.cell? ⟨my, 3, none⟩ = some (.slice t3 y.spoilt.length u3) := Ky.out.cell 3
      have py4 : w310.cell? ⟨my, 4, none⟩ = some (.slice t4 y.wait.length u4) := Ky.out.cell 4
      go_upto_region 11 with (fail)
      have cur : Below w310.heap.size w310 w310.drew := (Below.refl _ _).drew
      refine AnyT.start (S := (fun w' : World => Below w310.heap.size w310 w')) (by kernel_rfl) ?_
      refine AnyT.take 0 (show _ = some _ from rfl) rfl (by kernel_rfl) (by kernel_rfl) (by kernel_rfl) (fun _ _ _ h => h) cur (by first | kernel_rfl | rfl) (fun w' hSw => by have s0 := cell_below hSw py0; have s1 := cell_below hSw py1; have s2 := cell_below hSw py2; have s3 := cell_below hSw py3; have s4 := cell_below hSw py4; clear hSw; go_simp; try with_reducible rfl) ?_
      try simp only [Act.put, List.setIfInBounds_toArray, List.set_cons_zero, List.set_cons_succ]
      refine AnyT.take 2 (show _ = some _ from rfl) rfl (by kernel_rfl) (by kernel_rfl) (by kernel_rfl) (fun _ _ _ h => h) cur (by first | kernel_rfl | rfl) (fun w' hSw => by clear hSw; go_simp; try with_reducible rfl) ?_
      try simp only [Act.put, List.setIfInBounds_toArray, List.set_cons_zero, List.set_cons_succ]
      refine AnyT.take 3 (show _ = some _ from rfl) rfl (by kernel_rfl) (by kernel_rfl) (by kernel_rfl) (fun _ _ _ h => h) cur (by first | kernel_rfl | rfl) (fun w' hSw => by have s0 := cell_below hSw pp1; clear hSw; go_simp; try with_reducible rfl) ?_
      try simp only [Act.put, List.setIfInBounds_toArray, List.set_cons_zero, List.set_cons_succ]
      refine AnyT.one 1 (by kernel_rfl) (show _ = some _ from rfl) (fun K' hK' => ?_)
      go_simp
      go_at_call 7
      refine (HC1.out _ _ (VY.out.below cur)).mono ?_
      rintro e w211 ⟨_, rfl, o7, hB7⟩
      have V7 := Lib.hid o7.reads
      have hx7 := o7.reads
      obtain ⟨_, _, _, _, rfl, ⟨i1, j1, rfl, _⟩, ⟨i2, j2, rfl, _⟩, ⟨i3, j3, rfl, _⟩, ⟨i4, j4, rfl, _⟩⟩ := hx7
      clear o7
      have cur := below_trans cur hB7 cur.size
      clear hB7
      go_simp
      refine hK' _ _ ⟨?_, cur⟩
      clear hK' K'
      try simp only [Act.put, List.setIfInBounds_toArray, List.set_cons_zero, List.set_cons_succ]
      refine AnyT.one 4 (by kernel_rfl) (show _ = some _ from rfl) (fun K' hK' => ?_)
      go_simp
      go_at_call 20
      refine (HRc.out _ _ V7.out).mono ?_
      rintro e w311 ⟨rfl, hB8⟩
      have cur := below_trans cur hB8 cur.size
      clear hB8
      go_simp
      refine hK' _ _ ⟨?_, cur⟩
      clear hK' K'
      try simp only [Act.put, List.setIfInBounds_toArray, List.set_cons_zero, List.set_cons_succ]
      refine AnyT.take 5 (show _ = some _ from rfl) rfl (by kernel_rfl) (by kernel_rfl) (by kernel_rfl) (fun _ _ _ h => h) cur (by first | kernel_rfl | rfl) (fun w' hSw => by clear hSw; go_simp; try with_reducible rfl) ?_
      try simp only [Act.put, List.setIfInBounds_toArray, List.set_cons_zero, List.set_cons_succ]
      refine AnyT.take 6 (show _ = some _ from rfl) rfl (by kernel_rfl) (by kernel_rfl) (by kernel_rfl) (fun _ _ _ h => h) cur (by first | kernel_rfl | rfl) (fun w' hSw => by clear hSw; go_simp; try with_reducible rfl) ?_
      try simp only [Act.put, List.setIfInBounds_toArray, List.set_cons_zero, List.set_cons_succ]
      refine AnyT.take 7 (show _ = some _ from rfl) rfl (by kernel_rfl) (by kernel_rfl) (by kernel_rfl) (fun _ _ _ h => h) cur (by first | kernel_rfl | rfl) (fun w' hSw => by clear hSw; go_simp; try with_reducible rfl) ?_
      try simp only [Act.put, List.setIfInBounds_toArray, List.set_cons_zero, List.set_cons_succ]
      refine AnyT.take 8 (show _ = some _ from rfl) rfl (by kernel_rfl) (by kernel_rfl) (by kernel_rfl) (fun _ _ _ h => h) cur (by first | kernel_rfl | rfl) (fun w' hSw => by clear hSw; go_simp; try with_reducible rfl) ?_
      try simp only [Act.put, List.setIfInBounds_toArray, List.set_cons_zero, List.set_cons_succ]
      refine AnyT.one 9 (by kernel_rfl) (show _ = some _ from rfl) (fun K' hK' => ?_)
      go_simp
      refine hK' _ _ ⟨AnyT.done (by kernel_rfl) ?_, cur⟩
      clear hK' K'
      try simp only [Act.put, List.setIfInBounds_toArray, List.set_cons_zero, List.set_cons_succ]
      clear pp0 pp1 pp2
      clear py0 py1 py2 py3 py4
      clear V7
      replace Kp := Lib.hid (Kp.out.below cur Kp.out.lt)
      replace Ky := Lib.hid (Ky.out.below cur Ky.out.lt)
      replace VY := Lib.hid (VY.out.below cur)
      replace HB := Lib.hid (below_trans HB.out cur HB.out.size)
      clear cur
      have h4 : len1 % 4 = 0 ∨ len1 % 4 = 1 ∨ len1 % 4 = 2 ∨ len1 % 4 = 3 := by omega
      rcases h4 with h4 | h4 | h4 | h4
      · have m1 : (len1 : Int).tmod 4 = 0 := by rw [Int.tmod_eq_emod_of_nonneg (by omega)]; omega
        have m2 : (len1 : Int) % 4 = 0 := by omega
        clear h4
        obtain ⟨yd, t, ht, HD1, HD2⟩ := HRd.out 0 (.inl rfl)
        have HD1 := Lib.hid HD1
        have HD2 := Lib.hid HD2
        clear HRd
        have pp0 : w311.cell? ⟨mp, 0, none⟩ = some (.bool false) := Kp.out.cell 0
        have pp1 : w311.cell? ⟨mp, 1, none⟩ = some (.int .i64 xz) := Kp.out.cell 1
        have pp2 : w311.cell? ⟨mp, 2, none⟩ = some (.string xt) := Kp.out.cell 2
        have py0 : w311.cell? ⟨my, 0, none⟩ = some (.int .i64 y.state) := Ky.out.cell 0
        have py1 : w311.cell? ⟨my, 1, none⟩ = some (.slice t1 y.slots.length u1) := Ky.out.cell 1
        have py2 : w311.cell? ⟨my, 2, none⟩ = some (.slice t2 y.rings.length u2) := Ky.out.cell 2
        have py3 : w311.cell? ⟨my, 3, none⟩ = some (.slice t3 y.spoilt.length u3) := Ky.out.cell 3
        have py4 : w311.cell? ⟨my, 4, none⟩ = some (.slice t4 y.wait.length u4) := Ky.out.cell 4
        go_upto_region 12 with (fail)
        have cur : Below w311.heap.size w311 w311.drew := (Below.refl _ _).drew
        refine AnyT.start (S := (fun w' : World => Below w311.heap.size w311 w')) (by kernel_rfl) ?_
        refine AnyT.take 0 (show _ = some _ from rfl) rfl (by kernel_rfl) (by kernel_rfl) (by kernel_rfl) (fun _ _ _ h => h) cur (by first | kernel_rfl | rfl) (fun w' hSw => by have s0 := cell_below hSw py0; have s1 := cell_below hSw py1; have s2 := cell_below hSw py2; have s3 := cell_below hSw py3; have s4 := cell_below hSw py4; clear hSw; go_simp; try with_reducible rfl) ?_
        try simp only [Act.put, List.setIfInBounds_toArray, List.set_cons_zero, List.set_cons_succ]
        refine AnyT.take 1 (show _ = some _ from rfl) rfl (by kernel_rfl) (by kernel_rfl) (by kernel_rfl) (fun _ _ _ h => h) cur (by first | kernel_rfl | rfl) (fun w' hSw => by clear hSw; go_simp; try with_reducible rfl) ?_
        try simp only [Act.put, List.setIfInBounds_toArray, List.set_cons_zero, List.set_cons_succ]
        refine AnyT.take 2 (show _ = some _ from rfl) rfl (by kernel_rfl) (by kernel_rfl) (by kernel_rfl) (fun _ _ _ h => h) cur (by first | kernel_rfl | rfl) (fun w' hSw => by clear hSw; go_simp; try with_reducible rfl) ?_
        try simp only [Act.put, List.setIfInBounds_toArray, List.set_cons_zero, List.set_cons_succ]
        refine AnyT.take 3 (show _ = some _ from rfl) rfl (by kernel_rfl) (by kernel_rfl) (by kernel_rfl) (fun _ _ _ h => h) cur (by first | kernel_rfl | rfl) (fun w' hSw => by clear hSw; go_simp; try with_reducible rfl) ?_
        try simp only [Act.put, List.setIfInBounds_toArray, List.set_cons_zero, List.set_cons_succ]
        refine AnyT.take 4 (show _ = some _ from rfl) rfl (by kernel_rfl) (by kernel_rfl) (by kernel_rfl) (fun _ _ _ h => h) cur (by first | kernel_rfl | rfl) (fun w' hSw => by clear hSw; go_simp; try with_reducible rfl) ?_
        try simp only [Act.put, List.setIfInBounds_toArray, List.set_cons_zero, List.set_cons_succ]
        refine AnyT.take 5 (show _ = some _ from rfl) rfl (by kernel_rfl) (by kernel_rfl) (by kernel_rfl) (fun _ _ _ h => h) cur (by first | kernel_rfl | rfl) (fun w' hSw => by clear hSw; go_simp; try with_reducible rfl) ?_
        try simp only [Act.put, List.setIfInBounds_toArray, List.set_cons_zero, List.set_cons_succ]
        refine AnyT.take 7 (show _ = some _ from rfl) rfl (by kernel_rfl) (by kernel_rfl) (by kernel_rfl) (fun _ _ _ h => h) cur (by first | kernel_rfl | rfl) (fun w' hSw => by clear hSw; go_simp; try with_reducible rfl) ?_
        try simp only [Act.put, List.setIfInBounds_toArray, List.set_cons_zero, List.set_cons_succ]
        refine AnyT.take 8 (show _ = some _ from rfl) rfl (by kernel_rfl) (by kernel_rfl) (by kernel_rfl) (fun _ _ _ h => h) cur (by first | kernel_rfl | rfl) (fun w' hSw => by have s0 := cell_below hSw pp1; clear hSw; go_simp; try with_reducible rfl) ?_
        try simp only [Act.put, List.setIfInBounds_toArray, List.set_cons_zero, List.set_cons_succ]
        refine AnyT.one 6 (by kernel_rfl) (show _ = some _ from rfl) (fun K' hK' => ?_)
        go_simp
        go_at_call 7
        refine (HD1.out _ _ (VY.out.below cur)).mono ?_
        rintro e w40 ⟨_, rfl, o7, hB7⟩
        have V7 := Lib.hid o7.reads
        have hx7 := o7.reads
        obtain ⟨_, _, _, _, rfl, ⟨i1, j1, rfl, _⟩, ⟨i2, j2, rfl, _⟩, ⟨i3, j3, rfl, _⟩, ⟨i4, j4, rfl, _⟩⟩ := hx7
        clear o7
        have cur := below_trans cur hB7 cur.size
        clear hB7
        go_simp
        refine hK' _ _ ⟨?_, cur⟩
        clear hK' K'
        try simp only [Act.put, List.setIfInBounds_toArray, List.set_cons_zero, List.set_cons_succ]
        refine AnyT.one 9 (by kernel_rfl) (show _ = some _ from rfl) (fun K' hK' => ?_)
        go_simp
        go_at_call 20
        refine (HD2.out _ _ V7.out).mono ?_
        rintro e w41 ⟨rfl, hB8⟩
        have cur := below_trans cur hB8 cur.size
        clear hB8
        go_simp
        refine hK' _ _ ⟨?_, cur⟩
        clear hK' K'
        try simp only [Act.put, List.setIfInBounds_toArray, List.set_cons_zero, List.set_cons_succ]
        refine AnyT.take 10 (show _ = some _ from rfl) rfl (by kernel_rfl) (by kernel_rfl) (by kernel_rfl) (fun _ _ _ h => h) cur (by first | kernel_rfl | rfl) (fun w' hSw => by clear hSw; go_simp; try with_reducible rfl) ?_
        try simp only [Act.put, List.setIfInBounds_toArray, List.set_cons_zero, List.set_cons_succ]
        refine AnyT.take 11 (show _ = some _ from rfl) rfl (by kernel_rfl) (by kernel_rfl) (by kernel_rfl) (fun _ _ _ h => h) cur (by first | kernel_rfl | rfl) (fun w' hSw => by clear hSw; go_simp; try with_reducible rfl) ?_
        try simp only [Act.put, List.setIfInBounds_toArray, List.set_cons_zero, List.set_cons_succ]
        refine AnyT.take 12 (show _ = some _ from rfl) rfl (by kernel_rfl) (by kernel_rfl) (by kernel_rfl) (fun _ _ _ h => h) cur (by first | kernel_rfl | rfl) (fun w' hSw => by clear hSw; go_simp; try with_reducible rfl) ?_
        try simp only [Act.put, List.setIfInBounds_toArray, List.set_cons_zero, List.set_cons_succ]
        refine AnyT.take 13 (show _ = some _ from rfl) rfl (by kernel_rfl) (by kernel_rfl) (by kernel_rfl) (fun _ _ _ h => h) cur (by first | kernel_rfl | rfl) (fun w' hSw => by clear hSw; go_simp; try with_reducible rfl) ?_
        try simp only [Act.put, List.setIfInBounds_toArray, List.set_cons_zero, List.set_cons_succ]
        refine AnyT.one 14 (by kernel_rfl) (show _ = some _ from rfl) (fun K' hK' => ?_)
        go_simp
        refine hK' _ _ ⟨AnyT.done (by kernel_rfl) ?_, cur⟩
        clear hK' K'
        try simp only [Act.put, List.setIfInBounds_toArray, List.set_cons_zero, List.set_cons_succ]
        clear pp0 pp1 pp2
        clear py0 py1 py2 py3 py4
        clear V7
        replace Kp := Lib.hid (Kp.out.below cur Kp.out.lt)
        replace Ky := Lib.hid (Ky.out.below cur Ky.out.lt)
        replace VY := Lib.hid (VY.out.below cur)
        replace HB := Lib.hid (below_trans HB.out cur HB.out.size)
        clear cur
        have pp0 : w41.cell? ⟨mp, 0, none⟩ = some (.bool false) := Kp.out.cell 0
        have pp1 : w41.cell? ⟨mp, 1, none⟩ = some (.int .i64 xz) := Kp.out.cell 1
        have pp2 : w41.cell? ⟨mp, 2, none⟩ = some (.string xt) := Kp.out.cell 2
        have py0 : w41.cell? ⟨my, 0, none⟩ = some (.int .i64 y.state) := Ky.out.cell 0
        have py1 : w41.cell? ⟨my, 1, none⟩ = some (.slice t1 y.slots.length u1) := Ky.out.cell 1
        have py2 : w41.cell? ⟨my, 2, none⟩ = some (.slice t2 y.rings.length u2) := Ky.out.cell 2
        have py3 : w41.cell? ⟨my, 3, none⟩ = some (.slice t3 y.spoilt.length u3) := Ky.out.cell 3
        have py4 : w41.cell? ⟨my, 4, none⟩ = some (.slice t4 y.wait.length u4) := Ky.out.cell 4
        obtain rfl := HXE.out
        obtain rfl := HAE.out
        rcases ht with rfl | rfl
        · by_cases hq : t = ⟨#[120, 121, 122]⟩
          · subst hq
            go_wp2
            go_ret
            exact ⟨rfl, HB.out⟩
          · have hq2 : (t.toList == [120, 121, 122]) = false := by
              rw [beq_eq_false_iff_ne]
              intro h
              apply hq
              rw [ByteArray.toList_eq] at h
              exact ByteArray.ext (Array.toList_inj.1 h)
            clear hq
            go_wp2
            go_ret
            exact ⟨rfl, HB.out⟩
        · go_wp2
          go_ret
          exact ⟨rfl, HB.out⟩
      · have m1 : (len1 : Int).tmod 4 = 1 := by rw [Int.tmod_eq_emod_of_nonneg (by omega)]; omega
        have m2 : (len1 : Int) % 4 = 1 := by omega
        clear h4
        obtain ⟨yd, t, ht, HD1, HD2⟩ := HRd.out 0 (.inl rfl)
        have HD1 := Lib.hid HD1
        have HD2 := Lib.hid HD2
        clear HRd
        have pp0 : w311.cell? ⟨mp, 0, none⟩ = some (.bool false) := Kp.out.cell 0
        have pp1 : w311.cell? ⟨mp, 1, none⟩ = some (.int .i64 xz) := Kp.out.cell 1
        have pp2 : w311.cell? ⟨mp, 2, none⟩ = some (.string xt) := Kp.out.cell 2
        have py0 : w311.cell? ⟨my, 0, none⟩ = some (.int .i64 y.state) := Ky.out.cell 0
        have py1 : w311.cell? ⟨my, 1, none⟩ = some (.slice t1 y.slots.length u1) := Ky.out.cell 1
        have py2 : w311.cell? ⟨my, 2, none⟩ = some (.slice t2 y.rings.length u2) := Ky.out.cell 2
        have py3 : w311.cell? ⟨my, 3, none⟩ = some (.slice t3 y.spoilt.length u3) := Ky.out.cell 3
        have py4 : w311.cell? ⟨my, 4, none⟩ = some (.slice t4 y.wait.length u4) := Ky.out.cell 4
        go_upto_region 12 with (fail)
        have cur : Below w311.heap.size w311 w311.drew := (Below.refl _ _).drew
        refine AnyT.start (S := (fun w' : World => Below w311.heap.size w311 w')) (by kernel_rfl) ?_
        refine AnyT.take 0 (show _ = some _ from rfl) rfl (by kernel_rfl) (by kernel_rfl) (by kernel_rfl) (fun _ _ _ h => h) cur (by first | kernel_rfl | rfl) (fun w' hSw => by have s0 := cell_below hSw py0; have s1 := cell_below hSw py1; have s2 := cell_below hSw py2; have s3 := cell_below hSw py3; have s4 := cell_below hSw py4; clear hSw; go_simp; try with_reducible rfl) ?_
        try simp only [Act.put, List.setIfInBounds_toArray, List.set_cons_zero, List.set_cons_succ]
        refine AnyT.take 1 (show _ = some _ from rfl) rfl (by kernel_rfl) (by kernel_rfl) (by kernel_rfl) (fun _ _ _ h => h) cur (by first | kernel_rfl | rfl) (fun w' hSw => by clear hSw; go_simp; try with_reducible rfl) ?_
        try simp only [Act.put, List.setIfInBounds_toArray, List.set_cons_zero, List.set_cons_succ]
        refine AnyT.take 2 (show _ = some _ from rfl) rfl (by kernel_rfl) (by kernel_rfl) (by kernel_rfl) (fun _ _ _ h => h) cur (by first | kernel_rfl | rfl) (fun w' hSw => by clear hSw; go_simp; try with_reducible rfl) ?_
        try simp only [Act.put, List.setIfInBounds_toArray, List.set_cons_zero, List.set_cons_succ]
        refine AnyT.take 3 (show _ = some _ from rfl) rfl (by kernel_rfl) (by kernel_rfl) (by kernel_rfl) (fun _ _ _ h => h) cur (by first | kernel_rfl | rfl) (fun w' hSw => by clear hSw; go_simp; try with_reducible rfl) ?_
        try simp only [Act.put, List.setIfInBounds_toArray, List.set_cons_zero, List.set_cons_succ]
        refine AnyT.take 4 (show _ = some _ from rfl) rfl (by kernel_rfl) (by kernel_rfl) (by kernel_rfl) (fun _ _ _ h => h) cur (by first | kernel_rfl | rfl) (fun w' hSw => by clear hSw; go_simp; try with_reducible rfl) ?_
        try simp only [Act.put, List.setIfInBounds_toArray, List.set_cons_zero, List.set_cons_succ]
        refine AnyT.take 5 (show _ = some _ from rfl) rfl (by kernel_rfl) (by kernel_rfl) (by kernel_rfl) (fun _ _ _ h => h) cur (by first | kernel_rfl | rfl) (fun w' hSw => by clear hSw; go_simp; try with_reducible rfl) ?_
        try simp only [Act.put, List.setIfInBounds_toArray, List.set_cons_zero, List.set_cons_succ]
        refine AnyT.take 7 (show _ = some _ from rfl) rfl (by kernel_rfl) (by kernel_rfl) (by kernel_rfl) (fun _ _ _ h => h) cur (by first | kernel_rfl | rfl) (fun w' hSw => by clear hSw; go_simp; try with_reducible rfl) ?_
        try simp only [Act.put, List.setIfInBounds_toArray, List.set_cons_zero, List.set_cons_succ]
        refine AnyT.take 8 (show _ = some _ from rfl) rfl (by kernel_rfl) (by kernel_rfl) (by kernel_rfl) (fun _ _ _ h => h) cur (by first | kernel_rfl | rfl) (fun w' hSw => by have s0 := cell_below hSw pp1; clear hSw; go_simp; try with_reducible rfl) ?_
        try simp only [Act.put, List.setIfInBounds_toArray, List.set_cons_zero, List.set_cons_succ]
        refine AnyT.one 6 (by kernel_rfl) (show _ = some _ from rfl) (fun K' hK' => ?_)
        go_simp
        go_at_call 7
        refine (HD1.out _ _ (VY.out.below cur)).mono ?_
        rintro e w40 ⟨_, rfl, o7, hB7⟩
        have V7 := Lib.hid o7.reads
        have hx7 := o7.reads
        obtain ⟨_, _, _, _, rfl, ⟨i1, j1, rfl, _⟩, ⟨i2, j2, rfl, _⟩, ⟨i3, j3, rfl, _⟩, ⟨i4, j4, rfl, _⟩⟩ := hx7
        clear o7
        have cur := below_trans cur hB7 cur.size
        clear hB7
        go_simp
        refine hK' _ _ ⟨?_, cur⟩
        clear hK' K'
        try simp only [Act.put, List.setIfInBounds_toArray, List.set_cons_zero, List.set_cons_succ]
        refine AnyT.one 9 (by kernel_rfl) (show _ = some _ from rfl) (fun K' hK' => ?_)
        go_simp
        go_at_call 20
        refine (HD2.out _ _ V7.out).mono ?_
        rintro e w41 ⟨rfl, hB8⟩
        have cur := below_trans cur hB8 cur.size
        clear hB8
        go_simp
        refine hK' _ _ ⟨?_, cur⟩
        clear hK' K'
        try simp only [Act.put, List.setIfInBounds_toArray, List.set_cons_zero, List.set_cons_succ]
        refine AnyT.take 10 (show _ = some _ from rfl) rfl (by kernel_rfl) (by kernel_rfl) (by kernel_rfl) (fun _ _ _ h => h) cur (by first | kernel_rfl | rfl) (fun w' hSw => by clear hSw; go_simp; try with_reducible rfl) ?_
        try simp only [Act.put, List.setIfInBounds_toArray, List.set_cons_zero, List.set_cons_succ]
        refine AnyT.take 11 (show _ = some _ from rfl) rfl (by kernel_rfl) (by kernel_rfl) (by kernel_rfl) (fun _ _ _ h => h) cur (by first | kernel_rfl | rfl) (fun w' hSw => by clear hSw; go_simp; try with_reducible rfl) ?_
        try simp only [Act.put, List.setIfInBounds_toArray, List.set_cons_zero, List.set_cons_succ]
        refine AnyT.take 12 (show _ = some _ from rfl) rfl (by kernel_rfl) (by kernel_rfl) (by kernel_rfl) (fun _ _ _ h => h) cur (by first | kernel_rfl | rfl) (fun w' hSw => by clear hSw; go_simp; try with_reducible rfl) ?_
        try simp only [Act.put, List.setIfInBounds_toArray, List.set_cons_zero, List.set_cons_succ]
        refine AnyT.take 13 (show _ = some _ from rfl) rfl (by kernel_rfl) (by kernel_rfl) (by kernel_rfl) (fun _ _ _ h => h) cur (by first | kernel_rfl | rfl) (fun w' hSw => by clear hSw; go_simp; try with_reducible rfl) ?_
        try simp only [Act.put, List.setIfInBounds_toArray, List.set_cons_zero, List.set_cons_succ]
        refine AnyT.one 14 (by kernel_rfl) (show _ = some _ from rfl) (fun K' hK' => ?_)
        go_simp
        refine hK' _ _ ⟨AnyT.done (by kernel_rfl) ?_, cur⟩
        clear hK' K'
        try simp only [Act.put, List.setIfInBounds_toArray, List.set_cons_zero, List.set_cons_succ]
        clear pp0 pp1 pp2
        clear py0 py1 py2 py3 py4
        clear V7
        replace Kp := Lib.hid (Kp.out.below cur Kp.out.lt)
        replace Ky := Lib.hid (Ky.out.below cur Ky.out.lt)
        replace VY := Lib.hid (VY.out.below cur)
        replace HB := Lib.hid (below_trans HB.out cur HB.out.size)
        clear cur
        have pp0 : w41.cell? ⟨mp, 0, none⟩ = some (.bool false) := Kp.out.cell 0
        have pp1 : w41.cell? ⟨mp, 1, none⟩ = some (.int .i64 xz) := Kp.out.cell 1
        have pp2 : w41.cell? ⟨mp, 2, none⟩ = some (.string xt) := Kp.out.cell 2
        have py0 : w41.cell? ⟨my, 0, none⟩ = some (.int .i64 y.state) := Ky.out.cell 0
        have py1 : w41.cell? ⟨my, 1, none⟩ = some (.slice t1 y.slots.length u1) := Ky.out.cell 1
        have py2 : w41.cell? ⟨my, 2, none⟩ = some (.slice t2 y.rings.length u2) := Ky.out.cell 2
        have py3 : w41.cell? ⟨my, 3, none⟩ = some (.slice t3 y.spoilt.length u3) := Ky.out.cell 3
        have py4 : w41.cell? ⟨my, 4, none⟩ = some (.slice t4 y.wait.length u4) := Ky.out.cell 4
        obtain rfl := HXE.out
        obtain rfl := HAE.out
        rcases ht with rfl | rfl
        · by_cases hq : t = ⟨#[120, 121, 122]⟩
          · subst hq
            go_wp2
            go_ret
            exact ⟨rfl, HB.out⟩
          · have hq2 : (t.toList == [120, 121, 122]) = false := by
              rw [beq_eq_false_iff_ne]
              intro h
              apply hq
              rw [ByteArray.toList_eq] at h
              exact ByteArray.ext (Array.toList_inj.1 h)
            clear hq
            go_wp2
            go_ret
            exact ⟨rfl, HB.out⟩
        · go_wp2
          go_ret
          exact ⟨rfl, HB.out⟩
      · have m1 : (len1 : Int).tmod 4 = 2 := by rw [Int.tmod_eq_emod_of_nonneg (by omega)]; omega
        have m2 : (len1 : Int) % 4 = 2 := by omega
        clear h4
        obtain ⟨yd, t, ht, HD1, HD2⟩ := HRd.out 2 (.inr rfl)
        have HD1 := Lib.hid HD1
        have HD2 := Lib.hid HD2
        clear HRd
        have pp0 : w311.cell? ⟨mp, 0, none⟩ = some (.bool false) := Kp.out.cell 0
        have pp1 : w311.cell? ⟨mp, 1, none⟩ = some (.int .i64 xz) := Kp.out.cell 1
        have pp2 : w311.cell? ⟨mp, 2, none⟩ = some (.string xt) := Kp.out.cell 2
        have py0 : w311.cell? ⟨my, 0, none⟩ = some (.int .i64 y.state) := Ky.out.cell 0
        have py1 : w311.cell? ⟨my, 1, none⟩ = some (.slice t1 y.slots.length u1) := Ky.out.cell 1
        have py2 : w311.cell? ⟨my, 2, none⟩ = some (.slice t2 y.rings.length u2) := Ky.out.cell 2
        have py3 : w311.cell? ⟨my, 3, none⟩ = some (.slice t3 y.spoilt.length u3) := Ky.out.cell 3
        have py4 : w311.cell? ⟨my, 4, none⟩ = some (.slice t4 y.wait.length u4) := Ky.out.cell 4
        go_upto_region 12 with (fail)
        have cur : Below w311.heap.size w311 w311.drew := (Below.refl _ _).drew
        refine AnyT.start (S := (fun w' : World => Below w311.heap.size w311 w')) (by kernel_rfl) ?_
        refine AnyT.take 0 (show _ = some _ from rfl) rfl (by kernel_rfl) (by kernel_rfl) (by kernel_rfl) (fun _ _ _ h => h) cur (by first | kernel_rfl | rfl) (fun w' hSw => by have s0 := cell_below hSw py0; have s1 := cell_below hSw py1; have s2 := cell_below hSw py2; have s3 := cell_below hSw py3; have s4 := cell_below hSw py4; clear hSw; go_simp; try with_reducible rfl) ?_
        try simp only [Act.put, List.setIfInBounds_toArray, List.set_cons_zero, List.set_cons_succ]
        refine AnyT.take 1 (show _ = some _ from rfl) rfl (by kernel_rfl) (by kernel_rfl) (by kernel_rfl) (fun _ _ _ h => h) cur (by first | kernel_rfl | rfl) (fun w' hSw => by clear hSw; go_simp; try with_reducible rfl) ?_
        try simp only [Act.put, List.setIfInBounds_toArray, List.set_cons_zero, List.set_cons_succ]
        refine AnyT.take 2 (show _ = some _ from rfl) rfl (by kernel_rfl) (by kernel_rfl) (by kernel_rfl) (fun _ _ _ h => h) cur (by first | kernel_rfl | rfl) (fun w' hSw => by clear hSw; go_simp; try with_reducible rfl) ?_
        try simp only [Act.put, List.setIfInBounds_toArray, List.set_cons_zero, List.set_cons_succ]
        refine AnyT.take 3 (show _ = some _ from rfl) rfl (by kernel_rfl) (by kernel_rfl) (by kernel_rfl) (fun _ _ _ h => h) cur (by first | kernel_rfl | rfl) (fun w' hSw => by clear hSw; go_simp; try with_reducible rfl) ?_
        try simp only [Act.put, List.setIfInBounds_toArray, List.set_cons_zero, List.set_cons_succ]
        refine AnyT.take 4 (show _ = some _ from rfl) rfl (by kernel_rfl) (by kernel_rfl) (by kernel_rfl) (fun _ _ _ h => h) cur (by first | kernel_rfl | rfl) (fun w' hSw => by clear hSw; go_simp; try with_reducible rfl) ?_
        try simp only [Act.put, List.setIfInBounds_toArray, List.set_cons_zero, List.set_cons_succ]
        refine AnyT.take 5 (show _ = some _ from rfl) rfl (by kernel_rfl) (by kernel_rfl) (by kernel_rfl) (fun _ _ _ h => h) cur (by first | kernel_rfl | rfl) (fun w' hSw => by clear hSw; go_simp; try with_reducible rfl) ?_
        try simp only [Act.put, List.setIfInBounds_toArray, List.set_cons_zero, List.set_cons_succ]
        refine AnyT.take 7 (show _ = some _ from rfl) rfl (by kernel_rfl) (by kernel_rfl) (by kernel_rfl) (fun _ _ _ h => h) cur (by first | kernel_rfl | rfl) (fun w' hSw => by clear hSw; go_simp; try with_reducible rfl) ?_
        try simp only [Act.put, List.setIfInBounds_toArray, List.set_cons_zero, List.set_cons_succ]
        refine AnyT.take 8 (show _ = some _ from rfl) rfl (by kernel_rfl) (by kernel_rfl) (by kernel_rfl) (fun _ _ _ h => h) cur (by first | kernel_rfl | rfl) (fun w' hSw => by have s0 := cell_below hSw pp1; clear hSw; go_simp; try with_reducible rfl) ?_
        try simp only [Act.put, List.setIfInBounds_toArray, List.set_cons_zero, List.set_cons_succ]
        refine AnyT.one 6 (by kernel_rfl) (show _ = some _ from rfl) (fun K' hK' => ?_)
        go_simp
        go_at_call 7
        refine (HD1.out _ _ (VY.out.below cur)).mono ?_
        rintro e w40 ⟨_, rfl, o7, hB7⟩
        have V7 := Lib.hid o7.reads
        have hx7 := o7.reads
        obtain ⟨_, _, _, _, rfl, ⟨i1, j1, rfl, _⟩, ⟨i2, j2, rfl, _⟩, ⟨i3, j3, rfl, _⟩, ⟨i4, j4, rfl, _⟩⟩ := hx7
        clear o7
        have cur := below_trans cur hB7 cur.size
        clear hB7
        go_simp
        refine hK' _ _ ⟨?_, cur⟩
        clear hK' K'
        try simp only [Act.put, List.setIfInBounds_toArray, List.set_cons_zero, List.set_cons_succ]
        refine AnyT.one 9 (by kernel_rfl) (show _ = some _ from rfl) (fun K' hK' => ?_)
        go_simp
        go_at_call 20
        refine (HD2.out _ _ V7.out).mono ?_
        rintro e w41 ⟨rfl, hB8⟩
        have cur := below_trans cur hB8 cur.size
        clear hB8
        go_simp
        refine hK' _ _ ⟨?_, cur⟩
        clear hK' K'
        try simp only [Act.put, List.setIfInBounds_toArray, List.set_cons_zero, List.set_cons_succ]
        refine AnyT.take 10 (show _ = some _ from rfl) rfl (by kernel_rfl) (by kernel_rfl) (by kernel_rfl) (fun _ _ _ h => h) cur (by first | kernel_rfl | rfl) (fun w' hSw => by clear hSw; go_simp; try with_reducible rfl) ?_
        try simp only [Act.put, List.setIfInBounds_toArray, List.set_cons_zero, List.set_cons_succ]
        refine AnyT.take 11 (show _ = some _ from rfl) rfl (by kernel_rfl) (by kernel_rfl) (by kernel_rfl) (fun _ _ _ h => h) cur (by first | kernel_rfl | rfl) (fun w' hSw => by clear hSw; go_simp; try with_reducible rfl) ?_
        try simp only [Act.put, List.setIfInBounds_toArray, List.set_cons_zero, List.set_cons_succ]
        refine AnyT.take 12 (show _ = some _ from rfl) rfl (by kernel_rfl) (by kernel_rfl) (by kernel_rfl) (fun _ _ _ h => h) cur (by first | kernel_rfl | rfl) (fun w' hSw => by clear hSw; go_simp; try with_reducible rfl) ?_
        try simp only [Act.put, List.setIfInBounds_toArray, List.set_cons_zero, List.set_cons_succ]
        refine AnyT.take 13 (show _ = some _ from rfl) rfl (by kernel_rfl) (by kernel_rfl) (by kernel_rfl) (fun _ _ _ h => h) cur (by first | kernel_rfl | rfl) (fun w' hSw => by clear hSw; go_simp; try with_reducible rfl) ?_
        try simp only [Act.put, List.setIfInBounds_toArray, List.set_cons_zero, List.set_cons_succ]
        refine AnyT.one 14 (by kernel_rfl) (show _ = some _ from rfl) (fun K' hK' => ?_)
        go_simp
        refine hK' _ _ ⟨AnyT.done (by kernel_rfl) ?_, cur⟩
        clear hK' K'
        try simp only [Act.put, List.setIfInBounds_toArray, List.set_cons_zero, List.set_cons_succ]
        clear pp0 pp1 pp2
        clear py0 py1 py2 py3 py4
        clear V7
        replace Kp := Lib.hid (Kp.out.below cur Kp.out.lt)
        replace Ky := Lib.hid (Ky.out.below cur Ky.out.lt)
        replace VY := Lib.hid (VY.out.below cur)
        replace HB := Lib.hid (below_trans HB.out cur HB.out.size)
        clear cur
        have pp0 : w41.cell? ⟨mp, 0, none⟩ = some (.bool false) := Kp.out.cell 0
        have pp1 : w41.cell? ⟨mp, 1, none⟩ = some (.int .i64 xz) := Kp.out.cell 1
        have pp2 : w41.cell? ⟨mp, 2, none⟩ = some (.string xt) := Kp.out.cell 2
        have py0 : w41.cell? ⟨my, 0, none⟩ = some (.int .i64 y.state) := Ky.out.cell 0
        have py1 : w41.cell? ⟨my, 1, none⟩ = some (.slice t1 y.slots.length u1) := Ky.out.cell 1
        have py2 : w41.cell? ⟨my, 2, none⟩ = some (.slice t2 y.rings.length u2) := Ky.out.cell 2
        have py3 : w41.cell? ⟨my, 3, none⟩ = some (.slice t3 y.spoilt.length u3) := Ky.out.cell 3
        have py4 : w41.cell? ⟨my, 4, none⟩ = some (.slice t4 y.wait.length u4) := Ky.out.cell 4
        obtain rfl := HXE.out
        obtain rfl := HAE.out
        rcases ht with rfl | rfl
        · by_cases hq : t = ⟨#[120, 121, 122]⟩
          · subst hq
            go_wp2
            go_ret
            exact ⟨rfl, HB.out⟩
          · have hq2 : (t.toList == [120, 121, 122]) = false := by
              rw [beq_eq_false_iff_ne]
              intro h
              apply hq
              rw [ByteArray.toList_eq] at h
              exact ByteArray.ext (Array.toList_inj.1 h)
            clear hq
            go_wp2
            go_ret
            exact ⟨rfl, HB.out⟩
        · go_wp2
          go_ret
          exact ⟨rfl, HB.out⟩
      · have m1 : (len1 : Int).tmod 4 = 3 := by rw [Int.tmod_eq_emod_of_nonneg (by omega)]; omega
        have m2 : (len1 : Int) % 4 = 3 := by omega
        clear h4
        obtain ⟨yd, t, ht, HD1, HD2⟩ := HRd.out 2 (.inr rfl)
        have HD1 := Lib.hid HD1
        have HD2 := Lib.hid HD2
        clear HRd
        have pp0 : w311.cell? ⟨mp, 0, none⟩ = some (.bool false) := Kp.out.cell 0
        have pp1 : w311.cell? ⟨mp, 1, none⟩ = some (.int .i64 xz) := Kp.out.cell 1
        have pp2 : w311.cell? ⟨mp, 2, none⟩ = some (.string xt) := Kp.out.cell 2
        have py0 : w311.cell? ⟨my, 0, none⟩ = some (.int .i64 y.state) := Ky.out.cell 0
        have py1 : w311.cell? ⟨my, 1, none⟩ = some (.slice t1 y.slots.length u1) := Ky.out.cell 1
        have py2 : w311.cell? ⟨my, 2, none⟩ = some (.slice t2 y.rings.length u2) := Ky.out.cell 2
        have py3 : w311.cell? ⟨my, 3, none⟩ = some (.slice t3 y.spoilt.length u3) := Ky.out.cell 3
        have py4 : w311.cell? ⟨my, 4, none⟩ = some (.slice t4 y.wait.length u4) := Ky.out.cell 4
        go_upto_region 12 with (fail)
        have cur : Below w311.heap.size w311 w311.drew := (Below.refl _ _).drew
        refine AnyT.start (S := (fun w' : World => Below w311.heap.size w311 w')) (by kernel_rfl) ?_
        refine AnyT.take 0 (show _ = some _ from rfl) rfl (by kernel_rfl) (by kernel_rfl) (by kernel_rfl) (fun _ _ _ h => h) cur (by first | kernel_rfl | rfl) (fun w' hSw => by have s0 := cell_below hSw py0; have s1 := cell_below hSw py1; have s2 := cell_below hSw py2; have s3 := cell_below hSw py3; have s4 := cell_below hSw py4; clear hSw; go_simp; try with_reducible rfl) ?_
        try simp only [Act.put, List.setIfInBounds_toArray, List.set_cons_zero, List.set_cons_succ]
        refine AnyT.take 1 (show _ = some _ from rfl) rfl (by kernel_rfl) (by kernel_rfl) (by kernel_rfl) (fun _ _ _ h => h) cur (by first | kernel_rfl | rfl) (fun w' hSw => by clear hSw; go_simp; try with_reducible rfl) ?_
        try simp only [Act.put, List.setIfInBounds_toArray, List.set_cons_zero, List.set_cons_succ]
        refine AnyT.take 2 (show _ = some _ from rfl) rfl (by kernel_rfl) (by kernel_rfl) (by kernel_rfl) (fun _ _ _ h => h) cur (by first | kernel_rfl | rfl) (fun w' hSw => by clear hSw; go_simp; try with_reducible rfl) ?_
        try simp only [Act.put, List.setIfInBounds_toArray, List.set_cons_zero, List.set_cons_succ]
        refine AnyT.take 3 (show _ = some _ from rfl) rfl (by kernel_rfl) (by kernel_rfl) (by kernel_rfl) (fun _ _ _ h => h) cur (by first | kernel_rfl | rfl) (fun w' hSw => by clear hSw; go_simp; try with_reducible rfl) ?_
        try simp only [Act.put, List.setIfInBounds_toArray, List.set_cons_zero, List.set_cons_succ]
        refine AnyT.take 4 (show _ = some _ from rfl) rfl (by kernel_rfl) (by kernel_rfl) (by kernel_rfl) (fun _ _ _ h => h) cur (by first | kernel_rfl | rfl) (fun w' hSw => by clear hSw; go_simp; try with_reducible rfl) ?_
        try simp only [Act.put, List.setIfInBounds_toArray, List.set_cons_zero, List.set_cons_succ]
        refine AnyT.take 5 (show _ = some _ from rfl) rfl (by kernel_rfl) (by kernel_rfl) (by kernel_rfl) (fun _ _ _ h => h) cur (by first | kernel_rfl | rfl) (fun w' hSw => by clear hSw; go_simp; try with_reducible rfl) ?_
        try simp only [Act.put, List.setIfInBounds_toArray, List.set_cons_zero, List.set_cons_succ]
        refine AnyT.take 7 (show _ = some _ from rfl) rfl (by kernel_rfl) (by kernel_rfl) (by kernel_rfl) (fun _ _ _ h => h) cur (by first | kernel_rfl | rfl) (fun w' hSw => by clear hSw; go_simp; try with_reducible rfl) ?_
        try simp only [Act.put, List.setIfInBounds_toArray, List.set_cons_zero, List.set_cons_succ]
        refine AnyT.take 8 (show _ = some _ from rfl) rfl (by kernel_rfl) (by kernel_rfl) (by kernel_rfl) (fun _ _ _ h => h) cur (by first | kernel_rfl | rfl) (fun w' hSw => by have s0 := cell_below hSw pp1; clear hSw; go_simp; try with_reducible rfl) ?_
        try simp only [Act.put, List.setIfInBounds_toArray, List.set_cons_zero, List.set_cons_succ]
        refine AnyT.one 6 (by kernel_rfl) (show _ = some _ from rfl) (fun K' hK' => ?_)
        go_simp
        go_at_call 7
        refine (HD1.out _ _ (VY.out.below cur)).mono ?_
        rintro e w40 ⟨_, rfl, o7, hB7⟩
        have V7 := Lib.hid o7.reads
        have hx7 := o7.reads
        obtain ⟨_, _, _, _, rfl, ⟨i1, j1, rfl, _⟩, ⟨i2, j2, rfl, _⟩, ⟨i3, j3, rfl, _⟩, ⟨i4, j4, rfl, _⟩⟩ := hx7
        clear o7
        have cur := below_trans cur hB7 cur.size
        clear hB7
        go_simp
        refine hK' _ _ ⟨?_, cur⟩
        clear hK' K'
        try simp only [Act.put, List.setIfInBounds_toArray, List.set_cons_zero, List.set_cons_succ]
        refine AnyT.one 9 (by kernel_rfl) (show _ = some _ from rfl) (fun K' hK' => ?_)
        go_simp
        go_at_call 20
        refine (HD2.out _ _ V7.out).mono ?_
        rintro e w41 ⟨rfl, hB8⟩
        have cur := below_trans cur hB8 cur.size
        clear hB8
        go_simp
        refine hK' _ _ ⟨?_, cur⟩
        clear hK' K'
        try simp only [Act.put, List.setIfInBounds_toArray, List.set_cons_zero, List.set_cons_succ]
        refine AnyT.take 10 (show _ = some _ from rfl) rfl (by kernel_rfl) (by kernel_rfl) (by kernel_rfl) (fun _ _ _ h => h) cur (by first | kernel_rfl | rfl) (fun w' hSw => by clear hSw; go_simp; try with_reducible rfl) ?_
        try simp only [Act.put, List.setIfInBounds_toArray, List.set_cons_zero, List.set_cons_succ]
        refine AnyT.take 11 (show _ = some _ from rfl) rfl (by kernel_rfl) (by kernel_rfl) (by kernel_rfl) (fun _ _ _ h => h) cur (by first | kernel_rfl | rfl) (fun w' hSw => by clear hSw; go_simp; try with_reducible rfl) ?_
        try simp only [Act.put, List.setIfInBounds_toArray, List.set_cons_zero, List.set_cons_succ]
        refine AnyT.take 12 (show _ = some _ from rfl) rfl (by kernel_rfl) (by kernel_rfl) (by kernel_rfl) (fun _ _ _ h => h) cur (by first | kernel_rfl | rfl) (fun w' hSw => by clear hSw; go_simp; try with_reducible rfl) ?_
        try simp only [Act.put, List.setIfInBounds_toArray, List.set_cons_zero, List.set_cons_succ]
        refine AnyT.take 13 (show _ = some _ from rfl) rfl (by kernel_rfl) (by kernel_rfl) (by kernel_rfl) (fun _ _ _ h => h) cur (by first | kernel_rfl | rfl) (fun w' hSw => by clear hSw; go_simp; try with_reducible rfl) ?_
        try simp only [Act.put, List.setIfInBounds_toArray, List.set_cons_zero, List.set_cons_succ]
        refine AnyT.one 14 (by kernel_rfl) (show _ = some _ from rfl) (fun K' hK' => ?_)
        go_simp
        refine hK' _ _ ⟨AnyT.done (by kernel_rfl) ?_, cur⟩
        clear hK' K'
        try simp only [Act.put, List.setIfInBounds_toArray, List.set_cons_zero, List.set_cons_succ]
        clear pp0 pp1 pp2
        clear py0 py1 py2 py3 py4
        clear V7
        replace Kp := Lib.hid (Kp.out.below cur Kp.out.lt)
        replace Ky := Lib.hid (Ky.out.below cur Ky.out.lt)
        replace VY := Lib.hid (VY.out.below cur)
        replace HB := Lib.hid (below_trans HB.out cur HB.out.size)
        clear cur
        have pp0 : w41.cell? ⟨mp, 0, none⟩ = some (.bool false) := Kp.out.cell 0
        have pp1 : w41.cell? ⟨mp, 1, none⟩ = some (.int .i64 xz) := Kp.out.cell 1
        have pp2 : w41.cell? ⟨mp, 2, none⟩ = some (.string xt) := Kp.out.cell 2
        have py0 : w41.cell? ⟨my, 0, none⟩ = some (.int .i64 y.state) := Ky.out.cell 0
        have py1 : w41.cell? ⟨my, 1, none⟩ = some (.slice t1 y.slots.length u1) := Ky.out.cell 1
        have py2 : w41.cell? ⟨my, 2, none⟩ = some (.slice t2 y.rings.length u2) := Ky.out.cell 2
        have py3 : w41.cell? ⟨my, 3, none⟩ = some (.slice t3 y.spoilt.length u3) := Ky.out.cell 3
        have py4 : w41.cell? ⟨my, 4, none⟩ = some (.slice t4 y.wait.length u4) := Ky.out.cell 4
        obtain rfl := HXE.out
        obtain rfl := HAE.out
        rcases ht with rfl | rfl
        · by_cases hq : t = ⟨#[120, 121, 122]⟩
          · subst hq
            go_wp2
            go_ret
            exact ⟨rfl, HB.out⟩
          · have hq2 : (t.toList == [120, 121, 122]) = false := by
              rw [beq_eq_false_iff_ne]
              intro h
              apply hq
              rw [ByteArray.toList_eq] at h
              exact ByteArray.ext (Array.toList_inj.1 h)
            clear hq
            go_wp2
            go_ret
            exact ⟨rfl, HB.out⟩
        · go_wp2
          go_ret
          exact ⟨rfl, HB.out⟩

set_option maxRecDepth 100000 in
set_option maxHeartbeats 1000000 in
theorem walk (a0 : Option Addr) (len0 cap0 : Nat) (z0 : List Int) (a1 : Option Addr) (len1 cap1 : Nat) (z1 : List Int) (w : World) (w0 : IsBytes w a0 len0 cap0 z0) (w1 : IsBytes w a1 len1 cap1 z1) :
    Calls Try.prog 5 #[.slice a0 len0 cap0, .slice a1 len1 cap1] w fun e w' => e = .returned (.bool true) ∧ Below w.heap.size w w' := by
  by_cases h0 : len0 ≤ 1048576
  · by_cases h1 : len1 ≤ 1048576
    · exact main a0 len0 cap0 z0 a1 len1 cap1 w h0 h1 w0
    · have hm : len0 ≤ maxLen := by have := w0.opened; omega
      have hm1 : len1 ≤ maxLen := by have := w1.opened; omega
      have d0 : decide (1048576 < (len0 : Int)) = false := by simp; omega
      have d1 : decide (1048576 < (len1 : Int)) = true := by simp; omega
      clear w0 w1
      go_enter Try.func5, Try.ntmps5
      go_wp2
      go_ret
      exact ⟨rfl, Below.refl _ _⟩
  · have hm : len0 ≤ maxLen := by have := w0.opened; omega
    have d0 : decide (1048576 < (len0 : Int)) = true := by simp; omega
    clear w0 w1
    go_enter Try.func5, Try.ntmps5
    go_wp2
    go_ret
    exact ⟨rfl, Below.refl _ _⟩

set_option maxRecDepth 100000 in
theorem lifted (os : Os) (started : os.Started) (H : Type) (enc : TypeId × Value → H) :
    ReturnsInHanded {} Try.checked os 5 .any (Rows.fnDiskLastSpec.pre6 enc Try.prog Try.f5 Rows.fnDiskLastRow.domain false) (Rows.fnDiskLastSpec.post enc Try.prog Try.f5 false true false false) := by
  refine returnsInHanded_of_change (C := Try.checked) own started (by kernel_rfl) Try.func5
    (ChangeSpec.witness6 (enc := enc) (C := Try.checked) false ⟨#[], #[.slice none 0 0, .slice none 0 0], []⟩ 8 (by kernel_rfl) (by kernel_rfl) (by kernel_rfl) (by kernel_rfl)) ?_
  intro W base args ds gs before hval0 hW hcnd _
  have hval : ∀ (j : Nat) t v, Try.f5.params[j]? = some t → args[j]? = some v → Value.okWide Try.prog W .any base t v := hval0
  have hW' := hW
  obtain ⟨p, q, hA0, hV, rfl, hfz, hnd⟩ := hW
  have hA : DataW.TrodAll enc Try.prog W 0 (fun _ => true) true Try.f5.params.toList args.toList ds p := hA0
  rw [Try.params5] at hA hval
  obtain ⟨v0, vs0, d0, ds0, p0, q0, hargs, rfl, rfl, h0, r0⟩ := trodAll_cons hA
  obtain ⟨v1, vs1, d1, ds1, p1, q1, rfl, rfl, rfl, h1, r1⟩ := trodAll_cons r0
  obtain ⟨rfl, rfl, rfl⟩ := trodAll_nil r1
  obtain rfl : args = #[v0, v1] := by cases args; simp_all
  obtain ⟨rfl, rfl⟩ := trodVars_none hV
  have k0 := h0
  have lt0 : ∀ x ∈ p0, x.block < W.heap.size := by obtain ⟨m, hm⟩ := k0; exact DataW.trod_lt m _ _ _ hm
  obtain ⟨a0, len0, cap0, rfl⟩ := okWide_slice Try.underlying22 (hval 0 22 v0 rfl rfl)
  obtain ⟨z0, w0⟩ : ∃ zs, IsBytes W a0 len0 cap0 zs := by
    obtain ⟨fuel, hf⟩ := h0
    rcases open_ints Try.underlying22 Try.underlying5 (by kernel_rfl) hf with ⟨hcs, _⟩ | ⟨x, l, c, zs, hcs, _, hl, hm, hz, _, hcell, hwz⟩
    · simp [Value.cells] at hcs
      obtain ⟨rfl, rfl, rfl⟩ := hcs
      exact ⟨[], .inl ⟨rfl, rfl, rfl, rfl⟩⟩
    · simp [Value.cells] at hcs
      obtain ⟨rfl, rfl, rfl⟩ := hcs
      exact ⟨zs, .inr ⟨_, rfl, hl, hm, by simpa using hz, hcell, hwz⟩⟩
  have k1 := h1
  have lt1 : ∀ x ∈ p1, x.block < W.heap.size := by obtain ⟨m, hm⟩ := k1; exact DataW.trod_lt m _ _ _ hm
  obtain ⟨a1, len1, cap1, rfl⟩ := okWide_slice Try.underlying22 (hval 1 22 v1 rfl rfl)
  obtain ⟨z1, w1⟩ : ∃ zs, IsBytes W a1 len1 cap1 zs := by
    obtain ⟨fuel, hf⟩ := h1
    rcases open_ints Try.underlying22 Try.underlying5 (by kernel_rfl) hf with ⟨hcs, _⟩ | ⟨x, l, c, zs, hcs, _, hl, hm, hz, _, hcell, hwz⟩
    · simp [Value.cells] at hcs
      obtain ⟨rfl, rfl, rfl⟩ := hcs
      exact ⟨[], .inl ⟨rfl, rfl, rfl, rfl⟩⟩
    · simp [Value.cells] at hcs
      obtain ⟨rfl, rfl, rfl⟩ := hcs
      exact ⟨zs, .inr ⟨_, rfl, hl, hm, by simpa using hz, hcell, hwz⟩⟩
  clear hA0 hval0
  refine (walk a0 len0 cap0 z0 a1 len1 cap1 z1 W w0 w1).mono fun e W' ⟨he, bel⟩ => ?_
  subst he
  exact ⟨_, rfl, _, _, _, [], _, [], hW', trodAll_mk1 (shut_bool Try.underlying4 _), (trodAll_cons_mk (Below.trod laidOut (by kernel_rfl) (of_decide_eq_true (by kernel_rfl)) k0 bel lt0) (trodAll_cons_mk (Below.trod laidOut (by kernel_rfl) (of_decide_eq_true (by kernel_rfl)) k1 bel lt1) trodAll_mk0)), rfl, bel.frame _, fun h => by cases h⟩

theorem over : Rows.fnDiskLastRow.holds Try.pinned (OpenSpec.ofChange Rows.fnDiskLastSpec) :=
  OpenClaim.holds_of_wide 5 Try.f5 rfl rfl rfl rfl rfl rfl rfl ⟨rfl, rfl, rfl, rfl, rfl⟩ rfl rfl rfl rfl rfl (by kernel_rfl) Try.func5 (by kernel_rfl)
    (of_decide_eq_true (by kernel_rfl)) (by unfold Func.isWrapper; first | (rw [if_pos (by decide +kernel)]; kernel_rfl) | (rw [if_neg (by decide +kernel)]; exact ⟨rfl, rfl⟩))
    (fun os started H enc _ => lifted os started H enc)

end FnDiskLast

theorem FnDiskLast_holds : Rows.FnDiskLastSaid := FnDiskLast.over

end Go.Proofs.Ytifgoanicbaohaa
