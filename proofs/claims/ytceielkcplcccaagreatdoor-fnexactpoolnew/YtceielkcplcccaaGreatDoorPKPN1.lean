/- Pools whose roots have no volumes: the exact laws' own comparison and marks. Conditions: at most a hundred million marks. -/
import Derived.Test.YtceielkcplcccaaGreatDoorPKDS11M
import Derived.Test.YtceielkcplcccaaGreatDoorPKS7
namespace Go.Proofs.YtceielkcplcccaaGreatDoor
open Go.RowKit Go.Sort

set_option maxHeartbeats 1000000 in
theorem markVo_nil (k : Nat) (w : World) :
    Calls Tryz.prog 37 #[.slice none 0 0, .int .i64 (k : Int)] w fun e w' => e = .returned (.int .i64 (k : Int)) ∧ w = w' := by
  go_enter Tryz.func37, Tryz.ntmps37
  go_wp2_with fail
  go_loop [1, 5] (fun kv iv => kv = .int .i64 (k : Int) ∧ iv = .int .i64 0) (fun _ _ => 0)
  case atStart => exact ⟨rfl, rfl⟩
  case round =>
    obtain ⟨rfl, rfl⟩ := hrel
    go_wp2
    go_ret
    exact ⟨rfl, rfl⟩
set_option maxHeartbeats 1000000 in
theorem heldVo_nil (k : Nat) (w : World) :
    Calls Tryz.prog 41 #[.slice none 0 0, .int .i64 (k : Int)] w fun e w' => e = .returned (.int .i64 (k : Int)) ∧ w = w' := by
  go_enter Tryz.func41, Tryz.ntmps41
  go_wp2_with fail
  go_loop [1, 5] (fun kv iv => kv = .int .i64 (k : Int) ∧ iv = .int .i64 0) (fun _ _ => 0)
  case atStart => exact ⟨rfl, rfl⟩
  case round =>
    obtain ⟨rfl, rfl⟩ := hrel
    go_wp2
    go_ret
    exact ⟨rfl, rfl⟩
set_option maxHeartbeats 1000000 in
theorem markRoot_nil (t : Int) (k : Nat) (w : World) :
    Calls Tryz.prog 19 #[.agg #[.int .i64 t, .slice none 0 0], .int .i64 (k : Int)] w fun e w' => e = .returned (.int .i64 (k : Int)) ∧ Below w.heap.size w w' := by
  go_enter Tryz.func19, Tryz.ntmps19
  go_wp2_with fail
  refine (markVo_nil k _).mono ?_
  rintro e w1 ⟨rfl, rfl⟩
  go_wp2
  go_ret
  exact ⟨rfl, (Below.refl _ _).alloc (Nat.le_refl _) _⟩
set_option maxHeartbeats 1000000 in
theorem heldRoot_nil (t : Int) (k : Nat) (w : World) :
    Calls Tryz.prog 21 #[.agg #[.int .i64 t, .slice none 0 0], .int .i64 (k : Int)] w fun e w' => e = .returned (.int .i64 (k : Int)) ∧ Below w.heap.size w w' := by
  have d0 : decide ((k : Int) < 0) = false := decide_eq_false (by omega)
  go_enter Tryz.func21, Tryz.ntmps21
  go_wp2_with fail
  refine (heldVo_nil k _).mono ?_
  rintro e w1 ⟨rfl, rfl⟩
  go_wp2
  go_ret
  exact ⟨rfl, (Below.refl _ _).alloc (Nat.le_refl _) _⟩

/-- THE CELLS of a pool whose roots have no volumes, and its value. -/
def poolC (a : Option Addr) (n c : Nat) (o : Bool) (r1 r2 : Option Addr) : Array Value := #[.slice a n c, .bool o, .int .i64 0, .slice r1 0 0, .int .i64 0, .slice r2 0 0]
def poolV (a : Option Addr) (n c : Nat) (o : Bool) (r1 r2 : Option Addr) : Value := .agg #[.slice a n c, .bool o, .int .i64 0, .slice r1 0 0, .int .i64 0, .slice r2 0 0]

set_option maxRecDepth 100000 in
set_option maxHeartbeats 2000000 in
theorem eqPool_any (a b r1 r2 s1 s2 : Option Addr) (ca cb : Nat) (o : Bool) (R : List DiskD) (w : World) (hl : R.length ≤ maxLen) (ha : Hid (DksAt w a R)) (hb : Hid (DksAt w b R)) :
    Calls Tryz.prog 6 #[.agg #[.slice a R.length ca, .bool o, .int .i64 0, .slice r1 0 0, .int .i64 0, .slice r2 0 0], .agg #[.slice b R.length cb, .bool o, .int .i64 0, .slice s1 0 0, .int .i64 0, .slice s2 0 0]] w fun e w' => e = .returned (.bool true) ∧ Below w.heap.size w w' := by
  have ho : (o != o) = false := by simp
  have HB := Lib.hid (show Below w.heap.size w ((w.alloc (.cells #[.slice a R.length ca, .bool o, .int .i64 0, .slice r1 0 0, .int .i64 0, .slice r2 0 0] 27)).alloc (.cells #[.slice b R.length cb, .bool o, .int .i64 0, .slice s1 0 0, .int .i64 0, .slice s2 0 0] 27)) from ((Below.refl _ _).alloc (Nat.le_refl _) _).alloc (by simp) _)
  have HK1 := Lib.hid (show Blk ((w.alloc (.cells #[.slice a R.length ca, .bool o, .int .i64 0, .slice r1 0 0, .int .i64 0, .slice r2 0 0] 27)).alloc (.cells #[.slice b R.length cb, .bool o, .int .i64 0, .slice s1 0 0, .int .i64 0, .slice s2 0 0] 27)) w.heap.size #[.slice a R.length ca, .bool o, .int .i64 0, .slice r1 0 0, .int .i64 0, .slice r2 0 0] 27 from (Blk.new w _ _).below ((Below.refl _ _).alloc (Nat.le_refl _) _) (by simp))
  have HK2 := Lib.hid (show Blk ((w.alloc (.cells #[.slice a R.length ca, .bool o, .int .i64 0, .slice r1 0 0, .int .i64 0, .slice r2 0 0] 27)).alloc (.cells #[.slice b R.length cb, .bool o, .int .i64 0, .slice s1 0 0, .int .i64 0, .slice s2 0 0] 27)) (w.heap.size + 1) #[.slice b R.length cb, .bool o, .int .i64 0, .slice s1 0 0, .int .i64 0, .slice s2 0 0] 27 from by
    have := Blk.new (w.alloc (.cells #[.slice a R.length ca, .bool o, .int .i64 0, .slice r1 0 0, .int .i64 0, .slice r2 0 0] 27)) #[.slice b R.length cb, .bool o, .int .i64 0, .slice s1 0 0, .int .i64 0, .slice s2 0 0] 27
    simp only [World.size_alloc] at this
    exact this)
  have HE := Lib.hid (eqDiskS_same a b ca cb R _ hl (ha.out.below HB.out) (hb.out.below HB.out))
  have HR1 := Lib.hid (fun W => eqRoot_same 0 r1 s1 0 0 [] W (by simp) (.inl rfl) (.inl rfl))
  have HR2 := Lib.hid (fun W => eqRoot_same 0 r2 s2 0 0 [] W (by simp) (.inl rfl) (.inl rfl))
  simp only [List.length_nil] at HR1 HR2
  go_enter Tryz.func6, Tryz.ntmps6
  go_wp2_with fail
  generalize (w.alloc (.cells #[.slice a R.length ca, .bool o, .int .i64 0, .slice r1 0 0, .int .i64 0, .slice r2 0 0] 27)).alloc (.cells #[.slice b R.length cb, .bool o, .int .i64 0, .slice s1 0 0, .int .i64 0, .slice s2 0 0] 27) = W0 at HB HK1 HK2 HE ⊢
  refine HE.out.mono ?_
  rintro e w1 ⟨rfl, hB1⟩
  have K1 := Lib.hid (HK1.out.below hB1 HK1.out.lt)
  have K2 := Lib.hid (HK2.out.below hB1 HK2.out.lt)
  have HB1 := Lib.hid (HB.out.trans (hB1.mono HB.out.size))
  have x1 : w1.cell? ⟨w.heap.size, 1, none⟩ = some (.bool o) := K1.out.cell 1
  have x2 : w1.cell? ⟨w.heap.size, 2, none⟩ = some (.int .i64 0) := K1.out.cell 2
  have x3 : w1.cell? ⟨w.heap.size, 3, none⟩ = some (.slice r1 0 0) := K1.out.cell 3
  have y1 : w1.cell? ⟨w.heap.size + 1, 1, none⟩ = some (.bool o) := K2.out.cell 1
  have y2 : w1.cell? ⟨w.heap.size + 1, 2, none⟩ = some (.int .i64 0) := K2.out.cell 2
  have y3 : w1.cell? ⟨w.heap.size + 1, 3, none⟩ = some (.slice s1 0 0) := K2.out.cell 3
  clear hB1 HK1 HK2 HB HE
  go_wp2_with fail
  refine (HR1.out _).mono ?_
  rintro e w2 ⟨rfl, hB2⟩
  have K1 := Lib.hid (K1.out.below hB2 K1.out.lt)
  have K2 := Lib.hid (K2.out.below hB2 K2.out.lt)
  have HB2 := Lib.hid (HB1.out.trans (hB2.mono HB1.out.size))
  have x4 : w2.cell? ⟨w.heap.size, 4, none⟩ = some (.int .i64 0) := K1.out.cell 4
  have x5 : w2.cell? ⟨w.heap.size, 5, none⟩ = some (.slice r2 0 0) := K1.out.cell 5
  have y4 : w2.cell? ⟨w.heap.size + 1, 4, none⟩ = some (.int .i64 0) := K2.out.cell 4
  have y5 : w2.cell? ⟨w.heap.size + 1, 5, none⟩ = some (.slice s2 0 0) := K2.out.cell 5
  clear hB2 HB1 x1 x2 x3 y1 y2 y3
  go_wp2_with fail
  refine (HR2.out _).mono ?_
  rintro e w3 ⟨rfl, hB3⟩
  have HB3 := Lib.hid (HB2.out.trans (hB3.mono HB2.out.size))
  clear hB3
  go_wp2
  go_ret
  exact ⟨rfl, HB3.out⟩

set_option maxRecDepth 100000 in
set_option maxHeartbeats 2000000 in
theorem markPool_any (base c k : Nat) (a : Option Addr) (o : Bool) (R : List DiskD) (w : World) (hbs : base ≤ w.heap.size) (hk0 : 0 < k) (hN : Hid (∀ j, j < R.length → mkN (R.getD j disk0) ≤ 1000)) (hk : k + R.length * 1001 ≤ 100000000) (ho : OwnDks w base (.slice a R.length c) R) :
    Calls Tryz.prog 7 #[.agg #[.slice a R.length c, .bool o, .int .i64 0, .slice none 0 0, .int .i64 0, .slice none 0 0], .int .i64 (k : Int)] w fun e w' => e = .returned (.int .i64 ((dkAt k R R.length : Nat) : Int)) ∧ Below base w w' ∧ DksAt w' a (mkDkTo k R R.length) ∧ OthersDk w w' := by
  have hB : Below w.heap.size w (w.alloc (.cells #[.slice a R.length c, .bool o, .int .i64 0, .slice none 0 0, .int .i64 0, .slice none 0 0] 27)) := (Below.refl _ _).alloc (Nat.le_refl _) _
  have HB := Lib.hid hB
  have HK := Lib.hid (Blk.new w #[.slice a R.length c, .bool o, .int .i64 0, .slice none 0 0, .int .i64 0, .slice none 0 0] 27)
  have HM := Lib.hid (markDk_anyK base c k a R _ (by have := HB.out.size; omega) hk0 hN hk (OwnDk.below ho hB))
  have HR := Lib.hid (fun m W => markRoot_nil 0 m W)
  clear hB ho
  go_enter Tryz.func7, Tryz.ntmps7
  go_wp2_with fail
  generalize w.alloc (.cells #[.slice a R.length c, .bool o, .int .i64 0, .slice none 0 0, .int .i64 0, .slice none 0 0] 27) = W0 at HB HK HM ⊢
  refine HM.out.mono ?_
  rintro e w1 ⟨rfl, hB1, hd1, hot1⟩
  have K1 := Lib.hid (hot1 _ _ _ (by decide) (by decide) (by decide) (by decide) HK.out)
  have HB1 := Lib.hid ((HB.out.mono hbs).trans hB1)
  have HD1 := Lib.hid hd1
  have HO1 := Lib.hid (show OthersDk w w1 from fun D cs t n1 n2 n3 n4 hb => hot1 D cs t n1 n2 n3 n4 (hb.below HB.out hb.lt))
  have x2 : w1.cell? ⟨w.heap.size, 2, none⟩ = some (.int .i64 0) := K1.out.cell 2
  have x3 : w1.cell? ⟨w.heap.size, 3, none⟩ = some (.slice none 0 0) := K1.out.cell 3
  generalize hm : dkAt k R R.length = m
  clear hB1 hd1 hot1 HM HK HB
  go_wp2_with fail
  refine (HR.out m _).mono ?_
  rintro e w2 ⟨rfl, hB2⟩
  have K2 := Lib.hid (K1.out.below hB2 K1.out.lt)
  have HD2 := Lib.hid (HD1.out.below hB2)
  have HO2 := Lib.hid (show OthersDk w w2 from fun D cs t n1 n2 n3 n4 hb => (HO1.out D cs t n1 n2 n3 n4 hb).below hB2 (HO1.out D cs t n1 n2 n3 n4 hb).lt)
  have HB2 := Lib.hid (HB1.out.trans (hB2.mono (by have := HB1.out.size; omega)))
  have x4 : w2.cell? ⟨w.heap.size, 4, none⟩ = some (.int .i64 0) := K2.out.cell 4
  have x5 : w2.cell? ⟨w.heap.size, 5, none⟩ = some (.slice none 0 0) := K2.out.cell 5
  clear hB2 x2 x3 HD1 HB1
  go_wp2_with fail
  refine (HR.out m _).mono ?_
  rintro e w3 ⟨rfl, hB3⟩
  have HD3 := Lib.hid (HD2.out.below hB3)
  have HO3 := Lib.hid (show OthersDk w w3 from fun D cs t n1 n2 n3 n4 hb => (HO2.out D cs t n1 n2 n3 n4 hb).below hB3 (HO2.out D cs t n1 n2 n3 n4 hb).lt)
  have HB3 := Lib.hid (HB2.out.trans (hB3.mono (by have := HB2.out.size; omega)))
  clear hB3 x4 x5
  go_wp2
  go_ret
  exact ⟨by rw [hm]; rfl, HB3.out, HD3.out, HO3.out⟩

set_option maxRecDepth 100000 in
set_option maxHeartbeats 2000000 in
theorem heldPool_any (c k : Nat) (a : Option Addr) (o : Bool) (R : List DiskD) (w : World) (hk0 : 0 < k) (hN : Hid (∀ j, j < R.length → mkN (R.getD j disk0) ≤ 1000)) (hk : k + R.length * 1001 ≤ 100000000) (hx : Hid (DksAt w a (mkDkTo k R R.length))) :
    Calls Tryz.prog 8 #[.agg #[.slice a R.length c, .bool o, .int .i64 0, .slice none 0 0, .int .i64 0, .slice none 0 0], .int .i64 (k : Int)] w fun e w' => e = .returned (.int .i64 ((dkAt k R R.length : Nat) : Int)) ∧ Below w.heap.size w w' := by
  have hB : Below w.heap.size w (w.alloc (.cells #[.slice a R.length c, .bool o, .int .i64 0, .slice none 0 0, .int .i64 0, .slice none 0 0] 27)) := (Below.refl _ _).alloc (Nat.le_refl _) _
  have HB := Lib.hid hB
  have HK := Lib.hid (Blk.new w #[.slice a R.length c, .bool o, .int .i64 0, .slice none 0 0, .int .i64 0, .slice none 0 0] 27)
  have HM := Lib.hid (heldDkS_any a c k R _ hk0 hN hk (hx.out.below hB))
  have HR := Lib.hid (fun m W => heldRoot_nil 0 m W)
  clear hB
  go_enter Tryz.func8, Tryz.ntmps8
  go_wp2_with fail
  generalize w.alloc (.cells #[.slice a R.length c, .bool o, .int .i64 0, .slice none 0 0, .int .i64 0, .slice none 0 0] 27) = W0 at HB HK HM ⊢
  refine HM.out.mono ?_
  rintro e w1 ⟨rfl, hB1⟩
  have K1 := Lib.hid (HK.out.below hB1 HK.out.lt)
  have HB1 := Lib.hid (HB.out.trans (hB1.mono HB.out.size))
  have x2 : w1.cell? ⟨w.heap.size, 2, none⟩ = some (.int .i64 0) := K1.out.cell 2
  have x3 : w1.cell? ⟨w.heap.size, 3, none⟩ = some (.slice none 0 0) := K1.out.cell 3
  generalize hm : dkAt k R R.length = m
  have d0 : decide ((m : Int) < 0) = false := decide_eq_false (by omega)
  clear hB1 HM HK HB
  go_wp2_with fail
  refine (HR.out m _).mono ?_
  rintro e w2 ⟨rfl, hB2⟩
  have K2 := Lib.hid (K1.out.below hB2 K1.out.lt)
  have HB2 := Lib.hid (HB1.out.trans (hB2.mono HB1.out.size))
  have x4 : w2.cell? ⟨w.heap.size, 4, none⟩ = some (.int .i64 0) := K2.out.cell 4
  have x5 : w2.cell? ⟨w.heap.size, 5, none⟩ = some (.slice none 0 0) := K2.out.cell 5
  clear hB2 x2 x3 HB1
  go_wp2_with fail
  refine (HR.out m _).mono ?_
  rintro e w3 ⟨rfl, hB3⟩
  have HB3 := Lib.hid (HB2.out.trans (hB3.mono HB2.out.size))
  clear hB3 x4 x5
  go_wp2
  go_ret
  exact ⟨by rw [hm]; rfl, HB3.out⟩

end Go.Proofs.YtceielkcplcccaaGreatDoor
