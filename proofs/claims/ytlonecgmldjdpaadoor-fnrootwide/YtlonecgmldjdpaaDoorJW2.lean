/- What is drawn for PtrOk: a number, and a pointer; nothing old turns. Conditions: none. PtrOk of the specification. Conditions: none but the row's own bound on sizes. What is ok in a pool is ok in the widest one, and its text is the same. Conditions: none. -/
import Derived.Test.YtlonecgmldjdpaaDoorD8
import Derived.Test.YtlonecgmldjdpaaDoorS4
import Derived.Test.YtlonecgmldjdpaaDoorQ6
namespace Go.Proofs.YtlonecgmldjdpaaDoor
open Go.RowKit Go.Sort

/-- A DRAWN NUMBER AND POINTER. -/
def DrawnPtr (w : World) (e : Ending) (w' : World) : Prop :=
  ∃ (n : Int) (d : PtrD) (v : Value), e = .returned (.tuple #[.int .i64 n, .agg #[.int .i64 d.size, .int .i64 d.sum, v]]) ∧ PlacesV w' v d.places ∧ d.places.length ≤ 10 ∧ Below w.heap.size w w'

def tabn (v : Int) : Int := if v = 0 then 2 else if v = 1 then 5 else 0
theorem tabn_cell (w : World) (v : Int) (h0 : 0 ≤ v) (h6 : v < 3) : (w.alloc (.cells #[.int .i64 2, .int .i64 5, .int .i64 0] 3)).cell? ⟨w.heap.size, v.toNat, none⟩ = some (.int .i64 (tabn v)) := by
  rw [World.cell?_alloc_mark]
  obtain ⟨n, rfl⟩ := Int.eq_ofNat_of_zero_le h0
  match n, h6 with
  | 0, _ => rfl
  | 1, _ => rfl
  | 2, _ => rfl
  | n + 3, h => omega

set_option maxRecDepth 100000 in
set_option maxHeartbeats 2000000 in
theorem drawPtr_any (a : Option Addr) (len cap : Nat) (z : List Int) (w : World) (h : IsBytes w a len cap z) :
    Calls Tryd.prog 10 #[.slice a len cap] w (DrawnPtr w) := by
  have hB0 : Below w.heap.size w (w.alloc (.cells #[.int .i64 0, .int .i64 0, .slice none 0 0] 33)) := (Below.refl _ _).alloc (Nat.le_refl _) _
  have H := Lib.hid (h.below hB0)
  have HB0 := Lib.hid hB0
  clear h hB0
  go_enter Tryd.func10, Tryd.ntmps10
  go_wp2_with fail
  refine (l6Open_any a len cap z _ H.out).mono ?_
  rintro e w1 ⟨B, rfl, hR1, hB1⟩
  have hB : w.heap.size + 1 ≤ B := by have := hR1.1; simp at this; exact this
  have HZ1 : Hid (Zeroed w1 w.heap.size) := (hB1.block w.heap.size (by simp)).trans (heap_alloc_new w _)
  have HBw1 := Lib.hid (HB0.out.trans (hB1.mono HB0.out.size))
  have HR1 := Lib.hid hR1
  have hBl1 := hR1.lt
  clear hR1 hB1
  go_wp2_with fail
  refine (l71Disks_any _ B 0 _ (by omega) HR1.out).mono ?_
  rintro e w2 ⟨n, rfl, hn, hR2, hg2⟩
  have HZ2 := Lib.hid (HZ1.out.kept hg2 (by omega) (by simp; omega))
  have HBw2 := Lib.hid (HBw1.out.trans (Below.ofGrown hg2 (by omega) HBw1.out.size))
  have HR2 := Lib.hid hR2
  have hBl2 := hR2.lt
  have Hn := Lib.hid hn
  clear hR2 hg2 hn
  go_wp2_with fail
  refine (l71Some_any _ B (0 + 1) n _ (by omega) Hn.out HR2.out).mono ?_
  rintro e w3 ⟨⟨y, s, ps⟩, v3, q3, rfl, hl3, hl10, hq3, hR3, hg3⟩
  simp only at hl3 hl10 ⊢
  have HZ3 := Lib.hid (HZ2.out.kept hg3 (by omega) (by simp; omega))
  have HBw3 := Lib.hid (HBw2.out.trans (Below.ofGrown hg3 (by omega) HBw2.out.size))
  have hw23 := hg3.size
  have HL3 := Lib.hid hl3
  have HR3 := Lib.hid hR3
  have hBl3 := hR3.lt
  obtain ⟨a3, cap3, rfl, _⟩ := hl3
  clear hR3 hg3
  have HRa := Lib.hid (HR3.out.alloc (.cells #[.int .i64 y, .int .i64 s, .slice a3 ps.length cap3] 33))
  go_wp2_with fail
  refine (pick_any _ B q3 12 _ (by omega) HRa.out).mono ?_
  rintro e w4 ⟨v12, rfl, hv12, _, hR4, hg4⟩
  have hal : w3.grownBy (w3.alloc (.cells #[.int .i64 y, .int .i64 s, .slice a3 ps.length cap3] 33)) (some B) := World.grownBy_alloc w3 _ _
  have hg34 := hal.trans hg4
  have HP4 : Hid (PBox w4 w3.heap.size y s (.slice a3 ps.length cap3)) := (hg4.block w3.heap.size (by simp) (by simp; omega)).trans (heap_alloc_new w3 _)
  have HZ4 := Lib.hid (HZ3.out.kept hg34 (by omega) (by simp; omega))
  have HBw4 := Lib.hid (HBw3.out.trans (Below.ofGrown hg34 (by omega) HBw3.out.size))
  have HL4 := Lib.hid (HL3.out.kept hg34 (fun k e => by cases e; omega))
  have hw4 : w3.heap.size < w4.heap.size := by have := hg4.size; simp at this; omega
  have HR4 := Lib.hid hR4
  clear hR4 hg4 hg34 hal
  generalize hPb : w3.heap.size = P at *
  clear hPb
  by_cases h0 : v12 = 0
  · have e0 : ((v12 : Int) == 0) = true := by simp; omega
    clear h0
    have HRb := Lib.hid (HR4.out.alloc (.cells #[.int .i64 2, .int .i64 5, .int .i64 0] 3))
    go_wp2_with fail
    refine (pick_any _ B (q3 + 1) 3 _ (by omega) HRb.out).mono ?_
    rintro e w5 ⟨v6, rfl, hv60, hv6n, hR5, hg5'⟩
    have hv6 := hv6n (by omega)
    clear hv6n
    have hct := hg5'.cell (tabn_cell w4 v6 hv60 hv6) (by simp; omega)
    generalize tabn v6 = n2 at hct
    have hg5 := (show w4.grownBy (w4.alloc (.cells #[.int .i64 2, .int .i64 5, .int .i64 0] 3)) (some B) from World.grownBy_alloc w4 _ _).trans hg5'
    obtain ⟨r0, f0, r1, f1, r2, f2⟩ := (HZ4.out.kept hg5 (by omega) (by simp; omega)).cells
    obtain ⟨b0, t0, b1, t1, b2, t2⟩ := (HP4.out.kept hg5 (by omega) (by simp; omega)).cells
    have HL5 := Lib.hid (HL4.out.kept hg5 (fun k e => by cases e; omega))
    have HB5 := Lib.hid (HBw4.out.trans (Below.ofGrown hg5 (by omega) HBw4.out.size))
    clear hR5 hg5 hg5'
    go_wp2_with fail
    go_region
    all_goals
      go_wp2
      refine bodyPost_ret (v := .tuple #[.int .i64 n2, .agg #[.int .i64 y, .int .i64 s, .slice a3 ps.length cap3]]) (by simp [results, Tryd.results10, go_sem, r0, r1, r2]) rfl ⟨n2, ⟨y, s, ps⟩, .slice a3 ps.length cap3, rfl, ?_, hl10, ?_⟩
      · exact (three_low HL5.out w.heap.size _ _ _ (by omega)).drew.reads
      · exact (((HB5.out.setCell (p := ⟨w.heap.size, 0, none⟩) (Nat.le_refl _) _).setCell (p := ⟨w.heap.size, 1, none⟩) (Nat.le_refl _) _).setCell (p := ⟨w.heap.size, 2, none⟩) (Nat.le_refl _) _).drew
  · have e0 : ((v12 : Int) == 0) = false := by simp; omega
    clear h0
    obtain ⟨r0, f0, r1, f1, r2, f2⟩ := HZ4.out.cells
    obtain ⟨b0, t0, b1, t1, b2, t2⟩ := HP4.out.cells
    go_wp2_with fail
    go_region
    all_goals
      go_wp2
      refine bodyPost_ret (v := .tuple #[.int .i64 n, .agg #[.int .i64 y, .int .i64 s, .slice a3 ps.length cap3]]) (by simp [results, Tryd.results10, go_sem, r0, r1, r2]) rfl ⟨n, ⟨y, s, ps⟩, .slice a3 ps.length cap3, rfl, ?_, hl10, ?_⟩
      · exact (three_low HL4.out w.heap.size _ _ _ (by omega)).drew.reads
      · exact (((HBw4.out.setCell (p := ⟨w.heap.size, 0, none⟩) (Nat.le_refl _) _).setCell (p := ⟨w.heap.size, 1, none⟩) (Nat.le_refl _) _).setCell (p := ⟨w.heap.size, 2, none⟩) (Nat.le_refl _) _).drew

end Go.Proofs.YtlonecgmldjdpaaDoor

namespace Go.Proofs.YtlonecgmldjdpaaDoor
open Go.RowKit Go.Sort

theorem specPtr_any (n : Int) (p : PtrD) (a : Option Addr) (cap : Nat) (w : World) (hl : p.places.length ≤ maxLen) (hx : Hid (PlacesAt w a p.places)) :
    Calls Tryd.prog 14 #[.int .i64 n, .agg #[.int .i64 p.size, .int .i64 p.sum, .slice a p.places.length cap]] w fun e w' => e = .returned (.bool (tt (PtrOkP n p))) ∧ Below w.heap.size w w' := by
  have HD := Lib.hid (fun w' => l2Disks_any n w')
  have hB : Below w.heap.size w (w.alloc (.cells #[.int .i64 p.size, .int .i64 p.sum, .slice a p.places.length cap] 33)) := (Below.refl _ _).alloc (Nat.le_refl _) _
  by_cases hp : Pool n
  · rw [tt_true hp] at HD
    have HF := Lib.hid (show tt (PtrOkP n p) = tt (PtrFine n p) from tt_congr ⟨fun h => h.2, fun h => ⟨hp, h⟩⟩)
    have HC := Lib.hid (fun w' h => l2Ptr_any n p a cap w' hp hl h)
    have HX : Hid (PlacesAt (w.alloc (.cells #[.int .i64 p.size, .int .i64 p.sum, .slice a p.places.length cap] 33)) a p.places) := hx.out.below hB
    have HB := Lib.hid hB
    clear hp hB
    go_enter Tryd.func14, Tryd.ntmps14
    go_wp2_with fail
    refine (HD.out _).mono ?_
    rintro e w1 ⟨rfl, rfl⟩
    go_wp2_with fail
    refine (HC.out _ HX).mono ?_
    rintro e w1 ⟨rfl, hB1⟩
    go_wp2
    go_ret
    exact ⟨ret_bool' HF.out.symm, HB.out.trans (hB1.mono HB.out.size)⟩
  · rw [tt_false hp] at HD
    have HF := Lib.hid (show tt (PtrOkP n p) = false from tt_false (fun h => hp h.1))
    have HB := Lib.hid hB
    clear hp hB
    go_enter Tryd.func14, Tryd.ntmps14
    go_wp2_with fail
    refine (HD.out _).mono ?_
    rintro e w1 ⟨rfl, rfl⟩
    go_wp2
    go_ret
    exact ⟨ret_bool' HF.out.symm, HB.out⟩

end Go.Proofs.YtlonecgmldjdpaaDoor

namespace Go.Proofs.YtlonecgmldjdpaaDoor
open Go.RowKit Go.Sort

theorem PtrFine.wide {n : Int} {p : PtrD} (hn : Pool n) (h : PtrFine n p) : PtrFine 4 p := by
  obtain ⟨n1, n2⟩ := hn
  rcases h with h | ⟨h1, h2, h3, h4, h5, h6⟩
  · exact .inl h
  · refine .inr ⟨h1, by omega, h3, h4, h5, fun j hj => ?_⟩
    obtain ⟨⟨k1, k2, k3, k4⟩, k5⟩ := h6 j hj
    exact ⟨⟨k1, by omega, k3, k4⟩, k5⟩
theorem pool_four : Pool 4 := ⟨by omega, by omega⟩
theorem PtrOkP.wide {n : Int} {p : PtrD} (h : PtrOkP n p) : PtrOkP 4 p := ⟨pool_four, h.2.wide h.1⟩
theorem RootOkP.wide {n : Int} {r : RootD} (h : RootOkP n r) : RootOkP 4 r := by
  obtain ⟨hp, ht, ⟨hv4, hv⟩, ha⟩ := h
  refine ⟨pool_four, ht, ⟨hv4, fun k hk => ?_⟩, ha⟩
  obtain ⟨h1, h2, h3, h4⟩ := hv k hk
  exact ⟨h1, h2, h3, fun j hj => (h4 j hj).wide⟩
theorem rootT_wide {n : Int} {r : RootD} (h : RootOkP n r) : rootT 4 r = rootT n r := by rw [rootT_ok h, rootT_ok h.wide]

end Go.Proofs.YtlonecgmldjdpaaDoor
