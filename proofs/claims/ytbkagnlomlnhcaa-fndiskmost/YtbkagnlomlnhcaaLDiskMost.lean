/- 'laws.FnDiskMost' returns true at every code: of a drawn disk and write DiskPut of the program answers as DiskPut of the specification; where fewer writes wait than may the write waits behind them, else all that waits comes first. Conditions: none. -/
import Derived.Test.YtbkagnlomlnhcaaK
import Derived.Test.YtbkagnlomlnhcaaN2
import Derived.Test.YtbkagnlomlnhcaaY6
import Derived.Test.YtbkagnlomlnhcaaV6
import Derived.Lib.QuietBelow
namespace Go.Proofs.Ytbkagnlomlnhcaa
open Go.ChangeShapes Go.WideShapes Go.ChangeAt Go.RowKit Go.Sort
namespace FnDiskMost
set_option linter.unusedVariables false

open Go.Shelf
theorem zeroV (w : World) : DiskV w (.agg #[.int .i64 0, .slice none 0 0, .slice none 0 0, .slice none 0 0, .slice none 0 0]) disk0 :=
  ⟨_, _, _, _, rfl, ⟨none, 0, rfl, Nat.le_refl _, by simp [maxLen], .inl rfl⟩, ⟨none, 0, rfl, Nat.le_refl _, by simp [maxLen], .inl rfl⟩, ⟨none, 0, rfl, Nat.le_refl _, by simp [maxLen], .inl rfl⟩, ⟨none, 0, rfl, Nat.le_refl _, by simp [maxLen], .inl rfl⟩⟩

set_option maxRecDepth 100000 in
set_option maxHeartbeats 2000000 in
theorem specPut_zero (v : Value) (d : DiskD) (p : PutD) (w : World) (hf : ¬(DiskFine d ∧ PutOk p)) (hv : DiskV w v d) :
    Calls Try.prog 30 #[v, .agg #[.bool p.ring, .int .i64 p.pos, .string p.text]] w (fun e w' => e = .returned (.agg #[.int .i64 0, .slice none 0 0, .slice none 0 0, .slice none 0 0, .slice none 0 0]) ∧ Below w.heap.size w w') := by
  have HIp := Lib.hid (fun W => l3Put_any p.ring p.pos p.text W)
  have HOk := Lib.hid (fun W (h : Below w.heap.size w W) => specOk_any v d W (hv.below h))
  by_cases h : DiskFine d
  · have hz : ¬PutOk p := fun k => hf ⟨h, k⟩
    rw [tt_false hz] at HIp
    rw [tt_true h] at HOk
    obtain ⟨st, xs, ys, bs, ps⟩ := d
    obtain ⟨v1, v2, v3, v4, rfl, ⟨a1, c1, rfl, _⟩, ⟨a2, c2, rfl, _⟩, ⟨a3, c3, rfl, _⟩, ⟨a4, c4, rfl, _⟩⟩ := hv
    simp only at HOk
    clear hf h hz
    have hB : Below w.heap.size w (((w.alloc (.cells #[.int .i64 st, .slice a1 xs.length c1, .slice a2 ys.length c2, .slice a3 bs.length c3, .slice a4 ps.length c4] 30)).alloc (.cells #[.bool p.ring, .int .i64 p.pos, .string p.text] 44)).alloc (.cells #[.int .i64 0, .slice none 0 0, .slice none 0 0, .slice none 0 0, .slice none 0 0] 30)) := (((Below.refl _ _).alloc (Nat.le_refl _) _).alloc (by simp) _).alloc (by simp; omega) _
    have HB := Lib.hid hB
    have hR : Blk (((w.alloc (.cells #[.int .i64 st, .slice a1 xs.length c1, .slice a2 ys.length c2, .slice a3 bs.length c3, .slice a4 ps.length c4] 30)).alloc (.cells #[.bool p.ring, .int .i64 p.pos, .string p.text] 44)).alloc (.cells #[.int .i64 0, .slice none 0 0, .slice none 0 0, .slice none 0 0, .slice none 0 0] 30)) (w.heap.size + 2) #[.int .i64 0, .slice none 0 0, .slice none 0 0, .slice none 0 0, .slice none 0 0] 30 := by
      have := Blk.new ((w.alloc (.cells #[.int .i64 st, .slice a1 xs.length c1, .slice a2 ys.length c2, .slice a3 bs.length c3, .slice a4 ps.length c4] 30)).alloc (.cells #[.bool p.ring, .int .i64 p.pos, .string p.text] 44)) #[.int .i64 0, .slice none 0 0, .slice none 0 0, .slice none 0 0, .slice none 0 0] 30
      rw [World.size_alloc, World.size_alloc] at this
      exact this
    have HR := Lib.hid hR
    have hP : Blk (((w.alloc (.cells #[.int .i64 st, .slice a1 xs.length c1, .slice a2 ys.length c2, .slice a3 bs.length c3, .slice a4 ps.length c4] 30)).alloc (.cells #[.bool p.ring, .int .i64 p.pos, .string p.text] 44)).alloc (.cells #[.int .i64 0, .slice none 0 0, .slice none 0 0, .slice none 0 0, .slice none 0 0] 30)) (w.heap.size + 1) #[.bool p.ring, .int .i64 p.pos, .string p.text] 44 := by
      have := Blk.new (w.alloc (.cells #[.int .i64 st, .slice a1 xs.length c1, .slice a2 ys.length c2, .slice a3 bs.length c3, .slice a4 ps.length c4] 30)) #[.bool p.ring, .int .i64 p.pos, .string p.text] 44
      rw [World.size_alloc] at this
      exact this.below (n := w.heap.size + 2) ((Below.refl _ _).alloc (by simp) _) (by omega)
    have HP := Lib.hid hP
    have hs2 : (((w.alloc (.cells #[.int .i64 st, .slice a1 xs.length c1, .slice a2 ys.length c2, .slice a3 bs.length c3, .slice a4 ps.length c4] 30)).alloc (.cells #[.bool p.ring, .int .i64 p.pos, .string p.text] 44)).alloc (.cells #[.int .i64 0, .slice none 0 0, .slice none 0 0, .slice none 0 0, .slice none 0 0] 30)).heap.size = w.heap.size + 3 := by simp
    have Hs2 := Lib.hid hs2
    clear hB hR hs2 hP
    go_enter Try.func30, Try.ntmps30
    go_wp2_with fail
    generalize (((w.alloc (.cells #[.int .i64 st, .slice a1 xs.length c1, .slice a2 ys.length c2, .slice a3 bs.length c3, .slice a4 ps.length c4] 30)).alloc (.cells #[.bool p.ring, .int .i64 p.pos, .string p.text] 44)).alloc (.cells #[.int .i64 0, .slice none 0 0, .slice none 0 0, .slice none 0 0, .slice none 0 0] 30)) = W at HB HR HP Hs2 ⊢
    refine (HOk.out _ HB.out).mono ?_
    rintro e w0 ⟨rfl, hB0⟩
    have KR0 := Lib.hid (HR.out.below hB0 HR.out.lt)
    have KP := Lib.hid (HP.out.below hB0 HP.out.lt)
    have B0 := Lib.hid (below_trans HB.out hB0 HB.out.size)
    clear hB0
    obtain ⟨q0, q1, q2⟩ : w0.cell? ⟨w.heap.size + 1, 0, none⟩ = some (.bool p.ring) ∧ w0.cell? ⟨w.heap.size + 1, 1, none⟩ = some (.int .i64 p.pos) ∧ w0.cell? ⟨w.heap.size + 1, 2, none⟩ = some (.string p.text) := ⟨KP.out.cell 0, KP.out.cell 1, KP.out.cell 2⟩
    go_wp2_with fail
    refine (HIp.out _).mono ?_
    rintro e w1 ⟨rfl, hB1⟩
    have KR := Lib.hid (KR0.out.below hB1 KR0.out.lt)
    have B1 := Lib.hid (below_trans B0.out hB1 B0.out.size)
    obtain ⟨y0, y1, y2, y3, y4⟩ : w1.cell? ⟨w.heap.size + 2, 0, none⟩ = some (.int .i64 0) ∧ w1.cell? ⟨w.heap.size + 2, 1, none⟩ = some (.slice none 0 0) ∧ w1.cell? ⟨w.heap.size + 2, 2, none⟩ = some (.slice none 0 0) ∧ w1.cell? ⟨w.heap.size + 2, 3, none⟩ = some (.slice none 0 0) ∧ w1.cell? ⟨w.heap.size + 2, 4, none⟩ = some (.slice none 0 0) := ⟨(KR.out.cell 0), (KR.out.cell 1), (KR.out.cell 2), (KR.out.cell 3), (KR.out.cell 4)⟩
    have f0 := KR.out.frozen 0
    have f1 := KR.out.frozen 1
    have f2 := KR.out.frozen 2
    have f3 := KR.out.frozen 3
    have f4 := KR.out.frozen 4
    clear hB1
    go_wp2
    refine bodyPost_ret (v := .agg #[.int .i64 0, .slice none 0 0, .slice none 0 0, .slice none 0 0, .slice none 0 0]) (by simp [results, Try.results30, go_sem, y0, y1, y2, y3, y4]) rfl ⟨rfl, ?_⟩
    · exact ((((B1.out.setCell (p := ⟨w.heap.size + 2, 0, none⟩) (by simp <;> omega) _).setCell (p := ⟨w.heap.size + 2, 1, none⟩) (by simp <;> omega) _).setCell (p := ⟨w.heap.size + 2, 2, none⟩) (by simp <;> omega) _).setCell (p := ⟨w.heap.size + 2, 3, none⟩) (by simp <;> omega) _).setCell (p := ⟨w.heap.size + 2, 4, none⟩) (by simp <;> omega) _

  · rw [tt_false h] at HOk
    obtain ⟨st, xs, ys, bs, ps⟩ := d
    obtain ⟨v1, v2, v3, v4, rfl, ⟨a1, c1, rfl, _⟩, ⟨a2, c2, rfl, _⟩, ⟨a3, c3, rfl, _⟩, ⟨a4, c4, rfl, _⟩⟩ := hv
    simp only at HOk
    clear hf h
    have hB : Below w.heap.size w (((w.alloc (.cells #[.int .i64 st, .slice a1 xs.length c1, .slice a2 ys.length c2, .slice a3 bs.length c3, .slice a4 ps.length c4] 30)).alloc (.cells #[.bool p.ring, .int .i64 p.pos, .string p.text] 44)).alloc (.cells #[.int .i64 0, .slice none 0 0, .slice none 0 0, .slice none 0 0, .slice none 0 0] 30)) := (((Below.refl _ _).alloc (Nat.le_refl _) _).alloc (by simp) _).alloc (by simp; omega) _
    have HB := Lib.hid hB
    have hR : Blk (((w.alloc (.cells #[.int .i64 st, .slice a1 xs.length c1, .slice a2 ys.length c2, .slice a3 bs.length c3, .slice a4 ps.length c4] 30)).alloc (.cells #[.bool p.ring, .int .i64 p.pos, .string p.text] 44)).alloc (.cells #[.int .i64 0, .slice none 0 0, .slice none 0 0, .slice none 0 0, .slice none 0 0] 30)) (w.heap.size + 2) #[.int .i64 0, .slice none 0 0, .slice none 0 0, .slice none 0 0, .slice none 0 0] 30 := by
      have := Blk.new ((w.alloc (.cells #[.int .i64 st, .slice a1 xs.length c1, .slice a2 ys.length c2, .slice a3 bs.length c3, .slice a4 ps.length c4] 30)).alloc (.cells #[.bool p.ring, .int .i64 p.pos, .string p.text] 44)) #[.int .i64 0, .slice none 0 0, .slice none 0 0, .slice none 0 0, .slice none 0 0] 30
      rw [World.size_alloc, World.size_alloc] at this
      exact this
    have HR := Lib.hid hR
    have hP : Blk (((w.alloc (.cells #[.int .i64 st, .slice a1 xs.length c1, .slice a2 ys.length c2, .slice a3 bs.length c3, .slice a4 ps.length c4] 30)).alloc (.cells #[.bool p.ring, .int .i64 p.pos, .string p.text] 44)).alloc (.cells #[.int .i64 0, .slice none 0 0, .slice none 0 0, .slice none 0 0, .slice none 0 0] 30)) (w.heap.size + 1) #[.bool p.ring, .int .i64 p.pos, .string p.text] 44 := by
      have := Blk.new (w.alloc (.cells #[.int .i64 st, .slice a1 xs.length c1, .slice a2 ys.length c2, .slice a3 bs.length c3, .slice a4 ps.length c4] 30)) #[.bool p.ring, .int .i64 p.pos, .string p.text] 44
      rw [World.size_alloc] at this
      exact this.below (n := w.heap.size + 2) ((Below.refl _ _).alloc (by simp) _) (by omega)
    have HP := Lib.hid hP
    have hs2 : (((w.alloc (.cells #[.int .i64 st, .slice a1 xs.length c1, .slice a2 ys.length c2, .slice a3 bs.length c3, .slice a4 ps.length c4] 30)).alloc (.cells #[.bool p.ring, .int .i64 p.pos, .string p.text] 44)).alloc (.cells #[.int .i64 0, .slice none 0 0, .slice none 0 0, .slice none 0 0, .slice none 0 0] 30)).heap.size = w.heap.size + 3 := by simp
    have Hs2 := Lib.hid hs2
    clear hB hR hs2 hP
    go_enter Try.func30, Try.ntmps30
    go_wp2_with fail
    generalize (((w.alloc (.cells #[.int .i64 st, .slice a1 xs.length c1, .slice a2 ys.length c2, .slice a3 bs.length c3, .slice a4 ps.length c4] 30)).alloc (.cells #[.bool p.ring, .int .i64 p.pos, .string p.text] 44)).alloc (.cells #[.int .i64 0, .slice none 0 0, .slice none 0 0, .slice none 0 0, .slice none 0 0] 30)) = W at HB HR HP Hs2 ⊢
    refine (HOk.out _ HB.out).mono ?_
    rintro e w1 ⟨rfl, hB1⟩
    have KR := Lib.hid (HR.out.below hB1 HR.out.lt)
    have B1 := Lib.hid (below_trans HB.out hB1 HB.out.size)
    obtain ⟨y0, y1, y2, y3, y4⟩ : w1.cell? ⟨w.heap.size + 2, 0, none⟩ = some (.int .i64 0) ∧ w1.cell? ⟨w.heap.size + 2, 1, none⟩ = some (.slice none 0 0) ∧ w1.cell? ⟨w.heap.size + 2, 2, none⟩ = some (.slice none 0 0) ∧ w1.cell? ⟨w.heap.size + 2, 3, none⟩ = some (.slice none 0 0) ∧ w1.cell? ⟨w.heap.size + 2, 4, none⟩ = some (.slice none 0 0) := ⟨(KR.out.cell 0), (KR.out.cell 1), (KR.out.cell 2), (KR.out.cell 3), (KR.out.cell 4)⟩
    have f0 := KR.out.frozen 0
    have f1 := KR.out.frozen 1
    have f2 := KR.out.frozen 2
    have f3 := KR.out.frozen 3
    have f4 := KR.out.frozen 4
    clear hB1
    go_wp2
    refine bodyPost_ret (v := .agg #[.int .i64 0, .slice none 0 0, .slice none 0 0, .slice none 0 0, .slice none 0 0]) (by simp [results, Try.results30, go_sem, y0, y1, y2, y3, y4]) rfl ⟨rfl, ?_⟩
    · exact ((((B1.out.setCell (p := ⟨w.heap.size + 2, 0, none⟩) (by simp <;> omega) _).setCell (p := ⟨w.heap.size + 2, 1, none⟩) (by simp <;> omega) _).setCell (p := ⟨w.heap.size + 2, 2, none⟩) (by simp <;> omega) _).setCell (p := ⟨w.heap.size + 2, 3, none⟩) (by simp <;> omega) _).setCell (p := ⟨w.heap.size + 2, 4, none⟩) (by simp <;> omega) _


theorem choose (d : DiskD) (x : PutD) : ∃ r : DiskD, Hid (∀ u W, DiskV W u d → Calls Try.prog 30 #[u, .agg #[.bool x.ring, .int .i64 x.pos, .string x.text]] W (NewDisk r W)) ∧ Hid (∀ u W, DiskV W u d → Calls Try.prog 29 #[u, .agg #[.bool x.ring, .int .i64 x.pos, .string x.text]] W (NewDisk r W)) ∧
    (((r.slots.length = 0 ∧ r = disk0 ∧ Hid (∀ u W, DiskV W u d → Calls Try.prog 30 #[u, .agg #[.bool x.ring, .int .i64 x.pos, .string x.text]] W (fun e w' => e = .returned (.agg #[.int .i64 0, .slice none 0 0, .slice none 0 0, .slice none 0 0, .slice none 0 0]) ∧ Below W.heap.size W w'))) ∨ (r.slots.length = 12 ∧ d.state = 1)) ∨ (r.slots.length = 12 ∧ d.state ≠ 1 ∧ d.wait.length ≤ 40 ∧ ((d.wait.length < 40 ∧ r.wait = d.wait ++ [x]) ∨ (d.wait.length = 40 ∧ r.wait.length = 1 ∧
      ∃ f : DiskD, Hid (∀ u W, DiskV W u d → Calls Try.prog 32 #[u] W (NewDisk f W)) ∧ Hid (∀ u W, DiskV W u f → Calls Try.prog 29 #[u, .agg #[.bool x.ring, .int .i64 x.pos, .string x.text]] W (NewDisk r W)))))) := by
  by_cases h : DiskFine d ∧ PutOk x
  · have h2 := put_fine h.1 h.2
    refine ⟨putD d x, fun u W hu => specPut_ok u d x W h.1 h.2 hu, fun u W hu => implPut_ok u d x W h.1 h.2 hu, ?_⟩
    by_cases hs : d.state = 1
    · exact .inl (.inr ⟨h2.2.1.1, hs⟩)
    · have hl := h.1.2.1.2.2.2
      obtain ⟨m1, m2⟩ := most_facts x hs
      refine .inr ⟨h2.2.1.1, hs, hl, ?_⟩
      by_cases h40 : d.wait.length < 40
      · exact .inl ⟨h40, m1 h40⟩
      · obtain ⟨e1, e2⟩ := m2 (by omega)
        refine .inr ⟨by omega, by rw [e2]; rfl, crashD d (-1), fun u W hu => implFlush_ok u d W h.1 hu, fun u W hu => ?_⟩
        rw [e1]
        exact implPut_ok u (crashD d (-1)) x W (crash_fine h.1 _) h.2 hu
  · exact ⟨disk0, fun u W hu => specPut_no u d x W h hu, fun u W hu => implPut_no u d x W h hu, .inl (.inl ⟨rfl, rfl, fun u W hu => specPut_zero u d x W h hu⟩)⟩

set_option maxRecDepth 100000 in
set_option maxHeartbeats 4000000 in
theorem main (a : Option Addr) (len cap : Nat) (z0 : List Int) (w : World) (h0 : len ≤ 1048576) (H : Hid (IsBytes w a len cap z0)) :
    Calls Try.prog 11 #[.slice a len cap] w fun e w' => e = .returned (.bool true) ∧ Below w.heap.size w w' := by
  have d0 : decide (1048576 < (len : Int)) = false := by simp; omega
  go_enter Try.func11, Try.ntmps11
  go_wp2_with fail
  refine (drawPut_any a len cap z0 _ H.out).mono ?_
  rintro e w1 ⟨d, v1, x, rfl, hv1, hB1⟩
  have B := Lib.hid hB1
  have VD := Lib.hid hv1
  obtain ⟨r, HS, HI, HF⟩ := choose d x
  obtain ⟨_, _, _, _, rfl, ⟨o1, c1, rfl, _⟩, ⟨o2, c2, rfl, _⟩, ⟨o3, c3, rfl, _⟩, ⟨o4, c4, rfl, _⟩⟩ := hv1
  clear hB1
  have hAl := Lib.hid (show Below w1.heap.size w1 ((w1.alloc (.cells #[.int .i64 d.state, .slice o1 d.slots.length c1, .slice o2 d.rings.length c2, .slice o3 d.spoilt.length c3, .slice o4 d.wait.length c4] 30)).alloc (.cells #[.bool x.ring, .int .i64 x.pos, .string x.text] 44)) from ((Below.refl _ _).alloc (Nat.le_refl _) _).alloc (by simp) _)
  have KO := Lib.hid (show Blk ((w1.alloc (.cells #[.int .i64 d.state, .slice o1 d.slots.length c1, .slice o2 d.rings.length c2, .slice o3 d.spoilt.length c3, .slice o4 d.wait.length c4] 30)).alloc (.cells #[.bool x.ring, .int .i64 x.pos, .string x.text] 44)) w1.heap.size #[.int .i64 d.state, .slice o1 d.slots.length c1, .slice o2 d.rings.length c2, .slice o3 d.spoilt.length c3, .slice o4 d.wait.length c4] 30 from (Blk.new w1 _ _).below (n := w1.heap.size + 1) ((Below.refl _ _).alloc (by simp) _) (by omega))
  have KQ := Lib.hid (show Blk ((w1.alloc (.cells #[.int .i64 d.state, .slice o1 d.slots.length c1, .slice o2 d.rings.length c2, .slice o3 d.spoilt.length c3, .slice o4 d.wait.length c4] 30)).alloc (.cells #[.bool x.ring, .int .i64 x.pos, .string x.text] 44)) (w1.heap.size + 1) #[.bool x.ring, .int .i64 x.pos, .string x.text] 44 by
    have := Blk.new (w1.alloc (.cells #[.int .i64 d.state, .slice o1 d.slots.length c1, .slice o2 d.rings.length c2, .slice o3 d.spoilt.length c3, .slice o4 d.wait.length c4] 30)) #[.bool x.ring, .int .i64 x.pos, .string x.text] 44
    rw [World.size_alloc] at this
    exact this)
  have VD := Lib.hid (VD.out.below hAl.out)
  have B := Lib.hid (below_trans B.out hAl.out B.out.size)
  obtain ⟨p0, p1, p2, p3, p4⟩ : (((w1.alloc (.cells #[.int .i64 d.state, .slice o1 d.slots.length c1, .slice o2 d.rings.length c2, .slice o3 d.spoilt.length c3, .slice o4 d.wait.length c4] 30)).alloc (.cells #[.bool x.ring, .int .i64 x.pos, .string x.text] 44))).cell? ⟨w1.heap.size, 0, none⟩ = some (.int .i64 d.state) ∧ (((w1.alloc (.cells #[.int .i64 d.state, .slice o1 d.slots.length c1, .slice o2 d.rings.length c2, .slice o3 d.spoilt.length c3, .slice o4 d.wait.length c4] 30)).alloc (.cells #[.bool x.ring, .int .i64 x.pos, .string x.text] 44))).cell? ⟨w1.heap.size, 1, none⟩ = some (.slice o1 d.slots.length c1) ∧ (((w1.alloc (.cells #[.int .i64 d.state, .slice o1 d.slots.length c1, .slice o2 d.rings.length c2, .slice o3 d.spoilt.length c3, .slice o4 d.wait.length c4] 30)).alloc (.cells #[.bool x.ring, .int .i64 x.pos, .string x.text] 44))).cell? ⟨w1.heap.size, 2, none⟩ = some (.slice o2 d.rings.length c2) ∧ (((w1.alloc (.cells #[.int .i64 d.state, .slice o1 d.slots.length c1, .slice o2 d.rings.length c2, .slice o3 d.spoilt.length c3, .slice o4 d.wait.length c4] 30)).alloc (.cells #[.bool x.ring, .int .i64 x.pos, .string x.text] 44))).cell? ⟨w1.heap.size, 3, none⟩ = some (.slice o3 d.spoilt.length c3) ∧ (((w1.alloc (.cells #[.int .i64 d.state, .slice o1 d.slots.length c1, .slice o2 d.rings.length c2, .slice o3 d.spoilt.length c3, .slice o4 d.wait.length c4] 30)).alloc (.cells #[.bool x.ring, .int .i64 x.pos, .string x.text] 44))).cell? ⟨w1.heap.size, 4, none⟩ = some (.slice o4 d.wait.length c4) := ⟨(KO.out.cell 0), (KO.out.cell 1), (KO.out.cell 2), (KO.out.cell 3), (KO.out.cell 4)⟩
  obtain ⟨n0, n1, n2⟩ : (((w1.alloc (.cells #[.int .i64 d.state, .slice o1 d.slots.length c1, .slice o2 d.rings.length c2, .slice o3 d.spoilt.length c3, .slice o4 d.wait.length c4] 30)).alloc (.cells #[.bool x.ring, .int .i64 x.pos, .string x.text] 44))).cell? ⟨w1.heap.size + 1, 0, none⟩ = some (.bool x.ring) ∧ (((w1.alloc (.cells #[.int .i64 d.state, .slice o1 d.slots.length c1, .slice o2 d.rings.length c2, .slice o3 d.spoilt.length c3, .slice o4 d.wait.length c4] 30)).alloc (.cells #[.bool x.ring, .int .i64 x.pos, .string x.text] 44))).cell? ⟨w1.heap.size + 1, 1, none⟩ = some (.int .i64 x.pos) ∧ (((w1.alloc (.cells #[.int .i64 d.state, .slice o1 d.slots.length c1, .slice o2 d.rings.length c2, .slice o3 d.spoilt.length c3, .slice o4 d.wait.length c4] 30)).alloc (.cells #[.bool x.ring, .int .i64 x.pos, .string x.text] 44))).cell? ⟨w1.heap.size + 1, 2, none⟩ = some (.string x.text) := ⟨(KQ.out.cell 0), (KQ.out.cell 1), (KQ.out.cell 2)⟩
  go_wp2_with fail
  generalize ((w1.alloc (.cells #[.int .i64 d.state, .slice o1 d.slots.length c1, .slice o2 d.rings.length c2, .slice o3 d.spoilt.length c3, .slice o4 d.wait.length c4] 30)).alloc (.cells #[.bool x.ring, .int .i64 x.pos, .string x.text] 44)) = W1 at hAl KO KQ VD B p0 p1 p2 p3 p4 n0 n1 n2 ⊢
  refine (HI.out _ _ VD.out).mono ?_
  rintro e w2 ⟨v2, rfl, ow, hB2⟩
  clear p0 p1 p2 p3 p4
  clear n0 n1 n2
  have KO := Lib.hid (KO.out.below hB2 KO.out.lt)
  have KQ := Lib.hid (KQ.out.below hB2 KQ.out.lt)
  have VD := Lib.hid (VD.out.below hB2)
  have B := Lib.hid (below_trans B.out hB2 B.out.size)
  have VX := Lib.hid ow.reads
  have hx := ow.reads
  obtain ⟨_, _, _, _, rfl, ⟨x1, e1, rfl, _⟩, ⟨x2, e2, rfl, _⟩, ⟨x3, e3, rfl, _⟩, ⟨x4, e4, rfl, _⟩⟩ := hx
  clear ow hB2
  generalize hsn : r.slots.length = sn at VX ⊢
  have hAl := Lib.hid (show Below w2.heap.size w2 (w2.alloc (.cells #[.int .i64 r.state, .slice x1 sn e1, .slice x2 r.rings.length e2, .slice x3 r.spoilt.length e3, .slice x4 r.wait.length e4] 30)) from (Below.refl _ _).alloc (Nat.le_refl _) _)
  have KX := Lib.hid (Blk.new w2 #[.int .i64 r.state, .slice x1 sn e1, .slice x2 r.rings.length e2, .slice x3 r.spoilt.length e3, .slice x4 r.wait.length e4] 30)
  have KO := Lib.hid (KO.out.below hAl.out KO.out.lt)
  have KQ := Lib.hid (KQ.out.below hAl.out KQ.out.lt)
  have VD := Lib.hid (VD.out.below hAl.out)
  have VX := Lib.hid (VX.out.below hAl.out)
  have B := Lib.hid (below_trans B.out hAl.out B.out.size)
  obtain ⟨p0, p1, p2, p3, p4⟩ : (w2.alloc (.cells #[.int .i64 r.state, .slice x1 sn e1, .slice x2 r.rings.length e2, .slice x3 r.spoilt.length e3, .slice x4 r.wait.length e4] 30)).cell? ⟨w1.heap.size, 0, none⟩ = some (.int .i64 d.state) ∧ (w2.alloc (.cells #[.int .i64 r.state, .slice x1 sn e1, .slice x2 r.rings.length e2, .slice x3 r.spoilt.length e3, .slice x4 r.wait.length e4] 30)).cell? ⟨w1.heap.size, 1, none⟩ = some (.slice o1 d.slots.length c1) ∧ (w2.alloc (.cells #[.int .i64 r.state, .slice x1 sn e1, .slice x2 r.rings.length e2, .slice x3 r.spoilt.length e3, .slice x4 r.wait.length e4] 30)).cell? ⟨w1.heap.size, 2, none⟩ = some (.slice o2 d.rings.length c2) ∧ (w2.alloc (.cells #[.int .i64 r.state, .slice x1 sn e1, .slice x2 r.rings.length e2, .slice x3 r.spoilt.length e3, .slice x4 r.wait.length e4] 30)).cell? ⟨w1.heap.size, 3, none⟩ = some (.slice o3 d.spoilt.length c3) ∧ (w2.alloc (.cells #[.int .i64 r.state, .slice x1 sn e1, .slice x2 r.rings.length e2, .slice x3 r.spoilt.length e3, .slice x4 r.wait.length e4] 30)).cell? ⟨w1.heap.size, 4, none⟩ = some (.slice o4 d.wait.length c4) := ⟨(KO.out.cell 0), (KO.out.cell 1), (KO.out.cell 2), (KO.out.cell 3), (KO.out.cell 4)⟩
  obtain ⟨n0, n1, n2⟩ : (w2.alloc (.cells #[.int .i64 r.state, .slice x1 sn e1, .slice x2 r.rings.length e2, .slice x3 r.spoilt.length e3, .slice x4 r.wait.length e4] 30)).cell? ⟨w1.heap.size + 1, 0, none⟩ = some (.bool x.ring) ∧ (w2.alloc (.cells #[.int .i64 r.state, .slice x1 sn e1, .slice x2 r.rings.length e2, .slice x3 r.spoilt.length e3, .slice x4 r.wait.length e4] 30)).cell? ⟨w1.heap.size + 1, 1, none⟩ = some (.int .i64 x.pos) ∧ (w2.alloc (.cells #[.int .i64 r.state, .slice x1 sn e1, .slice x2 r.rings.length e2, .slice x3 r.spoilt.length e3, .slice x4 r.wait.length e4] 30)).cell? ⟨w1.heap.size + 1, 2, none⟩ = some (.string x.text) := ⟨(KQ.out.cell 0), (KQ.out.cell 1), (KQ.out.cell 2)⟩
  obtain ⟨s0, s1, s2, s3, s4⟩ : (w2.alloc (.cells #[.int .i64 r.state, .slice x1 sn e1, .slice x2 r.rings.length e2, .slice x3 r.spoilt.length e3, .slice x4 r.wait.length e4] 30)).cell? ⟨w2.heap.size, 0, none⟩ = some (.int .i64 r.state) ∧ (w2.alloc (.cells #[.int .i64 r.state, .slice x1 sn e1, .slice x2 r.rings.length e2, .slice x3 r.spoilt.length e3, .slice x4 r.wait.length e4] 30)).cell? ⟨w2.heap.size, 1, none⟩ = some (.slice x1 sn e1) ∧ (w2.alloc (.cells #[.int .i64 r.state, .slice x1 sn e1, .slice x2 r.rings.length e2, .slice x3 r.spoilt.length e3, .slice x4 r.wait.length e4] 30)).cell? ⟨w2.heap.size, 2, none⟩ = some (.slice x2 r.rings.length e2) ∧ (w2.alloc (.cells #[.int .i64 r.state, .slice x1 sn e1, .slice x2 r.rings.length e2, .slice x3 r.spoilt.length e3, .slice x4 r.wait.length e4] 30)).cell? ⟨w2.heap.size, 3, none⟩ = some (.slice x3 r.spoilt.length e3) ∧ (w2.alloc (.cells #[.int .i64 r.state, .slice x1 sn e1, .slice x2 r.rings.length e2, .slice x3 r.spoilt.length e3, .slice x4 r.wait.length e4] 30)).cell? ⟨w2.heap.size, 4, none⟩ = some (.slice x4 r.wait.length e4) := ⟨(KX.out.cell 0), (KX.out.cell 1), (KX.out.cell 2), (KX.out.cell 3), (KX.out.cell 4)⟩
  go_upto_region 5 with (fail)
  generalize w2.alloc (.cells #[.int .i64 r.state, .slice x1 sn e1, .slice x2 r.rings.length e2, .slice x3 r.spoilt.length e3, .slice x4 r.wait.length e4] 30) = W2 at hAl KO KQ KX VD VX B p0 p1 p2 p3 p4 n0 n1 n2 s0 s1 s2 s3 s4 ⊢
  rcases HF with hz | ⟨hz, hs, hl40, HF⟩
  · rcases hz with ⟨hz, hr0, HZ⟩ | ⟨hz, hs⟩
    · obtain rfl : sn = 0 := by omega
      have Hr0 := Lib.hid hr0
      clear hz hsn hr0
      have g0 := cell_regrown p0
      have g1 := cell_regrown p1
      have g2 := cell_regrown p2
      have g3 := cell_regrown p3
      have g4 := cell_regrown p4
      have g5 := cell_regrown n0
      have g6 := cell_regrown n1
      have g7 := cell_regrown n2
      have g8 := cell_regrown s0
      have g9 := cell_regrown s1
      have g10 := cell_regrown s2
      have g11 := cell_regrown s3
      have g12 := cell_regrown s4
      have HL := Lib.hid (fun (W : World) (hB : Below W2.heap.size W2 W) => lpaDisk_same (.agg #[.int .i64 r.state, .slice x1 0 e1, .slice x2 r.rings.length e2, .slice x3 r.spoilt.length e3, .slice x4 r.wait.length e4]) (.agg #[.int .i64 0, .slice none 0 0, .slice none 0 0, .slice none 0 0, .slice none 0 0]) r W (VX.out.below hB) (by rw [Hr0.out]; exact zeroV W))
      refine wp_region_quiet_below (by kernel_rfl) (by kernel_rfl) ?_
      repeat (go_big_quiet_step (first | ((go_at_call 30); with_reducible exact Calls.regrown_of (HZ.out _ _ (VD.out.below (below_regrown _ _ _)))) | ((go_at_call 24); with_reducible exact Calls.regrown_of (HL.out _ (below_regrown _ _ _)))))
      refine wpQuiet_nil ?_
      intro W3 hw3
      have hBc : Hid (Below W2.heap.size W2 W3) := by obtain ⟨q, rfl⟩ := hw3; exact below_regrown _ _ _
      clear hw3 g0 g1 g2 g3 g4 g5 g6 g7 g8 g9 g10 g11 g12
      clear p0 p1 p2 p3 p4
      clear n0 n1 n2
      clear s0 s1 s2 s3 s4
      have KO := Lib.hid (KO.out.below hBc.out KO.out.lt)
      have KQ := Lib.hid (KQ.out.below hBc.out KQ.out.lt)
      have KX := Lib.hid (KX.out.below hBc.out KX.out.lt)
      have VD := Lib.hid (VD.out.below hBc.out)
      have VX := Lib.hid (VX.out.below hBc.out)
      have B := Lib.hid (below_trans B.out hBc.out B.out.size)
      obtain ⟨p0, p1, p2, p3, p4⟩ : W3.cell? ⟨w1.heap.size, 0, none⟩ = some (.int .i64 d.state) ∧ W3.cell? ⟨w1.heap.size, 1, none⟩ = some (.slice o1 d.slots.length c1) ∧ W3.cell? ⟨w1.heap.size, 2, none⟩ = some (.slice o2 d.rings.length c2) ∧ W3.cell? ⟨w1.heap.size, 3, none⟩ = some (.slice o3 d.spoilt.length c3) ∧ W3.cell? ⟨w1.heap.size, 4, none⟩ = some (.slice o4 d.wait.length c4) := ⟨(KO.out.cell 0), (KO.out.cell 1), (KO.out.cell 2), (KO.out.cell 3), (KO.out.cell 4)⟩
      obtain ⟨n0, n1, n2⟩ : W3.cell? ⟨w1.heap.size + 1, 0, none⟩ = some (.bool x.ring) ∧ W3.cell? ⟨w1.heap.size + 1, 1, none⟩ = some (.int .i64 x.pos) ∧ W3.cell? ⟨w1.heap.size + 1, 2, none⟩ = some (.string x.text) := ⟨(KQ.out.cell 0), (KQ.out.cell 1), (KQ.out.cell 2)⟩
      obtain ⟨s0, s1, s2, s3, s4⟩ : W3.cell? ⟨w2.heap.size, 0, none⟩ = some (.int .i64 r.state) ∧ W3.cell? ⟨w2.heap.size, 1, none⟩ = some (.slice x1 0 e1) ∧ W3.cell? ⟨w2.heap.size, 2, none⟩ = some (.slice x2 r.rings.length e2) ∧ W3.cell? ⟨w2.heap.size, 3, none⟩ = some (.slice x3 r.spoilt.length e3) ∧ W3.cell? ⟨w2.heap.size, 4, none⟩ = some (.slice x4 r.wait.length e4) := ⟨(KX.out.cell 0), (KX.out.cell 1), (KX.out.cell 2), (KX.out.cell 3), (KX.out.cell 4)⟩
      have cur : Hid (Below W3.heap.size W3 W3.drew) := (Below.refl _ _).drew
      go_wp2_with fail
      go_region_held3 (fun w' => (w'.cell? ⟨w1.heap.size, 0, none⟩ = some (.int .i64 d.state) ∧ w'.cell? ⟨w1.heap.size, 1, none⟩ = some (.slice o1 d.slots.length c1) ∧ w'.cell? ⟨w1.heap.size, 2, none⟩ = some (.slice o2 d.rings.length c2) ∧ w'.cell? ⟨w1.heap.size, 3, none⟩ = some (.slice o3 d.spoilt.length c3) ∧ w'.cell? ⟨w1.heap.size, 4, none⟩ = some (.slice o4 d.wait.length c4)) ∧ (w'.cell? ⟨w1.heap.size + 1, 0, none⟩ = some (.bool x.ring) ∧ w'.cell? ⟨w1.heap.size + 1, 1, none⟩ = some (.int .i64 x.pos) ∧ w'.cell? ⟨w1.heap.size + 1, 2, none⟩ = some (.string x.text)) ∧ (w'.cell? ⟨w2.heap.size, 0, none⟩ = some (.int .i64 r.state) ∧ w'.cell? ⟨w2.heap.size, 1, none⟩ = some (.slice x1 0 e1) ∧ w'.cell? ⟨w2.heap.size, 2, none⟩ = some (.slice x2 r.rings.length e2) ∧ w'.cell? ⟨w2.heap.size, 3, none⟩ = some (.slice x3 r.spoilt.length e3) ∧ w'.cell? ⟨w2.heap.size, 4, none⟩ = some (.slice x4 r.wait.length e4))) (first | with_reducible exact mm | go_keep)
        (first
          | (go_at_call 30; refine (HS.out _ _ (VD.out.below cur.out)).mono ?_; rintro e w7 ⟨v7, rfl, o7, hB7⟩; have V7 := Lib.hid o7.reads; have hx := o7.reads; obtain ⟨_, _, _, _, rfl, ⟨z1, j1, rfl, _⟩, ⟨z2, j2, rfl, _⟩, ⟨z3, j3, rfl, _⟩, ⟨z4, j4, rfl, _⟩⟩ := hx; clear o7; have cur := Lib.hid (below_trans cur.out hB7 cur.out.size); have mm := (⟨⟨((KO.out.below cur.out KO.out.lt).cell 0), ((KO.out.below cur.out KO.out.lt).cell 1), ((KO.out.below cur.out KO.out.lt).cell 2), ((KO.out.below cur.out KO.out.lt).cell 3), ((KO.out.below cur.out KO.out.lt).cell 4)⟩, ⟨((KQ.out.below cur.out KQ.out.lt).cell 0), ((KQ.out.below cur.out KQ.out.lt).cell 1), ((KQ.out.below cur.out KQ.out.lt).cell 2)⟩, ⟨((KX.out.below cur.out KX.out.lt).cell 0), ((KX.out.below cur.out KX.out.lt).cell 1), ((KX.out.below cur.out KX.out.lt).cell 2), ((KX.out.below cur.out KX.out.lt).cell 3), ((KX.out.below cur.out KX.out.lt).cell 4)⟩⟩ : (w7.cell? ⟨w1.heap.size, 0, none⟩ = some (.int .i64 d.state) ∧ w7.cell? ⟨w1.heap.size, 1, none⟩ = some (.slice o1 d.slots.length c1) ∧ w7.cell? ⟨w1.heap.size, 2, none⟩ = some (.slice o2 d.rings.length c2) ∧ w7.cell? ⟨w1.heap.size, 3, none⟩ = some (.slice o3 d.spoilt.length c3) ∧ w7.cell? ⟨w1.heap.size, 4, none⟩ = some (.slice o4 d.wait.length c4)) ∧ (w7.cell? ⟨w1.heap.size + 1, 0, none⟩ = some (.bool x.ring) ∧ w7.cell? ⟨w1.heap.size + 1, 1, none⟩ = some (.int .i64 x.pos) ∧ w7.cell? ⟨w1.heap.size + 1, 2, none⟩ = some (.string x.text)) ∧ (w7.cell? ⟨w2.heap.size, 0, none⟩ = some (.int .i64 r.state) ∧ w7.cell? ⟨w2.heap.size, 1, none⟩ = some (.slice x1 0 e1) ∧ w7.cell? ⟨w2.heap.size, 2, none⟩ = some (.slice x2 r.rings.length e2) ∧ w7.cell? ⟨w2.heap.size, 3, none⟩ = some (.slice x3 r.spoilt.length e3) ∧ w7.cell? ⟨w2.heap.size, 4, none⟩ = some (.slice x4 r.wait.length e4))); clear hB7)
          | (go_at_call 24; refine (lpaDisk_same _ _ r _ (VX.out.below cur.out) V7.out).mono ?_; rintro e w8 ⟨rfl, hB8⟩; have cur := Lib.hid (below_trans cur.out hB8 cur.out.size); have mm := (⟨⟨((KO.out.below cur.out KO.out.lt).cell 0), ((KO.out.below cur.out KO.out.lt).cell 1), ((KO.out.below cur.out KO.out.lt).cell 2), ((KO.out.below cur.out KO.out.lt).cell 3), ((KO.out.below cur.out KO.out.lt).cell 4)⟩, ⟨((KQ.out.below cur.out KQ.out.lt).cell 0), ((KQ.out.below cur.out KQ.out.lt).cell 1), ((KQ.out.below cur.out KQ.out.lt).cell 2)⟩, ⟨((KX.out.below cur.out KX.out.lt).cell 0), ((KX.out.below cur.out KX.out.lt).cell 1), ((KX.out.below cur.out KX.out.lt).cell 2), ((KX.out.below cur.out KX.out.lt).cell 3), ((KX.out.below cur.out KX.out.lt).cell 4)⟩⟩ : (w8.cell? ⟨w1.heap.size, 0, none⟩ = some (.int .i64 d.state) ∧ w8.cell? ⟨w1.heap.size, 1, none⟩ = some (.slice o1 d.slots.length c1) ∧ w8.cell? ⟨w1.heap.size, 2, none⟩ = some (.slice o2 d.rings.length c2) ∧ w8.cell? ⟨w1.heap.size, 3, none⟩ = some (.slice o3 d.spoilt.length c3) ∧ w8.cell? ⟨w1.heap.size, 4, none⟩ = some (.slice o4 d.wait.length c4)) ∧ (w8.cell? ⟨w1.heap.size + 1, 0, none⟩ = some (.bool x.ring) ∧ w8.cell? ⟨w1.heap.size + 1, 1, none⟩ = some (.int .i64 x.pos) ∧ w8.cell? ⟨w1.heap.size + 1, 2, none⟩ = some (.string x.text)) ∧ (w8.cell? ⟨w2.heap.size, 0, none⟩ = some (.int .i64 r.state) ∧ w8.cell? ⟨w2.heap.size, 1, none⟩ = some (.slice x1 0 e1) ∧ w8.cell? ⟨w2.heap.size, 2, none⟩ = some (.slice x2 r.rings.length e2) ∧ w8.cell? ⟨w2.heap.size, 3, none⟩ = some (.slice x3 r.spoilt.length e3) ∧ w8.cell? ⟨w2.heap.size, 4, none⟩ = some (.slice x4 r.wait.length e4))); clear hB8))
      clear p0 p1 p2 p3 p4
      clear n0 n1 n2
      clear s0 s1 s2 s3 s4
      have KO := Lib.hid (KO.out.below cur.out KO.out.lt)
      have KQ := Lib.hid (KQ.out.below cur.out KQ.out.lt)
      have KX := Lib.hid (KX.out.below cur.out KX.out.lt)
      have VD := Lib.hid (VD.out.below cur.out)
      have VX := Lib.hid (VX.out.below cur.out)
      have B := Lib.hid (below_trans B.out cur.out B.out.size)
      clear cur
      go_wp2
      go_ret
      exact ⟨rfl, B.out⟩
    · obtain rfl : sn = 12 := by omega
      have ds : ((d.state : Int) == 1) = true := beq_iff_eq.2 hs
      clear hz hsn hs
      have cur : Hid (Below W2.heap.size W2 W2.drew) := (Below.refl _ _).drew
      go_region_held3 (fun w' => (w'.cell? ⟨w1.heap.size, 0, none⟩ = some (.int .i64 d.state) ∧ w'.cell? ⟨w1.heap.size, 1, none⟩ = some (.slice o1 d.slots.length c1) ∧ w'.cell? ⟨w1.heap.size, 2, none⟩ = some (.slice o2 d.rings.length c2) ∧ w'.cell? ⟨w1.heap.size, 3, none⟩ = some (.slice o3 d.spoilt.length c3) ∧ w'.cell? ⟨w1.heap.size, 4, none⟩ = some (.slice o4 d.wait.length c4)) ∧ (w'.cell? ⟨w1.heap.size + 1, 0, none⟩ = some (.bool x.ring) ∧ w'.cell? ⟨w1.heap.size + 1, 1, none⟩ = some (.int .i64 x.pos) ∧ w'.cell? ⟨w1.heap.size + 1, 2, none⟩ = some (.string x.text)) ∧ (w'.cell? ⟨w2.heap.size, 0, none⟩ = some (.int .i64 r.state) ∧ w'.cell? ⟨w2.heap.size, 1, none⟩ = some (.slice x1 12 e1) ∧ w'.cell? ⟨w2.heap.size, 2, none⟩ = some (.slice x2 r.rings.length e2) ∧ w'.cell? ⟨w2.heap.size, 3, none⟩ = some (.slice x3 r.spoilt.length e3) ∧ w'.cell? ⟨w2.heap.size, 4, none⟩ = some (.slice x4 r.wait.length e4))) (first | with_reducible exact mm | go_keep)
        (first
          | (go_at_call 30; refine (HS.out _ _ (VD.out.below cur.out)).mono ?_; rintro e w7 ⟨v7, rfl, o7, hB7⟩; have V7 := Lib.hid o7.reads; have hx := o7.reads; obtain ⟨_, _, _, _, rfl, ⟨z1, j1, rfl, _⟩, ⟨z2, j2, rfl, _⟩, ⟨z3, j3, rfl, _⟩, ⟨z4, j4, rfl, _⟩⟩ := hx; clear o7; have cur := Lib.hid (below_trans cur.out hB7 cur.out.size); have mm := (⟨⟨((KO.out.below cur.out KO.out.lt).cell 0), ((KO.out.below cur.out KO.out.lt).cell 1), ((KO.out.below cur.out KO.out.lt).cell 2), ((KO.out.below cur.out KO.out.lt).cell 3), ((KO.out.below cur.out KO.out.lt).cell 4)⟩, ⟨((KQ.out.below cur.out KQ.out.lt).cell 0), ((KQ.out.below cur.out KQ.out.lt).cell 1), ((KQ.out.below cur.out KQ.out.lt).cell 2)⟩, ⟨((KX.out.below cur.out KX.out.lt).cell 0), ((KX.out.below cur.out KX.out.lt).cell 1), ((KX.out.below cur.out KX.out.lt).cell 2), ((KX.out.below cur.out KX.out.lt).cell 3), ((KX.out.below cur.out KX.out.lt).cell 4)⟩⟩ : (w7.cell? ⟨w1.heap.size, 0, none⟩ = some (.int .i64 d.state) ∧ w7.cell? ⟨w1.heap.size, 1, none⟩ = some (.slice o1 d.slots.length c1) ∧ w7.cell? ⟨w1.heap.size, 2, none⟩ = some (.slice o2 d.rings.length c2) ∧ w7.cell? ⟨w1.heap.size, 3, none⟩ = some (.slice o3 d.spoilt.length c3) ∧ w7.cell? ⟨w1.heap.size, 4, none⟩ = some (.slice o4 d.wait.length c4)) ∧ (w7.cell? ⟨w1.heap.size + 1, 0, none⟩ = some (.bool x.ring) ∧ w7.cell? ⟨w1.heap.size + 1, 1, none⟩ = some (.int .i64 x.pos) ∧ w7.cell? ⟨w1.heap.size + 1, 2, none⟩ = some (.string x.text)) ∧ (w7.cell? ⟨w2.heap.size, 0, none⟩ = some (.int .i64 r.state) ∧ w7.cell? ⟨w2.heap.size, 1, none⟩ = some (.slice x1 12 e1) ∧ w7.cell? ⟨w2.heap.size, 2, none⟩ = some (.slice x2 r.rings.length e2) ∧ w7.cell? ⟨w2.heap.size, 3, none⟩ = some (.slice x3 r.spoilt.length e3) ∧ w7.cell? ⟨w2.heap.size, 4, none⟩ = some (.slice x4 r.wait.length e4))); clear hB7)
          | (go_at_call 24; refine (lpaDisk_same _ _ r _ (VX.out.below cur.out) V7.out).mono ?_; rintro e w8 ⟨rfl, hB8⟩; have cur := Lib.hid (below_trans cur.out hB8 cur.out.size); have mm := (⟨⟨((KO.out.below cur.out KO.out.lt).cell 0), ((KO.out.below cur.out KO.out.lt).cell 1), ((KO.out.below cur.out KO.out.lt).cell 2), ((KO.out.below cur.out KO.out.lt).cell 3), ((KO.out.below cur.out KO.out.lt).cell 4)⟩, ⟨((KQ.out.below cur.out KQ.out.lt).cell 0), ((KQ.out.below cur.out KQ.out.lt).cell 1), ((KQ.out.below cur.out KQ.out.lt).cell 2)⟩, ⟨((KX.out.below cur.out KX.out.lt).cell 0), ((KX.out.below cur.out KX.out.lt).cell 1), ((KX.out.below cur.out KX.out.lt).cell 2), ((KX.out.below cur.out KX.out.lt).cell 3), ((KX.out.below cur.out KX.out.lt).cell 4)⟩⟩ : (w8.cell? ⟨w1.heap.size, 0, none⟩ = some (.int .i64 d.state) ∧ w8.cell? ⟨w1.heap.size, 1, none⟩ = some (.slice o1 d.slots.length c1) ∧ w8.cell? ⟨w1.heap.size, 2, none⟩ = some (.slice o2 d.rings.length c2) ∧ w8.cell? ⟨w1.heap.size, 3, none⟩ = some (.slice o3 d.spoilt.length c3) ∧ w8.cell? ⟨w1.heap.size, 4, none⟩ = some (.slice o4 d.wait.length c4)) ∧ (w8.cell? ⟨w1.heap.size + 1, 0, none⟩ = some (.bool x.ring) ∧ w8.cell? ⟨w1.heap.size + 1, 1, none⟩ = some (.int .i64 x.pos) ∧ w8.cell? ⟨w1.heap.size + 1, 2, none⟩ = some (.string x.text)) ∧ (w8.cell? ⟨w2.heap.size, 0, none⟩ = some (.int .i64 r.state) ∧ w8.cell? ⟨w2.heap.size, 1, none⟩ = some (.slice x1 12 e1) ∧ w8.cell? ⟨w2.heap.size, 2, none⟩ = some (.slice x2 r.rings.length e2) ∧ w8.cell? ⟨w2.heap.size, 3, none⟩ = some (.slice x3 r.spoilt.length e3) ∧ w8.cell? ⟨w2.heap.size, 4, none⟩ = some (.slice x4 r.wait.length e4))); clear hB8))
      clear p0 p1 p2 p3 p4
      clear n0 n1 n2
      clear s0 s1 s2 s3 s4
      have KO := Lib.hid (KO.out.below cur.out KO.out.lt)
      have KQ := Lib.hid (KQ.out.below cur.out KQ.out.lt)
      have KX := Lib.hid (KX.out.below cur.out KX.out.lt)
      have VD := Lib.hid (VD.out.below cur.out)
      have VX := Lib.hid (VX.out.below cur.out)
      have B := Lib.hid (below_trans B.out cur.out B.out.size)
      clear cur
      clear V7
      obtain ⟨W3, e3⟩ : ∃ x, x = w8 := ⟨_, rfl⟩
      subst e3
      obtain ⟨p0, p1, p2, p3, p4⟩ : W3.cell? ⟨w1.heap.size, 0, none⟩ = some (.int .i64 d.state) ∧ W3.cell? ⟨w1.heap.size, 1, none⟩ = some (.slice o1 d.slots.length c1) ∧ W3.cell? ⟨w1.heap.size, 2, none⟩ = some (.slice o2 d.rings.length c2) ∧ W3.cell? ⟨w1.heap.size, 3, none⟩ = some (.slice o3 d.spoilt.length c3) ∧ W3.cell? ⟨w1.heap.size, 4, none⟩ = some (.slice o4 d.wait.length c4) := ⟨(KO.out.cell 0), (KO.out.cell 1), (KO.out.cell 2), (KO.out.cell 3), (KO.out.cell 4)⟩
      obtain ⟨n0, n1, n2⟩ : W3.cell? ⟨w1.heap.size + 1, 0, none⟩ = some (.bool x.ring) ∧ W3.cell? ⟨w1.heap.size + 1, 1, none⟩ = some (.int .i64 x.pos) ∧ W3.cell? ⟨w1.heap.size + 1, 2, none⟩ = some (.string x.text) := ⟨(KQ.out.cell 0), (KQ.out.cell 1), (KQ.out.cell 2)⟩
      obtain ⟨s0, s1, s2, s3, s4⟩ : W3.cell? ⟨w2.heap.size, 0, none⟩ = some (.int .i64 r.state) ∧ W3.cell? ⟨w2.heap.size, 1, none⟩ = some (.slice x1 12 e1) ∧ W3.cell? ⟨w2.heap.size, 2, none⟩ = some (.slice x2 r.rings.length e2) ∧ W3.cell? ⟨w2.heap.size, 3, none⟩ = some (.slice x3 r.spoilt.length e3) ∧ W3.cell? ⟨w2.heap.size, 4, none⟩ = some (.slice x4 r.wait.length e4) := ⟨(KX.out.cell 0), (KX.out.cell 1), (KX.out.cell 2), (KX.out.cell 3), (KX.out.cell 4)⟩
      have cur : Hid (Below W3.heap.size W3 W3.drew) := (Below.refl _ _).drew
      go_wp2_with fail
      go_region_held3 (fun w' => (w'.cell? ⟨w1.heap.size, 0, none⟩ = some (.int .i64 d.state) ∧ w'.cell? ⟨w1.heap.size, 1, none⟩ = some (.slice o1 d.slots.length c1) ∧ w'.cell? ⟨w1.heap.size, 2, none⟩ = some (.slice o2 d.rings.length c2) ∧ w'.cell? ⟨w1.heap.size, 3, none⟩ = some (.slice o3 d.spoilt.length c3) ∧ w'.cell? ⟨w1.heap.size, 4, none⟩ = some (.slice o4 d.wait.length c4)) ∧ (w'.cell? ⟨w1.heap.size + 1, 0, none⟩ = some (.bool x.ring) ∧ w'.cell? ⟨w1.heap.size + 1, 1, none⟩ = some (.int .i64 x.pos) ∧ w'.cell? ⟨w1.heap.size + 1, 2, none⟩ = some (.string x.text)) ∧ (w'.cell? ⟨w2.heap.size, 0, none⟩ = some (.int .i64 r.state) ∧ w'.cell? ⟨w2.heap.size, 1, none⟩ = some (.slice x1 12 e1) ∧ w'.cell? ⟨w2.heap.size, 2, none⟩ = some (.slice x2 r.rings.length e2) ∧ w'.cell? ⟨w2.heap.size, 3, none⟩ = some (.slice x3 r.spoilt.length e3) ∧ w'.cell? ⟨w2.heap.size, 4, none⟩ = some (.slice x4 r.wait.length e4))) (first | with_reducible exact mm | go_keep)
        (first
          | (go_at_call 30; refine (HS.out _ _ (VD.out.below cur.out)).mono ?_; rintro e w7 ⟨v7, rfl, o7, hB7⟩; have V7 := Lib.hid o7.reads; have hx := o7.reads; obtain ⟨_, _, _, _, rfl, ⟨z1, j1, rfl, _⟩, ⟨z2, j2, rfl, _⟩, ⟨z3, j3, rfl, _⟩, ⟨z4, j4, rfl, _⟩⟩ := hx; clear o7; have cur := Lib.hid (below_trans cur.out hB7 cur.out.size); have mm := (⟨⟨((KO.out.below cur.out KO.out.lt).cell 0), ((KO.out.below cur.out KO.out.lt).cell 1), ((KO.out.below cur.out KO.out.lt).cell 2), ((KO.out.below cur.out KO.out.lt).cell 3), ((KO.out.below cur.out KO.out.lt).cell 4)⟩, ⟨((KQ.out.below cur.out KQ.out.lt).cell 0), ((KQ.out.below cur.out KQ.out.lt).cell 1), ((KQ.out.below cur.out KQ.out.lt).cell 2)⟩, ⟨((KX.out.below cur.out KX.out.lt).cell 0), ((KX.out.below cur.out KX.out.lt).cell 1), ((KX.out.below cur.out KX.out.lt).cell 2), ((KX.out.below cur.out KX.out.lt).cell 3), ((KX.out.below cur.out KX.out.lt).cell 4)⟩⟩ : (w7.cell? ⟨w1.heap.size, 0, none⟩ = some (.int .i64 d.state) ∧ w7.cell? ⟨w1.heap.size, 1, none⟩ = some (.slice o1 d.slots.length c1) ∧ w7.cell? ⟨w1.heap.size, 2, none⟩ = some (.slice o2 d.rings.length c2) ∧ w7.cell? ⟨w1.heap.size, 3, none⟩ = some (.slice o3 d.spoilt.length c3) ∧ w7.cell? ⟨w1.heap.size, 4, none⟩ = some (.slice o4 d.wait.length c4)) ∧ (w7.cell? ⟨w1.heap.size + 1, 0, none⟩ = some (.bool x.ring) ∧ w7.cell? ⟨w1.heap.size + 1, 1, none⟩ = some (.int .i64 x.pos) ∧ w7.cell? ⟨w1.heap.size + 1, 2, none⟩ = some (.string x.text)) ∧ (w7.cell? ⟨w2.heap.size, 0, none⟩ = some (.int .i64 r.state) ∧ w7.cell? ⟨w2.heap.size, 1, none⟩ = some (.slice x1 12 e1) ∧ w7.cell? ⟨w2.heap.size, 2, none⟩ = some (.slice x2 r.rings.length e2) ∧ w7.cell? ⟨w2.heap.size, 3, none⟩ = some (.slice x3 r.spoilt.length e3) ∧ w7.cell? ⟨w2.heap.size, 4, none⟩ = some (.slice x4 r.wait.length e4))); clear hB7)
          | (go_at_call 24; refine (lpaDisk_same _ _ r _ (VX.out.below cur.out) V7.out).mono ?_; rintro e w8 ⟨rfl, hB8⟩; have cur := Lib.hid (below_trans cur.out hB8 cur.out.size); have mm := (⟨⟨((KO.out.below cur.out KO.out.lt).cell 0), ((KO.out.below cur.out KO.out.lt).cell 1), ((KO.out.below cur.out KO.out.lt).cell 2), ((KO.out.below cur.out KO.out.lt).cell 3), ((KO.out.below cur.out KO.out.lt).cell 4)⟩, ⟨((KQ.out.below cur.out KQ.out.lt).cell 0), ((KQ.out.below cur.out KQ.out.lt).cell 1), ((KQ.out.below cur.out KQ.out.lt).cell 2)⟩, ⟨((KX.out.below cur.out KX.out.lt).cell 0), ((KX.out.below cur.out KX.out.lt).cell 1), ((KX.out.below cur.out KX.out.lt).cell 2), ((KX.out.below cur.out KX.out.lt).cell 3), ((KX.out.below cur.out KX.out.lt).cell 4)⟩⟩ : (w8.cell? ⟨w1.heap.size, 0, none⟩ = some (.int .i64 d.state) ∧ w8.cell? ⟨w1.heap.size, 1, none⟩ = some (.slice o1 d.slots.length c1) ∧ w8.cell? ⟨w1.heap.size, 2, none⟩ = some (.slice o2 d.rings.length c2) ∧ w8.cell? ⟨w1.heap.size, 3, none⟩ = some (.slice o3 d.spoilt.length c3) ∧ w8.cell? ⟨w1.heap.size, 4, none⟩ = some (.slice o4 d.wait.length c4)) ∧ (w8.cell? ⟨w1.heap.size + 1, 0, none⟩ = some (.bool x.ring) ∧ w8.cell? ⟨w1.heap.size + 1, 1, none⟩ = some (.int .i64 x.pos) ∧ w8.cell? ⟨w1.heap.size + 1, 2, none⟩ = some (.string x.text)) ∧ (w8.cell? ⟨w2.heap.size, 0, none⟩ = some (.int .i64 r.state) ∧ w8.cell? ⟨w2.heap.size, 1, none⟩ = some (.slice x1 12 e1) ∧ w8.cell? ⟨w2.heap.size, 2, none⟩ = some (.slice x2 r.rings.length e2) ∧ w8.cell? ⟨w2.heap.size, 3, none⟩ = some (.slice x3 r.spoilt.length e3) ∧ w8.cell? ⟨w2.heap.size, 4, none⟩ = some (.slice x4 r.wait.length e4))); clear hB8))
      clear p0 p1 p2 p3 p4
      clear n0 n1 n2
      clear s0 s1 s2 s3 s4
      have KO := Lib.hid (KO.out.below cur.out KO.out.lt)
      have KQ := Lib.hid (KQ.out.below cur.out KQ.out.lt)
      have KX := Lib.hid (KX.out.below cur.out KX.out.lt)
      have VD := Lib.hid (VD.out.below cur.out)
      have VX := Lib.hid (VX.out.below cur.out)
      have B := Lib.hid (below_trans B.out cur.out B.out.size)
      clear cur
      go_wp2
      go_ret
      exact ⟨rfl, B.out⟩
  · obtain rfl : sn = 12 := by omega
    have ds : ((d.state : Int) == 1) = false := beq_eq_false_iff_ne.2 hs
    clear hz hs hsn
    have cur : Hid (Below W2.heap.size W2 W2.drew) := (Below.refl _ _).drew
    go_region_held3 (fun w' => (w'.cell? ⟨w1.heap.size, 0, none⟩ = some (.int .i64 d.state) ∧ w'.cell? ⟨w1.heap.size, 1, none⟩ = some (.slice o1 d.slots.length c1) ∧ w'.cell? ⟨w1.heap.size, 2, none⟩ = some (.slice o2 d.rings.length c2) ∧ w'.cell? ⟨w1.heap.size, 3, none⟩ = some (.slice o3 d.spoilt.length c3) ∧ w'.cell? ⟨w1.heap.size, 4, none⟩ = some (.slice o4 d.wait.length c4)) ∧ (w'.cell? ⟨w1.heap.size + 1, 0, none⟩ = some (.bool x.ring) ∧ w'.cell? ⟨w1.heap.size + 1, 1, none⟩ = some (.int .i64 x.pos) ∧ w'.cell? ⟨w1.heap.size + 1, 2, none⟩ = some (.string x.text)) ∧ (w'.cell? ⟨w2.heap.size, 0, none⟩ = some (.int .i64 r.state) ∧ w'.cell? ⟨w2.heap.size, 1, none⟩ = some (.slice x1 12 e1) ∧ w'.cell? ⟨w2.heap.size, 2, none⟩ = some (.slice x2 r.rings.length e2) ∧ w'.cell? ⟨w2.heap.size, 3, none⟩ = some (.slice x3 r.spoilt.length e3) ∧ w'.cell? ⟨w2.heap.size, 4, none⟩ = some (.slice x4 r.wait.length e4))) (first | with_reducible exact mm | go_keep)
      (first
        | (go_at_call 30; refine (HS.out _ _ (VD.out.below cur.out)).mono ?_; rintro e w7 ⟨v7, rfl, o7, hB7⟩; have V7 := Lib.hid o7.reads; have hx := o7.reads; obtain ⟨_, _, _, _, rfl, ⟨z1, j1, rfl, _⟩, ⟨z2, j2, rfl, _⟩, ⟨z3, j3, rfl, _⟩, ⟨z4, j4, rfl, _⟩⟩ := hx; clear o7; have cur := Lib.hid (below_trans cur.out hB7 cur.out.size); have mm := (⟨⟨((KO.out.below cur.out KO.out.lt).cell 0), ((KO.out.below cur.out KO.out.lt).cell 1), ((KO.out.below cur.out KO.out.lt).cell 2), ((KO.out.below cur.out KO.out.lt).cell 3), ((KO.out.below cur.out KO.out.lt).cell 4)⟩, ⟨((KQ.out.below cur.out KQ.out.lt).cell 0), ((KQ.out.below cur.out KQ.out.lt).cell 1), ((KQ.out.below cur.out KQ.out.lt).cell 2)⟩, ⟨((KX.out.below cur.out KX.out.lt).cell 0), ((KX.out.below cur.out KX.out.lt).cell 1), ((KX.out.below cur.out KX.out.lt).cell 2), ((KX.out.below cur.out KX.out.lt).cell 3), ((KX.out.below cur.out KX.out.lt).cell 4)⟩⟩ : (w7.cell? ⟨w1.heap.size, 0, none⟩ = some (.int .i64 d.state) ∧ w7.cell? ⟨w1.heap.size, 1, none⟩ = some (.slice o1 d.slots.length c1) ∧ w7.cell? ⟨w1.heap.size, 2, none⟩ = some (.slice o2 d.rings.length c2) ∧ w7.cell? ⟨w1.heap.size, 3, none⟩ = some (.slice o3 d.spoilt.length c3) ∧ w7.cell? ⟨w1.heap.size, 4, none⟩ = some (.slice o4 d.wait.length c4)) ∧ (w7.cell? ⟨w1.heap.size + 1, 0, none⟩ = some (.bool x.ring) ∧ w7.cell? ⟨w1.heap.size + 1, 1, none⟩ = some (.int .i64 x.pos) ∧ w7.cell? ⟨w1.heap.size + 1, 2, none⟩ = some (.string x.text)) ∧ (w7.cell? ⟨w2.heap.size, 0, none⟩ = some (.int .i64 r.state) ∧ w7.cell? ⟨w2.heap.size, 1, none⟩ = some (.slice x1 12 e1) ∧ w7.cell? ⟨w2.heap.size, 2, none⟩ = some (.slice x2 r.rings.length e2) ∧ w7.cell? ⟨w2.heap.size, 3, none⟩ = some (.slice x3 r.spoilt.length e3) ∧ w7.cell? ⟨w2.heap.size, 4, none⟩ = some (.slice x4 r.wait.length e4))); clear hB7)
        | (go_at_call 24; refine (lpaDisk_same _ _ r _ (VX.out.below cur.out) V7.out).mono ?_; rintro e w8 ⟨rfl, hB8⟩; have cur := Lib.hid (below_trans cur.out hB8 cur.out.size); have mm := (⟨⟨((KO.out.below cur.out KO.out.lt).cell 0), ((KO.out.below cur.out KO.out.lt).cell 1), ((KO.out.below cur.out KO.out.lt).cell 2), ((KO.out.below cur.out KO.out.lt).cell 3), ((KO.out.below cur.out KO.out.lt).cell 4)⟩, ⟨((KQ.out.below cur.out KQ.out.lt).cell 0), ((KQ.out.below cur.out KQ.out.lt).cell 1), ((KQ.out.below cur.out KQ.out.lt).cell 2)⟩, ⟨((KX.out.below cur.out KX.out.lt).cell 0), ((KX.out.below cur.out KX.out.lt).cell 1), ((KX.out.below cur.out KX.out.lt).cell 2), ((KX.out.below cur.out KX.out.lt).cell 3), ((KX.out.below cur.out KX.out.lt).cell 4)⟩⟩ : (w8.cell? ⟨w1.heap.size, 0, none⟩ = some (.int .i64 d.state) ∧ w8.cell? ⟨w1.heap.size, 1, none⟩ = some (.slice o1 d.slots.length c1) ∧ w8.cell? ⟨w1.heap.size, 2, none⟩ = some (.slice o2 d.rings.length c2) ∧ w8.cell? ⟨w1.heap.size, 3, none⟩ = some (.slice o3 d.spoilt.length c3) ∧ w8.cell? ⟨w1.heap.size, 4, none⟩ = some (.slice o4 d.wait.length c4)) ∧ (w8.cell? ⟨w1.heap.size + 1, 0, none⟩ = some (.bool x.ring) ∧ w8.cell? ⟨w1.heap.size + 1, 1, none⟩ = some (.int .i64 x.pos) ∧ w8.cell? ⟨w1.heap.size + 1, 2, none⟩ = some (.string x.text)) ∧ (w8.cell? ⟨w2.heap.size, 0, none⟩ = some (.int .i64 r.state) ∧ w8.cell? ⟨w2.heap.size, 1, none⟩ = some (.slice x1 12 e1) ∧ w8.cell? ⟨w2.heap.size, 2, none⟩ = some (.slice x2 r.rings.length e2) ∧ w8.cell? ⟨w2.heap.size, 3, none⟩ = some (.slice x3 r.spoilt.length e3) ∧ w8.cell? ⟨w2.heap.size, 4, none⟩ = some (.slice x4 r.wait.length e4))); clear hB8))
    clear p0 p1 p2 p3 p4
    clear n0 n1 n2
    clear s0 s1 s2 s3 s4
    have KO := Lib.hid (KO.out.below cur.out KO.out.lt)
    have KQ := Lib.hid (KQ.out.below cur.out KQ.out.lt)
    have KX := Lib.hid (KX.out.below cur.out KX.out.lt)
    have VD := Lib.hid (VD.out.below cur.out)
    have VX := Lib.hid (VX.out.below cur.out)
    have B := Lib.hid (below_trans B.out cur.out B.out.size)
    clear cur
    clear V7
    rcases HF with ⟨hl, hw⟩ | ⟨hl, hw, f, HFl, HPu⟩
    · have dl : decide ((d.wait.length : Int) < 40) = true := decide_eq_true (by omega)
      have hlen : r.wait.length = d.wait.length + 1 := by rw [hw]; simp
      have dq : ((r.wait.length : Int) == (d.wait.length : Int) + 1) = true := beq_iff_eq.2 (by omega)
      obtain ⟨p0, p1, p2, p3, p4⟩ : w8.cell? ⟨w1.heap.size, 0, none⟩ = some (.int .i64 d.state) ∧ w8.cell? ⟨w1.heap.size, 1, none⟩ = some (.slice o1 d.slots.length c1) ∧ w8.cell? ⟨w1.heap.size, 2, none⟩ = some (.slice o2 d.rings.length c2) ∧ w8.cell? ⟨w1.heap.size, 3, none⟩ = some (.slice o3 d.spoilt.length c3) ∧ w8.cell? ⟨w1.heap.size, 4, none⟩ = some (.slice o4 d.wait.length c4) := ⟨(KO.out.cell 0), (KO.out.cell 1), (KO.out.cell 2), (KO.out.cell 3), (KO.out.cell 4)⟩
      obtain ⟨n0, n1, n2⟩ : w8.cell? ⟨w1.heap.size + 1, 0, none⟩ = some (.bool x.ring) ∧ w8.cell? ⟨w1.heap.size + 1, 1, none⟩ = some (.int .i64 x.pos) ∧ w8.cell? ⟨w1.heap.size + 1, 2, none⟩ = some (.string x.text) := ⟨(KQ.out.cell 0), (KQ.out.cell 1), (KQ.out.cell 2)⟩
      obtain ⟨s0, s1, s2, s3, s4⟩ : w8.cell? ⟨w2.heap.size, 0, none⟩ = some (.int .i64 r.state) ∧ w8.cell? ⟨w2.heap.size, 1, none⟩ = some (.slice x1 12 e1) ∧ w8.cell? ⟨w2.heap.size, 2, none⟩ = some (.slice x2 r.rings.length e2) ∧ w8.cell? ⟨w2.heap.size, 3, none⟩ = some (.slice x3 r.spoilt.length e3) ∧ w8.cell? ⟨w2.heap.size, 4, none⟩ = some (.slice x4 r.wait.length e4) := ⟨(KX.out.cell 0), (KX.out.cell 1), (KX.out.cell 2), (KX.out.cell 3), (KX.out.cell 4)⟩
      obtain ⟨v1', v2', v3', v4', hvv, _, _, _, ⟨a4', c4', e4', _, _, h4⟩⟩ := VX.out
      cases hvv
      cases e4'
      obtain ⟨gb, go, hgo, hc⟩ := h4.resolve_left (fun e => by rw [e] at hlen; simp at hlen)
      obtain ⟨y0, y1, y2⟩ := hc d.wait.length (by omega)
      rw [hw, getD_snoc_eq] at y0 y1 y2
      have i1 : (d.wait.length : Int) < (r.wait.length : Int) := by omega
      have i0 : (0 : Int) ≤ (d.wait.length : Int) := by omega
      subst hgo
      have Hlen := Lib.hid hlen
      have Hw := Lib.hid hw
      clear hlen hw hl hc h4
      go_upto_region 8 with (fail)
      go_quiet (fail)
      go_wp2
      go_ret
      exact ⟨rfl, belowN B.out _⟩
    · have dl : decide ((d.wait.length : Int) < 40) = false := decide_eq_false (by omega)
      have dq : ((r.wait.length : Int) == 1) = true := beq_iff_eq.2 (by omega)
      clear hl hw
      obtain ⟨p0, p1, p2, p3, p4⟩ : w8.cell? ⟨w1.heap.size, 0, none⟩ = some (.int .i64 d.state) ∧ w8.cell? ⟨w1.heap.size, 1, none⟩ = some (.slice o1 d.slots.length c1) ∧ w8.cell? ⟨w1.heap.size, 2, none⟩ = some (.slice o2 d.rings.length c2) ∧ w8.cell? ⟨w1.heap.size, 3, none⟩ = some (.slice o3 d.spoilt.length c3) ∧ w8.cell? ⟨w1.heap.size, 4, none⟩ = some (.slice o4 d.wait.length c4) := ⟨(KO.out.cell 0), (KO.out.cell 1), (KO.out.cell 2), (KO.out.cell 3), (KO.out.cell 4)⟩
      obtain ⟨n0, n1, n2⟩ : w8.cell? ⟨w1.heap.size + 1, 0, none⟩ = some (.bool x.ring) ∧ w8.cell? ⟨w1.heap.size + 1, 1, none⟩ = some (.int .i64 x.pos) ∧ w8.cell? ⟨w1.heap.size + 1, 2, none⟩ = some (.string x.text) := ⟨(KQ.out.cell 0), (KQ.out.cell 1), (KQ.out.cell 2)⟩
      obtain ⟨s0, s1, s2, s3, s4⟩ : w8.cell? ⟨w2.heap.size, 0, none⟩ = some (.int .i64 r.state) ∧ w8.cell? ⟨w2.heap.size, 1, none⟩ = some (.slice x1 12 e1) ∧ w8.cell? ⟨w2.heap.size, 2, none⟩ = some (.slice x2 r.rings.length e2) ∧ w8.cell? ⟨w2.heap.size, 3, none⟩ = some (.slice x3 r.spoilt.length e3) ∧ w8.cell? ⟨w2.heap.size, 4, none⟩ = some (.slice x4 r.wait.length e4) := ⟨(KX.out.cell 0), (KX.out.cell 1), (KX.out.cell 2), (KX.out.cell 3), (KX.out.cell 4)⟩
      go_upto_region 9 with (fail)
      have cur : Hid (Below w8.heap.size w8 w8.drew) := (Below.refl _ _).drew
      go_region_held3 (fun w' => (w'.cell? ⟨w1.heap.size, 0, none⟩ = some (.int .i64 d.state) ∧ w'.cell? ⟨w1.heap.size, 1, none⟩ = some (.slice o1 d.slots.length c1) ∧ w'.cell? ⟨w1.heap.size, 2, none⟩ = some (.slice o2 d.rings.length c2) ∧ w'.cell? ⟨w1.heap.size, 3, none⟩ = some (.slice o3 d.spoilt.length c3) ∧ w'.cell? ⟨w1.heap.size, 4, none⟩ = some (.slice o4 d.wait.length c4)) ∧ (w'.cell? ⟨w1.heap.size + 1, 0, none⟩ = some (.bool x.ring) ∧ w'.cell? ⟨w1.heap.size + 1, 1, none⟩ = some (.int .i64 x.pos) ∧ w'.cell? ⟨w1.heap.size + 1, 2, none⟩ = some (.string x.text)) ∧ (w'.cell? ⟨w2.heap.size, 0, none⟩ = some (.int .i64 r.state) ∧ w'.cell? ⟨w2.heap.size, 1, none⟩ = some (.slice x1 12 e1) ∧ w'.cell? ⟨w2.heap.size, 2, none⟩ = some (.slice x2 r.rings.length e2) ∧ w'.cell? ⟨w2.heap.size, 3, none⟩ = some (.slice x3 r.spoilt.length e3) ∧ w'.cell? ⟨w2.heap.size, 4, none⟩ = some (.slice x4 r.wait.length e4))) (first | with_reducible exact mm | go_keep)
        (first
          | (go_at_call 32; refine (HFl.out _ _ (VD.out.below cur.out)).mono ?_; rintro e w6 ⟨v6, rfl, o6, hB6⟩; have V6 := Lib.hid o6.reads; have hx := o6.reads; obtain ⟨_, _, _, _, rfl, ⟨y1, k1, rfl, _⟩, ⟨y2, k2, rfl, _⟩, ⟨y3, k3, rfl, _⟩, ⟨y4, k4, rfl, _⟩⟩ := hx; clear o6; have cur := Lib.hid (below_trans cur.out hB6 cur.out.size); have mm := (⟨⟨((KO.out.below cur.out KO.out.lt).cell 0), ((KO.out.below cur.out KO.out.lt).cell 1), ((KO.out.below cur.out KO.out.lt).cell 2), ((KO.out.below cur.out KO.out.lt).cell 3), ((KO.out.below cur.out KO.out.lt).cell 4)⟩, ⟨((KQ.out.below cur.out KQ.out.lt).cell 0), ((KQ.out.below cur.out KQ.out.lt).cell 1), ((KQ.out.below cur.out KQ.out.lt).cell 2)⟩, ⟨((KX.out.below cur.out KX.out.lt).cell 0), ((KX.out.below cur.out KX.out.lt).cell 1), ((KX.out.below cur.out KX.out.lt).cell 2), ((KX.out.below cur.out KX.out.lt).cell 3), ((KX.out.below cur.out KX.out.lt).cell 4)⟩⟩ : (w6.cell? ⟨w1.heap.size, 0, none⟩ = some (.int .i64 d.state) ∧ w6.cell? ⟨w1.heap.size, 1, none⟩ = some (.slice o1 d.slots.length c1) ∧ w6.cell? ⟨w1.heap.size, 2, none⟩ = some (.slice o2 d.rings.length c2) ∧ w6.cell? ⟨w1.heap.size, 3, none⟩ = some (.slice o3 d.spoilt.length c3) ∧ w6.cell? ⟨w1.heap.size, 4, none⟩ = some (.slice o4 d.wait.length c4)) ∧ (w6.cell? ⟨w1.heap.size + 1, 0, none⟩ = some (.bool x.ring) ∧ w6.cell? ⟨w1.heap.size + 1, 1, none⟩ = some (.int .i64 x.pos) ∧ w6.cell? ⟨w1.heap.size + 1, 2, none⟩ = some (.string x.text)) ∧ (w6.cell? ⟨w2.heap.size, 0, none⟩ = some (.int .i64 r.state) ∧ w6.cell? ⟨w2.heap.size, 1, none⟩ = some (.slice x1 12 e1) ∧ w6.cell? ⟨w2.heap.size, 2, none⟩ = some (.slice x2 r.rings.length e2) ∧ w6.cell? ⟨w2.heap.size, 3, none⟩ = some (.slice x3 r.spoilt.length e3) ∧ w6.cell? ⟨w2.heap.size, 4, none⟩ = some (.slice x4 r.wait.length e4))); clear hB6)
          | (go_at_call 29; refine (HPu.out _ _ V6.out).mono ?_; rintro e w7 ⟨v7, rfl, o7, hB7⟩; have V7 := Lib.hid o7.reads; have hx := o7.reads; obtain ⟨_, _, _, _, rfl, ⟨z1, j1, rfl, _⟩, ⟨z2, j2, rfl, _⟩, ⟨z3, j3, rfl, _⟩, ⟨z4, j4, rfl, _⟩⟩ := hx; clear o7; have cur := Lib.hid (below_trans cur.out hB7 cur.out.size); have mm := (⟨⟨((KO.out.below cur.out KO.out.lt).cell 0), ((KO.out.below cur.out KO.out.lt).cell 1), ((KO.out.below cur.out KO.out.lt).cell 2), ((KO.out.below cur.out KO.out.lt).cell 3), ((KO.out.below cur.out KO.out.lt).cell 4)⟩, ⟨((KQ.out.below cur.out KQ.out.lt).cell 0), ((KQ.out.below cur.out KQ.out.lt).cell 1), ((KQ.out.below cur.out KQ.out.lt).cell 2)⟩, ⟨((KX.out.below cur.out KX.out.lt).cell 0), ((KX.out.below cur.out KX.out.lt).cell 1), ((KX.out.below cur.out KX.out.lt).cell 2), ((KX.out.below cur.out KX.out.lt).cell 3), ((KX.out.below cur.out KX.out.lt).cell 4)⟩⟩ : (w7.cell? ⟨w1.heap.size, 0, none⟩ = some (.int .i64 d.state) ∧ w7.cell? ⟨w1.heap.size, 1, none⟩ = some (.slice o1 d.slots.length c1) ∧ w7.cell? ⟨w1.heap.size, 2, none⟩ = some (.slice o2 d.rings.length c2) ∧ w7.cell? ⟨w1.heap.size, 3, none⟩ = some (.slice o3 d.spoilt.length c3) ∧ w7.cell? ⟨w1.heap.size, 4, none⟩ = some (.slice o4 d.wait.length c4)) ∧ (w7.cell? ⟨w1.heap.size + 1, 0, none⟩ = some (.bool x.ring) ∧ w7.cell? ⟨w1.heap.size + 1, 1, none⟩ = some (.int .i64 x.pos) ∧ w7.cell? ⟨w1.heap.size + 1, 2, none⟩ = some (.string x.text)) ∧ (w7.cell? ⟨w2.heap.size, 0, none⟩ = some (.int .i64 r.state) ∧ w7.cell? ⟨w2.heap.size, 1, none⟩ = some (.slice x1 12 e1) ∧ w7.cell? ⟨w2.heap.size, 2, none⟩ = some (.slice x2 r.rings.length e2) ∧ w7.cell? ⟨w2.heap.size, 3, none⟩ = some (.slice x3 r.spoilt.length e3) ∧ w7.cell? ⟨w2.heap.size, 4, none⟩ = some (.slice x4 r.wait.length e4))); clear hB7)
          | (go_at_call 24; refine (lpaDisk_same _ _ r _ (VX.out.below cur.out) V7.out).mono ?_; rintro e w10 ⟨rfl, hB8⟩; have cur := Lib.hid (below_trans cur.out hB8 cur.out.size); have mm := (⟨⟨((KO.out.below cur.out KO.out.lt).cell 0), ((KO.out.below cur.out KO.out.lt).cell 1), ((KO.out.below cur.out KO.out.lt).cell 2), ((KO.out.below cur.out KO.out.lt).cell 3), ((KO.out.below cur.out KO.out.lt).cell 4)⟩, ⟨((KQ.out.below cur.out KQ.out.lt).cell 0), ((KQ.out.below cur.out KQ.out.lt).cell 1), ((KQ.out.below cur.out KQ.out.lt).cell 2)⟩, ⟨((KX.out.below cur.out KX.out.lt).cell 0), ((KX.out.below cur.out KX.out.lt).cell 1), ((KX.out.below cur.out KX.out.lt).cell 2), ((KX.out.below cur.out KX.out.lt).cell 3), ((KX.out.below cur.out KX.out.lt).cell 4)⟩⟩ : (w10.cell? ⟨w1.heap.size, 0, none⟩ = some (.int .i64 d.state) ∧ w10.cell? ⟨w1.heap.size, 1, none⟩ = some (.slice o1 d.slots.length c1) ∧ w10.cell? ⟨w1.heap.size, 2, none⟩ = some (.slice o2 d.rings.length c2) ∧ w10.cell? ⟨w1.heap.size, 3, none⟩ = some (.slice o3 d.spoilt.length c3) ∧ w10.cell? ⟨w1.heap.size, 4, none⟩ = some (.slice o4 d.wait.length c4)) ∧ (w10.cell? ⟨w1.heap.size + 1, 0, none⟩ = some (.bool x.ring) ∧ w10.cell? ⟨w1.heap.size + 1, 1, none⟩ = some (.int .i64 x.pos) ∧ w10.cell? ⟨w1.heap.size + 1, 2, none⟩ = some (.string x.text)) ∧ (w10.cell? ⟨w2.heap.size, 0, none⟩ = some (.int .i64 r.state) ∧ w10.cell? ⟨w2.heap.size, 1, none⟩ = some (.slice x1 12 e1) ∧ w10.cell? ⟨w2.heap.size, 2, none⟩ = some (.slice x2 r.rings.length e2) ∧ w10.cell? ⟨w2.heap.size, 3, none⟩ = some (.slice x3 r.spoilt.length e3) ∧ w10.cell? ⟨w2.heap.size, 4, none⟩ = some (.slice x4 r.wait.length e4))); clear hB8))
      clear p0 p1 p2 p3 p4
      clear n0 n1 n2
      clear s0 s1 s2 s3 s4
      have KO := Lib.hid (KO.out.below cur.out KO.out.lt)
      have KQ := Lib.hid (KQ.out.below cur.out KQ.out.lt)
      have KX := Lib.hid (KX.out.below cur.out KX.out.lt)
      have VD := Lib.hid (VD.out.below cur.out)
      have VX := Lib.hid (VX.out.below cur.out)
      have B := Lib.hid (below_trans B.out cur.out B.out.size)
      clear cur
      go_wp2
      go_ret
      exact ⟨rfl, B.out⟩

set_option maxRecDepth 100000 in
set_option maxHeartbeats 1000000 in
theorem walk (a0 : Option Addr) (len0 cap0 : Nat) (z0 : List Int) (w : World) (w0 : IsBytes w a0 len0 cap0 z0) :
    Calls Try.prog 11 #[.slice a0 len0 cap0] w fun e w' => e = .returned (.bool true) ∧ Below w.heap.size w w' := by
  by_cases h0 : len0 ≤ 1048576
  · exact main a0 len0 cap0 z0 w h0 w0
  · have hm : len0 ≤ maxLen := by have := w0.opened; omega
    have d0 : decide (1048576 < (len0 : Int)) = true := by simp; omega
    clear w0
    go_enter Try.func11, Try.ntmps11
    go_wp2
    go_ret
    exact ⟨rfl, Below.refl _ _⟩

set_option maxRecDepth 100000 in
theorem lifted (os : Os) (started : os.Started) (H : Type) (enc : TypeId × Value → H) :
    ReturnsInHanded {} Try.checked os 11 .any (Rows.fnDiskMostSpec.pre6 enc Try.prog Try.f11 Rows.fnDiskMostRow.domain false) (Rows.fnDiskMostSpec.post enc Try.prog Try.f11 false true false false) := by
  refine returnsInHanded_of_change (C := Try.checked) own started (by kernel_rfl) Try.func11
    (ChangeSpec.witness6 (enc := enc) (C := Try.checked) false ⟨#[], #[.slice none 0 0], []⟩ 8 (by kernel_rfl) (by kernel_rfl) (by kernel_rfl) (by kernel_rfl)) ?_
  intro W base args ds gs before hval0 hW hcnd _
  have hval : ∀ (j : Nat) t v, Try.f11.params[j]? = some t → args[j]? = some v → Value.okWide Try.prog W .any base t v := hval0
  have hW' := hW
  obtain ⟨p, q, hA0, hV, rfl, hfz, hnd⟩ := hW
  have hA : DataW.TrodAll enc Try.prog W 0 (fun _ => true) true Try.f11.params.toList args.toList ds p := hA0
  rw [Try.params11] at hA hval
  obtain ⟨v0, vs0, d0, ds0, p0, q0, hargs, rfl, rfl, h0, r0⟩ := trodAll_cons hA
  obtain ⟨rfl, rfl, rfl⟩ := trodAll_nil r0
  obtain rfl : args = #[v0] := by cases args; simp_all
  obtain ⟨rfl, rfl⟩ := trodVars_none hV
  have k0 := h0
  have lt0 : ∀ x ∈ p0, x.block < W.heap.size := by obtain ⟨m, hm⟩ := k0; exact DataW.trod_lt m _ _ _ hm
  obtain ⟨a0, len0, cap0, rfl⟩ := okWide_slice Try.underlying36 (hval 0 36 v0 rfl rfl)
  obtain ⟨z0, w0⟩ : ∃ zs, IsBytes W a0 len0 cap0 zs := by
    obtain ⟨fuel, hf⟩ := h0
    rcases open_ints Try.underlying36 Try.underlying5 (by kernel_rfl) hf with ⟨hcs, _⟩ | ⟨x, l, c, zs, hcs, _, hl, hm, hz, _, hcell, hwz⟩
    · simp [Value.cells] at hcs
      obtain ⟨rfl, rfl, rfl⟩ := hcs
      exact ⟨[], .inl ⟨rfl, rfl, rfl, rfl⟩⟩
    · simp [Value.cells] at hcs
      obtain ⟨rfl, rfl, rfl⟩ := hcs
      exact ⟨zs, .inr ⟨_, rfl, hl, hm, by simpa using hz, hcell, hwz⟩⟩
  clear hA0 hval0
  refine (walk a0 len0 cap0 z0 W w0).mono fun e W' ⟨he, bel⟩ => ?_
  subst he
  exact ⟨_, rfl, _, _, _, [], _, [], hW', trodAll_mk1 (shut_bool Try.underlying4 _), (trodAll_cons_mk (Below.trod laidOut (by kernel_rfl) (of_decide_eq_true (by kernel_rfl)) k0 bel lt0) trodAll_mk0), rfl, bel.frame _, fun h => by cases h⟩

theorem over : Rows.fnDiskMostRow.holds Try.pinned (OpenSpec.ofChange Rows.fnDiskMostSpec) :=
  OpenClaim.holds_of_wide 11 Try.f11 rfl rfl rfl rfl rfl rfl rfl ⟨rfl, rfl, rfl, rfl, rfl⟩ rfl rfl rfl rfl rfl (by kernel_rfl) Try.func11 (by kernel_rfl)
    (of_decide_eq_true (by kernel_rfl)) (by unfold Func.isWrapper; first | (rw [if_pos (by decide +kernel)]; kernel_rfl) | (rw [if_neg (by decide +kernel)]; exact ⟨rfl, rfl⟩))
    (fun os started H enc _ => lifted os started H enc)

end FnDiskMost

theorem FnDiskMost_holds : Rows.FnDiskMostSaid := FnDiskMost.over

end Go.Proofs.Ytbkagnlomlnhcaa
