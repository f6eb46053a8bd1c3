/- 'laws.FnDiskNew' returns true at every code: of a drawn number DiskNew of the program answers as DiskNew of the specification, and such a disk is ok, is so, has nothing in its slots, and nothing waits. Conditions: none. -/
import Derived.Test.YtbkagnlomlnhcaaK
import Derived.Test.YtbkagnlomlnhcaaN2
import Derived.Test.YtbkagnlomlnhcaaN1
import Derived.Test.YtbkagnlomlnhcaaH1
import Derived.Test.YtbkagnlomlnhcaaDO
namespace Go.Proofs.Ytbkagnlomlnhcaa
open Go.ChangeShapes Go.WideShapes Go.ChangeAt Go.RowKit Go.Sort
namespace FnDiskNew
set_option linter.unusedVariables false

set_option maxHeartbeats 1000000 in
theorem draw_any (a : Option Addr) (len cap : Nat) (z : List Int) (w : World) (h : IsBytes w a len cap z) :
    Calls Try.prog 22 #[.slice a len cap] w fun e w' => (∃ n : Int, e = .returned (.int .i64 n)) ∧ Below w.heap.size w w' := by
  have H := Lib.hid h
  clear h
  go_enter Try.func22, Try.ntmps22
  go_wp2_with fail
  refine (l6Open_any a len cap z _ H.out).mono ?_
  rintro e w1 ⟨B, rfl, hR, hB⟩
  go_wp2_with fail
  refine (pick_any w.heap.size B 0 5 _ (by omega) hR).mono ?_
  rintro e w2 ⟨v, rfl, hv0, hvn, hR2, hg⟩
  go_wp2
  go_ret
  exact ⟨⟨_, rfl⟩, hB.trans (Below.ofGrown hg hR.1 hB.size)⟩

theorem new_fine {z : Int} (h : StateOk z) : DiskFine (diskNew z) := by
  rw [diskNew_yes h]
  have e1 : ∀ j, twelve.getD j ByteArray.empty = ByteArray.empty := fun j => by unfold twelve; rw [List.getD, List.getElem?_replicate]; split <;> rfl
  have e2 : ∀ j, twelveB.getD j false = false := fun j => by unfold twelveB; rw [List.getD, List.getElem?_replicate]; split <;> rfl
  have e3 : ∀ j, two2.getD j ByteArray.empty = ByteArray.empty := fun j => by unfold two2; rw [List.getD, List.getElem?_replicate]; split <;> rfl
  refine ⟨h, ⟨rfl, rfl, rfl, by simp⟩, fun j hj => .inl ⟨?_, e2 j⟩, fun j hj => ?_, fun j hj => by simp at hj, fun _ => ⟨fun j hj => ?_, fun j hj => ?_, rfl⟩⟩
  · show (twelve.getD j ByteArray.empty).size = 0
    rw [e1]; rfl
  · show (two2.getD j ByteArray.empty).size ≤ 700
    rw [e3]; exact Nat.zero_le _
  · show (twelve.getD j ByteArray.empty).size = 0
    rw [e1]; rfl
  · show (two2.getD j ByteArray.empty).size = 0
    rw [e3]; rfl
theorem new_read {z : Int} (h : StateOk z) {k : Nat} (hk : k < 12) : readD (diskNew z) (k : Int) = ByteArray.empty := by
  rw [read_eq (new_fine h) hk, diskNew_yes h]
  show twelve.getD k ByteArray.empty = _
  unfold twelve
  rw [List.getD, List.getElem?_replicate]
  split <;> rfl
theorem choose (z : Int) : ∃ r : DiskD, Hid (∀ W, Calls Try.prog 25 #[.int .i64 z] W (NewDisk r W)) ∧ Hid (∀ W, Calls Try.prog 23 #[.int .i64 z] W (NewDisk r W)) ∧
    (r.slots.length = 0 ∨ (r.slots.length ≠ 0 ∧ r.wait.length = 0 ∧ DiskFine r ∧ r.state = z ∧ Hid (∀ k : Nat, k < 12 → readD r (k : Int) = ByteArray.empty))) := by
  refine ⟨diskNew z, fun W => specNew_any z W, fun W => implNew_any z W, ?_⟩
  by_cases h : StateOk z
  · refine .inr ⟨?_, ?_, new_fine h, ?_, fun k hk => new_read h hk⟩
    · rw [diskNew_yes h]; exact fun e => by cases e
    · rw [diskNew_yes h]; rfl
    · rw [diskNew_yes h]
  · rw [diskNew_no h]; exact .inl rfl

set_option maxRecDepth 100000 in
set_option maxHeartbeats 4000000 in
theorem main (a : Option Addr) (len cap : Nat) (z0 : List Int) (w : World) (h0 : len ≤ 1048576) (H : Hid (IsBytes w a len cap z0)) :
    Calls Try.prog 4 #[.slice a len cap] w fun e w' => e = .returned (.bool true) ∧ Below w.heap.size w w' := by
  have d0 : decide (1048576 < (len : Int)) = false := by simp; omega
  go_enter Try.func4, Try.ntmps4
  go_wp2_with fail
  refine (draw_any a len cap z0 _ H.out).mono ?_
  rintro e w1 ⟨⟨n, rfl⟩, hB1⟩
  have B := Lib.hid hB1
  clear hB1
  obtain ⟨r, HS, HI, HF⟩ := choose n
  go_wp2_with fail
  refine (HI.out _).mono ?_
  rintro e w2 ⟨v2, rfl, o2, hB2⟩
  have B := Lib.hid (below_trans B.out hB2 B.out.size)
  have VX := Lib.hid o2.reads
  have hx := o2.reads
  obtain ⟨_, _, _, _, rfl, ⟨x1, e1, rfl, _⟩, ⟨x2, e2, rfl, _⟩, ⟨x3, e3, rfl, _⟩, ⟨x4, e4, rfl, _⟩⟩ := hx
  clear o2 hB2
  have hAl := Lib.hid (show Below w2.heap.size w2 (w2.alloc (.cells #[.int .i64 r.state, .slice x1 r.slots.length e1, .slice x2 r.rings.length e2, .slice x3 r.spoilt.length e3, .slice x4 r.wait.length e4] 30)) from (Below.refl _ _).alloc (Nat.le_refl _) _)
  have KX := Lib.hid (Blk.new w2 #[.int .i64 r.state, .slice x1 r.slots.length e1, .slice x2 r.rings.length e2, .slice x3 r.spoilt.length e3, .slice x4 r.wait.length e4] 30)
  have VX := Lib.hid (VX.out.below hAl.out)
  have B := Lib.hid (below_trans B.out hAl.out B.out.size)
  obtain ⟨s0, s1, s2, s3, s4⟩ : (w2.alloc (.cells #[.int .i64 r.state, .slice x1 r.slots.length e1, .slice x2 r.rings.length e2, .slice x3 r.spoilt.length e3, .slice x4 r.wait.length e4] 30)).cell? ⟨w2.heap.size, 0, none⟩ = some (.int .i64 r.state) ∧ (w2.alloc (.cells #[.int .i64 r.state, .slice x1 r.slots.length e1, .slice x2 r.rings.length e2, .slice x3 r.spoilt.length e3, .slice x4 r.wait.length e4] 30)).cell? ⟨w2.heap.size, 1, none⟩ = some (.slice x1 r.slots.length e1) ∧ (w2.alloc (.cells #[.int .i64 r.state, .slice x1 r.slots.length e1, .slice x2 r.rings.length e2, .slice x3 r.spoilt.length e3, .slice x4 r.wait.length e4] 30)).cell? ⟨w2.heap.size, 2, none⟩ = some (.slice x2 r.rings.length e2) ∧ (w2.alloc (.cells #[.int .i64 r.state, .slice x1 r.slots.length e1, .slice x2 r.rings.length e2, .slice x3 r.spoilt.length e3, .slice x4 r.wait.length e4] 30)).cell? ⟨w2.heap.size, 3, none⟩ = some (.slice x3 r.spoilt.length e3) ∧ (w2.alloc (.cells #[.int .i64 r.state, .slice x1 r.slots.length e1, .slice x2 r.rings.length e2, .slice x3 r.spoilt.length e3, .slice x4 r.wait.length e4] 30)).cell? ⟨w2.heap.size, 4, none⟩ = some (.slice x4 r.wait.length e4) := ⟨(KX.out.cell 0), (KX.out.cell 1), (KX.out.cell 2), (KX.out.cell 3), (KX.out.cell 4)⟩
  go_upto_region 5 with (fail)
  generalize w2.alloc (.cells #[.int .i64 r.state, .slice x1 r.slots.length e1, .slice x2 r.rings.length e2, .slice x3 r.spoilt.length e3, .slice x4 r.wait.length e4] 30) = W2 at hAl KX VX B s0 s1 s2 s3 s4 ⊢
  rcases HF with hz | ⟨hz, hw, hfine, hst, hread⟩
  · have dz : ((r.slots.length : Int) == 0) = true := beq_iff_eq.2 (by omega)
    clear hz
    have cur : Hid (Below W2.heap.size W2 W2.drew) := (Below.refl _ _).drew
    go_region_held3 (fun w' => (w'.cell? ⟨w2.heap.size, 0, none⟩ = some (.int .i64 r.state) ∧ w'.cell? ⟨w2.heap.size, 1, none⟩ = some (.slice x1 r.slots.length e1) ∧ w'.cell? ⟨w2.heap.size, 2, none⟩ = some (.slice x2 r.rings.length e2) ∧ w'.cell? ⟨w2.heap.size, 3, none⟩ = some (.slice x3 r.spoilt.length e3) ∧ w'.cell? ⟨w2.heap.size, 4, none⟩ = some (.slice x4 r.wait.length e4))) (first | with_reducible exact mm | go_keep)
      (first
        | (go_at_call 25; refine (HS.out _).mono ?_; rintro e w7 ⟨v7, rfl, o7, hB7⟩; have V7 := Lib.hid o7.reads; have hx := o7.reads; obtain ⟨_, _, _, _, rfl, ⟨z1, j1, rfl, _⟩, ⟨z2, j2, rfl, _⟩, ⟨z3, j3, rfl, _⟩, ⟨z4, j4, rfl, _⟩⟩ := hx; clear o7; have cur := Lib.hid (below_trans cur.out hB7 cur.out.size); have mm := (⟨((KX.out.below cur.out KX.out.lt).cell 0), ((KX.out.below cur.out KX.out.lt).cell 1), ((KX.out.below cur.out KX.out.lt).cell 2), ((KX.out.below cur.out KX.out.lt).cell 3), ((KX.out.below cur.out KX.out.lt).cell 4)⟩ : (w7.cell? ⟨w2.heap.size, 0, none⟩ = some (.int .i64 r.state) ∧ w7.cell? ⟨w2.heap.size, 1, none⟩ = some (.slice x1 r.slots.length e1) ∧ w7.cell? ⟨w2.heap.size, 2, none⟩ = some (.slice x2 r.rings.length e2) ∧ w7.cell? ⟨w2.heap.size, 3, none⟩ = some (.slice x3 r.spoilt.length e3) ∧ w7.cell? ⟨w2.heap.size, 4, none⟩ = some (.slice x4 r.wait.length e4))); clear hB7)
        | (go_at_call 24; refine (lpaDisk_same _ _ r _ (VX.out.below cur.out) V7.out).mono ?_; rintro e w8 ⟨rfl, hB8⟩; have cur := Lib.hid (below_trans cur.out hB8 cur.out.size); have mm := (⟨((KX.out.below cur.out KX.out.lt).cell 0), ((KX.out.below cur.out KX.out.lt).cell 1), ((KX.out.below cur.out KX.out.lt).cell 2), ((KX.out.below cur.out KX.out.lt).cell 3), ((KX.out.below cur.out KX.out.lt).cell 4)⟩ : (w8.cell? ⟨w2.heap.size, 0, none⟩ = some (.int .i64 r.state) ∧ w8.cell? ⟨w2.heap.size, 1, none⟩ = some (.slice x1 r.slots.length e1) ∧ w8.cell? ⟨w2.heap.size, 2, none⟩ = some (.slice x2 r.rings.length e2) ∧ w8.cell? ⟨w2.heap.size, 3, none⟩ = some (.slice x3 r.spoilt.length e3) ∧ w8.cell? ⟨w2.heap.size, 4, none⟩ = some (.slice x4 r.wait.length e4))); clear hB8))
    clear s0 s1 s2 s3 s4
    have KX := Lib.hid (KX.out.below cur.out KX.out.lt)
    have VX := Lib.hid (VX.out.below cur.out)
    have B := Lib.hid (below_trans B.out cur.out B.out.size)
    clear cur
    clear V7
    obtain ⟨W3, e3⟩ : ∃ x, x = w8 := ⟨_, rfl⟩
    subst e3
    obtain ⟨s0, s1, s2, s3, s4⟩ : W3.cell? ⟨w2.heap.size, 0, none⟩ = some (.int .i64 r.state) ∧ W3.cell? ⟨w2.heap.size, 1, none⟩ = some (.slice x1 r.slots.length e1) ∧ W3.cell? ⟨w2.heap.size, 2, none⟩ = some (.slice x2 r.rings.length e2) ∧ W3.cell? ⟨w2.heap.size, 3, none⟩ = some (.slice x3 r.spoilt.length e3) ∧ W3.cell? ⟨w2.heap.size, 4, none⟩ = some (.slice x4 r.wait.length e4) := ⟨(KX.out.cell 0), (KX.out.cell 1), (KX.out.cell 2), (KX.out.cell 3), (KX.out.cell 4)⟩
    have cur : Hid (Below W3.heap.size W3 W3.drew) := (Below.refl _ _).drew
    go_wp2_with fail
    go_region_held3 (fun w' => (w'.cell? ⟨w2.heap.size, 0, none⟩ = some (.int .i64 r.state) ∧ w'.cell? ⟨w2.heap.size, 1, none⟩ = some (.slice x1 r.slots.length e1) ∧ w'.cell? ⟨w2.heap.size, 2, none⟩ = some (.slice x2 r.rings.length e2) ∧ w'.cell? ⟨w2.heap.size, 3, none⟩ = some (.slice x3 r.spoilt.length e3) ∧ w'.cell? ⟨w2.heap.size, 4, none⟩ = some (.slice x4 r.wait.length e4))) (first | with_reducible exact mm | go_keep)
      (first
        | (go_at_call 25; refine (HS.out _).mono ?_; rintro e w7 ⟨v7, rfl, o7, hB7⟩; have V7 := Lib.hid o7.reads; have hx := o7.reads; obtain ⟨_, _, _, _, rfl, ⟨z1, j1, rfl, _⟩, ⟨z2, j2, rfl, _⟩, ⟨z3, j3, rfl, _⟩, ⟨z4, j4, rfl, _⟩⟩ := hx; clear o7; have cur := Lib.hid (below_trans cur.out hB7 cur.out.size); have mm := (⟨((KX.out.below cur.out KX.out.lt).cell 0), ((KX.out.below cur.out KX.out.lt).cell 1), ((KX.out.below cur.out KX.out.lt).cell 2), ((KX.out.below cur.out KX.out.lt).cell 3), ((KX.out.below cur.out KX.out.lt).cell 4)⟩ : (w7.cell? ⟨w2.heap.size, 0, none⟩ = some (.int .i64 r.state) ∧ w7.cell? ⟨w2.heap.size, 1, none⟩ = some (.slice x1 r.slots.length e1) ∧ w7.cell? ⟨w2.heap.size, 2, none⟩ = some (.slice x2 r.rings.length e2) ∧ w7.cell? ⟨w2.heap.size, 3, none⟩ = some (.slice x3 r.spoilt.length e3) ∧ w7.cell? ⟨w2.heap.size, 4, none⟩ = some (.slice x4 r.wait.length e4))); clear hB7)
        | (go_at_call 24; refine (lpaDisk_same _ _ r _ (VX.out.below cur.out) V7.out).mono ?_; rintro e w8 ⟨rfl, hB8⟩; have cur := Lib.hid (below_trans cur.out hB8 cur.out.size); have mm := (⟨((KX.out.below cur.out KX.out.lt).cell 0), ((KX.out.below cur.out KX.out.lt).cell 1), ((KX.out.below cur.out KX.out.lt).cell 2), ((KX.out.below cur.out KX.out.lt).cell 3), ((KX.out.below cur.out KX.out.lt).cell 4)⟩ : (w8.cell? ⟨w2.heap.size, 0, none⟩ = some (.int .i64 r.state) ∧ w8.cell? ⟨w2.heap.size, 1, none⟩ = some (.slice x1 r.slots.length e1) ∧ w8.cell? ⟨w2.heap.size, 2, none⟩ = some (.slice x2 r.rings.length e2) ∧ w8.cell? ⟨w2.heap.size, 3, none⟩ = some (.slice x3 r.spoilt.length e3) ∧ w8.cell? ⟨w2.heap.size, 4, none⟩ = some (.slice x4 r.wait.length e4))); clear hB8))
    clear s0 s1 s2 s3 s4
    have KX := Lib.hid (KX.out.below cur.out KX.out.lt)
    have VX := Lib.hid (VX.out.below cur.out)
    have B := Lib.hid (below_trans B.out cur.out B.out.size)
    clear cur
    go_wp2
    go_ret
    exact ⟨rfl, B.out⟩
  · have dz : ((r.slots.length : Int) == 0) = false := beq_eq_false_iff_ne.2 (by omega)
    have dw : ((r.wait.length : Int) == 0) = true := beq_iff_eq.2 (by omega)
    have ds : ((r.state : Int) == n) = true := beq_iff_eq.2 hst
    have HOk := Lib.hid (fun v W hv => implOk_any v r W hv)
    rw [tt_true hfine] at HOk
    have Hst := Lib.hid hst
    clear hz hw hfine hst
    have cur : Hid (Below W2.heap.size W2 W2.drew) := (Below.refl _ _).drew
    go_region_held3 (fun w' => (w'.cell? ⟨w2.heap.size, 0, none⟩ = some (.int .i64 r.state) ∧ w'.cell? ⟨w2.heap.size, 1, none⟩ = some (.slice x1 r.slots.length e1) ∧ w'.cell? ⟨w2.heap.size, 2, none⟩ = some (.slice x2 r.rings.length e2) ∧ w'.cell? ⟨w2.heap.size, 3, none⟩ = some (.slice x3 r.spoilt.length e3) ∧ w'.cell? ⟨w2.heap.size, 4, none⟩ = some (.slice x4 r.wait.length e4))) (first | with_reducible exact mm | go_keep)
      (first
        | (go_at_call 25; refine (HS.out _).mono ?_; rintro e w7 ⟨v7, rfl, o7, hB7⟩; have V7 := Lib.hid o7.reads; have hx := o7.reads; obtain ⟨_, _, _, _, rfl, ⟨z1, j1, rfl, _⟩, ⟨z2, j2, rfl, _⟩, ⟨z3, j3, rfl, _⟩, ⟨z4, j4, rfl, _⟩⟩ := hx; clear o7; have cur := Lib.hid (below_trans cur.out hB7 cur.out.size); have mm := (⟨((KX.out.below cur.out KX.out.lt).cell 0), ((KX.out.below cur.out KX.out.lt).cell 1), ((KX.out.below cur.out KX.out.lt).cell 2), ((KX.out.below cur.out KX.out.lt).cell 3), ((KX.out.below cur.out KX.out.lt).cell 4)⟩ : (w7.cell? ⟨w2.heap.size, 0, none⟩ = some (.int .i64 r.state) ∧ w7.cell? ⟨w2.heap.size, 1, none⟩ = some (.slice x1 r.slots.length e1) ∧ w7.cell? ⟨w2.heap.size, 2, none⟩ = some (.slice x2 r.rings.length e2) ∧ w7.cell? ⟨w2.heap.size, 3, none⟩ = some (.slice x3 r.spoilt.length e3) ∧ w7.cell? ⟨w2.heap.size, 4, none⟩ = some (.slice x4 r.wait.length e4))); clear hB7)
        | (go_at_call 24; refine (lpaDisk_same _ _ r _ (VX.out.below cur.out) V7.out).mono ?_; rintro e w8 ⟨rfl, hB8⟩; have cur := Lib.hid (below_trans cur.out hB8 cur.out.size); have mm := (⟨((KX.out.below cur.out KX.out.lt).cell 0), ((KX.out.below cur.out KX.out.lt).cell 1), ((KX.out.below cur.out KX.out.lt).cell 2), ((KX.out.below cur.out KX.out.lt).cell 3), ((KX.out.below cur.out KX.out.lt).cell 4)⟩ : (w8.cell? ⟨w2.heap.size, 0, none⟩ = some (.int .i64 r.state) ∧ w8.cell? ⟨w2.heap.size, 1, none⟩ = some (.slice x1 r.slots.length e1) ∧ w8.cell? ⟨w2.heap.size, 2, none⟩ = some (.slice x2 r.rings.length e2) ∧ w8.cell? ⟨w2.heap.size, 3, none⟩ = some (.slice x3 r.spoilt.length e3) ∧ w8.cell? ⟨w2.heap.size, 4, none⟩ = some (.slice x4 r.wait.length e4))); clear hB8))
    clear s0 s1 s2 s3 s4
    have KX := Lib.hid (KX.out.below cur.out KX.out.lt)
    have VX := Lib.hid (VX.out.below cur.out)
    have B := Lib.hid (below_trans B.out cur.out B.out.size)
    clear cur
    go_wp2_with fail
    go_loopw [5] (fun i wr => ∃ k : Nat, i = .int .i64 (k : Int) ∧ k ≤ 12 ∧ Hid (Below w8.heap.size w8 wr)) (fun i _ => 12 - (intOf i).toNat)
    case atStart => exact ⟨0, rfl, by omega, Below.refl _ _⟩
    case round =>
      obtain ⟨k, rfl, hk, hBr⟩ := hrel
      have KX := Lib.hid (KX.out.below hBr.out KX.out.lt)
      have VX := Lib.hid (VX.out.below hBr.out)
      have B := Lib.hid (below_trans B.out hBr.out B.out.size)
      obtain ⟨s0, s1, s2, s3, s4⟩ : wr.cell? ⟨w2.heap.size, 0, none⟩ = some (.int .i64 r.state) ∧ wr.cell? ⟨w2.heap.size, 1, none⟩ = some (.slice x1 r.slots.length e1) ∧ wr.cell? ⟨w2.heap.size, 2, none⟩ = some (.slice x2 r.rings.length e2) ∧ wr.cell? ⟨w2.heap.size, 3, none⟩ = some (.slice x3 r.spoilt.length e3) ∧ wr.cell? ⟨w2.heap.size, 4, none⟩ = some (.slice x4 r.wait.length e4) := ⟨(KX.out.cell 0), (KX.out.cell 1), (KX.out.cell 2), (KX.out.cell 3), (KX.out.cell 4)⟩
      by_cases hlt : k < 12
      · have hr0 := hread.out k hlt
        go_wp2_with fail
        refine (implRead_any _ r (k : Int) _ VX.out).mono ?_
        rintro e w9 ⟨rfl, hB9⟩
        rw [hr0, isThere_empty]
        go_wp2
        exact ⟨⟨k + 1, by go_num, by omega, below_trans hBr.out hB9 hBr.out.size⟩, by simp [intOf]; omega⟩
      · obtain rfl : k = 12 := by omega
        go_wp2_with fail
        refine (HOk.out _ _ VX.out).mono ?_
        rintro e w9 ⟨rfl, hB9⟩
        clear s0 s1 s2 s3 s4
        have KX := Lib.hid (KX.out.below hB9 KX.out.lt)
        have VX := Lib.hid (VX.out.below hB9)
        have B := Lib.hid (below_trans B.out hB9 B.out.size)
        obtain ⟨s0, s1, s2, s3, s4⟩ : w9.cell? ⟨w2.heap.size, 0, none⟩ = some (.int .i64 r.state) ∧ w9.cell? ⟨w2.heap.size, 1, none⟩ = some (.slice x1 r.slots.length e1) ∧ w9.cell? ⟨w2.heap.size, 2, none⟩ = some (.slice x2 r.rings.length e2) ∧ w9.cell? ⟨w2.heap.size, 3, none⟩ = some (.slice x3 r.spoilt.length e3) ∧ w9.cell? ⟨w2.heap.size, 4, none⟩ = some (.slice x4 r.wait.length e4) := ⟨(KX.out.cell 0), (KX.out.cell 1), (KX.out.cell 2), (KX.out.cell 3), (KX.out.cell 4)⟩
        go_wp2
        go_ret
        exact ⟨rfl, B.out⟩

set_option maxRecDepth 100000 in
set_option maxHeartbeats 1000000 in
theorem walk (a0 : Option Addr) (len0 cap0 : Nat) (z0 : List Int) (w : World) (w0 : IsBytes w a0 len0 cap0 z0) :
    Calls Try.prog 4 #[.slice a0 len0 cap0] w fun e w' => e = .returned (.bool true) ∧ Below w.heap.size w w' := by
  by_cases h0 : len0 ≤ 1048576
  · exact main a0 len0 cap0 z0 w h0 w0
  · have hm : len0 ≤ maxLen := by have := w0.opened; omega
    have d0 : decide (1048576 < (len0 : Int)) = true := by simp; omega
    clear w0
    go_enter Try.func4, Try.ntmps4
    go_wp2
    go_ret
    exact ⟨rfl, Below.refl _ _⟩

set_option maxRecDepth 100000 in
theorem lifted (os : Os) (started : os.Started) (H : Type) (enc : TypeId × Value → H) :
    ReturnsInHanded {} Try.checked os 4 .any (Rows.fnDiskNewSpec.pre6 enc Try.prog Try.f4 Rows.fnDiskNewRow.domain false) (Rows.fnDiskNewSpec.post enc Try.prog Try.f4 false true false false) := by
  refine returnsInHanded_of_change (C := Try.checked) own started (by kernel_rfl) Try.func4
    (ChangeSpec.witness6 (enc := enc) (C := Try.checked) false ⟨#[], #[.slice none 0 0], []⟩ 8 (by kernel_rfl) (by kernel_rfl) (by kernel_rfl) (by kernel_rfl)) ?_
  intro W base args ds gs before hval0 hW hcnd _
  have hval : ∀ (j : Nat) t v, Try.f4.params[j]? = some t → args[j]? = some v → Value.okWide Try.prog W .any base t v := hval0
  have hW' := hW
  obtain ⟨p, q, hA0, hV, rfl, hfz, hnd⟩ := hW
  have hA : DataW.TrodAll enc Try.prog W 0 (fun _ => true) true Try.f4.params.toList args.toList ds p := hA0
  rw [Try.params4] at hA hval
  obtain ⟨v0, vs0, d0, ds0, p0, q0, hargs, rfl, rfl, h0, r0⟩ := trodAll_cons hA
  obtain ⟨rfl, rfl, rfl⟩ := trodAll_nil r0
  obtain rfl : args = #[v0] := by cases args; simp_all
  obtain ⟨rfl, rfl⟩ := trodVars_none hV
  have k0 := h0
  have lt0 : ∀ x ∈ p0, x.block < W.heap.size := by obtain ⟨m, hm⟩ := k0; exact DataW.trod_lt m _ _ _ hm
  obtain ⟨a0, len0, cap0, rfl⟩ := okWide_slice Try.underlying36 (hval 0 36 v0 rfl rfl)
  obtain ⟨z0, w0⟩ : ∃ zs, IsBytes W a0 len0 cap0 zs := by
    obtain ⟨fuel, hf⟩ := h0
    rcases open_ints Try.underlying36 Try.underlying5 (by kernel_rfl) hf with ⟨hcs, _⟩ | ⟨x, l, c, zs, hcs, _, hl, hm, hz, _, hcell, hwz⟩
    · simp [Value.cells] at hcs
      obtain ⟨rfl, rfl, rfl⟩ := hcs
      exact ⟨[], .inl ⟨rfl, rfl, rfl, rfl⟩⟩
    · simp [Value.cells] at hcs
      obtain ⟨rfl, rfl, rfl⟩ := hcs
      exact ⟨zs, .inr ⟨_, rfl, hl, hm, by simpa using hz, hcell, hwz⟩⟩
  clear hA0 hval0
  refine (walk a0 len0 cap0 z0 W w0).mono fun e W' ⟨he, bel⟩ => ?_
  subst he
  exact ⟨_, rfl, _, _, _, [], _, [], hW', trodAll_mk1 (shut_bool Try.underlying4 _), (trodAll_cons_mk (Below.trod laidOut (by kernel_rfl) (of_decide_eq_true (by kernel_rfl)) k0 bel lt0) trodAll_mk0), rfl, bel.frame _, fun h => by cases h⟩

theorem over : Rows.fnDiskNewRow.holds Try.pinned (OpenSpec.ofChange Rows.fnDiskNewSpec) :=
  OpenClaim.holds_of_wide 4 Try.f4 rfl rfl rfl rfl rfl rfl rfl ⟨rfl, rfl, rfl, rfl, rfl⟩ rfl rfl rfl rfl rfl (by kernel_rfl) Try.func4 (by kernel_rfl)
    (of_decide_eq_true (by kernel_rfl)) (by unfold Func.isWrapper; first | (rw [if_pos (by decide +kernel)]; kernel_rfl) | (rw [if_neg (by decide +kernel)]; exact ⟨rfl, rfl⟩))
    (fun os started H enc _ => lifted os started H enc)

end FnDiskNew

theorem FnDiskNew_holds : Rows.FnDiskNewSaid := FnDiskNew.over

end Go.Proofs.Ytbkagnlomlnhcaa
