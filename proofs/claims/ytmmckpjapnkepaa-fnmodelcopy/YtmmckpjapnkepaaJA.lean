/- One of several texts; a drawn name. Conditions: the reader's place is small. -/
import Derived.Test.YtmmckpjapnkepaaDO
import Derived.Test.YtmmckpjapnkepaaI1
import Derived.Test.YtmmckpjapnkepaaVS
import Derived.Lib.Hide
namespace Go.Proofs.Ytmmckpjapnkepaa
open Go.RowKit Go.Sort

/-- A LIST OF TEXTS of at most m bytes that lies at an address, whatever turns beside. -/
def LitAt (w : World) (g n m : Nat) : Prop := ∀ j, j < n → ∃ t : ByteArray, w.cell? ⟨g, j, none⟩ = some (.string t) ∧ t.size ≤ m
def strs (m : Nat) : List Value → Bool
  | [] => true
  | .string t :: r => decide (t.size ≤ m) && strs m r
  | _ => false
theorem strs_at {m : Nat} : ∀ (l : List Value), strs m l = true → ∀ j, j < l.length → ∃ t : ByteArray, l[j]? = some (.string t) ∧ t.size ≤ m := by
  intro l
  induction l with
  | nil => intro _ j hj; simp at hj
  | cons v r ih =>
    intro h j hj
    cases v with
    | string t =>
      simp only [strs, Bool.and_eq_true, decide_eq_true_eq] at h
      cases j with
      | zero => exact ⟨t, rfl, h.1⟩
      | succ j => exact ih h.2 j (by simpa using hj)
    | _ => simp [strs] at h
theorem litAt_new (w : World) (vs : Array Value) (m : Nat) (h : strs m vs.toList = true) : LitAt (w.alloc (.cells vs 9)) w.heap.size vs.size m := fun j hj => by
  obtain ⟨t, h1, h2⟩ := strs_at vs.toList h j (by simpa using hj)
  exact ⟨t, by rw [(Blk.new w vs 9).cell j]; simpa using h1, h2⟩
/-- WHAT IS CHOSEN. -/
def Chosen (n₀ B p m : Nat) (w : World) (e : Ending) (w' : World) : Prop :=
  ∃ t : ByteArray, e = .returned (.string t) ∧ t.size ≤ m ∧ Rd n₀ B (p + 1) w' ∧ w.grownBy w' (some B)

set_option maxRecDepth 100000 in
set_option maxHeartbeats 2000000 in
theorem ofLit_any (n₀ B p g n c m : Nat) (w : World) (hp : p ≤ 900000) (hR : Rd n₀ B p w) (h0 : 0 < n) (hm : n ≤ 1000) (hgB : g ≠ B) (hc : Hid (LitAt w g n m)) :
    Calls Try.prog 52 #[.pointer (some ⟨B, 0, none⟩), .slice (some ⟨g, 0, none⟩) n c] w (Chosen n₀ B p m w) := by
  have HP := Lib.hid (pick_any n₀ B p (n : Int) w (by omega) hR)
  clear hR
  go_enter Try.func52, Try.ntmps52
  go_wp2_with fail
  refine HP.out.mono ?_
  rintro e w1 ⟨v, rfl, hv0, hvn, hR1, hg1⟩
  have hv1 := hvn (by omega)
  clear hvn
  obtain ⟨i, rfl⟩ := Int.eq_ofNat_of_zero_le hv0
  have hi : i < n := by omega
  obtain ⟨t, c0, ht⟩ := hc.out i hi
  have c1 : w1.cell? ⟨g, i, none⟩ = some (.string t) := hg1.cell c0 (by simp; exact hgB)
  have HX : Hid (Chosen n₀ B p m w (.returned (.string t)) w1) := ⟨t, rfl, ht, hR1, hg1⟩
  clear c0 hR1 hg1 ht
  go_wp2_with fail
  go_ret
  exact HX.out

/-- WHAT l73Name ANSWERS. -/
def Named (n₀ B p : Nat) (w : World) (e : Ending) (w' : World) : Prop :=
  ∃ (t : ByteArray) (q : Nat), e = .returned (.string t) ∧ t.size ≤ 1048576 ∧ q ≤ p + 2 ∧ Rd n₀ B q w' ∧ w.grownBy w' (some B)

set_option linter.unusedSimpArgs false in
set_option maxRecDepth 100000 in
set_option maxHeartbeats 4000000 in
theorem l73Name_any (n₀ B p : Nat) (a : Option Addr) (c : Nat) (ss : List ShD) (w : World) (hp : p ≤ 800000) (hR : Rd n₀ B p w) (hl : ss.length ≤ 1000) (hs : Hid (MdSmall ss)) (hx : Hid (∀ w', w.grownBy w' (some B) → ShAt w' a ss)) :
    Calls Try.prog 35 #[.pointer (some ⟨B, 0, none⟩), .agg #[.slice a ss.length c]] w (Named n₀ B p w) := by
  obtain ⟨w0, HW, hR0, hg0, hK0⟩ : ∃ w0, w.alloc (.cells #[.slice a ss.length c] 25) = w0 ∧ Rd n₀ B p w0 ∧ w.grownBy w0 (some B) ∧ Blk w0 w.heap.size #[.slice a ss.length c] 25 :=
    ⟨_, rfl, hR.alloc _, World.grownBy_alloc w _ _, Blk.new _ _ _⟩
  have hBlt := hR.lt
  have hDB : w.heap.size ≠ B := by omega
  have HG0 := Lib.hid hg0
  have HR0 := Lib.hid hR0
  have c0 : w0.cell? ⟨w.heap.size, 0, none⟩ = some (.slice a ss.length c) := hK0.cell 0
  clear hR hR0 hK0
  by_cases h0 : 0 < ss.length
  · have d0 : decide ((ss.length : Int) > 0) = true := by simp; omega
    have HP := Lib.hid (pick_any n₀ B p 5 w0 (by omega) HR0.out)
    go_enter Try.func35, Try.ntmps35
    go_wp2_with fail
    refine HP.out.mono ?_
    rintro e w1 ⟨v, rfl, hv0, hvn, hR1, hg1⟩
    have HR1 := Lib.hid hR1
    have HG1 := Lib.hid (HG0.out.trans hg1)
    have c1 : w1.cell? ⟨w.heap.size, 0, none⟩ = some (.slice a ss.length c) := hg1.cell c0 (by simp; exact hDB)
    clear hvn hR1 hg1
    by_cases hv : 0 < v
    · have dv : decide (v > 0) = true := by simp; omega
      have hg1d : w.grownBy w1.drew (some B) := grownBy_drew1 HG1.out
      have HR1d := Lib.hid HR1.out.drew
      have HP2 := Lib.hid (pick_any n₀ B (p + 1) (ss.length : Int) w1.drew (by omega) HR1d.out)
      have c2 : w1.drew.cell? ⟨w.heap.size, 0, none⟩ = some (.slice a ss.length c) := c1
      go_wp2_with fail
      refine AnyS.start (S := (fun w' : World => w'.cell? ⟨w.heap.size, 0, none⟩ = some (.slice a ss.length c))) (L := 10) (by kernel_rfl) ?_
      refine AnyS.take 0 (show _ = some _ from rfl) rfl (by kernel_rfl) (by kernel_rfl) (by kernel_rfl) (by kernel_rfl) (fun _ _ _ h => h) c2 (by rfl) (fun w' hSw => by obtain s1 := hSw; go_simp; try with_reducible rfl) ?_
      try simp only [Act.put, List.setIfInBounds_toArray, List.set_cons_zero, List.set_cons_succ]
      refine AnyS.take 1 (show _ = some _ from rfl) rfl (by kernel_rfl) (by kernel_rfl) (by kernel_rfl) (by kernel_rfl) (fun _ _ _ h => h) c2 (by rfl) (fun w' hSw => by obtain s1 := hSw; go_simp; try with_reducible rfl) ?_
      try simp only [Act.put, List.setIfInBounds_toArray, List.set_cons_zero, List.set_cons_succ]
      refine AnyS.take 2 (show _ = some _ from rfl) rfl (by kernel_rfl) (by kernel_rfl) (by kernel_rfl) (by kernel_rfl) (fun _ _ _ h => h) c2 (by rfl) (fun w' hSw => by obtain s1 := hSw; go_simp; try with_reducible rfl) ?_
      try simp only [Act.put, List.setIfInBounds_toArray, List.set_cons_zero, List.set_cons_succ]
      refine AnyS.take 3 (show _ = some _ from rfl) rfl (by kernel_rfl) (by kernel_rfl) (by kernel_rfl) (by kernel_rfl) (fun _ _ _ h => h) c2 (by rfl) (fun w' hSw => by obtain s1 := hSw; go_simp; try with_reducible rfl) ?_
      try simp only [Act.put, List.setIfInBounds_toArray, List.set_cons_zero, List.set_cons_succ]
      refine AnyS.take 4 (show _ = some _ from rfl) rfl (by kernel_rfl) (by kernel_rfl) (by kernel_rfl) (by kernel_rfl) (fun _ _ _ h => h) c2 (by rfl) (fun w' hSw => by obtain s1 := hSw; go_simp; try with_reducible rfl) ?_
      try simp only [Act.put, List.setIfInBounds_toArray, List.set_cons_zero, List.set_cons_succ]
      refine AnyS.take 5 (show _ = some _ from rfl) rfl (by kernel_rfl) (by kernel_rfl) (by kernel_rfl) (by kernel_rfl) (fun _ _ _ h => h) c2 (by rfl) (fun w' hSw => by obtain s1 := hSw; go_simp; try with_reducible rfl) ?_
      try simp only [Act.put, List.setIfInBounds_toArray, List.set_cons_zero, List.set_cons_succ]
      refine AnyS.one 6 (by kernel_rfl) (show _ = some _ from rfl) (fun K' hK' => ?_)
      go_simp
      go_at_call 36
      refine HP2.out.mono ?_
      rintro e w2 ⟨v2, rfl, hv20, hv2n, hR2, hg2⟩
      have hv2n := hv2n (by omega)
      obtain ⟨i, rfl⟩ := Int.eq_ofNat_of_zero_le hv20
      have hi : i < ss.length := by omega
      have c3 : w2.cell? ⟨w.heap.size, 0, none⟩ = some (.slice a ss.length c) := hg2.cell c2 (by simp; exact hDB)
      obtain ⟨b, off, rfl, hcc⟩ := (hx.out w2 (hg1d.trans hg2)).resolve_left (fun e => by subst e; simp at h0)
      have k3 := (hcc i hi).1
      have HS := Lib.hid (hs.out.2 i hi).1
      have HX : Hid (Named n₀ B p w (.returned (.string (ss.getD i sh0).name)) w2) := ⟨_, p + 2, rfl, HS.out, by omega, hR2, hg1d.trans hg2⟩
      generalize (ss.getD i sh0).name = T at k3 HX
      clear hcc hR2 hg2 HS
      go_simp
      refine hK' _ _ ⟨?_, fun _ => c3⟩
      clear hK' K'
      try simp only [Act.put, List.setIfInBounds_toArray, List.set_cons_zero, List.set_cons_succ]
      refine AnyS.one 7 (by kernel_rfl) (show _ = some _ from rfl) (fun K' hK' => ?_)
      go_simp
      refine hK' _ _ ⟨?_, fun _ => c3⟩
      clear hK' K'
      try simp only [Act.put, List.setIfInBounds_toArray, List.set_cons_zero, List.set_cons_succ]
      refine AnyS.one 8 (by kernel_rfl) (show _ = some _ from rfl) (fun K' hK' => ?_)
      go_simp
      refine hK' _ _ ⟨?_, fun _ => c3⟩
      clear hK' K'
      try simp only [Act.put, List.setIfInBounds_toArray, List.set_cons_zero, List.set_cons_succ]
      refine AnyS.one 9 (by kernel_rfl) (show _ = some _ from rfl) (fun K' hK' => ?_)
      go_simp
      refine hK' _ _ ⟨?_, fun _ => c3⟩
      clear hK' K'
      try simp only [Act.put, List.setIfInBounds_toArray, List.set_cons_zero, List.set_cons_succ]
      refine AnyS.one 10 (by kernel_rfl) (show _ = some _ from rfl) (fun K' hK' => ?_)
      go_simp
      refine hK' _ _ ⟨AnyS.done (by kernel_rfl) ?_, fun h => absurd rfl h⟩
      clear hK' K'
      try simp only [Act.put, List.setIfInBounds_toArray, List.set_cons_zero, List.set_cons_succ]
      go_wp2
      go_ret
      exact HX.out
    · have dv : decide (v > 0) = false := by simp; omega
      go_wp2_with fail
      refine (ofLit_any n₀ B (p + 1) _ 5 _ 10 _ (by omega) (HR1.out.alloc _) (by omega) (by omega) (by have := HR1.out.lt; omega) (Lib.hid (litAt_new w1 _ 10 rfl))).mono ?_
      rintro e w2 ⟨t, rfl, ht, hR2, hg2⟩
      have HX : Hid (Named n₀ B p w (.returned (.string t)) w2) := ⟨_, p + 2, rfl, by omega, by omega, hR2, (HG1.out.trans (World.grownBy_alloc w1 _ _)).trans hg2⟩
      clear hR2 hg2
      go_wp2
      go_ret
      exact HX.out
  · have d0 : decide ((ss.length : Int) > 0) = false := decide_eq_false (by omega)
    go_enter Try.func35, Try.ntmps35
    go_wp2_with fail
    refine (ofLit_any n₀ B p _ 5 _ 10 _ (by omega) (HR0.out.alloc _) (by omega) (by omega) (by have := HR0.out.lt; omega) (Lib.hid (litAt_new w0 _ 10 rfl))).mono ?_
    rintro e w2 ⟨t, rfl, ht, hR2, hg2⟩
    have HX : Hid (Named n₀ B p w (.returned (.string t)) w2) := ⟨_, p + 1, rfl, by omega, by omega, hR2, (HG0.out.trans (World.grownBy_alloc w0 _ _)).trans hg2⟩
    clear hR2 hg2
    go_wp2
    go_ret
    exact HX.out

end Go.Proofs.Ytmmckpjapnkepaa
