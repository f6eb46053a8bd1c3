/- slices.Delete of one volume: the library's own text. Conditions: none but the row's own bound on sizes. -/
import Derived.Test.YtmmckpjapnkepaaIQ
namespace Go.Proofs.Ytmmckpjapnkepaa
open Go.RowKit Go.Sort

def zeroSh : List Value := [.string ⟨#[]⟩, .slice none 0 0]
theorem run_clear_one (w : World) (ty : TypeId) (b o c : Nat) (hc : ∀ j, j < 2 → (w.cell? ⟨b, o + j, none⟩).isSome = true) (hf : ∀ j, j < 2 → w.frozen? ⟨b, o + j, none⟩ = false) :
    (Builtin.clear_ #[23] ty #[.slice (some ⟨b, o, none⟩) 1 c]).run Try.prog w = .ok (.tuple #[]) (w.setCells b o zeroSh) := by
  have hzc : (Builtin.zeroCells (Value.agg #[.string ⟨#[]⟩, .slice none 0 0]).cells 1).toList = zeroSh := by
    have e0 : Array.range 2 = #[0, 1] := by apply Array.toList_inj.1; rw [Array.toList_range]; rfl
    have e1 : (Value.agg #[.string ⟨#[]⟩, .slice none 0 0]).cells = #[.string ⟨#[]⟩, .slice none 0 0] := by kernel_rfl
    rw [e1]
    simp [Builtin.zeroCells, e0, zeroSh]
  have hst := run_storeCells_cells (P := Try.prog) b o zeroSh 0 w (by simpa [zeroSh] using hc) (by simpa [zeroSh] using hf) (by intro v hv; simp [zeroSh] at hv; rcases hv with rfl | rfl <;> rfl)
  simp only [Nat.add_zero] at hst
  simp [Builtin.clear_, run_underlying Try.underlying23, hzc, hst]

set_option linter.unusedSimpArgs false in
set_option maxRecDepth 100000 in
set_option maxHeartbeats 4000000 in
theorem slDelete_any (base gs cap k : Nat) (ss : List ShD) (ys : List Value) (g : Nat → Nat) (w : World) (k1 : w.ownsRow base 35 2 (.slice (some ⟨gs, 0, none⟩) ss.length cap) ss.length ys) (k2 : ∀ j, j < ss.length → ShC w base ss g ys j) (hk : k < ss.length) (h4 : ss.length ≤ 4) (hcap : ss.length ≤ cap) :
    Calls Try.prog 74 #[.slice (some ⟨gs, 0, none⟩) ss.length cap, .int .i64 (k : Int), .int .i64 ((k + 1 : Nat) : Int)] w fun e w' => e = .returned (.slice (some ⟨gs, 0, none⟩) (ss.length - 1) cap) ∧ w' = (w.drew.setCells gs (k * 2) (ys.drop ((k + 1) * 2))).setCells gs ((ss.length - 1) * 2) zeroSh := by
  obtain ⟨i0, hi0, hz0, hz1, hz2⟩ := info_parts infoSh
  have k1d := own_below k1 (Below.refl _ w).drew
  have k2d := fun j hj => (k2 j hj).below (Below.refl _ w).drew
  have hdel := run_append_del i0 hi0 hz1 k1d k2d hk hcap
  have k1s := own_setCells (ys.drop ((k + 1) * 2)) (k * 2) _ _ k1d
  obtain ⟨q1, hq1⟩ : ∃ q, q = k + 1 := ⟨_, rfl⟩
  obtain ⟨m, hm⟩ : ∃ m, m = ss.length - 1 := ⟨_, rfl⟩
  rw [← hq1] at hdel k1s ⊢
  rw [← hm] at hdel ⊢
  obtain ⟨W, hW⟩ : ∃ W, w.drew.setCells gs (k * 2) (ys.drop (q1 * 2)) = W := ⟨_, rfl⟩
  rw [hW] at hdel k1s ⊢
  have hcl := fun ty => run_clear_one W ty gs (m * 2) (cap - m)
    (fun j hj => by rw [(own_cell k1s (m * 2 + j) (by omega)).1, List.getElem?_eq_getElem (by rw [layL_len, k1d.1]; omega)]; rfl)
    (fun j hj => (own_cell k1s (m * 2 + j) (by omega)).2.1)
  have HWz : Hid (∀ v, v = W.setCells gs (m * 2) zeroSh → v = W.setCells gs (m * 2) zeroSh) := fun _ h => h
  have Hq := Lib.hid hq1
  have Hm := Lib.hid hm
  have f0 : (0 : Int) ≤ (k : Int) := by omega
  have f1 : (k : Int) ≤ (q1 : Int) := by omega
  have f2 : (q1 : Int) ≤ (ss.length : Int) := by omega
  have f3 : (ss.length : Int) ≤ (cap : Int) := by omega
  have f4 : ((k : Int) == (q1 : Int)) = false := by simp; omega
  have f5 : (k : Int) ≤ (cap : Int) := by omega
  have f6 : (0 : Int) ≤ (q1 : Int) := by omega
  have f7 : (m : Int) ≤ (ss.length : Int) := by omega
  have f8 : (0 : Int) ≤ (m : Int) := by omega
  have f9 : ¬cap = m := by omega
  have g1 : ss.length - m = 1 := by omega
  have g2 : (q1 : Int) ≤ (cap : Int) := by omega
  have g3 : ¬((k : Int) = (q1 : Int)) := by omega
  have g4 : ¬(k = q1) := by omega
  generalize hz : W.setCells gs (m * 2) zeroSh = W2 at hcl HWz ⊢
  clear k1 k2 k1d k2d k1s hW hz
  by_cases hc : cap = q1
  · have hr2 := hdel 0 (.inr (by omega)) 23 0
    rw [show ss.length - q1 = 0 by omega] at hr2
    clear hdel hq1 hm hk h4 hcap
    subst hc
    go_enter Try.func74, Try.ntmps74
    go_wp2_with fail
    refine AnyS.start (S := (fun _ : World => True)) (L := 7) (by kernel_rfl) ?_
    refine AnyS.take 0 (show _ = some _ from rfl) rfl (by kernel_rfl) (by kernel_rfl) (by kernel_rfl) (by kernel_rfl) (fun _ _ _ h => h) trivial (by rfl) (fun w' hSw => by go_simp; try with_reducible rfl) ?_
    try simp only [Act.put, List.setIfInBounds_toArray, List.set_cons_zero, List.set_cons_succ]
    refine AnyS.take 1 (show _ = some _ from rfl) rfl (by kernel_rfl) (by kernel_rfl) (by kernel_rfl) (by kernel_rfl) (fun _ _ _ h => h) trivial (by rfl) (fun w' hSw => by go_simp; try with_reducible rfl) ?_
    try simp only [Act.put, List.setIfInBounds_toArray, List.set_cons_zero, List.set_cons_succ]
    refine AnyS.take 2 (show _ = some _ from rfl) rfl (by kernel_rfl) (by kernel_rfl) (by kernel_rfl) (by kernel_rfl) (fun _ _ _ h => h) trivial (by rfl) (fun w' hSw => by go_simp; try with_reducible rfl) ?_
    try simp only [Act.put, List.setIfInBounds_toArray, List.set_cons_zero, List.set_cons_succ]
    refine AnyS.take 3 (show _ = some _ from rfl) rfl (by kernel_rfl) (by kernel_rfl) (by kernel_rfl) (by kernel_rfl) (fun _ _ _ h => h) trivial (by rfl) (fun w' hSw => by go_simp; try with_reducible rfl) ?_
    try simp only [Act.put, List.setIfInBounds_toArray, List.set_cons_zero, List.set_cons_succ]
    refine AnyS.take 4 (show _ = some _ from rfl) rfl (by kernel_rfl) (by kernel_rfl) (by kernel_rfl) (by kernel_rfl) (fun _ _ _ h => h) trivial (by rfl) (fun w' hSw => by go_simp; try with_reducible rfl) ?_
    try simp only [Act.put, List.setIfInBounds_toArray, List.set_cons_zero, List.set_cons_succ]
    refine AnyS.take 5 (show _ = some _ from rfl) rfl (by kernel_rfl) (by kernel_rfl) (by kernel_rfl) (by kernel_rfl) (fun _ _ _ h => h) trivial (by rfl) (fun w' hSw => by go_simp; try with_reducible rfl) ?_
    try simp only [Act.put, List.setIfInBounds_toArray, List.set_cons_zero, List.set_cons_succ]
    refine AnyS.one 6 (by kernel_rfl) (show _ = some _ from rfl) (fun K' hK' => ?_)
    refine step_append_run (by rfl) (.tmp 22) (.tmp 25) 23 (some 26) (by rfl) (by rfl) _ _ _ ?_ ?_ hr2 ?_
    · simp [Act.eval]
    · simp [Act.eval] <;> omega
    refine hK' _ _ ⟨?_, fun _ => trivial⟩
    clear hK' K'
    try simp only [Act.put, List.setIfInBounds_toArray, List.set_cons_zero, List.set_cons_succ]
    refine AnyS.one 7 (by kernel_rfl) (show _ = some _ from rfl) (fun K' hK' => ?_)
    go_simp
    refine hK' _ _ ⟨AnyS.done (by kernel_rfl) ?_, fun h => absurd rfl h⟩
    clear hK' K'
    try simp only [Act.put, List.setIfInBounds_toArray, List.set_cons_zero, List.set_cons_succ]
    go_wp2
    go_ret
    exact ⟨rfl, rfl⟩
  · have hr2 := hdel (q1 * 2) (.inl (by rw [hq1])) 23 (cap - q1)
    clear hdel hq1 hm hk h4 hcap
    go_enter Try.func74, Try.ntmps74
    go_wp2_with fail
    refine AnyS.start (S := (fun _ : World => True)) (L := 7) (by kernel_rfl) ?_
    refine AnyS.take 0 (show _ = some _ from rfl) rfl (by kernel_rfl) (by kernel_rfl) (by kernel_rfl) (by kernel_rfl) (fun _ _ _ h => h) trivial (by rfl) (fun w' hSw => by go_simp; try with_reducible rfl) ?_
    try simp only [Act.put, List.setIfInBounds_toArray, List.set_cons_zero, List.set_cons_succ]
    refine AnyS.take 1 (show _ = some _ from rfl) rfl (by kernel_rfl) (by kernel_rfl) (by kernel_rfl) (by kernel_rfl) (fun _ _ _ h => h) trivial (by rfl) (fun w' hSw => by go_simp; try with_reducible rfl) ?_
    try simp only [Act.put, List.setIfInBounds_toArray, List.set_cons_zero, List.set_cons_succ]
    refine AnyS.take 2 (show _ = some _ from rfl) rfl (by kernel_rfl) (by kernel_rfl) (by kernel_rfl) (by kernel_rfl) (fun _ _ _ h => h) trivial (by rfl) (fun w' hSw => by go_simp; try with_reducible rfl) ?_
    try simp only [Act.put, List.setIfInBounds_toArray, List.set_cons_zero, List.set_cons_succ]
    refine AnyS.take 3 (show _ = some _ from rfl) rfl (by kernel_rfl) (by kernel_rfl) (by kernel_rfl) (by kernel_rfl) (fun _ _ _ h => h) trivial (by rfl) (fun w' hSw => by go_simp; try with_reducible rfl) ?_
    try simp only [Act.put, List.setIfInBounds_toArray, List.set_cons_zero, List.set_cons_succ]
    refine AnyS.take 4 (show _ = some _ from rfl) rfl (by kernel_rfl) (by kernel_rfl) (by kernel_rfl) (by kernel_rfl) (fun _ _ _ h => h) trivial (by rfl) (fun w' hSw => by go_simp; try with_reducible rfl) ?_
    try simp only [Act.put, List.setIfInBounds_toArray, List.set_cons_zero, List.set_cons_succ]
    refine AnyS.take 5 (show _ = some _ from rfl) rfl (by kernel_rfl) (by kernel_rfl) (by kernel_rfl) (by kernel_rfl) (fun _ _ _ h => h) trivial (by rfl) (fun w' hSw => by go_simp; try with_reducible rfl) ?_
    try simp only [Act.put, List.setIfInBounds_toArray, List.set_cons_zero, List.set_cons_succ]
    refine AnyS.one 6 (by kernel_rfl) (show _ = some _ from rfl) (fun K' hK' => ?_)
    refine step_append_run (by rfl) (.tmp 22) (.tmp 25) 23 (some 26) (by rfl) (by rfl) _ _ _ ?_ ?_ hr2 ?_
    · simp [Act.eval]
    · simp [Act.eval] <;> omega
    refine hK' _ _ ⟨?_, fun _ => trivial⟩
    clear hK' K'
    try simp only [Act.put, List.setIfInBounds_toArray, List.set_cons_zero, List.set_cons_succ]
    refine AnyS.one 7 (by kernel_rfl) (show _ = some _ from rfl) (fun K' hK' => ?_)
    go_simp
    refine hK' _ _ ⟨AnyS.done (by kernel_rfl) ?_, fun h => absurd rfl h⟩
    clear hK' K'
    try simp only [Act.put, List.setIfInBounds_toArray, List.set_cons_zero, List.set_cons_succ]
    go_wp2
    go_ret
    exact ⟨rfl, rfl⟩

end Go.Proofs.Ytmmckpjapnkepaa
