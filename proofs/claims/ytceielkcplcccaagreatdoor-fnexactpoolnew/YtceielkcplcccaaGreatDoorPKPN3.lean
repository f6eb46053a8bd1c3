/- PoolNew of the specification. Conditions: none. -/
import Derived.Test.YtceielkcplcccaaGreatDoorPKH0
import Derived.Test.YtceielkcplcccaaGreatDoorPKVS
import Derived.Test.YtceielkcplcccaaGreatDoorPKH1
import Derived.Test.YtceielkcplcccaaGreatDoorPKQ6
import Derived.Test.YtceielkcplcccaaGreatDoorPKV2
import Derived.Test.YtceielkcplcccaaGreatDoorPKV1
namespace Go.Proofs.YtceielkcplcccaaGreatDoor
open Go.RowKit Go.Sort

set_option linter.unusedSimpArgs false in
set_option maxRecDepth 100000 in
set_option maxHeartbeats 4000000 in
theorem l13Ring_zero (n : Int) (ra : Option Addr) (w : World) :
    Calls Tryz.prog 12 #[.int .i64 n, .agg #[.int .i64 0, .slice ra 0 0]] w fun e w' => e = .returned (.agg #[.bool true, .int .i64 0, .string (rootT n ⟨0, []⟩)]) ∧ Below w.heap.size w w' := by
  have KR : Hid (∃ W0, ((w.alloc (.cells #[.int .i64 0, .slice ra 0 0] 25)).alloc (.cells #[.bool false, .int .i64 0, .string ⟨#[]⟩] 41)) = W0 ∧ Below w.heap.size w W0 ∧ Blk W0 w.heap.size #[.int .i64 0, .slice ra 0 0] 25 ∧ Blk W0 (w.heap.size + 1) #[.bool false, .int .i64 0, .string ⟨#[]⟩] 41) := by
    refine ⟨_, rfl, ((Below.refl _ _).alloc (Nat.le_refl _) _).alloc (by simp) _, (Blk.new w _ _).below ((Below.refl _ _).alloc (Nat.le_refl _) _) (by simp), ?_⟩
    have := Blk.new (w.alloc (.cells #[.int .i64 0, .slice ra 0 0] 25)) #[.bool false, .int .i64 0, .string ⟨#[]⟩] 41
    simp only [World.size_alloc] at this
    exact this
  obtain ⟨W0, HW, hB, hR, hP⟩ := KR.out
  have HT := Lib.hid (fun W => specText_any n ⟨0, []⟩ ra 0 W (by simp) (fun j hj => by simp at hj) (.inl rfl))
  generalize rootT n ⟨0, []⟩ = T at HT ⊢
  simp only [List.length_nil] at HT
  clear KR
  go_enter Tryz.func12, Tryz.ntmps12
  go_wp2_with fail
  try rw [HW]
  have HB := Lib.hid (hB.drew)
  have HR := Lib.hid (show Blk W0.drew _ _ _ from hR)
  have HP := Lib.hid (show Blk W0.drew _ _ _ from hP)
  clear hB hR hP HW
  have m0 : W0.drew.cell? ⟨w.heap.size, 0, none⟩ = some (.int .i64 0) := HR.out.cell 0
  have m1 : W0.drew.cell? ⟨w.heap.size, 1, none⟩ = some (.slice ra 0 0) := HR.out.cell 1
  refine AnyS.start (S := (fun w' : World => w'.cell? ⟨w.heap.size, 0, none⟩ = some (.int .i64 0) ∧ w'.cell? ⟨w.heap.size, 1, none⟩ = some (.slice ra 0 0))) (L := 7) (by kernel_rfl) ?_
  generalize W0.drew = W1 at HB HR HP m0 m1 ⊢
  refine AnyS.take 0 (show _ = some _ from rfl) rfl (by kernel_rfl) (by kernel_rfl) (by kernel_rfl) (by kernel_rfl) (fun _ _ _ h => h) ⟨m0, m1⟩ (by rfl) (fun w' hSw => by obtain ⟨s1, s2⟩ := hSw; go_simp; try with_reducible rfl) ?_
  try simp only [Act.put, List.setIfInBounds_toArray, List.set_cons_zero, List.set_cons_succ]
  refine AnyS.take 1 (show _ = some _ from rfl) rfl (by kernel_rfl) (by kernel_rfl) (by kernel_rfl) (by kernel_rfl) (fun _ _ _ h => h) ⟨m0, m1⟩ (by rfl) (fun w' hSw => by obtain ⟨s1, s2⟩ := hSw; go_simp; try with_reducible rfl) ?_
  try simp only [Act.put, List.setIfInBounds_toArray, List.set_cons_zero, List.set_cons_succ]
  refine AnyS.take 2 (show _ = some _ from rfl) rfl (by kernel_rfl) (by kernel_rfl) (by kernel_rfl) (by kernel_rfl) (fun _ _ _ h => h) ⟨m0, m1⟩ (by rfl) (fun w' hSw => by obtain ⟨s1, s2⟩ := hSw; go_simp; try with_reducible rfl) ?_
  try simp only [Act.put, List.setIfInBounds_toArray, List.set_cons_zero, List.set_cons_succ]
  refine AnyS.take 3 (show _ = some _ from rfl) rfl (by kernel_rfl) (by kernel_rfl) (by kernel_rfl) (by kernel_rfl) (fun _ _ _ h => h) ⟨m0, m1⟩ (by rfl) (fun w' hSw => by obtain ⟨s1, s2⟩ := hSw; go_simp; try with_reducible rfl) ?_
  try simp only [Act.put, List.setIfInBounds_toArray, List.set_cons_zero, List.set_cons_succ]
  refine AnyS.take 4 (show _ = some _ from rfl) rfl (by kernel_rfl) (by kernel_rfl) (by kernel_rfl) (by kernel_rfl) (fun _ _ _ h => h) ⟨m0, m1⟩ (by rfl) (fun w' hSw => by obtain ⟨s1, s2⟩ := hSw; go_simp; try with_reducible rfl) ?_
  try simp only [Act.put, List.setIfInBounds_toArray, List.set_cons_zero, List.set_cons_succ]
  refine AnyS.one 5 (by kernel_rfl) (show _ = some _ from rfl) (fun K' hK' => ?_)
  go_simp
  go_at_call 23
  refine (HT.out _).mono ?_
  rintro e w3 ⟨rfl, hB3⟩
  have n0 := cell_below hB3 m0
  have n1 := cell_below hB3 m1
  have hsz : w.heap.size + 1 < W1.heap.size := HP.out.lt
  have HP3 := Lib.hid (HP.out.below hB3 HP.out.lt)
  have HB3 := Lib.hid (HB.out.trans (hB3.mono (by omega)))
  refine hK' _ _ ⟨?_, fun _ => ⟨n0, n1⟩⟩
  clear hB3 HT m0 m1
  clear hK' K'
  try simp only [Act.put, List.setIfInBounds_toArray, List.set_cons_zero, List.set_cons_succ]
  refine AnyS.take 6 (show _ = some _ from rfl) rfl (by kernel_rfl) (by kernel_rfl) (by kernel_rfl) (by kernel_rfl) (fun _ _ _ h => h) ⟨n0, n1⟩ (by rfl) (fun w' hSw => by obtain ⟨s1, s2⟩ := hSw; go_simp; try with_reducible rfl) ?_
  try simp only [Act.put, List.setIfInBounds_toArray, List.set_cons_zero, List.set_cons_succ]
  have f0 := HP3.out.frozen 0
  have f1 := HP3.out.frozen 1
  have f2 := HP3.out.frozen 2
  have p0 : w3.cell? ⟨w.heap.size + 1, 0, none⟩ = some (.bool false) := HP3.out.cell 0
  have p1 : w3.cell? ⟨w.heap.size + 1, 1, none⟩ = some (.int .i64 0) := HP3.out.cell 1
  have p2 : w3.cell? ⟨w.heap.size + 1, 2, none⟩ = some (.string ⟨#[]⟩) := HP3.out.cell 2
  refine AnyS.one 7 (by kernel_rfl) (show _ = some _ from rfl) (fun K' hK' => ?_)
  go_simp
  refine hK' _ _ ⟨AnyS.done (by kernel_rfl) ?_, fun h => absurd rfl h⟩
  clear hK' K'
  try simp only [Act.put, List.setIfInBounds_toArray, List.set_cons_zero, List.set_cons_succ]
  go_wp2
  refine bodyPost_ret (v := .agg #[.bool true, .int .i64 0, .string T]) (by simp [results, Tryz.results12, go_sem, p0, p1, p2]) rfl ⟨rfl, ?_⟩
  exact ((HB3.out.setCell (p := ⟨w.heap.size + 1, 0, none⟩) (by simp) _).setCell (p := ⟨w.heap.size + 1, 1, none⟩) (by simp) _).setCell (p := ⟨w.heap.size + 1, 2, none⟩) (by simp) _


end Go.Proofs.YtceielkcplcccaaGreatDoor
