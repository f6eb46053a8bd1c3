/- A column put into a list of disks, of the program. Conditions: the place is one of theirs, and its disk is ok. -/
import Derived.Test.YtcdiengbmjkglaaGreatPKDS2
import Derived.Test.YtcdiengbmjkglaaGreatPKN1
namespace Go.Proofs.YtcdiengbmjkglaaGreat
open Go.RowKit Go.Sort

/-- ALL COLUMNS PUT to their places, the first k of them. -/
def putTo (ds : List DiskD) (ps : List PlD) (cs : List ByteArray) : Nat → List DiskD
  | 0 => ds
  | k + 1 => (putTo ds ps cs k).set (ps.getD k pl0).1.toNat (putD ((putTo ds ps cs k).getD (ps.getD k pl0).1.toNat disk0) ⟨false, (ps.getD k pl0).2, cs.getD k ByteArray.empty⟩)
theorem putTo_length (ds : List DiskD) (ps : List PlD) (cs : List ByteArray) : ∀ k, (putTo ds ps cs k).length = ds.length
  | 0 => rfl
  | k + 1 => by rw [putTo, List.length_set]; exact putTo_length ds ps cs k
theorem putTo_fine {ds : List DiskD} {ps : List PlD} {cs : List ByteArray} (hf : AllDk ds) (hp : ∀ k, k < cs.length → SlotOk (ps.getD k pl0).2 ∧ (cs.getD k ByteArray.empty).size = 3) : ∀ k, k ≤ cs.length → AllDk (putTo ds ps cs k)
  | 0, _ => hf
  | k + 1, hk => by
    have ih := putTo_fine hf hp k (by omega)
    intro j hj
    rw [putTo_length] at hj
    rw [putTo]
    by_cases hd : (ps.getD k pl0).1.toNat < (putTo ds ps cs k).length
    · rw [getD_setD _ _ _ _ hd]
      split
      · exact put_fine (ih _ (by exact hd)) (by unfold PutOk; simpa using hp k (by omega))
      · exact ih j (by rw [putTo_length]; exact hj)
    · rw [List.set_eq_of_length_le (by omega)]
      exact ih j (by rw [putTo_length]; exact hj)

theorem setW_gb (w : World) (g k : Nat) (u0 u1 u2 u3 u4 : Value) : w.grownBy (setW w g k u0 u1 u2 u3 u4) (some g) :=
  ((((gb_set w g _ _).trans (gb_set _ g _ _)).trans (gb_set _ g _ _)).trans (gb_set _ g _ _)).trans (gb_set _ g _ _)

set_option linter.unusedSimpArgs false in
set_option maxRecDepth 100000 in
set_option maxHeartbeats 8000000 in
theorem putColumn_any (base g cap k : Nat) (z : Int) (c : ByteArray) (ds : List DiskD) (w : World) (hbs : base ≤ w.heap.size) (hk : k < ds.length) (hf : DiskFine (ds.getD k disk0)) (hp : SlotOk z ∧ c.size = 3) (ho : OwnDks w base (.slice (some ⟨g, 0, none⟩) ds.length cap) ds) :
    Calls Tryz.prog 32 #[.slice (some ⟨g, 0, none⟩) ds.length cap, .agg #[.int .i64 (k : Int), .int .i64 z], .string c] w fun e w' => (∃ v, e = .returned v) ∧ OwnDks w' base (.slice (some ⟨g, 0, none⟩) ds.length cap) (ds.set k (putD (ds.getD k disk0) ⟨false, z, c⟩)) ∧ w.grownBy w' (some g) := by
  have i0' : (0 : Int) ≤ (k : Int) := by omega
  have i1' : (k : Int) < (ds.length : Int) := by omega
  have hB0 : Below w.heap.size w (w.alloc (.cells #[.int .i64 (k : Int), .int .i64 z] 53)).drew := ((Below.refl _ _).alloc (Nat.le_refl _) _).drew
  have HB0 := Lib.hid hB0
  have K0 : Blk (w.alloc (.cells #[.int .i64 (k : Int), .int .i64 z] 53)).drew w.heap.size #[.int .i64 (k : Int), .int .i64 z] 53 := Blk.new w _ _
  have p0 : (w.alloc (.cells #[.int .i64 (k : Int), .int .i64 z] 53)).drew.cell? ⟨w.heap.size, 0, none⟩ = some (.int .i64 (k : Int)) := K0.cell 0
  have p1 : (w.alloc (.cells #[.int .i64 (k : Int), .int .i64 z] 53)).drew.cell? ⟨w.heap.size, 1, none⟩ = some (.int .i64 z) := K0.cell 1
  have HO := Lib.hid (ho.below hB0)
  obtain ⟨a', c', he, _, _, hx⟩ := OwnDks.reads (OwnDk.below ho hB0)
  injection he with he _ _
  subst he
  obtain ⟨b, off, a1, n1, c1, a2, n2, c2, a3, n3, c3, a4, n4, c4, hbo, e0, e1, e2, e3, e4, hv⟩ := hx.at k hk
  injection hbo with hbo
  injection hbo with hb1 hb2
  subst hb1
  subst hb2
  rw [Nat.zero_add] at e0 e1 e2 e3 e4
  have HC := Lib.hid (implPut_ok _ _ ⟨false, z, c⟩ _ hf (by unfold PutOk; simpa using hp) hv)
  generalize ds.getD k disk0 = q at e0 HC
  obtain ⟨st, xs, yys, bs, ps⟩ := q
  simp only at e0 HC
  clear hv hx hB0 ho hf hp K0
  go_enter Tryz.func32, Tryz.ntmps32
  go_wp2_with fail
  refine AnyS.start (S := (fun w' : World => w'.cell? ⟨w.heap.size, 0, none⟩ = some (.int .i64 (k : Int)) ∧ w'.cell? ⟨w.heap.size, 1, none⟩ = some (.int .i64 z) ∧ w'.cell? ⟨g, k * 5, none⟩ = some (.int .i64 st) ∧ w'.cell? ⟨g, k * 5 + 1, none⟩ = some (.slice a1 n1 c1) ∧ w'.cell? ⟨g, k * 5 + 2, none⟩ = some (.slice a2 n2 c2) ∧ w'.cell? ⟨g, k * 5 + 3, none⟩ = some (.slice a3 n3 c3) ∧ w'.cell? ⟨g, k * 5 + 4, none⟩ = some (.slice a4 n4 c4))) (L := 14) (by kernel_rfl) ?_
  refine AnyS.take 0 (show _ = some _ from rfl) rfl (by kernel_rfl) (by kernel_rfl) (by kernel_rfl) (by kernel_rfl) (fun _ _ _ h => h) ⟨p0, p1, e0, e1, e2, e3, e4⟩ (by rfl) (fun w' hSw => by obtain ⟨s1, s2, s3, s4, s5, s6, s7⟩ := hSw; go_simp; try with_reducible rfl) ?_
  try simp only [Act.put, List.setIfInBounds_toArray, List.set_cons_zero, List.set_cons_succ]
  refine AnyS.take 1 (show _ = some _ from rfl) rfl (by kernel_rfl) (by kernel_rfl) (by kernel_rfl) (by kernel_rfl) (fun _ _ _ h => h) ⟨p0, p1, e0, e1, e2, e3, e4⟩ (by rfl) (fun w' hSw => by obtain ⟨s1, s2, s3, s4, s5, s6, s7⟩ := hSw; go_simp; try with_reducible rfl) ?_
  try simp only [Act.put, List.setIfInBounds_toArray, List.set_cons_zero, List.set_cons_succ]
  refine AnyS.take 2 (show _ = some _ from rfl) rfl (by kernel_rfl) (by kernel_rfl) (by kernel_rfl) (by kernel_rfl) (fun _ _ _ h => h) ⟨p0, p1, e0, e1, e2, e3, e4⟩ (by rfl) (fun w' hSw => by obtain ⟨s1, s2, s3, s4, s5, s6, s7⟩ := hSw; go_simp; try with_reducible rfl) ?_
  try simp only [Act.put, List.setIfInBounds_toArray, List.set_cons_zero, List.set_cons_succ]
  refine AnyS.take 3 (show _ = some _ from rfl) rfl (by kernel_rfl) (by kernel_rfl) (by kernel_rfl) (by kernel_rfl) (fun _ _ _ h => h) ⟨p0, p1, e0, e1, e2, e3, e4⟩ (by rfl) (fun w' hSw => by obtain ⟨s1, s2, s3, s4, s5, s6, s7⟩ := hSw; go_simp; try with_reducible rfl) ?_
  try simp only [Act.put, List.setIfInBounds_toArray, List.set_cons_zero, List.set_cons_succ]
  refine AnyS.take 4 (show _ = some _ from rfl) rfl (by kernel_rfl) (by kernel_rfl) (by kernel_rfl) (by kernel_rfl) (fun _ _ _ h => h) ⟨p0, p1, e0, e1, e2, e3, e4⟩ (by rfl) (fun w' hSw => by obtain ⟨s1, s2, s3, s4, s5, s6, s7⟩ := hSw; go_simp; try with_reducible rfl) ?_
  try simp only [Act.put, List.setIfInBounds_toArray, List.set_cons_zero, List.set_cons_succ]
  refine AnyS.take 5 (show _ = some _ from rfl) rfl (by kernel_rfl) (by kernel_rfl) (by kernel_rfl) (by kernel_rfl) (fun _ _ _ h => h) ⟨p0, p1, e0, e1, e2, e3, e4⟩ (by rfl) (fun w' hSw => by obtain ⟨s1, s2, s3, s4, s5, s6, s7⟩ := hSw; go_simp; try with_reducible rfl) ?_
  try simp only [Act.put, List.setIfInBounds_toArray, List.set_cons_zero, List.set_cons_succ]
  refine AnyS.take 6 (show _ = some _ from rfl) rfl (by kernel_rfl) (by kernel_rfl) (by kernel_rfl) (by kernel_rfl) (fun _ _ _ h => h) ⟨p0, p1, e0, e1, e2, e3, e4⟩ (by rfl) (fun w' hSw => by obtain ⟨s1, s2, s3, s4, s5, s6, s7⟩ := hSw; go_simp; try with_reducible rfl) ?_
  try simp only [Act.put, List.setIfInBounds_toArray, List.set_cons_zero, List.set_cons_succ]
  refine AnyS.take 7 (show _ = some _ from rfl) rfl (by kernel_rfl) (by kernel_rfl) (by kernel_rfl) (by kernel_rfl) (fun _ _ _ h => h) ⟨p0, p1, e0, e1, e2, e3, e4⟩ (by rfl) (fun w' hSw => by obtain ⟨s1, s2, s3, s4, s5, s6, s7⟩ := hSw; go_simp; try with_reducible rfl) ?_
  try simp only [Act.put, List.setIfInBounds_toArray, List.set_cons_zero, List.set_cons_succ]
  refine AnyS.take 8 (show _ = some _ from rfl) rfl (by kernel_rfl) (by kernel_rfl) (by kernel_rfl) (by kernel_rfl) (fun _ _ _ h => h) ⟨p0, p1, e0, e1, e2, e3, e4⟩ (by rfl) (fun w' hSw => by obtain ⟨s1, s2, s3, s4, s5, s6, s7⟩ := hSw; go_simp; try with_reducible rfl) ?_
  try simp only [Act.put, List.setIfInBounds_toArray, List.set_cons_zero, List.set_cons_succ]
  refine AnyS.take 9 (show _ = some _ from rfl) rfl (by kernel_rfl) (by kernel_rfl) (by kernel_rfl) (by kernel_rfl) (fun _ _ _ h => h) ⟨p0, p1, e0, e1, e2, e3, e4⟩ (by rfl) (fun w' hSw => by obtain ⟨s1, s2, s3, s4, s5, s6, s7⟩ := hSw; go_simp; try with_reducible rfl) ?_
  try simp only [Act.put, List.setIfInBounds_toArray, List.set_cons_zero, List.set_cons_succ]
  refine AnyS.take 10 (show _ = some _ from rfl) rfl (by kernel_rfl) (by kernel_rfl) (by kernel_rfl) (by kernel_rfl) (fun _ _ _ h => h) ⟨p0, p1, e0, e1, e2, e3, e4⟩ (by rfl) (fun w' hSw => by obtain ⟨s1, s2, s3, s4, s5, s6, s7⟩ := hSw; go_simp; try with_reducible rfl) ?_
  try simp only [Act.put, List.setIfInBounds_toArray, List.set_cons_zero, List.set_cons_succ]
  refine AnyS.take 11 (show _ = some _ from rfl) rfl (by kernel_rfl) (by kernel_rfl) (by kernel_rfl) (by kernel_rfl) (fun _ _ _ h => h) ⟨p0, p1, e0, e1, e2, e3, e4⟩ (by rfl) (fun w' hSw => by obtain ⟨s1, s2, s3, s4, s5, s6, s7⟩ := hSw; go_simp; try with_reducible rfl) ?_
  try simp only [Act.put, List.setIfInBounds_toArray, List.set_cons_zero, List.set_cons_succ]
  refine AnyS.one 12 (by kernel_rfl) (show _ = some _ from rfl) (fun K' hK' => ?_)
  go_simp
  go_at_call 75
  refine HC.out.mono ?_
  rintro e w2 ⟨v2, rfl, ho2, hB2⟩
  have HO2 := Lib.hid ho2
  have HB2 := Lib.hid hB2
  have s0 := cell_below hB2 p0
  have s1 := cell_below hB2 p1
  have t0 := cell_below hB2 e0
  have t1 := cell_below hB2 e1
  have t2 := cell_below hB2 e2
  have t3 := cell_below hB2 e3
  have t4 := cell_below hB2 e4
  obtain ⟨u1, u2, u3, u4, rfl, ⟨z1, m1, rfl, _⟩, ⟨z2, m2, rfl, _⟩, ⟨z3, m3, rfl, _⟩, ⟨z4, m4, rfl, _⟩⟩ := ho2.reads
  refine hK' _ _ ⟨?_, fun _ => ⟨s0, s1, t0, t1, t2, t3, t4⟩⟩
  clear hK' K'
  try simp only [Act.put, List.setIfInBounds_toArray, List.set_cons_zero, List.set_cons_succ]
  obtain ⟨ys, h1, _, _⟩ := HO.out.below hB2
  obtain ⟨y0, y1, y2, y3, y4, x0, x1, x2, x3, x4, f0, f1, f2, f3, f4⟩ := own_cells5 h1 k hk
  generalize hd : putD ⟨st, xs, yys, bs, ps⟩ ⟨false, z, c⟩ = d at HO2
  have HN : Hid (∀ W, W = setW w2 g k (.int .i64 d.state) (.slice z1 d.slots.length m1) (.slice z2 d.rings.length m2) (.slice z3 d.spoilt.length m3) (.slice z4 d.wait.length m4) →
      OwnDks W base (.slice (some ⟨g, 0, none⟩) ds.length cap) (ds.set k d) ∧ w.grownBy W (some g)) := fun W hW => by
    subst hW
    refine ⟨?_, (gb_below (HB0.out.trans (HB2.out.mono HB0.out.size)) _).trans (setW_gb _ _ _ _ _ _ _ _)⟩
    have := HO.out.put (k := k) rfl hk (Nat.le_of_lt hk) HB2.out HO2.out (Nat.le_refl _) (Nat.le_trans hbs HB0.out.size) rfl
    rw [if_neg (by omega)] at this
    unfold OwnDks
    rw [List.length_set]
    exact this
  clear hB2 ho2 h1 HC
  refine AnyS.take 13 (show _ = some _ from rfl) rfl (by kernel_rfl) (by kernel_rfl) (by kernel_rfl) (by kernel_rfl) (fun _ _ _ h => h) ⟨s0, s1, t0, t1, t2, t3, t4⟩ (by rfl) (fun w' hSw => by obtain ⟨s1, s2, s3, s4, s5, s6, s7⟩ := hSw; go_simp; try with_reducible rfl) ?_
  try simp only [Act.put, List.setIfInBounds_toArray, List.set_cons_zero, List.set_cons_succ]
  refine AnyS.one 14 (by kernel_rfl) (show _ = some _ from rfl) (fun K' hK' => ?_)
  go_simp
  refine hK' _ _ ⟨AnyS.done (by kernel_rfl) ?_, fun h => absurd rfl h⟩
  clear hK' K'
  try simp only [Act.put, List.setIfInBounds_toArray, List.set_cons_zero, List.set_cons_succ]
  go_wp2
  refine bodyPost_end (results_none rfl _ _ _) rfl ?_
  obtain ⟨hO, hB⟩ := HN.out _ rfl
  subst hd
  exact ⟨⟨_, rfl⟩, hO, hB⟩

end Go.Proofs.YtcdiengbmjkglaaGreat
