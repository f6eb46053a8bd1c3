/- 'laws.FnDiskSpoil' returns true at every code: of a drawn disk, slot, byte and change DiskSpoil of the program answers as DiskSpoil of the specification; just that byte is changed, once, and what is written anew is not spoilt. Conditions: none. -/
import Derived.Test.YtifgoanicbaohaaPKJK
import Derived.Test.YtifgoanicbaohaaPKVT
import Derived.Test.YtifgoanicbaohaaPKHY
import Derived.Test.YtifgoanicbaohaaPKV8
import Derived.Test.YtifgoanicbaohaaPKN3
import Derived.Test.YtifgoanicbaohaaPKN2
import Derived.Test.YtifgoanicbaohaaPKH9
import Derived.Test.YtifgoanicbaohaaPKY3
import Derived.Test.YtifgoanicbaohaaPKK
namespace Go.Proofs.Ytifgoanicbaohaa
open Go.ChangeShapes Go.WideShapes Go.ChangeAt Go.RowKit Go.Sort
namespace FnDiskSpoil
set_option linter.unusedVariables false

theorem slot_at {w : World} {st : Int} {o1 : Option Addr} {n1 c1 : Nat} {v2 v3 v4 : Value} {d : DiskD} {n : Nat} (h : DiskV w (.agg #[.int .i64 st, .slice o1 n1 c1, v2, v3, v4]) d) (hn : n < d.slots.length) : ∃ g off, o1 = some ⟨g, off, none⟩ ∧ w.cell? ⟨g, off + n, none⟩ = some (.string (d.slots.getD n ByteArray.empty)) := by
  obtain ⟨u1, u2, u3, u4, e, ⟨a, c, e1, _, _, hx⟩, _⟩ := h
  subst e1
  cases e
  rcases hx with h | ⟨b, off, e, hc⟩
  · rw [h] at hn; simp at hn
  · exact ⟨b, off, e, hc n hn⟩
theorem mark_at {w : World} {st : Int} {o3 : Option Addr} {n3 c3 : Nat} {v1 v2 v4 : Value} {d : DiskD} {n : Nat} (h : DiskV w (.agg #[.int .i64 st, v1, v2, .slice o3 n3 c3, v4]) d) (hn : n < d.spoilt.length) : ∃ g off, o3 = some ⟨g, off, none⟩ ∧ w.cell? ⟨g, off + n, none⟩ = some (.bool (d.spoilt.getD n false)) := by
  obtain ⟨u1, u2, u3, u4, e, _, _, ⟨a, c, e1, _, _, hx⟩, _⟩ := h
  subst e1
  cases e
  rcases hx with h | ⟨b, off, e, hc⟩
  · rw [h] at hn; simp at hn
  · exact ⟨b, off, e, hc n hn⟩
theorem spoil_byte {d : DiskD} (h : DiskFine d) {k b : Nat} (hk : k < 12) (hb : b < 3) (hc : CanSpoil d k) : b < (d.slots.getD k ByteArray.empty).size := by
  rcases (fine_parts h).2.1 k (by have := h.2.1.1; omega) with q | q
  · exact absurd q.1 hc.1
  · omega
theorem choose (d : DiskD) (x y z : Int) : ∃ r : DiskD, Hid (∀ v W, DiskV W v d → Calls Try.prog 15 #[v, .int .i64 x, .int .i64 y, .int .i64 z] W (NewDisk r W)) ∧ Hid (∀ v W, DiskV W v d → Calls Try.prog 14 #[v, .int .i64 x, .int .i64 y, .int .i64 z] W (NewDisk r W)) ∧
    (r.slots.length = 0 ∨ ∃ k b : Nat, k < 12 ∧ b < 3 ∧ x = (k : Int) ∧ y = (b : Int) ∧ (1 ≤ z ∧ z ≤ 255) ∧ DiskFine d ∧ r = spoilD d k b (z % 256)) := by
  by_cases h : SpoilOk d x y z
  · obtain ⟨hf, hs, hy, hz⟩ := h
    obtain ⟨k, rfl⟩ := Int.eq_ofNat_of_zero_le hs.1
    obtain ⟨b, rfl⟩ := Int.eq_ofNat_of_zero_le hy.1
    have hk : k < 12 := by have := hs.2; omega
    have hb : b < 3 := by omega
    exact ⟨spoilD d k b (z % 256), fun v W hv => specSpoil_ok v d k b z W hf hk hb hz hv, fun v W hv => implSpoil_ok v d k b z W hf hk hb hz hv, .inr ⟨k, b, hk, hb, rfl, rfl, hz, hf, rfl⟩⟩
  · exact ⟨disk0, fun v W hv => specSpoil_no v d x y z W h hv, fun v W hv => implSpoil_no v d x y z W h hv, .inl rfl⟩
theorem empty_no {p : ByteArray} (h : p.size ≠ 0) : p.toList.isEmpty = false := by
  rw [ByteArray.toList_eq]
  cases hl : p.data.toList with
  | nil =>
    exfalso
    apply h
    exact (Array.length_toList (xs := p.data)).symm.trans (by rw [hl]; rfl)
  | cons a t => rfl
theorem empty_yes {p : ByteArray} (h : p.size = 0) : p.toList.isEmpty = true := by
  rw [ByteArray.toList_eq]
  have : p.data.toList.length = 0 := (Array.length_toList (xs := p.data)).trans h
  rw [List.eq_nil_of_length_eq_zero this]; rfl

set_option linter.unusedSimpArgs false in
set_option maxRecDepth 100000 in
set_option maxHeartbeats 20000000 in
theorem main (a : Option Addr) (len cap : Nat) (z0 : List Int) (w : World) (h0 : len ≤ 1048576) (H : Hid (IsBytes w a len cap z0)) :
    Calls Try.prog 4 #[.slice a len cap] w fun e w' => e = .returned (.bool true) ∧ Below w.heap.size w w' := by
  obtain ⟨ab, hae, hab⟩ : ∃ t : ByteArray, t = ⟨#[97, 98, 99]⟩ ∧ t.size = 3 := ⟨_, rfl, rfl⟩
  have d0 : decide (1048576 < (len : Int)) = false := by simp; omega
  go_enter Try.func4, Try.ntmps4
  go_wp2_with fail
  refine (drawSpoil_any a len cap z0 _ H.out).mono ?_
  rintro e w1 ⟨d, _, zk, zb, zc, rfl, hv1, HB⟩
  replace HB := Lib.hid HB
  have VD := Lib.hid hv1
  obtain ⟨r, HS, HI, HF⟩ := choose d zk zb zc
  obtain ⟨_, _, _, _, rfl, ⟨o1, c1, rfl, _⟩, ⟨o2, c2, rfl, _⟩, ⟨o3, c3, rfl, _⟩, ⟨o4, c4, rfl, _⟩⟩ := hv1
  have hb : Below w1.heap.size w1 (w1.alloc (.cells #[.int .i64 d.state, .slice o1 d.slots.length c1, .slice o2 d.rings.length c2, .slice o3 d.spoilt.length c3, .slice o4 d.wait.length c4] 27)) := (Below.refl _ _).alloc (Nat.le_refl _) _
  replace VD := Lib.hid (VD.out.below hb)
  replace HB := Lib.hid (below_trans HB.out hb HB.out.size)
  have Kd := Lib.hid (Blk.new w1 #[.int .i64 d.state, .slice o1 d.slots.length c1, .slice o2 d.rings.length c2, .slice o3 d.spoilt.length c3, .slice o4 d.wait.length c4] 27)
  clear hb
  go_wp2_with fail
  generalize w1.alloc (.cells #[.int .i64 d.state, .slice o1 d.slots.length c1, .slice o2 d.rings.length c2, .slice o3 d.spoilt.length c3, .slice o4 d.wait.length c4] 27) = w1b at Kd VD HB ⊢
  generalize w1.heap.size = md at Kd ⊢
  refine (HI.out _ _ VD.out).mono ?_
  rintro e w2 ⟨_, rfl, hO, hB⟩
  have hv2 := hO.reads
  replace Kd := Lib.hid (Kd.out.below hB Kd.out.lt)
  replace VD := Lib.hid (VD.out.below hB)
  replace HB := Lib.hid (below_trans HB.out hB HB.out.size)
  have VX := Lib.hid hv2
  clear hO hB
  obtain ⟨_, _, _, _, rfl, ⟨x1, y1, rfl, _⟩, ⟨x2, y2, rfl, _⟩, ⟨x3, y3, rfl, _⟩, ⟨x4, y4, rfl, _⟩⟩ := hv2
  have hb : Below w2.heap.size w2 (w2.alloc (.cells #[.int .i64 r.state, .slice x1 r.slots.length y1, .slice x2 r.rings.length y2, .slice x3 r.spoilt.length y3, .slice x4 r.wait.length y4] 27)) := (Below.refl _ _).alloc (Nat.le_refl _) _
  replace Kd := Lib.hid (Kd.out.below hb Kd.out.lt)
  replace VD := Lib.hid (VD.out.below hb)
  replace VX := Lib.hid (VX.out.below hb)
  replace HB := Lib.hid (below_trans HB.out hb HB.out.size)
  have Kx := Lib.hid (Blk.new w2 #[.int .i64 r.state, .slice x1 r.slots.length y1, .slice x2 r.rings.length y2, .slice x3 r.spoilt.length y3, .slice x4 r.wait.length y4] 27)
  clear hb
  go_wp2_with fail
  generalize w2.alloc (.cells #[.int .i64 r.state, .slice x1 r.slots.length y1, .slice x2 r.rings.length y2, .slice x3 r.spoilt.length y3, .slice x4 r.wait.length y4] 27) = w3 at Kd Kx VD VX HB ⊢
  generalize w2.heap.size = mx at Kx ⊢
  have pd0 : w3.cell? ⟨md, 0, none⟩ = some (.int .i64 d.state) := Kd.out.cell 0
  have pd1 : w3.cell? ⟨md, 1, none⟩ = some (.slice o1 d.slots.length c1) := Kd.out.cell 1
  have pd2 : w3.cell? ⟨md, 2, none⟩ = some (.slice o2 d.rings.length c2) := Kd.out.cell 2
  have pd3 : w3.cell? ⟨md, 3, none⟩ = some (.slice o3 d.spoilt.length c3) := Kd.out.cell 3
  have pd4 : w3.cell? ⟨md, 4, none⟩ = some (.slice o4 d.wait.length c4) := Kd.out.cell 4
  have px0 : w3.cell? ⟨mx, 0, none⟩ = some (.int .i64 r.state) := Kx.out.cell 0
  have px1 : w3.cell? ⟨mx, 1, none⟩ = some (.slice x1 r.slots.length y1) := Kx.out.cell 1
  have px2 : w3.cell? ⟨mx, 2, none⟩ = some (.slice x2 r.rings.length y2) := Kx.out.cell 2
  have px3 : w3.cell? ⟨mx, 3, none⟩ = some (.slice x3 r.spoilt.length y3) := Kx.out.cell 3
  have px4 : w3.cell? ⟨mx, 4, none⟩ = some (.slice x4 r.wait.length y4) := Kx.out.cell 4
  have cur : Below w3.heap.size w3 w3.drew := (Below.refl _ _).drew
  refine AnyT.start (S := (fun w' : World => Below w3.heap.size w3 w')) (by kernel_rfl) ?_
  refine AnyT.take 0 (show _ = some _ from rfl) rfl (by kernel_rfl) (by kernel_rfl) (by kernel_rfl) (fun _ _ _ h => h) cur (by first | kernel_rfl | rfl) (fun w' hSw => by have s0 := cell_below hSw px0; have s1 := cell_below hSw px1; have s2 := cell_below hSw px2; have s3 := cell_below hSw px3; have s4 := cell_below hSw px4; clear hSw; go_simp; try with_reducible rfl) ?_
  try simp only [Act.put, List.setIfInBounds_toArray, List.set_cons_zero, List.set_cons_succ]
  refine AnyT.take 1 (show _ = some _ from rfl) rfl (by kernel_rfl) (by kernel_rfl) (by kernel_rfl) (fun _ _ _ h => h) cur (by first | kernel_rfl | rfl) (fun w' hSw => by have s0 := cell_below hSw pd0; have s1 := cell_below hSw pd1; have s2 := cell_below hSw pd2; have s3 := cell_below hSw pd3; have s4 := cell_below hSw pd4; clear hSw; go_simp; try with_reducible rfl) ?_
  try simp only [Act.put, List.setIfInBounds_toArray, List.set_cons_zero, List.set_cons_succ]
  refine AnyT.take 2 (show _ = some _ from rfl) rfl (by kernel_rfl) (by kernel_rfl) (by kernel_rfl) (fun _ _ _ h => h) cur (by first | kernel_rfl | rfl) (fun w' hSw => by clear hSw; go_simp; try with_reducible rfl) ?_
  try simp only [Act.put, List.setIfInBounds_toArray, List.set_cons_zero, List.set_cons_succ]
  refine AnyT.take 3 (show _ = some _ from rfl) rfl (by kernel_rfl) (by kernel_rfl) (by kernel_rfl) (fun _ _ _ h => h) cur (by first | kernel_rfl | rfl) (fun w' hSw => by clear hSw; go_simp; try with_reducible rfl) ?_
  try simp only [Act.put, List.setIfInBounds_toArray, List.set_cons_zero, List.set_cons_succ]
  refine AnyT.take 4 (show _ = some _ from rfl) rfl (by kernel_rfl) (by kernel_rfl) (by kernel_rfl) (fun _ _ _ h => h) cur (by first | kernel_rfl | rfl) (fun w' hSw => by clear hSw; go_simp; try with_reducible rfl) ?_
  try simp only [Act.put, List.setIfInBounds_toArray, List.set_cons_zero, List.set_cons_succ]
  refine AnyT.one 5 (by kernel_rfl) (show _ = some _ from rfl) (fun K' hK' => ?_)
  go_simp
  go_at_call 15
  refine (HS.out _ _ (VD.out.below cur)).mono ?_
  rintro e w7 ⟨_, rfl, o7, hB7⟩
  have V7 := Lib.hid o7.reads
  have hx7 := o7.reads
  obtain ⟨_, _, _, _, rfl, ⟨g1, h1, rfl, _⟩, ⟨g2, h2, rfl, _⟩, ⟨g3, h3, rfl, _⟩, ⟨g4, h4, rfl, _⟩⟩ := hx7
  clear o7
  have cur := below_trans cur hB7 cur.size
  clear hB7
  go_simp
  refine hK' _ _ ⟨?_, cur⟩
  clear hK' K'
  try simp only [Act.put, List.setIfInBounds_toArray, List.set_cons_zero, List.set_cons_succ]
  refine AnyT.one 6 (by kernel_rfl) (show _ = some _ from rfl) (fun K' hK' => ?_)
  go_simp
  go_at_call 8
  refine (lpaDisk_same _ _ r _ (VX.out.below cur) V7.out).mono ?_
  rintro e w8 ⟨rfl, hB8⟩
  have cur := below_trans cur hB8 cur.size
  clear hB8
  go_simp
  refine hK' _ _ ⟨?_, cur⟩
  clear hK' K'
  try simp only [Act.put, List.setIfInBounds_toArray, List.set_cons_zero, List.set_cons_succ]
  refine AnyT.take 7 (show _ = some _ from rfl) rfl (by kernel_rfl) (by kernel_rfl) (by kernel_rfl) (fun _ _ _ h => h) cur (by first | kernel_rfl | rfl) (fun w' hSw => by clear hSw; go_simp; try with_reducible rfl) ?_
  try simp only [Act.put, List.setIfInBounds_toArray, List.set_cons_zero, List.set_cons_succ]
  refine AnyT.take 8 (show _ = some _ from rfl) rfl (by kernel_rfl) (by kernel_rfl) (by kernel_rfl) (fun _ _ _ h => h) cur (by first | kernel_rfl | rfl) (fun w' hSw => by clear hSw; go_simp; try with_reducible rfl) ?_
  try simp only [Act.put, List.setIfInBounds_toArray, List.set_cons_zero, List.set_cons_succ]
  refine AnyT.take 9 (show _ = some _ from rfl) rfl (by kernel_rfl) (by kernel_rfl) (by kernel_rfl) (fun _ _ _ h => h) cur (by first | kernel_rfl | rfl) (fun w' hSw => by clear hSw; go_simp; try with_reducible rfl) ?_
  try simp only [Act.put, List.setIfInBounds_toArray, List.set_cons_zero, List.set_cons_succ]
  refine AnyT.take 10 (show _ = some _ from rfl) rfl (by kernel_rfl) (by kernel_rfl) (by kernel_rfl) (fun _ _ _ h => h) cur (by first | kernel_rfl | rfl) (fun w' hSw => by have s0 := cell_below hSw px1; clear hSw; go_simp; try with_reducible rfl) ?_
  try simp only [Act.put, List.setIfInBounds_toArray, List.set_cons_zero, List.set_cons_succ]
  refine AnyT.take 11 (show _ = some _ from rfl) rfl (by kernel_rfl) (by kernel_rfl) (by kernel_rfl) (fun _ _ _ h => h) cur (by first | kernel_rfl | rfl) (fun w' hSw => by clear hSw; go_simp; try with_reducible rfl) ?_
  try simp only [Act.put, List.setIfInBounds_toArray, List.set_cons_zero, List.set_cons_succ]
  refine AnyT.take 12 (show _ = some _ from rfl) rfl (by kernel_rfl) (by kernel_rfl) (by kernel_rfl) (fun _ _ _ h => h) cur (by first | kernel_rfl | rfl) (fun w' hSw => by clear hSw; go_simp; try with_reducible rfl) ?_
  try simp only [Act.put, List.setIfInBounds_toArray, List.set_cons_zero, List.set_cons_succ]
  refine AnyT.one 13 (by kernel_rfl) (show _ = some _ from rfl) (fun K' hK' => ?_)
  go_simp
  refine hK' _ _ ⟨AnyT.done (by kernel_rfl) ?_, cur⟩
  clear hK' K'
  try simp only [Act.put, List.setIfInBounds_toArray, List.set_cons_zero, List.set_cons_succ]
  clear pd0 pd1 pd2 pd3 pd4
  clear px0 px1 px2 px3 px4
  clear V7
  replace Kd := Lib.hid (Kd.out.below cur Kd.out.lt)
  replace Kx := Lib.hid (Kx.out.below cur Kx.out.lt)
  replace VD := Lib.hid (VD.out.below cur)
  replace VX := Lib.hid (VX.out.below cur)
  replace HB := Lib.hid (below_trans HB.out cur HB.out.size)
  clear cur
  rcases HF with hz | ⟨n, b, hn, hb, rfl, rfl, hc, hf, hr⟩
  · have dz : ((r.slots.length : Int) == 0) = true := beq_iff_eq.2 (by omega)
    clear hz
    go_wp2_with fail
    try simp only [Act.put, List.setIfInBounds_toArray, List.set_cons_zero, List.set_cons_succ]
    have pd0 : w8.cell? ⟨md, 0, none⟩ = some (.int .i64 d.state) := Kd.out.cell 0
    have pd1 : w8.cell? ⟨md, 1, none⟩ = some (.slice o1 d.slots.length c1) := Kd.out.cell 1
    have pd2 : w8.cell? ⟨md, 2, none⟩ = some (.slice o2 d.rings.length c2) := Kd.out.cell 2
    have pd3 : w8.cell? ⟨md, 3, none⟩ = some (.slice o3 d.spoilt.length c3) := Kd.out.cell 3
    have pd4 : w8.cell? ⟨md, 4, none⟩ = some (.slice o4 d.wait.length c4) := Kd.out.cell 4
    have px0 : w8.cell? ⟨mx, 0, none⟩ = some (.int .i64 r.state) := Kx.out.cell 0
    have px1 : w8.cell? ⟨mx, 1, none⟩ = some (.slice x1 r.slots.length y1) := Kx.out.cell 1
    have px2 : w8.cell? ⟨mx, 2, none⟩ = some (.slice x2 r.rings.length y2) := Kx.out.cell 2
    have px3 : w8.cell? ⟨mx, 3, none⟩ = some (.slice x3 r.spoilt.length y3) := Kx.out.cell 3
    have px4 : w8.cell? ⟨mx, 4, none⟩ = some (.slice x4 r.wait.length y4) := Kx.out.cell 4
    have cur : Below w8.heap.size w8 w8.drew := (Below.refl _ _).drew
    refine AnyT.start (S := (fun w' : World => Below w8.heap.size w8 w')) (by kernel_rfl) ?_
    refine AnyT.take 0 (show _ = some _ from rfl) rfl (by kernel_rfl) (by kernel_rfl) (by kernel_rfl) (fun _ _ _ h => h) cur (by first | kernel_rfl | rfl) (fun w' hSw => by have s0 := cell_below hSw px0; have s1 := cell_below hSw px1; have s2 := cell_below hSw px2; have s3 := cell_below hSw px3; have s4 := cell_below hSw px4; clear hSw; go_simp; try with_reducible rfl) ?_
    try simp only [Act.put, List.setIfInBounds_toArray, List.set_cons_zero, List.set_cons_succ]
    refine AnyT.take 1 (show _ = some _ from rfl) rfl (by kernel_rfl) (by kernel_rfl) (by kernel_rfl) (fun _ _ _ h => h) cur (by first | kernel_rfl | rfl) (fun w' hSw => by have s0 := cell_below hSw pd0; have s1 := cell_below hSw pd1; have s2 := cell_below hSw pd2; have s3 := cell_below hSw pd3; have s4 := cell_below hSw pd4; clear hSw; go_simp; try with_reducible rfl) ?_
    try simp only [Act.put, List.setIfInBounds_toArray, List.set_cons_zero, List.set_cons_succ]
    refine AnyT.take 2 (show _ = some _ from rfl) rfl (by kernel_rfl) (by kernel_rfl) (by kernel_rfl) (fun _ _ _ h => h) cur (by first | kernel_rfl | rfl) (fun w' hSw => by clear hSw; go_simp; try with_reducible rfl) ?_
    try simp only [Act.put, List.setIfInBounds_toArray, List.set_cons_zero, List.set_cons_succ]
    refine AnyT.take 3 (show _ = some _ from rfl) rfl (by kernel_rfl) (by kernel_rfl) (by kernel_rfl) (fun _ _ _ h => h) cur (by first | kernel_rfl | rfl) (fun w' hSw => by clear hSw; go_simp; try with_reducible rfl) ?_
    try simp only [Act.put, List.setIfInBounds_toArray, List.set_cons_zero, List.set_cons_succ]
    refine AnyT.take 4 (show _ = some _ from rfl) rfl (by kernel_rfl) (by kernel_rfl) (by kernel_rfl) (fun _ _ _ h => h) cur (by first | kernel_rfl | rfl) (fun w' hSw => by clear hSw; go_simp; try with_reducible rfl) ?_
    try simp only [Act.put, List.setIfInBounds_toArray, List.set_cons_zero, List.set_cons_succ]
    refine AnyT.one 5 (by kernel_rfl) (show _ = some _ from rfl) (fun K' hK' => ?_)
    go_simp
    go_at_call 15
    refine (HS.out _ _ (VD.out.below cur)).mono ?_
    rintro e w17 ⟨_, rfl, o7, hB7⟩
    have V7 := Lib.hid o7.reads
    have hx7 := o7.reads
    obtain ⟨_, _, _, _, rfl, ⟨g1, h1, rfl, _⟩, ⟨g2, h2, rfl, _⟩, ⟨g3, h3, rfl, _⟩, ⟨g4, h4, rfl, _⟩⟩ := hx7
    clear o7
    have cur := below_trans cur hB7 cur.size
    clear hB7
    go_simp
    refine hK' _ _ ⟨?_, cur⟩
    clear hK' K'
    try simp only [Act.put, List.setIfInBounds_toArray, List.set_cons_zero, List.set_cons_succ]
    refine AnyT.one 6 (by kernel_rfl) (show _ = some _ from rfl) (fun K' hK' => ?_)
    go_simp
    go_at_call 8
    refine (lpaDisk_same _ _ r _ (VX.out.below cur) V7.out).mono ?_
    rintro e w18 ⟨rfl, hB8⟩
    have cur := below_trans cur hB8 cur.size
    clear hB8
    go_simp
    refine hK' _ _ ⟨?_, cur⟩
    clear hK' K'
    try simp only [Act.put, List.setIfInBounds_toArray, List.set_cons_zero, List.set_cons_succ]
    refine AnyT.one 7 (by kernel_rfl) (show _ = some _ from rfl) (fun K' hK' => ?_)
    go_simp
    refine hK' _ _ ⟨AnyT.done (by kernel_rfl) ?_, cur⟩
    clear hK' K'
    try simp only [Act.put, List.setIfInBounds_toArray, List.set_cons_zero, List.set_cons_succ]
    replace Kd := Lib.hid (Kd.out.below cur Kd.out.lt)
    replace Kx := Lib.hid (Kx.out.below cur Kx.out.lt)
    replace VD := Lib.hid (VD.out.below cur)
    replace VX := Lib.hid (VX.out.below cur)
    replace HB := Lib.hid (below_trans HB.out cur HB.out.size)
    clear pd0 pd1 pd2 pd3 pd4
    clear px0 px1 px2 px3 px4
    go_wp2
    go_ret
    exact ⟨rfl, HB.out⟩
  · have hfx : DiskFine r := by rw [hr]; exact spoil_fine hf hn b _
    have dz : ((r.slots.length : Int) == 0) = false := beq_eq_false_iff_ne.2 (by have := hfx.2.1.1; omega)
    have ls : d.slots.length = 12 := hf.2.1.1
    have lp : d.spoilt.length = 12 := hf.2.1.2.2.1
    have rs : r.slots.length = 12 := hfx.2.1.1
    have rp : r.spoilt.length = 12 := hfx.2.1.2.2.1
    have i0 : (0 : Int) ≤ (n : Int) := by omega
    have i1 : (n : Int) < (d.slots.length : Int) := by omega
    have i2 : (n : Int) < (d.spoilt.length : Int) := by omega
    have i3 : (n : Int) < (r.slots.length : Int) := by omega
    have i4 : (n : Int) < (r.spoilt.length : Int) := by omega
    have j1 : n < d.slots.length := by omega
    have j2 : n < d.spoilt.length := by omega
    have j3 : n < r.slots.length := by omega
    have j4 : n < r.spoilt.length := by omega
    have HL := Lib.hid (And.intro ls (And.intro lp (And.intro rs rp)))
    clear ls lp rs rp
    have tD : ∃ g off, o1 = some ⟨g, off, none⟩ ∧ w8.cell? ⟨g, off + n, none⟩ = some (.string (d.slots.getD n ByteArray.empty)) := slot_at VD.out j1
    have bD : ∃ g off, o3 = some ⟨g, off, none⟩ ∧ w8.cell? ⟨g, off + n, none⟩ = some (.bool (d.spoilt.getD n false)) := mark_at VD.out j2
    have tX : ∃ g off, x1 = some ⟨g, off, none⟩ ∧ w8.cell? ⟨g, off + n, none⟩ = some (.string (r.slots.getD n ByteArray.empty)) := slot_at VX.out j3
    have bX : ∃ g off, x3 = some ⟨g, off, none⟩ ∧ w8.cell? ⟨g, off + n, none⟩ = some (.bool (r.spoilt.getD n false)) := mark_at VX.out j4
    obtain ⟨gd, fd, rfl, td⟩ := tD
    obtain ⟨hd, fh, rfl, bd⟩ := bD
    obtain ⟨gx, fx, rfl, tx⟩ := tX
    obtain ⟨hx, fy, rfl, bx⟩ := bX
    have pd0 : w8.cell? ⟨md, 0, none⟩ = some (.int .i64 d.state) := Kd.out.cell 0
    have pd1 : w8.cell? ⟨md, 1, none⟩ = some (.slice (some ⟨gd, fd, none⟩) d.slots.length c1) := Kd.out.cell 1
    have pd2 : w8.cell? ⟨md, 2, none⟩ = some (.slice o2 d.rings.length c2) := Kd.out.cell 2
    have pd3 : w8.cell? ⟨md, 3, none⟩ = some (.slice (some ⟨hd, fh, none⟩) d.spoilt.length c3) := Kd.out.cell 3
    have pd4 : w8.cell? ⟨md, 4, none⟩ = some (.slice o4 d.wait.length c4) := Kd.out.cell 4
    have px0 : w8.cell? ⟨mx, 0, none⟩ = some (.int .i64 r.state) := Kx.out.cell 0
    have px1 : w8.cell? ⟨mx, 1, none⟩ = some (.slice (some ⟨gx, fx, none⟩) r.slots.length y1) := Kx.out.cell 1
    have px2 : w8.cell? ⟨mx, 2, none⟩ = some (.slice x2 r.rings.length y2) := Kx.out.cell 2
    have px3 : w8.cell? ⟨mx, 3, none⟩ = some (.slice (some ⟨hx, fy, none⟩) r.spoilt.length y3) := Kx.out.cell 3
    have px4 : w8.cell? ⟨mx, 4, none⟩ = some (.slice x4 r.wait.length y4) := Kx.out.cell 4
    by_cases hcs : CanSpoil d n
    · obtain ⟨q1, q2, q3, q4, q5⟩ := spoil_facts (b := b) hf hn (zc % 256) hcs (s := ab) hab
      rw [← hr] at q1 q2 q3 q4 q5
      have nB : b < (d.slots.getD n ByteArray.empty).size := spoil_byte hf hn hb hcs
      have e0 := empty_no hcs.1
      have e1 := hcs.2
      rw [e1] at bd
      rw [q2] at bx
      have HCh := Lib.hid (fun (c : Int) (he : c = zc % 256) (W : World) => show Calls Try.prog 17 #[.string (d.slots.getD n ByteArray.empty), .int .i64 (b : Int), .int .u8 c] W fun e w' => e = .returned (.string (r.slots.getD n ByteArray.empty)) ∧ Below W.heap.size W w' from by
        subst he; rw [q1]; exact lpaChanged_any _ b _ W nB)
      generalize r.slots.getD n ByteArray.empty = TX at tx HCh
      generalize d.slots.getD n ByteArray.empty = TD at td HCh e0
      have HIX := Lib.hid (fun v W (hv : DiskV W v r) => implSpoil_ok v r n b zc W hfx hn hb hc hv)
      rw [q3] at HIX
      have HOk := Lib.hid (fun v W (hv : DiskV W v r) => implOk_any v r W hv)
      rw [tt_true hfx] at HOk
      have hpo := slot_put hn hab
      have HPt := Lib.hid (fun (t : ByteArray) (ht : t = ab) v W (hv : DiskV W v r) => show Calls Try.prog 16 #[v, .agg #[.bool false, .int .i64 (n : Int), .string t]] W (NewDisk (putD r ⟨false, (n : Int), ab⟩) W) from by subst ht; exact implPut_ok v r ⟨false, (n : Int), t⟩ W hfx hpo hv)
      have HFl := Lib.hid (fun v W (hv : DiskV W v (putD r ⟨false, (n : Int), ab⟩)) => implFlush_ok v (putD r ⟨false, (n : Int), ab⟩) W (put_fine hfx hpo) hv)
      generalize putD r ⟨false, (n : Int), ab⟩ = p1 at HPt HFl q4 q5
      generalize crashD p1 (-1) = p2 at HFl q4 q5
      have l1 : (n : Int) < (p2.spoilt.length : Int) := by omega
      have l2 : n < p2.spoilt.length := by omega
      have dl : decide ((p2.spoilt.length : Int) > (n : Int)) = true := by simp; omega
      have dl2 : decide ((n : Int) < (p2.spoilt.length : Int)) = true := by simp; omega
      have HQ5 := Lib.hid q5
      have Hcc := Lib.hid hc
      clear q1 q2 q3 q4 q5 hpo hr hc hcs e1
      go_wp2_with fail
      clear pd0 pd1 pd2 pd3 pd4
      clear px0 px1 px2 px3 px4
      refine (HPt.out _ hae.symm _ _ VX.out).mono ?_
      rintro e w9 ⟨_, rfl, hO, hB⟩
      have hv9 := hO.reads
      have td := cell_below hB td
      have bd := cell_below hB bd
      have tx := cell_below hB tx
      have bx := cell_below hB bx
      replace Kd := Lib.hid (Kd.out.below hB Kd.out.lt)
      replace Kx := Lib.hid (Kx.out.below hB Kx.out.lt)
      replace VD := Lib.hid (VD.out.below hB)
      replace VX := Lib.hid (VX.out.below hB)
      replace HB := Lib.hid (below_trans HB.out hB HB.out.size)
      clear hO hB
      have VP := Lib.hid hv9
      obtain ⟨_, _, _, _, rfl, ⟨g1, h1, rfl, _⟩, ⟨g2, h2, rfl, _⟩, ⟨g3, h3, rfl, _⟩, ⟨g4, h4, rfl, _⟩⟩ := hv9
      have pd0 : w9.cell? ⟨md, 0, none⟩ = some (.int .i64 d.state) := Kd.out.cell 0
      have pd1 : w9.cell? ⟨md, 1, none⟩ = some (.slice (some ⟨gd, fd, none⟩) d.slots.length c1) := Kd.out.cell 1
      have pd2 : w9.cell? ⟨md, 2, none⟩ = some (.slice o2 d.rings.length c2) := Kd.out.cell 2
      have pd3 : w9.cell? ⟨md, 3, none⟩ = some (.slice (some ⟨hd, fh, none⟩) d.spoilt.length c3) := Kd.out.cell 3
      have pd4 : w9.cell? ⟨md, 4, none⟩ = some (.slice o4 d.wait.length c4) := Kd.out.cell 4
      have px0 : w9.cell? ⟨mx, 0, none⟩ = some (.int .i64 r.state) := Kx.out.cell 0
      have px1 : w9.cell? ⟨mx, 1, none⟩ = some (.slice (some ⟨gx, fx, none⟩) r.slots.length y1) := Kx.out.cell 1
      have px2 : w9.cell? ⟨mx, 2, none⟩ = some (.slice x2 r.rings.length y2) := Kx.out.cell 2
      have px3 : w9.cell? ⟨mx, 3, none⟩ = some (.slice (some ⟨hx, fy, none⟩) r.spoilt.length y3) := Kx.out.cell 3
      have px4 : w9.cell? ⟨mx, 4, none⟩ = some (.slice x4 r.wait.length y4) := Kx.out.cell 4
      go_wp2_with fail
      clear pd0 pd1 pd2 pd3 pd4
      clear px0 px1 px2 px3 px4
      refine (HFl.out _ _ VP.out).mono ?_
      rintro e w10 ⟨_, rfl, hO, hB⟩
      have hv10 := hO.reads
      have td := cell_below hB td
      have bd := cell_below hB bd
      have tx := cell_below hB tx
      have bx := cell_below hB bx
      replace Kd := Lib.hid (Kd.out.below hB Kd.out.lt)
      replace Kx := Lib.hid (Kx.out.below hB Kx.out.lt)
      replace VD := Lib.hid (VD.out.below hB)
      replace VX := Lib.hid (VX.out.below hB)
      replace HB := Lib.hid (below_trans HB.out hB HB.out.size)
      clear hO hB VP
      have VY := Lib.hid hv10
      obtain ⟨_, _, _, _, rfl, ⟨u1, v1, rfl, _⟩, ⟨u2, v2, rfl, _⟩, ⟨u3, v3, rfl, _⟩, ⟨u4, v4, rfl, _⟩⟩ := hv10
      have hb : Below w10.heap.size w10 (w10.alloc (.cells #[.int .i64 p2.state, .slice u1 p2.slots.length v1, .slice u2 p2.rings.length v2, .slice u3 p2.spoilt.length v3, .slice u4 p2.wait.length v4] 27)) := (Below.refl _ _).alloc (Nat.le_refl _) _
      have td := cell_below hb td
      have bd := cell_below hb bd
      have tx := cell_below hb tx
      have bx := cell_below hb bx
      replace Kd := Lib.hid (Kd.out.below hb Kd.out.lt)
      replace Kx := Lib.hid (Kx.out.below hb Kx.out.lt)
      replace VD := Lib.hid (VD.out.below hb)
      replace VX := Lib.hid (VX.out.below hb)
      replace VY := Lib.hid (VY.out.below hb)
      replace HB := Lib.hid (below_trans HB.out hb HB.out.size)
      have Ky := Lib.hid (Blk.new w10 #[.int .i64 p2.state, .slice u1 p2.slots.length v1, .slice u2 p2.rings.length v2, .slice u3 p2.spoilt.length v3, .slice u4 p2.wait.length v4] 27)
      clear hb
      go_wp2_with fail
      generalize w10.alloc (.cells #[.int .i64 p2.state, .slice u1 p2.slots.length v1, .slice u2 p2.rings.length v2, .slice u3 p2.spoilt.length v3, .slice u4 p2.wait.length v4] 27) = w11 at Kd Kx Ky VD VX VY HB td bd tx bx ⊢
      generalize w10.heap.size = my at Ky ⊢
      have bY : ∃ g off, u3 = some ⟨g, off, none⟩ ∧ w11.cell? ⟨g, off + n, none⟩ = some (.bool (p2.spoilt.getD n false)) := mark_at VY.out l2
      obtain ⟨gy, fz, rfl, by1⟩ := bY
      rw [HQ5.out] at by1
      have pd0 : w11.cell? ⟨md, 0, none⟩ = some (.int .i64 d.state) := Kd.out.cell 0
      have pd1 : w11.cell? ⟨md, 1, none⟩ = some (.slice (some ⟨gd, fd, none⟩) d.slots.length c1) := Kd.out.cell 1
      have pd2 : w11.cell? ⟨md, 2, none⟩ = some (.slice o2 d.rings.length c2) := Kd.out.cell 2
      have pd3 : w11.cell? ⟨md, 3, none⟩ = some (.slice (some ⟨hd, fh, none⟩) d.spoilt.length c3) := Kd.out.cell 3
      have pd4 : w11.cell? ⟨md, 4, none⟩ = some (.slice o4 d.wait.length c4) := Kd.out.cell 4
      have px0 : w11.cell? ⟨mx, 0, none⟩ = some (.int .i64 r.state) := Kx.out.cell 0
      have px1 : w11.cell? ⟨mx, 1, none⟩ = some (.slice (some ⟨gx, fx, none⟩) r.slots.length y1) := Kx.out.cell 1
      have px2 : w11.cell? ⟨mx, 2, none⟩ = some (.slice x2 r.rings.length y2) := Kx.out.cell 2
      have px3 : w11.cell? ⟨mx, 3, none⟩ = some (.slice (some ⟨hx, fy, none⟩) r.spoilt.length y3) := Kx.out.cell 3
      have px4 : w11.cell? ⟨mx, 4, none⟩ = some (.slice x4 r.wait.length y4) := Kx.out.cell 4
      have py0 : w11.cell? ⟨my, 0, none⟩ = some (.int .i64 p2.state) := Ky.out.cell 0
      have py1 : w11.cell? ⟨my, 1, none⟩ = some (.slice u1 p2.slots.length v1) := Ky.out.cell 1
      have py2 : w11.cell? ⟨my, 2, none⟩ = some (.slice u2 p2.rings.length v2) := Ky.out.cell 2
      have py3 : w11.cell? ⟨my, 3, none⟩ = some (.slice (some ⟨gy, fz, none⟩) p2.spoilt.length v3) := Ky.out.cell 3
      have py4 : w11.cell? ⟨my, 4, none⟩ = some (.slice u4 p2.wait.length v4) := Ky.out.cell 4
      have cur : Below w11.heap.size w11 w11.drew := (Below.refl _ _).drew
      refine AnyT.start (S := (fun w' : World => Below w11.heap.size w11 w')) (by kernel_rfl) ?_
      refine AnyT.take 0 (show _ = some _ from rfl) rfl (by kernel_rfl) (by kernel_rfl) (by kernel_rfl) (fun _ _ _ h => h) cur (by first | kernel_rfl | rfl) (fun w' hSw => by clear hSw; go_simp; try with_reducible rfl) ?_
      try simp only [Act.put, List.setIfInBounds_toArray, List.set_cons_zero, List.set_cons_succ]
      refine AnyT.take 1 (show _ = some _ from rfl) rfl (by kernel_rfl) (by kernel_rfl) (by kernel_rfl) (fun _ _ _ h => h) cur (by first | kernel_rfl | rfl) (fun w' hSw => by have s0 := cell_below hSw px1; clear hSw; go_simp; try with_reducible rfl) ?_
      try simp only [Act.put, List.setIfInBounds_toArray, List.set_cons_zero, List.set_cons_succ]
      refine AnyT.take 2 (show _ = some _ from rfl) rfl (by kernel_rfl) (by kernel_rfl) (by kernel_rfl) (fun _ _ _ h => h) cur (by first | kernel_rfl | rfl) (fun w' hSw => by clear hSw; go_simp; try with_reducible rfl) ?_
      try simp only [Act.put, List.setIfInBounds_toArray, List.set_cons_zero, List.set_cons_succ]
      refine AnyT.take 3 (show _ = some _ from rfl) rfl (by kernel_rfl) (by kernel_rfl) (by kernel_rfl) (fun _ _ _ h => h) cur (by first | kernel_rfl | rfl) (fun w' hSw => by clear hSw; go_simp; try with_reducible rfl) ?_
      try simp only [Act.put, List.setIfInBounds_toArray, List.set_cons_zero, List.set_cons_succ]
      refine AnyT.take 4 (show _ = some _ from rfl) rfl (by kernel_rfl) (by kernel_rfl) (by kernel_rfl) (fun _ _ _ h => h) cur (by first | kernel_rfl | rfl) (fun w' hSw => by have s0 := cell_below hSw tx; clear hSw; go_simp; try with_reducible rfl) ?_
      try simp only [Act.put, List.setIfInBounds_toArray, List.set_cons_zero, List.set_cons_succ]
      refine AnyT.take 5 (show _ = some _ from rfl) rfl (by kernel_rfl) (by kernel_rfl) (by kernel_rfl) (fun _ _ _ h => h) cur (by first | kernel_rfl | rfl) (fun w' hSw => by clear hSw; go_simp; try with_reducible rfl) ?_
      try simp only [Act.put, List.setIfInBounds_toArray, List.set_cons_zero, List.set_cons_succ]
      refine AnyT.take 6 (show _ = some _ from rfl) rfl (by kernel_rfl) (by kernel_rfl) (by kernel_rfl) (fun _ _ _ h => h) cur (by first | kernel_rfl | rfl) (fun w' hSw => by have s0 := cell_below hSw pd1; clear hSw; go_simp; try with_reducible rfl) ?_
      try simp only [Act.put, List.setIfInBounds_toArray, List.set_cons_zero, List.set_cons_succ]
      refine AnyT.take 7 (show _ = some _ from rfl) rfl (by kernel_rfl) (by kernel_rfl) (by kernel_rfl) (fun _ _ _ h => h) cur (by first | kernel_rfl | rfl) (fun w' hSw => by clear hSw; go_simp; try with_reducible rfl) ?_
      try simp only [Act.put, List.setIfInBounds_toArray, List.set_cons_zero, List.set_cons_succ]
      refine AnyT.take 8 (show _ = some _ from rfl) rfl (by kernel_rfl) (by kernel_rfl) (by kernel_rfl) (fun _ _ _ h => h) cur (by first | kernel_rfl | rfl) (fun w' hSw => by clear hSw; go_simp; try with_reducible rfl) ?_
      try simp only [Act.put, List.setIfInBounds_toArray, List.set_cons_zero, List.set_cons_succ]
      refine AnyT.take 9 (show _ = some _ from rfl) rfl (by kernel_rfl) (by kernel_rfl) (by kernel_rfl) (fun _ _ _ h => h) cur (by first | kernel_rfl | rfl) (fun w' hSw => by have s0 := cell_below hSw td; clear hSw; go_simp; try with_reducible rfl) ?_
      try simp only [Act.put, List.setIfInBounds_toArray, List.set_cons_zero, List.set_cons_succ]
      refine AnyT.take 10 (show _ = some _ from rfl) rfl (by kernel_rfl) (by kernel_rfl) (by kernel_rfl) (fun _ _ _ h => h) cur (by first | kernel_rfl | rfl) (fun w' hSw => by clear hSw; go_simp; try with_reducible rfl) ?_
      try simp only [Act.put, List.setIfInBounds_toArray, List.set_cons_zero, List.set_cons_succ]
      refine AnyT.take 11 (show _ = some _ from rfl) rfl (by kernel_rfl) (by kernel_rfl) (by kernel_rfl) (fun _ _ _ h => h) cur (by first | kernel_rfl | rfl) (fun w' hSw => by clear hSw; go_simp; try with_reducible rfl) ?_
      try simp only [Act.put, List.setIfInBounds_toArray, List.set_cons_zero, List.set_cons_succ]
      refine AnyT.take 12 (show _ = some _ from rfl) rfl (by kernel_rfl) (by kernel_rfl) (by kernel_rfl) (fun _ _ _ h => h) cur (by first | kernel_rfl | rfl) (fun w' hSw => by clear hSw; go_simp; try with_reducible rfl) ?_
      try simp only [Act.put, List.setIfInBounds_toArray, List.set_cons_zero, List.set_cons_succ]
      refine AnyT.one 13 (by kernel_rfl) (show _ = some _ from rfl) (fun K' hK' => ?_)
      go_simp
      go_at_call 17
      refine (HCh.out _ (by first | rfl | (have := Hcc.out; simp [IntKind.wrap, IntKind.bits, IntKind.signed]; done) | (have := Hcc.out; omega)) _).mono ?_
      rintro e w12 ⟨rfl, hB12⟩
      have cur := below_trans cur hB12 cur.size
      clear hB12
      go_simp
      refine hK' _ _ ⟨?_, cur⟩
      clear hK' K'
      try simp only [Act.put, List.setIfInBounds_toArray, List.set_cons_zero, List.set_cons_succ]
      refine AnyT.take 14 (show _ = some _ from rfl) rfl (by kernel_rfl) (by kernel_rfl) (by kernel_rfl) (fun _ _ _ h => h) cur (by first | kernel_rfl | rfl) (fun w' hSw => by clear hSw; go_simp; try with_reducible rfl) ?_
      try simp only [Act.put, List.setIfInBounds_toArray, List.set_cons_zero, List.set_cons_succ]
      refine AnyT.take 15 (show _ = some _ from rfl) rfl (by kernel_rfl) (by kernel_rfl) (by kernel_rfl) (fun _ _ _ h => h) cur (by first | kernel_rfl | rfl) (fun w' hSw => by clear hSw; go_simp; try with_reducible rfl) ?_
      try simp only [Act.put, List.setIfInBounds_toArray, List.set_cons_zero, List.set_cons_succ]
      refine AnyT.take 16 (show _ = some _ from rfl) rfl (by kernel_rfl) (by kernel_rfl) (by kernel_rfl) (fun _ _ _ h => h) cur (by first | kernel_rfl | rfl) (fun w' hSw => by clear hSw; go_simp; try with_reducible rfl) ?_
      try simp only [Act.put, List.setIfInBounds_toArray, List.set_cons_zero, List.set_cons_succ]
      refine AnyT.take 17 (show _ = some _ from rfl) rfl (by kernel_rfl) (by kernel_rfl) (by kernel_rfl) (fun _ _ _ h => h) cur (by first | kernel_rfl | rfl) (fun w' hSw => by have s0 := cell_below hSw px3; clear hSw; go_simp; try with_reducible rfl) ?_
      try simp only [Act.put, List.setIfInBounds_toArray, List.set_cons_zero, List.set_cons_succ]
      refine AnyT.take 18 (show _ = some _ from rfl) rfl (by kernel_rfl) (by kernel_rfl) (by kernel_rfl) (fun _ _ _ h => h) cur (by first | kernel_rfl | rfl) (fun w' hSw => by clear hSw; go_simp; try with_reducible rfl) ?_
      try simp only [Act.put, List.setIfInBounds_toArray, List.set_cons_zero, List.set_cons_succ]
      refine AnyT.take 19 (show _ = some _ from rfl) rfl (by kernel_rfl) (by kernel_rfl) (by kernel_rfl) (fun _ _ _ h => h) cur (by first | kernel_rfl | rfl) (fun w' hSw => by clear hSw; go_simp; try with_reducible rfl) ?_
      try simp only [Act.put, List.setIfInBounds_toArray, List.set_cons_zero, List.set_cons_succ]
      refine AnyT.take 20 (show _ = some _ from rfl) rfl (by kernel_rfl) (by kernel_rfl) (by kernel_rfl) (fun _ _ _ h => h) cur (by first | kernel_rfl | rfl) (fun w' hSw => by have s0 := cell_below hSw bx; clear hSw; go_simp; try with_reducible rfl) ?_
      try simp only [Act.put, List.setIfInBounds_toArray, List.set_cons_zero, List.set_cons_succ]
      refine AnyT.take 21 (show _ = some _ from rfl) rfl (by kernel_rfl) (by kernel_rfl) (by kernel_rfl) (fun _ _ _ h => h) cur (by first | kernel_rfl | rfl) (fun w' hSw => by clear hSw; go_simp; try with_reducible rfl) ?_
      try simp only [Act.put, List.setIfInBounds_toArray, List.set_cons_zero, List.set_cons_succ]
      refine AnyT.take 22 (show _ = some _ from rfl) rfl (by kernel_rfl) (by kernel_rfl) (by kernel_rfl) (fun _ _ _ h => h) cur (by first | kernel_rfl | rfl) (fun w' hSw => by clear hSw; go_simp; try with_reducible rfl) ?_
      try simp only [Act.put, List.setIfInBounds_toArray, List.set_cons_zero, List.set_cons_succ]
      refine AnyT.take 23 (show _ = some _ from rfl) rfl (by kernel_rfl) (by kernel_rfl) (by kernel_rfl) (fun _ _ _ h => h) cur (by first | kernel_rfl | rfl) (fun w' hSw => by have s0 := cell_below hSw px0; have s1 := cell_below hSw px1; have s2 := cell_below hSw px2; have s3 := cell_below hSw px3; have s4 := cell_below hSw px4; clear hSw; go_simp; try with_reducible rfl) ?_
      try simp only [Act.put, List.setIfInBounds_toArray, List.set_cons_zero, List.set_cons_succ]
      refine AnyT.take 24 (show _ = some _ from rfl) rfl (by kernel_rfl) (by kernel_rfl) (by kernel_rfl) (fun _ _ _ h => h) cur (by first | kernel_rfl | rfl) (fun w' hSw => by clear hSw; go_simp; try with_reducible rfl) ?_
      try simp only [Act.put, List.setIfInBounds_toArray, List.set_cons_zero, List.set_cons_succ]
      refine AnyT.take 25 (show _ = some _ from rfl) rfl (by kernel_rfl) (by kernel_rfl) (by kernel_rfl) (fun _ _ _ h => h) cur (by first | kernel_rfl | rfl) (fun w' hSw => by clear hSw; go_simp; try with_reducible rfl) ?_
      try simp only [Act.put, List.setIfInBounds_toArray, List.set_cons_zero, List.set_cons_succ]
      refine AnyT.take 26 (show _ = some _ from rfl) rfl (by kernel_rfl) (by kernel_rfl) (by kernel_rfl) (fun _ _ _ h => h) cur (by first | kernel_rfl | rfl) (fun w' hSw => by clear hSw; go_simp; try with_reducible rfl) ?_
      try simp only [Act.put, List.setIfInBounds_toArray, List.set_cons_zero, List.set_cons_succ]
      refine AnyT.take 28 (show _ = some _ from rfl) rfl (by kernel_rfl) (by kernel_rfl) (by kernel_rfl) (fun _ _ _ h => h) cur (by first | kernel_rfl | rfl) (fun w' hSw => by have s0 := cell_below hSw px0; have s1 := cell_below hSw px1; have s2 := cell_below hSw px2; have s3 := cell_below hSw px3; have s4 := cell_below hSw px4; clear hSw; go_simp; try with_reducible rfl) ?_
      try simp only [Act.put, List.setIfInBounds_toArray, List.set_cons_zero, List.set_cons_succ]
      refine AnyT.one 27 (by kernel_rfl) (show _ = some _ from rfl) (fun K' hK' => ?_)
      go_simp
      go_at_call 14
      refine (HIX.out _ _ (VX.out.below cur)).mono ?_
      rintro e w13 ⟨_, rfl, o7, hB7⟩
      have V7 := Lib.hid o7.reads
      have hx7 := o7.reads
      obtain ⟨_, _, _, _, rfl, ⟨i1, j1, rfl, _⟩, ⟨i2, j2, rfl, _⟩, ⟨i3, j3, rfl, _⟩, ⟨i4, j4, rfl, _⟩⟩ := hx7
      clear o7
      have cur := below_trans cur hB7 cur.size
      clear hB7
      go_simp
      refine hK' _ _ ⟨?_, cur⟩
      clear hK' K'
      try simp only [Act.put, List.setIfInBounds_toArray, List.set_cons_zero, List.set_cons_succ]
      refine AnyT.one 29 (by kernel_rfl) (show _ = some _ from rfl) (fun K' hK' => ?_)
      go_simp
      go_at_call 8
      refine (lpaDisk_same _ _ r _ V7.out (VX.out.below cur)).mono ?_
      rintro e w14 ⟨rfl, hB8⟩
      have cur := below_trans cur hB8 cur.size
      clear hB8
      go_simp
      refine hK' _ _ ⟨?_, cur⟩
      clear hK' K'
      try simp only [Act.put, List.setIfInBounds_toArray, List.set_cons_zero, List.set_cons_succ]
      refine AnyT.take 30 (show _ = some _ from rfl) rfl (by kernel_rfl) (by kernel_rfl) (by kernel_rfl) (fun _ _ _ h => h) cur (by first | kernel_rfl | rfl) (fun w' hSw => by clear hSw; go_simp; try with_reducible rfl) ?_
      try simp only [Act.put, List.setIfInBounds_toArray, List.set_cons_zero, List.set_cons_succ]
      refine AnyT.take 31 (show _ = some _ from rfl) rfl (by kernel_rfl) (by kernel_rfl) (by kernel_rfl) (fun _ _ _ h => h) cur (by first | kernel_rfl | rfl) (fun w' hSw => by clear hSw; go_simp; try with_reducible rfl) ?_
      try simp only [Act.put, List.setIfInBounds_toArray, List.set_cons_zero, List.set_cons_succ]
      refine AnyT.take 32 (show _ = some _ from rfl) rfl (by kernel_rfl) (by kernel_rfl) (by kernel_rfl) (fun _ _ _ h => h) cur (by first | kernel_rfl | rfl) (fun w' hSw => by have s0 := cell_below hSw px0; have s1 := cell_below hSw px1; have s2 := cell_below hSw px2; have s3 := cell_below hSw px3; have s4 := cell_below hSw px4; clear hSw; go_simp; try with_reducible rfl) ?_
      try simp only [Act.put, List.setIfInBounds_toArray, List.set_cons_zero, List.set_cons_succ]
      refine AnyT.one 33 (by kernel_rfl) (show _ = some _ from rfl) (fun K' hK' => ?_)
      go_simp
      go_at_call 10
      refine (HOk.out _ _ (VX.out.below cur)).mono ?_
      rintro e w15 ⟨rfl, hB9⟩
      have cur := below_trans cur hB9 cur.size
      clear hB9
      go_simp
      refine hK' _ _ ⟨?_, cur⟩
      clear hK' K'
      try simp only [Act.put, List.setIfInBounds_toArray, List.set_cons_zero, List.set_cons_succ]
      refine AnyT.take 34 (show _ = some _ from rfl) rfl (by kernel_rfl) (by kernel_rfl) (by kernel_rfl) (fun _ _ _ h => h) cur (by first | kernel_rfl | rfl) (fun w' hSw => by clear hSw; go_simp; try with_reducible rfl) ?_
      try simp only [Act.put, List.setIfInBounds_toArray, List.set_cons_zero, List.set_cons_succ]
      refine AnyT.take 35 (show _ = some _ from rfl) rfl (by kernel_rfl) (by kernel_rfl) (by kernel_rfl) (fun _ _ _ h => h) cur (by first | kernel_rfl | rfl) (fun w' hSw => by clear hSw; go_simp; try with_reducible rfl) ?_
      try simp only [Act.put, List.setIfInBounds_toArray, List.set_cons_zero, List.set_cons_succ]
      refine AnyT.take 36 (show _ = some _ from rfl) rfl (by kernel_rfl) (by kernel_rfl) (by kernel_rfl) (fun _ _ _ h => h) cur (by first | kernel_rfl | rfl) (fun w' hSw => by clear hSw; go_simp; try with_reducible rfl) ?_
      try simp only [Act.put, List.setIfInBounds_toArray, List.set_cons_zero, List.set_cons_succ]
      refine AnyT.take 37 (show _ = some _ from rfl) rfl (by kernel_rfl) (by kernel_rfl) (by kernel_rfl) (fun _ _ _ h => h) cur (by first | kernel_rfl | rfl) (fun w' hSw => by have s0 := cell_below hSw py3; clear hSw; go_simp; try with_reducible rfl) ?_
      try simp only [Act.put, List.setIfInBounds_toArray, List.set_cons_zero, List.set_cons_succ]
      refine AnyT.take 38 (show _ = some _ from rfl) rfl (by kernel_rfl) (by kernel_rfl) (by kernel_rfl) (fun _ _ _ h => h) cur (by first | kernel_rfl | rfl) (fun w' hSw => by clear hSw; go_simp; try with_reducible rfl) ?_
      try simp only [Act.put, List.setIfInBounds_toArray, List.set_cons_zero, List.set_cons_succ]
      refine AnyT.take 39 (show _ = some _ from rfl) rfl (by kernel_rfl) (by kernel_rfl) (by kernel_rfl) (fun _ _ _ h => h) cur (by first | kernel_rfl | rfl) (fun w' hSw => by clear hSw; go_simp; try with_reducible rfl) ?_
      try simp only [Act.put, List.setIfInBounds_toArray, List.set_cons_zero, List.set_cons_succ]
      refine AnyT.take 40 (show _ = some _ from rfl) rfl (by kernel_rfl) (by kernel_rfl) (by kernel_rfl) (fun _ _ _ h => h) cur (by first | kernel_rfl | rfl) (fun w' hSw => by clear hSw; go_simp; try with_reducible rfl) ?_
      try simp only [Act.put, List.setIfInBounds_toArray, List.set_cons_zero, List.set_cons_succ]
      refine AnyT.take 41 (show _ = some _ from rfl) rfl (by kernel_rfl) (by kernel_rfl) (by kernel_rfl) (fun _ _ _ h => h) cur (by first | kernel_rfl | rfl) (fun w' hSw => by clear hSw; go_simp; try with_reducible rfl) ?_
      try simp only [Act.put, List.setIfInBounds_toArray, List.set_cons_zero, List.set_cons_succ]
      refine AnyT.take 42 (show _ = some _ from rfl) rfl (by kernel_rfl) (by kernel_rfl) (by kernel_rfl) (fun _ _ _ h => h) cur (by first | kernel_rfl | rfl) (fun w' hSw => by clear hSw; go_simp; try with_reducible rfl) ?_
      try simp only [Act.put, List.setIfInBounds_toArray, List.set_cons_zero, List.set_cons_succ]
      refine AnyT.take 43 (show _ = some _ from rfl) rfl (by kernel_rfl) (by kernel_rfl) (by kernel_rfl) (fun _ _ _ h => h) cur (by first | kernel_rfl | rfl) (fun w' hSw => by clear hSw; go_simp; try with_reducible rfl) ?_
      try simp only [Act.put, List.setIfInBounds_toArray, List.set_cons_zero, List.set_cons_succ]
      refine AnyT.take 44 (show _ = some _ from rfl) rfl (by kernel_rfl) (by kernel_rfl) (by kernel_rfl) (fun _ _ _ h => h) cur (by first | kernel_rfl | rfl) (fun w' hSw => by have s0 := cell_below hSw py3; clear hSw; go_simp; try with_reducible rfl) ?_
      try simp only [Act.put, List.setIfInBounds_toArray, List.set_cons_zero, List.set_cons_succ]
      refine AnyT.take 45 (show _ = some _ from rfl) rfl (by kernel_rfl) (by kernel_rfl) (by kernel_rfl) (fun _ _ _ h => h) cur (by first | kernel_rfl | rfl) (fun w' hSw => by clear hSw; go_simp; try with_reducible rfl) ?_
      try simp only [Act.put, List.setIfInBounds_toArray, List.set_cons_zero, List.set_cons_succ]
      refine AnyT.take 46 (show _ = some _ from rfl) rfl (by kernel_rfl) (by kernel_rfl) (by kernel_rfl) (fun _ _ _ h => h) cur (by first | kernel_rfl | rfl) (fun w' hSw => by clear hSw; go_simp; try with_reducible rfl) ?_
      try simp only [Act.put, List.setIfInBounds_toArray, List.set_cons_zero, List.set_cons_succ]
      refine AnyT.take 47 (show _ = some _ from rfl) rfl (by kernel_rfl) (by kernel_rfl) (by kernel_rfl) (fun _ _ _ h => h) cur (by first | kernel_rfl | rfl) (fun w' hSw => by have s0 := cell_below hSw by1; clear hSw; go_simp; try with_reducible rfl) ?_
      try simp only [Act.put, List.setIfInBounds_toArray, List.set_cons_zero, List.set_cons_succ]
      refine AnyT.take 48 (show _ = some _ from rfl) rfl (by kernel_rfl) (by kernel_rfl) (by kernel_rfl) (fun _ _ _ h => h) cur (by first | kernel_rfl | rfl) (fun w' hSw => by clear hSw; go_simp; try with_reducible rfl) ?_
      try simp only [Act.put, List.setIfInBounds_toArray, List.set_cons_zero, List.set_cons_succ]
      refine AnyT.take 49 (show _ = some _ from rfl) rfl (by kernel_rfl) (by kernel_rfl) (by kernel_rfl) (fun _ _ _ h => h) cur (by first | kernel_rfl | rfl) (fun w' hSw => by clear hSw; go_simp; try with_reducible rfl) ?_
      try simp only [Act.put, List.setIfInBounds_toArray, List.set_cons_zero, List.set_cons_succ]
      refine AnyT.one 50 (by kernel_rfl) (show _ = some _ from rfl) (fun K' hK' => ?_)
      go_simp
      refine hK' _ _ ⟨AnyT.done (by kernel_rfl) ?_, cur⟩
      clear hK' K'
      try simp only [Act.put, List.setIfInBounds_toArray, List.set_cons_zero, List.set_cons_succ]
      replace HB := Lib.hid (below_trans HB.out cur HB.out.size)
      go_wp2
      go_ret
      exact ⟨rfl, HB.out⟩
    · have hrd : r = d := by rw [hr]; exact spoil_no hcs b _
      clear hr
      subst hrd
      by_cases he : (r.slots.getD n ByteArray.empty).size = 0
      · have e0 := empty_yes he
        generalize r.slots.getD n ByteArray.empty = TX at td tx e0
        clear he hcs
        go_wp2_with fail
        refine (lpaDisk_same _ _ r _ VX.out VD.out).mono ?_
        rintro e w9 ⟨rfl, hB⟩
        replace HB := Lib.hid (below_trans HB.out hB HB.out.size)
        clear hB
        go_wp2
        go_ret
        exact ⟨rfl, HB.out⟩
      · have e0 := empty_no he
        have e1 : r.spoilt.getD n false = true := (Bool.eq_false_or_eq_true (r.spoilt.getD n false)).elim id (fun h => absurd ⟨he, h⟩ hcs)
        rw [e1] at bd bx
        generalize r.slots.getD n ByteArray.empty = TX at td tx e0
        clear he hcs e1
        go_wp2_with fail
        refine (lpaDisk_same _ _ r _ VX.out VD.out).mono ?_
        rintro e w9 ⟨rfl, hB⟩
        replace HB := Lib.hid (below_trans HB.out hB HB.out.size)
        clear hB
        go_wp2
        go_ret
        exact ⟨rfl, HB.out⟩

set_option maxRecDepth 100000 in
set_option maxHeartbeats 1000000 in
theorem walk (a0 : Option Addr) (len0 cap0 : Nat) (z0 : List Int) (w : World) (w0 : IsBytes w a0 len0 cap0 z0) :
    Calls Try.prog 4 #[.slice a0 len0 cap0] w fun e w' => e = .returned (.bool true) ∧ Below w.heap.size w w' := by
  by_cases h0 : len0 ≤ 1048576
  · exact main a0 len0 cap0 z0 w h0 w0
  · have hm : len0 ≤ maxLen := by have := w0.opened; omega
    have d0 : decide (1048576 < (len0 : Int)) = true := by simp; omega
    clear w0
    go_enter Try.func4, Try.ntmps4
    go_wp2
    go_ret
    exact ⟨rfl, Below.refl _ _⟩

set_option maxRecDepth 100000 in
theorem lifted (os : Os) (started : os.Started) (H : Type) (enc : TypeId × Value → H) :
    ReturnsInHanded {} Try.checked os 4 .any (Rows.fnDiskSpoilSpec.pre6 enc Try.prog Try.f4 Rows.fnDiskSpoilRow.domain false) (Rows.fnDiskSpoilSpec.post enc Try.prog Try.f4 false true false false) := by
  refine returnsInHanded_of_change (C := Try.checked) own started (by kernel_rfl) Try.func4
    (ChangeSpec.witness6 (enc := enc) (C := Try.checked) false ⟨#[], #[.slice none 0 0], []⟩ 8 (by kernel_rfl) (by kernel_rfl) (by kernel_rfl) (by kernel_rfl)) ?_
  intro W base args ds gs before hval0 hW hcnd _
  have hval : ∀ (j : Nat) t v, Try.f4.params[j]? = some t → args[j]? = some v → Value.okWide Try.prog W .any base t v := hval0
  have hW' := hW
  obtain ⟨p, q, hA0, hV, rfl, hfz, hnd⟩ := hW
  have hA : DataW.TrodAll enc Try.prog W 0 (fun _ => true) true Try.f4.params.toList args.toList ds p := hA0
  rw [Try.params4] at hA hval
  obtain ⟨v0, vs0, d0, ds0, p0, q0, hargs, rfl, rfl, h0, r0⟩ := trodAll_cons hA
  obtain ⟨rfl, rfl, rfl⟩ := trodAll_nil r0
  obtain rfl : args = #[v0] := by cases args; simp_all
  obtain ⟨rfl, rfl⟩ := trodVars_none hV
  have k0 := h0
  have lt0 : ∀ x ∈ p0, x.block < W.heap.size := by obtain ⟨m, hm⟩ := k0; exact DataW.trod_lt m _ _ _ hm
  obtain ⟨a0, len0, cap0, rfl⟩ := okWide_slice Try.underlying22 (hval 0 22 v0 rfl rfl)
  obtain ⟨z0, w0⟩ : ∃ zs, IsBytes W a0 len0 cap0 zs := by
    obtain ⟨fuel, hf⟩ := h0
    rcases open_ints Try.underlying22 Try.underlying5 (by kernel_rfl) hf with ⟨hcs, _⟩ | ⟨x, l, c, zs, hcs, _, hl, hm, hz, _, hcell, hwz⟩
    · simp [Value.cells] at hcs
      obtain ⟨rfl, rfl, rfl⟩ := hcs
      exact ⟨[], .inl ⟨rfl, rfl, rfl, rfl⟩⟩
    · simp [Value.cells] at hcs
      obtain ⟨rfl, rfl, rfl⟩ := hcs
      exact ⟨zs, .inr ⟨_, rfl, hl, hm, by simpa using hz, hcell, hwz⟩⟩
  clear hA0 hval0
  refine (walk a0 len0 cap0 z0 W w0).mono fun e W' ⟨he, bel⟩ => ?_
  subst he
  exact ⟨_, rfl, _, _, _, [], _, [], hW', trodAll_mk1 (shut_bool Try.underlying4 _), (trodAll_cons_mk (Below.trod laidOut (by kernel_rfl) (of_decide_eq_true (by kernel_rfl)) k0 bel lt0) trodAll_mk0), rfl, bel.frame _, fun h => by cases h⟩

theorem over : Rows.fnDiskSpoilRow.holds Try.pinned (OpenSpec.ofChange Rows.fnDiskSpoilSpec) :=
  OpenClaim.holds_of_wide 4 Try.f4 rfl rfl rfl rfl rfl rfl rfl ⟨rfl, rfl, rfl, rfl, rfl⟩ rfl rfl rfl rfl rfl (by kernel_rfl) Try.func4 (by kernel_rfl)
    (of_decide_eq_true (by kernel_rfl)) (by unfold Func.isWrapper; first | (rw [if_pos (by decide +kernel)]; kernel_rfl) | (rw [if_neg (by decide +kernel)]; exact ⟨rfl, rfl⟩))
    (fun os started H enc _ => lifted os started H enc)

end FnDiskSpoil

theorem FnDiskSpoil_holds : Rows.FnDiskSpoilSaid := FnDiskSpoil.over

end Go.Proofs.Ytifgoanicbaohaa
