/- 'laws.FnDiskCrash' returns true at every code: behind a fall of a drawn disk DiskCrash of the program answers as DiskCrash of the specification; each slot has what it had, or what waited for it; with none kept all as it had, with all kept what a flush gives. Conditions: none. -/
import Derived.Test.YtifgoanicbaohaaPCJL
import Derived.Test.YtifgoanicbaohaaPCVT
import Derived.Test.YtifgoanicbaohaaPCV4
import Derived.Test.YtifgoanicbaohaaPCN2
import Derived.Test.YtifgoanicbaohaaPCN1
import Derived.Test.YtifgoanicbaohaaPCH9
import Derived.Test.YtifgoanicbaohaaPCK
import Derived.Lib.QuietBelow
namespace Go.Proofs.Ytifgoanicbaohaa
open Go.ChangeShapes Go.WideShapes Go.ChangeAt Go.RowKit Go.Sort Go.Lib
namespace FnDiskCrash
set_option linter.unusedVariables false

theorem choose (d : DiskD) (x : Int) (hx : x ≤ 9223372036854775807) : ∃ r : DiskD, Hid (∀ v W, DiskV W v d → Calls Try.prog 9 #[v, .int .i64 x] W (NewDisk r W)) ∧ Hid (∀ v W, DiskV W v d → Calls Try.prog 7 #[v, .int .i64 x] W (NewDisk r W)) ∧
    (r.slots.length = 0 ∨ (DiskFine d ∧ r = crashD d x)) := by
  by_cases h : DiskFine d
  · by_cases h0 : 0 ≤ x
    · exact ⟨crashD d x, fun v W hv => specCrash_ok v d x W h h0 hx hv, fun v W hv => implCrash_ok v d x W h h0 hx hv, .inr ⟨h, rfl⟩⟩
    · exact ⟨disk0, fun v W hv => specCrash_neg v d x W h (by omega) hv, fun v W hv => implCrash_neg v d x W h (by omega) hv, .inl rfl⟩
  · exact ⟨disk0, fun v W hv => specCrash_no v d x W h hv, fun v W hv => implCrash_no v d x W h hv, .inl rfl⟩
theorem slot_at {w : World} {st : Int} {o1 : Option Addr} {n1 c1 : Nat} {v2 v3 v4 : Value} {d : DiskD} {n : Nat} (h : DiskV w (.agg #[.int .i64 st, .slice o1 n1 c1, v2, v3, v4]) d) (hn : n < d.slots.length) : ∃ g off, o1 = some ⟨g, off, none⟩ ∧ w.cell? ⟨g, off + n, none⟩ = some (.string (d.slots.getD n ByteArray.empty)) := by
  obtain ⟨u1, u2, u3, u4, e, ⟨a, c, e1, _, _, hx⟩, _⟩ := h
  subst e1
  cases e
  rcases hx with h | ⟨b, off, e, hc⟩
  · rw [h] at hn; simp at hn
  · exact ⟨b, off, e, hc n hn⟩
theorem wait_at {w : World} {st : Int} {o4 : Option Addr} {n4 c4 : Nat} {v1 v2 v3 : Value} {d : DiskD} {n : Nat} (h : DiskV w (.agg #[.int .i64 st, v1, v2, v3, .slice o4 n4 c4]) d) (hn : n < d.wait.length) : ∃ g off, o4 = some ⟨g, off, none⟩ ∧
    w.cell? ⟨g, off + n * 3, none⟩ = some (.bool (d.wait.getD n put0).ring) ∧ w.cell? ⟨g, off + n * 3 + 1, none⟩ = some (.int .i64 (d.wait.getD n put0).pos) ∧ w.cell? ⟨g, off + n * 3 + 2, none⟩ = some (.string (d.wait.getD n put0).text) := by
  obtain ⟨u1, u2, u3, u4, e, _, _, _, ⟨a, c, e1, _, _, hx⟩⟩ := h
  subst e1
  cases e
  rcases hx with h | ⟨b, off, e, hc⟩
  · rw [h] at hn; simp at hn
  · exact ⟨b, off, e, hc n hn⟩
theorem texts_at {w : World} {st : Int} {o1 o2 : Option Addr} {n1 c1 n2 c2 : Nat} {v3 v4 : Value} {d : DiskD} (h : DiskV w (.agg #[.int .i64 st, .slice o1 n1 c1, .slice o2 n2 c2, v3, v4]) d) : TxAt w o1 d.slots ∧ TxAt w o2 d.rings := by
  obtain ⟨u1, u2, u3, u4, e, ⟨a, c, e1, _, _, hx⟩, ⟨a2, c2, e2, _, _, hx2⟩, _⟩ := h
  subst e1; subst e2
  cases e
  exact ⟨hx, hx2⟩
/-- FOUND BY NOW. -/
def Found (d r : DiskD) (i k : Nat) (b : Bool) : Prop := b = true ↔ (r.slots.getD i ByteArray.empty = d.slots.getD i ByteArray.empty ∨ ∃ j, j < k ∧ Hit d.wait i (r.slots.getD i ByteArray.empty) j)
theorem Found.zero {d r : DiskD} {i : Nat} {a b : ByteArray} (ha : r.slots.getD i ByteArray.empty = a) (hb : d.slots.getD i ByteArray.empty = b) : Found d r i 0 (a.toList == b.toList) := by
  unfold Found
  rw [ha, hb]
  constructor
  · intro h
    refine .inl ?_
    have := eq_of_beq h
    rw [ByteArray.toList_eq, ByteArray.toList_eq] at this
    exact ByteArray.ext (Array.toList_inj.1 this)
  · rintro (h | ⟨j, hj, _⟩)
    · rw [h]; exact beq_self_eq_true _
    · omega
theorem Found.kept {d r : DiskD} {i k : Nat} (h : Found d r i k true) : Found d r i (k + 1) true := by
  unfold Found at h ⊢
  refine ⟨fun _ => ?_, fun _ => rfl⟩
  rcases h.1 rfl with h | ⟨j, hj, hh⟩
  · exact .inl h
  · exact .inr ⟨j, by omega, hh⟩
theorem Found.next {d r : DiskD} {i k : Nat} (h : Found d r i k false) {b : Bool} (hb : b = true ↔ Hit d.wait i (r.slots.getD i ByteArray.empty) k) : Found d r i (k + 1) b := by
  unfold Found at h ⊢
  rw [hb]
  constructor
  · intro hh; exact .inr ⟨k, by omega, hh⟩
  · rintro (hh | ⟨j, hj, hh⟩)
    · exact absurd (h.2 (.inl hh)) (by decide)
    · by_cases e : j = k
      · subst e; exact hh
      · exact absurd (h.2 (.inr ⟨j, by omega, hh⟩)) (by decide)
theorem hit_text {p : PutD} {ps : List PutD} {i k : Nat} {t : ByteArray} (hp : ps.getD k put0 = p) (h1 : p.ring = false) (h2 : p.pos = (i : Int)) : (p.text.toList == t.toList) = true ↔ Hit ps i t k := by
  unfold Hit
  rw [hp]
  constructor
  · intro h
    have := eq_of_beq h
    rw [ByteArray.toList_eq, ByteArray.toList_eq] at this
    exact ⟨h1, h2, ByteArray.ext (Array.toList_inj.1 this)⟩
  · rintro ⟨_, _, h⟩
    rw [h]; exact beq_self_eq_true _

set_option linter.unusedSimpArgs false in
set_option maxRecDepth 100000 in
set_option maxHeartbeats 20000000 in
theorem main (a : Option Addr) (len cap : Nat) (z0 : List Int) (w : World) (h0 : len ≤ 1048576) (H : Hid (IsBytes w a len cap z0)) :
    Calls Try.prog 3 #[.slice a len cap] w fun e w' => e = .returned (.bool true) ∧ Below w.heap.size w w' := by
  have d0 : decide (1048576 < (len : Int)) = false := by simp; omega
  go_enter Try.func3, Try.ntmps3
  go_wp2_with fail
  refine (drawCrash_any a len cap z0 _ H.out).mono ?_
  rintro e w1 ⟨d, _, zk, rfl, hv1, hzk, HB⟩
  replace HB := Lib.hid HB
  have VD := Lib.hid hv1
  obtain ⟨r, HS, HI, HF⟩ := choose d zk hzk.2
  clear hzk
  obtain ⟨_, _, _, _, rfl, ⟨o1, c1, rfl, _⟩, ⟨o2, c2, rfl, _⟩, ⟨o3, c3, rfl, _⟩, ⟨o4, c4, rfl, _⟩⟩ := hv1
  have hb : Below w1.heap.size w1 (w1.alloc (.cells #[.int .i64 d.state, .slice o1 d.slots.length c1, .slice o2 d.rings.length c2, .slice o3 d.spoilt.length c3, .slice o4 d.wait.length c4] 27)) := (Below.refl _ _).alloc (Nat.le_refl _) _
  replace VD := Lib.hid (VD.out.below hb)
  replace HB := Lib.hid (below_trans HB.out hb HB.out.size)
  have Kd := Lib.hid (Blk.new w1 #[.int .i64 d.state, .slice o1 d.slots.length c1, .slice o2 d.rings.length c2, .slice o3 d.spoilt.length c3, .slice o4 d.wait.length c4] 27)
  clear hb
  go_wp2_with fail
  generalize w1.alloc (.cells #[.int .i64 d.state, .slice o1 d.slots.length c1, .slice o2 d.rings.length c2, .slice o3 d.spoilt.length c3, .slice o4 d.wait.length c4] 27) = w1b at Kd VD HB ⊢
  generalize w1.heap.size = md at Kd ⊢
  refine (HI.out _ _ VD.out).mono ?_
  rintro e w2 ⟨_, rfl, hO, hB⟩
  have hv2 := hO.reads
  replace Kd := Lib.hid (Kd.out.below hB Kd.out.lt)
  replace VD := Lib.hid (VD.out.below hB)
  replace HB := Lib.hid (below_trans HB.out hB HB.out.size)
  have VX := Lib.hid hv2
  clear hO hB
  obtain ⟨_, _, _, _, rfl, ⟨x1, y1, rfl, _⟩, ⟨x2, y2, rfl, _⟩, ⟨x3, y3, rfl, _⟩, ⟨x4, y4, rfl, _⟩⟩ := hv2
  have hb : Below w2.heap.size w2 (w2.alloc (.cells #[.int .i64 r.state, .slice x1 r.slots.length y1, .slice x2 r.rings.length y2, .slice x3 r.spoilt.length y3, .slice x4 r.wait.length y4] 27)) := (Below.refl _ _).alloc (Nat.le_refl _) _
  replace Kd := Lib.hid (Kd.out.below hb Kd.out.lt)
  replace VD := Lib.hid (VD.out.below hb)
  replace VX := Lib.hid (VX.out.below hb)
  replace HB := Lib.hid (below_trans HB.out hb HB.out.size)
  have Kx := Lib.hid (Blk.new w2 #[.int .i64 r.state, .slice x1 r.slots.length y1, .slice x2 r.rings.length y2, .slice x3 r.spoilt.length y3, .slice x4 r.wait.length y4] 27)
  clear hb
  go_wp2_with fail
  generalize w2.alloc (.cells #[.int .i64 r.state, .slice x1 r.slots.length y1, .slice x2 r.rings.length y2, .slice x3 r.spoilt.length y3, .slice x4 r.wait.length y4] 27) = w3 at Kd Kx VD VX HB ⊢
  generalize w2.heap.size = mx at Kx ⊢
  have pd0 : w3.cell? ⟨md, 0, none⟩ = some (.int .i64 d.state) := Kd.out.cell 0
  have pd1 : w3.cell? ⟨md, 1, none⟩ = some (.slice o1 d.slots.length c1) := Kd.out.cell 1
  have pd2 : w3.cell? ⟨md, 2, none⟩ = some (.slice o2 d.rings.length c2) := Kd.out.cell 2
  have pd3 : w3.cell? ⟨md, 3, none⟩ = some (.slice o3 d.spoilt.length c3) := Kd.out.cell 3
  have pd4 : w3.cell? ⟨md, 4, none⟩ = some (.slice o4 d.wait.length c4) := Kd.out.cell 4
  have px0 : w3.cell? ⟨mx, 0, none⟩ = some (.int .i64 r.state) := Kx.out.cell 0
  have px1 : w3.cell? ⟨mx, 1, none⟩ = some (.slice x1 r.slots.length y1) := Kx.out.cell 1
  have px2 : w3.cell? ⟨mx, 2, none⟩ = some (.slice x2 r.rings.length y2) := Kx.out.cell 2
  have px3 : w3.cell? ⟨mx, 3, none⟩ = some (.slice x3 r.spoilt.length y3) := Kx.out.cell 3
  have px4 : w3.cell? ⟨mx, 4, none⟩ = some (.slice x4 r.wait.length y4) := Kx.out.cell 4
  have cur : Below w3.heap.size w3 w3.drew := (Below.refl _ _).drew
  refine AnyT.start (S := (fun w' : World => Below w3.heap.size w3 w')) (by kernel_rfl) ?_
  refine AnyT.take 0 (show _ = some _ from rfl) rfl (by kernel_rfl) (by kernel_rfl) (by kernel_rfl) (fun _ _ _ h => h) cur (by first | kernel_rfl | rfl) (fun w' hSw => by have s0 := cell_below hSw px0; have s1 := cell_below hSw px1; have s2 := cell_below hSw px2; have s3 := cell_below hSw px3; have s4 := cell_below hSw px4; clear hSw; go_simp; try with_reducible rfl) ?_
  try simp only [Act.put, List.setIfInBounds_toArray, List.set_cons_zero, List.set_cons_succ]
  refine AnyT.take 1 (show _ = some _ from rfl) rfl (by kernel_rfl) (by kernel_rfl) (by kernel_rfl) (fun _ _ _ h => h) cur (by first | kernel_rfl | rfl) (fun w' hSw => by have s0 := cell_below hSw pd0; have s1 := cell_below hSw pd1; have s2 := cell_below hSw pd2; have s3 := cell_below hSw pd3; have s4 := cell_below hSw pd4; clear hSw; go_simp; try with_reducible rfl) ?_
  try simp only [Act.put, List.setIfInBounds_toArray, List.set_cons_zero, List.set_cons_succ]
  refine AnyT.take 2 (show _ = some _ from rfl) rfl (by kernel_rfl) (by kernel_rfl) (by kernel_rfl) (fun _ _ _ h => h) cur (by first | kernel_rfl | rfl) (fun w' hSw => by clear hSw; go_simp; try with_reducible rfl) ?_
  try simp only [Act.put, List.setIfInBounds_toArray, List.set_cons_zero, List.set_cons_succ]
  refine AnyT.one 3 (by kernel_rfl) (show _ = some _ from rfl) (fun K' hK' => ?_)
  go_simp
  go_at_call 9
  refine (HS.out _ _ (VD.out.below cur)).mono ?_
  rintro e w7 ⟨_, rfl, o7, hB7⟩
  have V7 := Lib.hid o7.reads
  have hx7 := o7.reads
  obtain ⟨_, _, _, _, rfl, ⟨g1, h1, rfl, _⟩, ⟨g2, h2, rfl, _⟩, ⟨g3, h3, rfl, _⟩, ⟨g4, h4, rfl, _⟩⟩ := hx7
  clear o7
  have cur := below_trans cur hB7 cur.size
  clear hB7
  go_simp
  refine hK' _ _ ⟨?_, cur⟩
  clear hK' K'
  try simp only [Act.put, List.setIfInBounds_toArray, List.set_cons_zero, List.set_cons_succ]
  refine AnyT.one 4 (by kernel_rfl) (show _ = some _ from rfl) (fun K' hK' => ?_)
  go_simp
  go_at_call 8
  refine (lpaDisk_same _ _ r _ (VX.out.below cur) V7.out).mono ?_
  rintro e w8 ⟨rfl, hB8⟩
  have cur := below_trans cur hB8 cur.size
  clear hB8
  go_simp
  refine hK' _ _ ⟨?_, cur⟩
  clear hK' K'
  try simp only [Act.put, List.setIfInBounds_toArray, List.set_cons_zero, List.set_cons_succ]
  refine AnyT.take 5 (show _ = some _ from rfl) rfl (by kernel_rfl) (by kernel_rfl) (by kernel_rfl) (fun _ _ _ h => h) cur (by first | kernel_rfl | rfl) (fun w' hSw => by clear hSw; go_simp; try with_reducible rfl) ?_
  try simp only [Act.put, List.setIfInBounds_toArray, List.set_cons_zero, List.set_cons_succ]
  refine AnyT.take 6 (show _ = some _ from rfl) rfl (by kernel_rfl) (by kernel_rfl) (by kernel_rfl) (fun _ _ _ h => h) cur (by first | kernel_rfl | rfl) (fun w' hSw => by clear hSw; go_simp; try with_reducible rfl) ?_
  try simp only [Act.put, List.setIfInBounds_toArray, List.set_cons_zero, List.set_cons_succ]
  refine AnyT.take 7 (show _ = some _ from rfl) rfl (by kernel_rfl) (by kernel_rfl) (by kernel_rfl) (fun _ _ _ h => h) cur (by first | kernel_rfl | rfl) (fun w' hSw => by clear hSw; go_simp; try with_reducible rfl) ?_
  try simp only [Act.put, List.setIfInBounds_toArray, List.set_cons_zero, List.set_cons_succ]
  refine AnyT.take 8 (show _ = some _ from rfl) rfl (by kernel_rfl) (by kernel_rfl) (by kernel_rfl) (fun _ _ _ h => h) cur (by first | kernel_rfl | rfl) (fun w' hSw => by have s0 := cell_below hSw px1; clear hSw; go_simp; try with_reducible rfl) ?_
  try simp only [Act.put, List.setIfInBounds_toArray, List.set_cons_zero, List.set_cons_succ]
  refine AnyT.take 9 (show _ = some _ from rfl) rfl (by kernel_rfl) (by kernel_rfl) (by kernel_rfl) (fun _ _ _ h => h) cur (by first | kernel_rfl | rfl) (fun w' hSw => by clear hSw; go_simp; try with_reducible rfl) ?_
  try simp only [Act.put, List.setIfInBounds_toArray, List.set_cons_zero, List.set_cons_succ]
  refine AnyT.take 10 (show _ = some _ from rfl) rfl (by kernel_rfl) (by kernel_rfl) (by kernel_rfl) (fun _ _ _ h => h) cur (by first | kernel_rfl | rfl) (fun w' hSw => by clear hSw; go_simp; try with_reducible rfl) ?_
  try simp only [Act.put, List.setIfInBounds_toArray, List.set_cons_zero, List.set_cons_succ]
  refine AnyT.one 11 (by kernel_rfl) (show _ = some _ from rfl) (fun K' hK' => ?_)
  go_simp
  refine hK' _ _ ⟨AnyT.done (by kernel_rfl) ?_, cur⟩
  clear hK' K'
  try simp only [Act.put, List.setIfInBounds_toArray, List.set_cons_zero, List.set_cons_succ]
  clear pd0 pd1 pd2 pd3 pd4
  clear px0 px1 px2 px3 px4
  clear V7
  replace Kd := Lib.hid (Kd.out.below cur Kd.out.lt)
  replace Kx := Lib.hid (Kx.out.below cur Kx.out.lt)
  replace VD := Lib.hid (VD.out.below cur)
  replace VX := Lib.hid (VX.out.below cur)
  replace HB := Lib.hid (below_trans HB.out cur HB.out.size)
  clear cur
  rcases HF with hz | ⟨hf, hr⟩
  · have dz : ((r.slots.length : Int) == 0) = true := beq_iff_eq.2 (by omega)
    clear hz
    go_wp2_with fail
    try simp only [Act.put, List.setIfInBounds_toArray, List.set_cons_zero, List.set_cons_succ]
    have pd0 : w8.cell? ⟨md, 0, none⟩ = some (.int .i64 d.state) := Kd.out.cell 0
    have pd1 : w8.cell? ⟨md, 1, none⟩ = some (.slice o1 d.slots.length c1) := Kd.out.cell 1
    have pd2 : w8.cell? ⟨md, 2, none⟩ = some (.slice o2 d.rings.length c2) := Kd.out.cell 2
    have pd3 : w8.cell? ⟨md, 3, none⟩ = some (.slice o3 d.spoilt.length c3) := Kd.out.cell 3
    have pd4 : w8.cell? ⟨md, 4, none⟩ = some (.slice o4 d.wait.length c4) := Kd.out.cell 4
    have px0 : w8.cell? ⟨mx, 0, none⟩ = some (.int .i64 r.state) := Kx.out.cell 0
    have px1 : w8.cell? ⟨mx, 1, none⟩ = some (.slice x1 r.slots.length y1) := Kx.out.cell 1
    have px2 : w8.cell? ⟨mx, 2, none⟩ = some (.slice x2 r.rings.length y2) := Kx.out.cell 2
    have px3 : w8.cell? ⟨mx, 3, none⟩ = some (.slice x3 r.spoilt.length y3) := Kx.out.cell 3
    have px4 : w8.cell? ⟨mx, 4, none⟩ = some (.slice x4 r.wait.length y4) := Kx.out.cell 4
    have cur : Below w8.heap.size w8 w8.drew := (Below.refl _ _).drew
    refine AnyT.start (S := (fun w' : World => Below w8.heap.size w8 w')) (by kernel_rfl) ?_
    refine AnyT.take 0 (show _ = some _ from rfl) rfl (by kernel_rfl) (by kernel_rfl) (by kernel_rfl) (fun _ _ _ h => h) cur (by first | kernel_rfl | rfl) (fun w' hSw => by have s0 := cell_below hSw px0; have s1 := cell_below hSw px1; have s2 := cell_below hSw px2; have s3 := cell_below hSw px3; have s4 := cell_below hSw px4; clear hSw; go_simp; try with_reducible rfl) ?_
    try simp only [Act.put, List.setIfInBounds_toArray, List.set_cons_zero, List.set_cons_succ]
    refine AnyT.take 1 (show _ = some _ from rfl) rfl (by kernel_rfl) (by kernel_rfl) (by kernel_rfl) (fun _ _ _ h => h) cur (by first | kernel_rfl | rfl) (fun w' hSw => by have s0 := cell_below hSw pd0; have s1 := cell_below hSw pd1; have s2 := cell_below hSw pd2; have s3 := cell_below hSw pd3; have s4 := cell_below hSw pd4; clear hSw; go_simp; try with_reducible rfl) ?_
    try simp only [Act.put, List.setIfInBounds_toArray, List.set_cons_zero, List.set_cons_succ]
    refine AnyT.take 2 (show _ = some _ from rfl) rfl (by kernel_rfl) (by kernel_rfl) (by kernel_rfl) (fun _ _ _ h => h) cur (by first | kernel_rfl | rfl) (fun w' hSw => by clear hSw; go_simp; try with_reducible rfl) ?_
    try simp only [Act.put, List.setIfInBounds_toArray, List.set_cons_zero, List.set_cons_succ]
    refine AnyT.one 3 (by kernel_rfl) (show _ = some _ from rfl) (fun K' hK' => ?_)
    go_simp
    go_at_call 9
    refine (HS.out _ _ (VD.out.below cur)).mono ?_
    rintro e w17 ⟨_, rfl, o7, hB7⟩
    have V7 := Lib.hid o7.reads
    have hx7 := o7.reads
    obtain ⟨_, _, _, _, rfl, ⟨g1, h1, rfl, _⟩, ⟨g2, h2, rfl, _⟩, ⟨g3, h3, rfl, _⟩, ⟨g4, h4, rfl, _⟩⟩ := hx7
    clear o7
    have cur := below_trans cur hB7 cur.size
    clear hB7
    go_simp
    refine hK' _ _ ⟨?_, cur⟩
    clear hK' K'
    try simp only [Act.put, List.setIfInBounds_toArray, List.set_cons_zero, List.set_cons_succ]
    refine AnyT.one 4 (by kernel_rfl) (show _ = some _ from rfl) (fun K' hK' => ?_)
    go_simp
    go_at_call 8
    refine (lpaDisk_same _ _ r _ (VX.out.below cur) V7.out).mono ?_
    rintro e w18 ⟨rfl, hB8⟩
    have cur := below_trans cur hB8 cur.size
    clear hB8
    go_simp
    refine hK' _ _ ⟨?_, cur⟩
    clear hK' K'
    try simp only [Act.put, List.setIfInBounds_toArray, List.set_cons_zero, List.set_cons_succ]
    refine AnyT.one 5 (by kernel_rfl) (show _ = some _ from rfl) (fun K' hK' => ?_)
    go_simp
    refine hK' _ _ ⟨AnyT.done (by kernel_rfl) ?_, cur⟩
    clear hK' K'
    try simp only [Act.put, List.setIfInBounds_toArray, List.set_cons_zero, List.set_cons_succ]
    replace Kd := Lib.hid (Kd.out.below cur Kd.out.lt)
    replace Kx := Lib.hid (Kx.out.below cur Kx.out.lt)
    replace VD := Lib.hid (VD.out.below cur)
    replace VX := Lib.hid (VX.out.below cur)
    replace HB := Lib.hid (below_trans HB.out cur HB.out.size)
    clear pd0 pd1 pd2 pd3 pd4
    clear px0 px1 px2 px3 px4
    go_wp2
    go_ret
    exact ⟨rfl, HB.out⟩
  · have hfx : DiskFine r := by rw [hr]; exact crash_fine hf _
    have hrw : r.wait.length = 0 := by rw [hr]; rfl
    have hhit : ∀ i, r.slots.getD i ByteArray.empty = d.slots.getD i ByteArray.empty ∨ ∃ j, j < d.wait.length ∧ Hit d.wait i (r.slots.getD i ByteArray.empty) j := fun i => by rw [hr]; exact crash_hit d zk d.wait i (fine_sizes hf).1 hf.2.2.2.2.1
    have HH := Lib.hid hhit
    have dz : ((r.slots.length : Int) == 0) = false := beq_eq_false_iff_ne.2 (by have := hfx.2.1.1; omega)
    have ls : d.slots.length = 12 := hf.2.1.1
    have rs : r.slots.length = 12 := hfx.2.1.1
    have hwl : d.wait.length ≤ 40 := (fine_sizes hf).2.1
    have HL := Lib.hid (And.intro ls rs)
    have HRw := Lib.hid hrw
    have HFx := Lib.hid hfx
    have HFd := Lib.hid hf
    clear ls rs hr hhit hrw hfx hf
    have pd0 : w8.cell? ⟨md, 0, none⟩ = some (.int .i64 d.state) := Kd.out.cell 0
    have pd1 : w8.cell? ⟨md, 1, none⟩ = some (.slice o1 d.slots.length c1) := Kd.out.cell 1
    have pd2 : w8.cell? ⟨md, 2, none⟩ = some (.slice o2 d.rings.length c2) := Kd.out.cell 2
    have pd3 : w8.cell? ⟨md, 3, none⟩ = some (.slice o3 d.spoilt.length c3) := Kd.out.cell 3
    have pd4 : w8.cell? ⟨md, 4, none⟩ = some (.slice o4 d.wait.length c4) := Kd.out.cell 4
    have px0 : w8.cell? ⟨mx, 0, none⟩ = some (.int .i64 r.state) := Kx.out.cell 0
    have px1 : w8.cell? ⟨mx, 1, none⟩ = some (.slice x1 r.slots.length y1) := Kx.out.cell 1
    have px2 : w8.cell? ⟨mx, 2, none⟩ = some (.slice x2 r.rings.length y2) := Kx.out.cell 2
    have px3 : w8.cell? ⟨mx, 3, none⟩ = some (.slice x3 r.spoilt.length y3) := Kx.out.cell 3
    have px4 : w8.cell? ⟨mx, 4, none⟩ = some (.slice x4 r.wait.length y4) := Kx.out.cell 4
    go_wp2_with fail
    clear pd0 pd1 pd2 pd3 pd4
    clear px0 px1 px2 px3 px4
    go_loopw [6] (fun s6 wr => ∃ i : Nat, s6 = .int .i64 (i : Int) ∧ i ≤ 12 ∧ Hid (Below w8.heap.size w8 wr)) (fun s6 _ => 12 - (RowKit.intOf s6).toNat)
    case atStart => exact ⟨0, rfl, by omega, Below.refl _ _⟩
    case round =>
      obtain ⟨i, rfl, hi, hBr⟩ := hrel
      have hB := hBr.out
      replace Kd := Lib.hid (Kd.out.below hB Kd.out.lt)
      replace Kx := Lib.hid (Kx.out.below hB Kx.out.lt)
      replace VD := Lib.hid (VD.out.below hB)
      replace VX := Lib.hid (VX.out.below hB)
      replace HB := Lib.hid (below_trans HB.out hB HB.out.size)
      clear hB
      by_cases hlt : i < 12
      · have jd : i < d.slots.length := by have := HL.out.1; omega
        have jx : i < r.slots.length := by have := HL.out.2; omega
        have i0 : (0 : Int) ≤ (i : Int) := by omega
        have i1 : (i : Int) < (d.slots.length : Int) := by omega
        have i2 : (i : Int) < (r.slots.length : Int) := by omega
        obtain ⟨gd, fd, rfl, td⟩ := slot_at VD.out jd
        obtain ⟨gx, fx, rfl, tx⟩ := slot_at VX.out jx
        have HFz := Lib.hid (fun a b ha hb => Found.zero (d := d) (r := r) (i := i) (a := a) (b := b) ha hb)
        have HFz := Lib.hid (HFz.out _ _ rfl rfl)
        have Htx := Lib.hid (show r.slots.getD i ByteArray.empty = r.slots.getD i ByteArray.empty from rfl)
        generalize hTX : r.slots.getD i ByteArray.empty = TX at tx HFz
        generalize d.slots.getD i ByteArray.empty = TD at td HFz
        have HTX := Lib.hid hTX
        clear hTX Htx
        have pd0 : wr.cell? ⟨md, 0, none⟩ = some (.int .i64 d.state) := Kd.out.cell 0
        have pd1 : wr.cell? ⟨md, 1, none⟩ = some (.slice (some ⟨gd, fd, none⟩) d.slots.length c1) := Kd.out.cell 1
        have pd2 : wr.cell? ⟨md, 2, none⟩ = some (.slice o2 d.rings.length c2) := Kd.out.cell 2
        have pd3 : wr.cell? ⟨md, 3, none⟩ = some (.slice o3 d.spoilt.length c3) := Kd.out.cell 3
        have pd4 : wr.cell? ⟨md, 4, none⟩ = some (.slice o4 d.wait.length c4) := Kd.out.cell 4
        have px0 : wr.cell? ⟨mx, 0, none⟩ = some (.int .i64 r.state) := Kx.out.cell 0
        have px1 : wr.cell? ⟨mx, 1, none⟩ = some (.slice (some ⟨gx, fx, none⟩) r.slots.length y1) := Kx.out.cell 1
        have px2 : wr.cell? ⟨mx, 2, none⟩ = some (.slice x2 r.rings.length y2) := Kx.out.cell 2
        have px3 : wr.cell? ⟨mx, 3, none⟩ = some (.slice x3 r.spoilt.length y3) := Kx.out.cell 3
        have px4 : wr.cell? ⟨mx, 4, none⟩ = some (.slice x4 r.wait.length y4) := Kx.out.cell 4
        go_wp2_with fail
        have g1 := cell_regrown px1
        have g2 := cell_regrown pd1
        have g3 := cell_regrown tx
        have g4 := cell_regrown td
        clear pd0 pd1 pd2 pd3 pd4
        clear px0 px1 px2 px3 px4
        refine wp_region_quiet_below (by kernel_rfl) (by kernel_rfl) ?_
        repeat (go_big_quiet_step (fail))
        refine wpQuiet_nil ?_
        intro w9 hw9
        have hB : Below wr.heap.size wr w9 := by obtain ⟨z, rfl⟩ := hw9; exact below_regrown _ _ _
        have tx := cell_below hB tx
        have H9 : Hid (Below w8.heap.size w8 w9) := below_trans hBr.out hB hBr.out.size
        replace Kd := Lib.hid (Kd.out.below hB Kd.out.lt)
        replace Kx := Lib.hid (Kx.out.below hB Kx.out.lt)
        replace VD := Lib.hid (VD.out.below hB)
        replace VX := Lib.hid (VX.out.below hB)
        replace HB := Lib.hid (below_trans HB.out hB HB.out.size)
        clear hw9 hB g1 g2 g3 g4
        generalize (TX.toList == TD.toList) = b0 at HFz ⊢
        go_wp2_with fail
        go_loopw [7, 8] (fun s7 s8 wr => ∃ (k : Nat) (b : Bool), s7 = .bool b ∧ s8 = .int .i64 (k : Int) ∧ k ≤ d.wait.length ∧ Hid (Found d r i k b) ∧ Hid (Below w9.heap.size w9 wr)) (fun _ s8 _ => d.wait.length - (RowKit.intOf s8).toNat)
        case atStart => exact ⟨0, b0, rfl, rfl, by omega, HFz, Below.refl _ _⟩
        case round =>
          obtain ⟨k, b, rfl, rfl, hk, hFo, hBk⟩ := hrel
          have H10 : Hid (Below w8.heap.size w8 wr) := below_trans H9.out hBk.out H9.out.size
          have hB := hBk.out
          have tx := cell_below hB tx
          replace Kd := Lib.hid (Kd.out.below hB Kd.out.lt)
          replace Kx := Lib.hid (Kx.out.below hB Kx.out.lt)
          replace VD := Lib.hid (VD.out.below hB)
          replace VX := Lib.hid (VX.out.below hB)
          replace HB := Lib.hid (below_trans HB.out hB HB.out.size)
          clear hB
          have pd0 : wr.cell? ⟨md, 0, none⟩ = some (.int .i64 d.state) := Kd.out.cell 0
          have pd1 : wr.cell? ⟨md, 1, none⟩ = some (.slice (some ⟨gd, fd, none⟩) d.slots.length c1) := Kd.out.cell 1
          have pd2 : wr.cell? ⟨md, 2, none⟩ = some (.slice o2 d.rings.length c2) := Kd.out.cell 2
          have pd3 : wr.cell? ⟨md, 3, none⟩ = some (.slice o3 d.spoilt.length c3) := Kd.out.cell 3
          have pd4 : wr.cell? ⟨md, 4, none⟩ = some (.slice o4 d.wait.length c4) := Kd.out.cell 4
          have px0 : wr.cell? ⟨mx, 0, none⟩ = some (.int .i64 r.state) := Kx.out.cell 0
          have px1 : wr.cell? ⟨mx, 1, none⟩ = some (.slice (some ⟨gx, fx, none⟩) r.slots.length y1) := Kx.out.cell 1
          have px2 : wr.cell? ⟨mx, 2, none⟩ = some (.slice x2 r.rings.length y2) := Kx.out.cell 2
          have px3 : wr.cell? ⟨mx, 3, none⟩ = some (.slice x3 r.spoilt.length y3) := Kx.out.cell 3
          have px4 : wr.cell? ⟨mx, 4, none⟩ = some (.slice x4 r.wait.length y4) := Kx.out.cell 4
          by_cases hlk : k < d.wait.length
          · have k0 : (0 : Int) ≤ (k : Int) := by omega
            have k1 : (k : Int) < (d.wait.length : Int) := by omega
            obtain ⟨gw, fw, rfl, w0, w1, w2⟩ := wait_at VD.out hlk
            generalize hp : d.wait.getD k put0 = p at w0 w1 w2
            obtain ⟨pr, pz, pt⟩ := p
            simp only at w0 w1 w2
            have HP := Lib.hid hp
            clear hp
            cases b with
            | true =>
              go_wp2_with fail
              have g1 := cell_regrown px1
              have g2 := cell_regrown pd4
              have g3 := cell_regrown tx
              have g4 := cell_regrown w0
              have g5 := cell_regrown w1
              have g6 := cell_regrown w2
              refine wp_region_quiet_below (by kernel_rfl) (by kernel_rfl) ?_
              repeat (go_big_quiet_step (fail))
              refine wpQuiet_nil ?_
              intro w11 hw11
              have hB : Below wr.heap.size wr w11 := by obtain ⟨z, rfl⟩ := hw11; exact below_regrown _ _ _
              have H11 : Hid (Below w9.heap.size w9 w11) := below_trans hBk.out hB hBk.out.size
              clear hw11 hB g1 g2 g3 g4 g5 g6
              go_wp2
              exact ⟨⟨k + 1, _, rfl, by go_num, by omega, hFo.out.kept, H11⟩, by simp [RowKit.intOf]; omega⟩
            | false =>
              cases pr with
              | true =>
                have HN : Hid (Found d r i (k + 1) false) := hFo.out.next ⟨fun h => absurd h Bool.false_ne_true, fun h => by have := h.1; rw [HP.out] at this; exact absurd this (fun h => Bool.noConfusion h)⟩
                go_wp2_with fail
                have g1 := cell_regrown px1
                have g2 := cell_regrown pd4
                have g3 := cell_regrown tx
                have g4 := cell_regrown w0
                have g5 := cell_regrown w1
                have g6 := cell_regrown w2
                refine wp_region_quiet_below (by kernel_rfl) (by kernel_rfl) ?_
                repeat (go_big_quiet_step (fail))
                refine wpQuiet_nil ?_
                intro w11 hw11
                have hB : Below wr.heap.size wr w11 := by obtain ⟨z, rfl⟩ := hw11; exact below_regrown _ _ _
                have H11 : Hid (Below w9.heap.size w9 w11) := below_trans hBk.out hB hBk.out.size
                clear hw11 hB g1 g2 g3 g4 g5 g6
                go_wp2
                exact ⟨⟨k + 1, _, rfl, by go_num, by omega, HN, H11⟩, by simp [RowKit.intOf]; omega⟩
              | false =>
                by_cases hz : pz = (i : Int)
                · have dz2 : ((pz : Int) == (i : Int)) = true := by simp [hz]
                  have HN : Hid (Found d r i (k + 1) (pt.toList == TX.toList)) := by
                    refine hFo.out.next ?_
                    rw [HTX.out]
                    exact hit_text HP.out rfl hz
                  clear hz
                  go_wp2_with fail
                  have g1 := cell_regrown px1
                  have g2 := cell_regrown pd4
                  have g3 := cell_regrown tx
                  have g4 := cell_regrown w0
                  have g5 := cell_regrown w1
                  have g6 := cell_regrown w2
                  refine wp_region_quiet_below (by kernel_rfl) (by kernel_rfl) ?_
                  repeat (go_big_quiet_step (fail))
                  refine wpQuiet_nil ?_
                  intro w11 hw11
                  have hB : Below wr.heap.size wr w11 := by obtain ⟨z, rfl⟩ := hw11; exact below_regrown _ _ _
                  have H11 : Hid (Below w9.heap.size w9 w11) := below_trans hBk.out hB hBk.out.size
                  clear hw11 hB g1 g2 g3 g4 g5 g6
                  go_wp2
                  exact ⟨⟨k + 1, _, rfl, by go_num, by omega, HN, H11⟩, by simp [RowKit.intOf]; omega⟩
                · have dz2 : ((pz : Int) == (i : Int)) = false := by simp [hz]
                  have HN : Hid (Found d r i (k + 1) false) := hFo.out.next ⟨fun h => absurd h Bool.false_ne_true, fun h => by have h2 := h.2.1; rw [HP.out] at h2; exact absurd h2 hz⟩
                  clear hz
                  go_wp2_with fail
                  have g1 := cell_regrown px1
                  have g2 := cell_regrown pd4
                  have g3 := cell_regrown tx
                  have g4 := cell_regrown w0
                  have g5 := cell_regrown w1
                  have g6 := cell_regrown w2
                  refine wp_region_quiet_below (by kernel_rfl) (by kernel_rfl) ?_
                  repeat (go_big_quiet_step (fail))
                  refine wpQuiet_nil ?_
                  intro w11 hw11
                  have hB : Below wr.heap.size wr w11 := by obtain ⟨z, rfl⟩ := hw11; exact below_regrown _ _ _
                  have H11 : Hid (Below w9.heap.size w9 w11) := below_trans hBk.out hB hBk.out.size
                  clear hw11 hB g1 g2 g3 g4 g5 g6
                  go_wp2
                  exact ⟨⟨k + 1, _, rfl, by go_num, by omega, HN, H11⟩, by simp [RowKit.intOf]; omega⟩
          · obtain rfl : k = d.wait.length := by omega
            obtain rfl : b = true := by
              refine hFo.out.2 ?_
              exact HH.out i
            go_wp2
            exact ⟨⟨i + 1, by go_num, by omega, H10⟩, by simp [RowKit.intOf]; omega⟩
      · obtain rfl : i = 12 := by omega
        have hc0 := Lib.hid (crash_slots0 d)
        have hca := Lib.hid (crash_all HFd.out)
        have HI0 := Lib.hid (fun v W (hv : DiskV W v d) => implCrash_ok v d 0 W HFd.out (by omega) (by omega) hv)
        have HIa := Lib.hid (fun v W (hv : DiskV W v d) => implCrash_ok v d 9223372036854775807 W HFd.out (by omega) (by omega) hv)
        rw [hca.out] at HIa
        have HFl := Lib.hid (fun v W (hv : DiskV W v d) => implFlush_ok v d W HFd.out hv)
        have HOk := Lib.hid (fun v W (hv : DiskV W v r) => implOk_any v r W hv)
        rw [tt_true HFx.out] at HOk
        generalize crashD d 0 = n0 at HI0 hc0
        generalize crashD d (-1) = n1 at HIa HFl
        obtain ⟨hs1, hs2⟩ := hc0.out
        have HS1 := Lib.hid hs1
        have HS2 := Lib.hid hs2
        clear hs1 hs2 hca
        have pd0 : wr.cell? ⟨md, 0, none⟩ = some (.int .i64 d.state) := Kd.out.cell 0
        have pd1 : wr.cell? ⟨md, 1, none⟩ = some (.slice o1 d.slots.length c1) := Kd.out.cell 1
        have pd2 : wr.cell? ⟨md, 2, none⟩ = some (.slice o2 d.rings.length c2) := Kd.out.cell 2
        have pd3 : wr.cell? ⟨md, 3, none⟩ = some (.slice o3 d.spoilt.length c3) := Kd.out.cell 3
        have pd4 : wr.cell? ⟨md, 4, none⟩ = some (.slice o4 d.wait.length c4) := Kd.out.cell 4
        have px0 : wr.cell? ⟨mx, 0, none⟩ = some (.int .i64 r.state) := Kx.out.cell 0
        have px1 : wr.cell? ⟨mx, 1, none⟩ = some (.slice x1 r.slots.length y1) := Kx.out.cell 1
        have px2 : wr.cell? ⟨mx, 2, none⟩ = some (.slice x2 r.rings.length y2) := Kx.out.cell 2
        have px3 : wr.cell? ⟨mx, 3, none⟩ = some (.slice x3 r.spoilt.length y3) := Kx.out.cell 3
        have px4 : wr.cell? ⟨mx, 4, none⟩ = some (.slice x4 r.wait.length y4) := Kx.out.cell 4
        go_wp2_with fail
        clear pd0 pd1 pd2 pd3 pd4
        clear px0 px1 px2 px3 px4
        refine (HI0.out _ _ VD.out).mono ?_
        rintro e w20 ⟨_, rfl, hO, hB⟩
        have hv20 := hO.reads
        replace Kd := Lib.hid (Kd.out.below hB Kd.out.lt)
        replace Kx := Lib.hid (Kx.out.below hB Kx.out.lt)
        replace VD := Lib.hid (VD.out.below hB)
        replace VX := Lib.hid (VX.out.below hB)
        replace HB := Lib.hid (below_trans HB.out hB HB.out.size)
        have VN := Lib.hid hv20
        clear hO hB
        obtain ⟨_, _, _, _, rfl, ⟨g1, h1, rfl, _⟩, ⟨g2, h2, rfl, _⟩, ⟨g3, h3, rfl, _⟩, ⟨g4, h4, rfl, _⟩⟩ := hv20
        have hb : Below w20.heap.size w20 (w20.alloc (.cells #[.int .i64 n0.state, .slice g1 n0.slots.length h1, .slice g2 n0.rings.length h2, .slice g3 n0.spoilt.length h3, .slice g4 n0.wait.length h4] 27)) := (Below.refl _ _).alloc (Nat.le_refl _) _
        replace Kd := Lib.hid (Kd.out.below hb Kd.out.lt)
        replace Kx := Lib.hid (Kx.out.below hb Kx.out.lt)
        replace VD := Lib.hid (VD.out.below hb)
        replace VX := Lib.hid (VX.out.below hb)
        replace VN := Lib.hid (VN.out.below hb)
        replace HB := Lib.hid (below_trans HB.out hb HB.out.size)
        have Kn := Lib.hid (Blk.new w20 #[.int .i64 n0.state, .slice g1 n0.slots.length h1, .slice g2 n0.rings.length h2, .slice g3 n0.spoilt.length h3, .slice g4 n0.wait.length h4] 27)
        have pd0 : (w20.alloc (.cells #[.int .i64 n0.state, .slice g1 n0.slots.length h1, .slice g2 n0.rings.length h2, .slice g3 n0.spoilt.length h3, .slice g4 n0.wait.length h4] 27)).cell? ⟨md, 0, none⟩ = some (.int .i64 d.state) := Kd.out.cell 0
        have pd1 : (w20.alloc (.cells #[.int .i64 n0.state, .slice g1 n0.slots.length h1, .slice g2 n0.rings.length h2, .slice g3 n0.spoilt.length h3, .slice g4 n0.wait.length h4] 27)).cell? ⟨md, 1, none⟩ = some (.slice o1 d.slots.length c1) := Kd.out.cell 1
        have pd2 : (w20.alloc (.cells #[.int .i64 n0.state, .slice g1 n0.slots.length h1, .slice g2 n0.rings.length h2, .slice g3 n0.spoilt.length h3, .slice g4 n0.wait.length h4] 27)).cell? ⟨md, 2, none⟩ = some (.slice o2 d.rings.length c2) := Kd.out.cell 2
        have pd3 : (w20.alloc (.cells #[.int .i64 n0.state, .slice g1 n0.slots.length h1, .slice g2 n0.rings.length h2, .slice g3 n0.spoilt.length h3, .slice g4 n0.wait.length h4] 27)).cell? ⟨md, 3, none⟩ = some (.slice o3 d.spoilt.length c3) := Kd.out.cell 3
        have pd4 : (w20.alloc (.cells #[.int .i64 n0.state, .slice g1 n0.slots.length h1, .slice g2 n0.rings.length h2, .slice g3 n0.spoilt.length h3, .slice g4 n0.wait.length h4] 27)).cell? ⟨md, 4, none⟩ = some (.slice o4 d.wait.length c4) := Kd.out.cell 4
        have px0 : (w20.alloc (.cells #[.int .i64 n0.state, .slice g1 n0.slots.length h1, .slice g2 n0.rings.length h2, .slice g3 n0.spoilt.length h3, .slice g4 n0.wait.length h4] 27)).cell? ⟨mx, 0, none⟩ = some (.int .i64 r.state) := Kx.out.cell 0
        have px1 : (w20.alloc (.cells #[.int .i64 n0.state, .slice g1 n0.slots.length h1, .slice g2 n0.rings.length h2, .slice g3 n0.spoilt.length h3, .slice g4 n0.wait.length h4] 27)).cell? ⟨mx, 1, none⟩ = some (.slice x1 r.slots.length y1) := Kx.out.cell 1
        have px2 : (w20.alloc (.cells #[.int .i64 n0.state, .slice g1 n0.slots.length h1, .slice g2 n0.rings.length h2, .slice g3 n0.spoilt.length h3, .slice g4 n0.wait.length h4] 27)).cell? ⟨mx, 2, none⟩ = some (.slice x2 r.rings.length y2) := Kx.out.cell 2
        have px3 : (w20.alloc (.cells #[.int .i64 n0.state, .slice g1 n0.slots.length h1, .slice g2 n0.rings.length h2, .slice g3 n0.spoilt.length h3, .slice g4 n0.wait.length h4] 27)).cell? ⟨mx, 3, none⟩ = some (.slice x3 r.spoilt.length y3) := Kx.out.cell 3
        have px4 : (w20.alloc (.cells #[.int .i64 n0.state, .slice g1 n0.slots.length h1, .slice g2 n0.rings.length h2, .slice g3 n0.spoilt.length h3, .slice g4 n0.wait.length h4] 27)).cell? ⟨mx, 4, none⟩ = some (.slice x4 r.wait.length y4) := Kx.out.cell 4
        clear hb
        go_wp2_with fail
        clear pd0 pd1 pd2 pd3 pd4
        clear px0 px1 px2 px3 px4
        generalize w20.alloc (.cells #[.int .i64 n0.state, .slice g1 n0.slots.length h1, .slice g2 n0.rings.length h2, .slice g3 n0.spoilt.length h3, .slice g4 n0.wait.length h4] 27) = w20b at Kd Kx Kn VD VX VN HB ⊢
        generalize w20.heap.size = mn at Kn ⊢
        refine (HIa.out _ _ VD.out).mono ?_
        rintro e w21 ⟨_, rfl, hO, hB⟩
        have hv21 := hO.reads
        replace Kd := Lib.hid (Kd.out.below hB Kd.out.lt)
        replace Kx := Lib.hid (Kx.out.below hB Kx.out.lt)
        replace Kn := Lib.hid (Kn.out.below hB Kn.out.lt)
        replace VD := Lib.hid (VD.out.below hB)
        replace VX := Lib.hid (VX.out.below hB)
        replace VN := Lib.hid (VN.out.below hB)
        replace HB := Lib.hid (below_trans HB.out hB HB.out.size)
        have VA := Lib.hid hv21
        clear hO hB
        obtain ⟨_, _, _, _, rfl, ⟨u1, v1, rfl, _⟩, ⟨u2, v2, rfl, _⟩, ⟨u3, v3, rfl, _⟩, ⟨u4, v4, rfl, _⟩⟩ := hv21
        have hb : Below w21.heap.size w21 (w21.alloc (.cells #[.int .i64 n1.state, .slice u1 n1.slots.length v1, .slice u2 n1.rings.length v2, .slice u3 n1.spoilt.length v3, .slice u4 n1.wait.length v4] 27)) := (Below.refl _ _).alloc (Nat.le_refl _) _
        replace Kd := Lib.hid (Kd.out.below hb Kd.out.lt)
        replace Kx := Lib.hid (Kx.out.below hb Kx.out.lt)
        replace Kn := Lib.hid (Kn.out.below hb Kn.out.lt)
        replace VD := Lib.hid (VD.out.below hb)
        replace VX := Lib.hid (VX.out.below hb)
        replace VN := Lib.hid (VN.out.below hb)
        replace VA := Lib.hid (VA.out.below hb)
        replace HB := Lib.hid (below_trans HB.out hb HB.out.size)
        have Ka := Lib.hid (Blk.new w21 #[.int .i64 n1.state, .slice u1 n1.slots.length v1, .slice u2 n1.rings.length v2, .slice u3 n1.spoilt.length v3, .slice u4 n1.wait.length v4] 27)
        clear hb
        go_wp2_with fail
        generalize w21.alloc (.cells #[.int .i64 n1.state, .slice u1 n1.slots.length v1, .slice u2 n1.rings.length v2, .slice u3 n1.spoilt.length v3, .slice u4 n1.wait.length v4] 27) = w22 at Kd Kx Kn Ka VD VX VN VA HB ⊢
        generalize w21.heap.size = ma at Ka ⊢
        have T1 := Lib.hid (texts_at VD.out).1
        have T2 := Lib.hid (texts_at VD.out).2
        have T3 := Lib.hid (texts_at VN.out).1
        have T4 := Lib.hid (texts_at VN.out).2
        rw [HS1.out] at T3
        rw [HS2.out] at T4
        have hsl : n0.slots.length = d.slots.length := by rw [HS1.out]
        have hrl : n0.rings.length = d.rings.length := by rw [HS2.out]
        have HLP1 := Lib.hid (fun W (h : Below w22.heap.size w22 W) => lpaTx_same g1 o1 h1 c1 d.slots W (by have := HL.out.1; unfold maxLen; omega) (T3.out.below h) (T1.out.below h))
        have HLP2 := Lib.hid (fun W (h : Below w22.heap.size w22 W) => lpaTx_same g2 o2 h2 c2 d.rings W (by have := HFd.out.2.1.2.1; unfold maxLen; omega) (T4.out.below h) (T2.out.below h))
        have wl : ((r.wait.length : Int) == 0) = true := by have := HRw.out; simp only [beq_iff_eq]; omega
        have pd0 : w22.cell? ⟨md, 0, none⟩ = some (.int .i64 d.state) := Kd.out.cell 0
        have pd1 : w22.cell? ⟨md, 1, none⟩ = some (.slice o1 d.slots.length c1) := Kd.out.cell 1
        have pd2 : w22.cell? ⟨md, 2, none⟩ = some (.slice o2 d.rings.length c2) := Kd.out.cell 2
        have pd3 : w22.cell? ⟨md, 3, none⟩ = some (.slice o3 d.spoilt.length c3) := Kd.out.cell 3
        have pd4 : w22.cell? ⟨md, 4, none⟩ = some (.slice o4 d.wait.length c4) := Kd.out.cell 4
        have px0 : w22.cell? ⟨mx, 0, none⟩ = some (.int .i64 r.state) := Kx.out.cell 0
        have px1 : w22.cell? ⟨mx, 1, none⟩ = some (.slice x1 r.slots.length y1) := Kx.out.cell 1
        have px2 : w22.cell? ⟨mx, 2, none⟩ = some (.slice x2 r.rings.length y2) := Kx.out.cell 2
        have px3 : w22.cell? ⟨mx, 3, none⟩ = some (.slice x3 r.spoilt.length y3) := Kx.out.cell 3
        have px4 : w22.cell? ⟨mx, 4, none⟩ = some (.slice x4 r.wait.length y4) := Kx.out.cell 4
        have pn0 : w22.cell? ⟨mn, 0, none⟩ = some (.int .i64 n0.state) := Kn.out.cell 0
        have pn1 : w22.cell? ⟨mn, 1, none⟩ = some (.slice g1 n0.slots.length h1) := Kn.out.cell 1
        have pn2 : w22.cell? ⟨mn, 2, none⟩ = some (.slice g2 n0.rings.length h2) := Kn.out.cell 2
        have pn3 : w22.cell? ⟨mn, 3, none⟩ = some (.slice g3 n0.spoilt.length h3) := Kn.out.cell 3
        have pn4 : w22.cell? ⟨mn, 4, none⟩ = some (.slice g4 n0.wait.length h4) := Kn.out.cell 4
        have pa0 : w22.cell? ⟨ma, 0, none⟩ = some (.int .i64 n1.state) := Ka.out.cell 0
        have pa1 : w22.cell? ⟨ma, 1, none⟩ = some (.slice u1 n1.slots.length v1) := Ka.out.cell 1
        have pa2 : w22.cell? ⟨ma, 2, none⟩ = some (.slice u2 n1.rings.length v2) := Ka.out.cell 2
        have pa3 : w22.cell? ⟨ma, 3, none⟩ = some (.slice u3 n1.spoilt.length v3) := Ka.out.cell 3
        have pa4 : w22.cell? ⟨ma, 4, none⟩ = some (.slice u4 n1.wait.length v4) := Ka.out.cell 4
        have HLQ1 := Lib.hid (fun W h => show Calls Try.prog 11 #[.slice g1 n0.slots.length h1, .slice o1 d.slots.length c1] W _ from by rw [hsl]; exact HLP1.out W h)
        have HLQ2 := Lib.hid (fun W h => show Calls Try.prog 11 #[.slice g2 n0.rings.length h2, .slice o2 d.rings.length c2] W _ from by rw [hrl]; exact HLP2.out W h)
        clear hsl hrl HLP1 HLP2
        have cur : Below w22.heap.size w22 w22.drew := (Below.refl _ _).drew
        refine AnyT.start (S := (fun w' : World => Below w22.heap.size w22 w')) (by kernel_rfl) ?_
        refine AnyT.take 0 (show _ = some _ from rfl) rfl (by kernel_rfl) (by kernel_rfl) (by kernel_rfl) (fun _ _ _ h => h) cur (by first | kernel_rfl | rfl) (fun w' hSw => by have s0 := cell_below hSw px0; have s1 := cell_below hSw px1; have s2 := cell_below hSw px2; have s3 := cell_below hSw px3; have s4 := cell_below hSw px4; clear hSw; go_simp; try with_reducible rfl) ?_
        try simp only [Act.put, List.setIfInBounds_toArray, List.set_cons_zero, List.set_cons_succ]
        refine AnyT.one 1 (by kernel_rfl) (show _ = some _ from rfl) (fun K' hK' => ?_)
        go_simp
        go_at_call 10
        refine (HOk.out _ _ (VX.out.below cur)).mono ?_
        rintro e w23 ⟨rfl, hB3⟩
        have cur := below_trans cur hB3 cur.size
        clear hB3
        go_simp
        refine hK' _ _ ⟨?_, cur⟩
        clear hK' K'
        try simp only [Act.put, List.setIfInBounds_toArray, List.set_cons_zero, List.set_cons_succ]
        refine AnyT.take 2 (show _ = some _ from rfl) rfl (by kernel_rfl) (by kernel_rfl) (by kernel_rfl) (fun _ _ _ h => h) cur (by first | kernel_rfl | rfl) (fun w' hSw => by clear hSw; go_simp; try with_reducible rfl) ?_
        try simp only [Act.put, List.setIfInBounds_toArray, List.set_cons_zero, List.set_cons_succ]
        refine AnyT.take 3 (show _ = some _ from rfl) rfl (by kernel_rfl) (by kernel_rfl) (by kernel_rfl) (fun _ _ _ h => h) cur (by first | kernel_rfl | rfl) (fun w' hSw => by clear hSw; go_simp; try with_reducible rfl) ?_
        try simp only [Act.put, List.setIfInBounds_toArray, List.set_cons_zero, List.set_cons_succ]
        refine AnyT.take 4 (show _ = some _ from rfl) rfl (by kernel_rfl) (by kernel_rfl) (by kernel_rfl) (fun _ _ _ h => h) cur (by first | kernel_rfl | rfl) (fun w' hSw => by have s0 := cell_below hSw px4; clear hSw; go_simp; try with_reducible rfl) ?_
        try simp only [Act.put, List.setIfInBounds_toArray, List.set_cons_zero, List.set_cons_succ]
        refine AnyT.take 5 (show _ = some _ from rfl) rfl (by kernel_rfl) (by kernel_rfl) (by kernel_rfl) (fun _ _ _ h => h) cur (by first | kernel_rfl | rfl) (fun w' hSw => by clear hSw; go_simp; try with_reducible rfl) ?_
        try simp only [Act.put, List.setIfInBounds_toArray, List.set_cons_zero, List.set_cons_succ]
        refine AnyT.take 6 (show _ = some _ from rfl) rfl (by kernel_rfl) (by kernel_rfl) (by kernel_rfl) (fun _ _ _ h => h) cur (by first | kernel_rfl | rfl) (fun w' hSw => by clear hSw; go_simp; try with_reducible rfl) ?_
        try simp only [Act.put, List.setIfInBounds_toArray, List.set_cons_zero, List.set_cons_succ]
        refine AnyT.take 7 (show _ = some _ from rfl) rfl (by kernel_rfl) (by kernel_rfl) (by kernel_rfl) (fun _ _ _ h => h) cur (by first | kernel_rfl | rfl) (fun w' hSw => by clear hSw; go_simp; try with_reducible rfl) ?_
        try simp only [Act.put, List.setIfInBounds_toArray, List.set_cons_zero, List.set_cons_succ]
        refine AnyT.take 8 (show _ = some _ from rfl) rfl (by kernel_rfl) (by kernel_rfl) (by kernel_rfl) (fun _ _ _ h => h) cur (by first | kernel_rfl | rfl) (fun w' hSw => by clear hSw; go_simp; try with_reducible rfl) ?_
        try simp only [Act.put, List.setIfInBounds_toArray, List.set_cons_zero, List.set_cons_succ]
        refine AnyT.take 9 (show _ = some _ from rfl) rfl (by kernel_rfl) (by kernel_rfl) (by kernel_rfl) (fun _ _ _ h => h) cur (by first | kernel_rfl | rfl) (fun w' hSw => by clear hSw; go_simp; try with_reducible rfl) ?_
        try simp only [Act.put, List.setIfInBounds_toArray, List.set_cons_zero, List.set_cons_succ]
        refine AnyT.take 11 (show _ = some _ from rfl) rfl (by kernel_rfl) (by kernel_rfl) (by kernel_rfl) (fun _ _ _ h => h) cur (by first | kernel_rfl | rfl) (fun w' hSw => by clear hSw; go_simp; try with_reducible rfl) ?_
        try simp only [Act.put, List.setIfInBounds_toArray, List.set_cons_zero, List.set_cons_succ]
        refine AnyT.take 10 (show _ = some _ from rfl) rfl (by kernel_rfl) (by kernel_rfl) (by kernel_rfl) (fun _ _ _ h => h) cur (by first | kernel_rfl | rfl) (fun w' hSw => by have s0 := cell_below hSw pn1; clear hSw; go_simp; try with_reducible rfl) ?_
        try simp only [Act.put, List.setIfInBounds_toArray, List.set_cons_zero, List.set_cons_succ]
        refine AnyT.take 12 (show _ = some _ from rfl) rfl (by kernel_rfl) (by kernel_rfl) (by kernel_rfl) (fun _ _ _ h => h) cur (by first | kernel_rfl | rfl) (fun w' hSw => by have s0 := cell_below hSw pd1; clear hSw; go_simp; try with_reducible rfl) ?_
        try simp only [Act.put, List.setIfInBounds_toArray, List.set_cons_zero, List.set_cons_succ]
        refine AnyT.one 13 (by kernel_rfl) (show _ = some _ from rfl) (fun K' hK' => ?_)
        go_simp
        go_at_call 11
        refine (HLQ1.out _ cur).mono ?_
        rintro e w24 ⟨rfl, hB4⟩
        have cur := below_trans cur hB4 cur.size
        clear hB4
        go_simp
        refine hK' _ _ ⟨?_, cur⟩
        clear hK' K'
        try simp only [Act.put, List.setIfInBounds_toArray, List.set_cons_zero, List.set_cons_succ]
        refine AnyT.take 14 (show _ = some _ from rfl) rfl (by kernel_rfl) (by kernel_rfl) (by kernel_rfl) (fun _ _ _ h => h) cur (by first | kernel_rfl | rfl) (fun w' hSw => by clear hSw; go_simp; try with_reducible rfl) ?_
        try simp only [Act.put, List.setIfInBounds_toArray, List.set_cons_zero, List.set_cons_succ]
        refine AnyT.take 15 (show _ = some _ from rfl) rfl (by kernel_rfl) (by kernel_rfl) (by kernel_rfl) (fun _ _ _ h => h) cur (by first | kernel_rfl | rfl) (fun w' hSw => by clear hSw; go_simp; try with_reducible rfl) ?_
        try simp only [Act.put, List.setIfInBounds_toArray, List.set_cons_zero, List.set_cons_succ]
        refine AnyT.take 16 (show _ = some _ from rfl) rfl (by kernel_rfl) (by kernel_rfl) (by kernel_rfl) (fun _ _ _ h => h) cur (by first | kernel_rfl | rfl) (fun w' hSw => by clear hSw; go_simp; try with_reducible rfl) ?_
        try simp only [Act.put, List.setIfInBounds_toArray, List.set_cons_zero, List.set_cons_succ]
        refine AnyT.take 18 (show _ = some _ from rfl) rfl (by kernel_rfl) (by kernel_rfl) (by kernel_rfl) (fun _ _ _ h => h) cur (by first | kernel_rfl | rfl) (fun w' hSw => by clear hSw; go_simp; try with_reducible rfl) ?_
        try simp only [Act.put, List.setIfInBounds_toArray, List.set_cons_zero, List.set_cons_succ]
        refine AnyT.take 17 (show _ = some _ from rfl) rfl (by kernel_rfl) (by kernel_rfl) (by kernel_rfl) (fun _ _ _ h => h) cur (by first | kernel_rfl | rfl) (fun w' hSw => by have s0 := cell_below hSw pn2; clear hSw; go_simp; try with_reducible rfl) ?_
        try simp only [Act.put, List.setIfInBounds_toArray, List.set_cons_zero, List.set_cons_succ]
        refine AnyT.take 19 (show _ = some _ from rfl) rfl (by kernel_rfl) (by kernel_rfl) (by kernel_rfl) (fun _ _ _ h => h) cur (by first | kernel_rfl | rfl) (fun w' hSw => by have s0 := cell_below hSw pd2; clear hSw; go_simp; try with_reducible rfl) ?_
        try simp only [Act.put, List.setIfInBounds_toArray, List.set_cons_zero, List.set_cons_succ]
        refine AnyT.one 20 (by kernel_rfl) (show _ = some _ from rfl) (fun K' hK' => ?_)
        go_simp
        go_at_call 11
        refine (HLQ2.out _ cur).mono ?_
        rintro e w25 ⟨rfl, hB5⟩
        have cur := below_trans cur hB5 cur.size
        clear hB5
        go_simp
        refine hK' _ _ ⟨?_, cur⟩
        clear hK' K'
        try simp only [Act.put, List.setIfInBounds_toArray, List.set_cons_zero, List.set_cons_succ]
        refine AnyT.take 21 (show _ = some _ from rfl) rfl (by kernel_rfl) (by kernel_rfl) (by kernel_rfl) (fun _ _ _ h => h) cur (by first | kernel_rfl | rfl) (fun w' hSw => by clear hSw; go_simp; try with_reducible rfl) ?_
        try simp only [Act.put, List.setIfInBounds_toArray, List.set_cons_zero, List.set_cons_succ]
        refine AnyT.take 22 (show _ = some _ from rfl) rfl (by kernel_rfl) (by kernel_rfl) (by kernel_rfl) (fun _ _ _ h => h) cur (by first | kernel_rfl | rfl) (fun w' hSw => by clear hSw; go_simp; try with_reducible rfl) ?_
        try simp only [Act.put, List.setIfInBounds_toArray, List.set_cons_zero, List.set_cons_succ]
        refine AnyT.take 23 (show _ = some _ from rfl) rfl (by kernel_rfl) (by kernel_rfl) (by kernel_rfl) (fun _ _ _ h => h) cur (by first | kernel_rfl | rfl) (fun w' hSw => by have s0 := cell_below hSw pa0; have s1 := cell_below hSw pa1; have s2 := cell_below hSw pa2; have s3 := cell_below hSw pa3; have s4 := cell_below hSw pa4; clear hSw; go_simp; try with_reducible rfl) ?_
        try simp only [Act.put, List.setIfInBounds_toArray, List.set_cons_zero, List.set_cons_succ]
        refine AnyT.take 24 (show _ = some _ from rfl) rfl (by kernel_rfl) (by kernel_rfl) (by kernel_rfl) (fun _ _ _ h => h) cur (by first | kernel_rfl | rfl) (fun w' hSw => by have s0 := cell_below hSw pd0; have s1 := cell_below hSw pd1; have s2 := cell_below hSw pd2; have s3 := cell_below hSw pd3; have s4 := cell_below hSw pd4; clear hSw; go_simp; try with_reducible rfl) ?_
        try simp only [Act.put, List.setIfInBounds_toArray, List.set_cons_zero, List.set_cons_succ]
        refine AnyT.one 25 (by kernel_rfl) (show _ = some _ from rfl) (fun K' hK' => ?_)
        go_simp
        go_at_call 12
        refine (HFl.out _ _ (VD.out.below cur)).mono ?_
        rintro e w26 ⟨_, rfl, o7, hB7⟩
        have V7 := Lib.hid o7.reads
        have hx7 := o7.reads
        obtain ⟨_, _, _, _, rfl, ⟨i1, j1, rfl, _⟩, ⟨i2, j2, rfl, _⟩, ⟨i3, j3, rfl, _⟩, ⟨i4, j4, rfl, _⟩⟩ := hx7
        clear o7
        have cur := below_trans cur hB7 cur.size
        clear hB7
        go_simp
        refine hK' _ _ ⟨?_, cur⟩
        clear hK' K'
        try simp only [Act.put, List.setIfInBounds_toArray, List.set_cons_zero, List.set_cons_succ]
        refine AnyT.one 26 (by kernel_rfl) (show _ = some _ from rfl) (fun K' hK' => ?_)
        go_simp
        go_at_call 8
        refine (lpaDisk_same _ _ n1 _ (VA.out.below cur) V7.out).mono ?_
        rintro e w27 ⟨rfl, hB8⟩
        have cur := below_trans cur hB8 cur.size
        clear hB8
        go_simp
        refine hK' _ _ ⟨?_, cur⟩
        clear hK' K'
        try simp only [Act.put, List.setIfInBounds_toArray, List.set_cons_zero, List.set_cons_succ]
        refine AnyT.take 27 (show _ = some _ from rfl) rfl (by kernel_rfl) (by kernel_rfl) (by kernel_rfl) (fun _ _ _ h => h) cur (by first | kernel_rfl | rfl) (fun w' hSw => by clear hSw; go_simp; try with_reducible rfl) ?_
        try simp only [Act.put, List.setIfInBounds_toArray, List.set_cons_zero, List.set_cons_succ]
        refine AnyT.one 28 (by kernel_rfl) (show _ = some _ from rfl) (fun K' hK' => ?_)
        go_simp
        refine hK' _ _ ⟨AnyT.done (by kernel_rfl) ?_, cur⟩
        clear hK' K'
        try simp only [Act.put, List.setIfInBounds_toArray, List.set_cons_zero, List.set_cons_succ]
        replace HB := Lib.hid (below_trans HB.out cur HB.out.size)
        go_wp2
        go_ret
        exact ⟨rfl, HB.out⟩

set_option maxRecDepth 100000 in
set_option maxHeartbeats 1000000 in
theorem walk (a0 : Option Addr) (len0 cap0 : Nat) (z0 : List Int) (w : World) (w0 : IsBytes w a0 len0 cap0 z0) :
    Calls Try.prog 3 #[.slice a0 len0 cap0] w fun e w' => e = .returned (.bool true) ∧ Below w.heap.size w w' := by
  by_cases h0 : len0 ≤ 1048576
  · exact main a0 len0 cap0 z0 w h0 w0
  · have hm : len0 ≤ maxLen := by have := w0.opened; omega
    have d0 : decide (1048576 < (len0 : Int)) = true := by simp; omega
    clear w0
    go_enter Try.func3, Try.ntmps3
    go_wp2
    go_ret
    exact ⟨rfl, Below.refl _ _⟩

set_option maxRecDepth 100000 in
theorem lifted (os : Os) (started : os.Started) (H : Type) (enc : TypeId × Value → H) :
    ReturnsInHanded {} Try.checked os 3 .any (Rows.fnDiskCrashSpec.pre6 enc Try.prog Try.f3 Rows.fnDiskCrashRow.domain false) (Rows.fnDiskCrashSpec.post enc Try.prog Try.f3 false true false false) := by
  refine returnsInHanded_of_change (C := Try.checked) own started (by kernel_rfl) Try.func3
    (ChangeSpec.witness6 (enc := enc) (C := Try.checked) false ⟨#[], #[.slice none 0 0], []⟩ 8 (by kernel_rfl) (by kernel_rfl) (by kernel_rfl) (by kernel_rfl)) ?_
  intro W base args ds gs before hval0 hW hcnd _
  have hval : ∀ (j : Nat) t v, Try.f3.params[j]? = some t → args[j]? = some v → Value.okWide Try.prog W .any base t v := hval0
  have hW' := hW
  obtain ⟨p, q, hA0, hV, rfl, hfz, hnd⟩ := hW
  have hA : DataW.TrodAll enc Try.prog W 0 (fun _ => true) true Try.f3.params.toList args.toList ds p := hA0
  rw [Try.params3] at hA hval
  obtain ⟨v0, vs0, d0, ds0, p0, q0, hargs, rfl, rfl, h0, r0⟩ := trodAll_cons hA
  obtain ⟨rfl, rfl, rfl⟩ := trodAll_nil r0
  obtain rfl : args = #[v0] := by cases args; simp_all
  obtain ⟨rfl, rfl⟩ := trodVars_none hV
  have k0 := h0
  have lt0 : ∀ x ∈ p0, x.block < W.heap.size := by obtain ⟨m, hm⟩ := k0; exact DataW.trod_lt m _ _ _ hm
  obtain ⟨a0, len0, cap0, rfl⟩ := okWide_slice Try.underlying22 (hval 0 22 v0 rfl rfl)
  obtain ⟨z0, w0⟩ : ∃ zs, IsBytes W a0 len0 cap0 zs := by
    obtain ⟨fuel, hf⟩ := h0
    rcases open_ints Try.underlying22 Try.underlying5 (by kernel_rfl) hf with ⟨hcs, _⟩ | ⟨x, l, c, zs, hcs, _, hl, hm, hz, _, hcell, hwz⟩
    · simp [Value.cells] at hcs
      obtain ⟨rfl, rfl, rfl⟩ := hcs
      exact ⟨[], .inl ⟨rfl, rfl, rfl, rfl⟩⟩
    · simp [Value.cells] at hcs
      obtain ⟨rfl, rfl, rfl⟩ := hcs
      exact ⟨zs, .inr ⟨_, rfl, hl, hm, by simpa using hz, hcell, hwz⟩⟩
  clear hA0 hval0
  refine (walk a0 len0 cap0 z0 W w0).mono fun e W' ⟨he, bel⟩ => ?_
  subst he
  exact ⟨_, rfl, _, _, _, [], _, [], hW', trodAll_mk1 (shut_bool Try.underlying4 _), (trodAll_cons_mk (Below.trod laidOut (by kernel_rfl) (of_decide_eq_true (by kernel_rfl)) k0 bel lt0) trodAll_mk0), rfl, bel.frame _, fun h => by cases h⟩

theorem over : Rows.fnDiskCrashRow.holds Try.pinned (OpenSpec.ofChange Rows.fnDiskCrashSpec) :=
  OpenClaim.holds_of_wide 3 Try.f3 rfl rfl rfl rfl rfl rfl rfl ⟨rfl, rfl, rfl, rfl, rfl⟩ rfl rfl rfl rfl rfl (by kernel_rfl) Try.func3 (by kernel_rfl)
    (of_decide_eq_true (by kernel_rfl)) (by unfold Func.isWrapper; first | (rw [if_pos (by decide +kernel)]; kernel_rfl) | (rw [if_neg (by decide +kernel)]; exact ⟨rfl, rfl⟩))
    (fun os started H enc _ => lifted os started H enc)

end FnDiskCrash

theorem FnDiskCrash_holds : Rows.FnDiskCrashSaid := FnDiskCrash.over

end Go.Proofs.Ytifgoanicbaohaa
