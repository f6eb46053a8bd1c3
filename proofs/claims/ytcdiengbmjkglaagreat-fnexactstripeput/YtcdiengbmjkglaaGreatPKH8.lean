/- The drive of a disk that is ok. Conditions: none. DiskFlush and DiskCrash of the program. Conditions: none. -/
import Derived.Test.YtcdiengbmjkglaaGreatPKH3
import Derived.Test.YtcdiengbmjkglaaGreatPKH6
import Derived.Deep.RegionWith
import Derived.Deep.DeepCutAuto
namespace Go.Proofs.YtcdiengbmjkglaaGreat
open Go.RowKit Go.Sort Go.Shelf

theorem Chain.mono {w : World} {base base' : Nat} {ids : List Nat} {ps : List PutD} (h : Chain w base ids ps) (hb : base' ≤ base) : Chain w base' ids ps :=
  ⟨h.1, fun j hj => ⟨Nat.le_trans hb (h.2.1 j hj).1, (h.2.1 j hj).2⟩, h.2.2⟩
theorem Drive.mono {w : World} {base base' D : Nat} {d : DiskD} {ids : List Nat} (h : Drive w base D d ids) (hb : base' ≤ base) : Drive w base' D d ids := by
  obtain ⟨v1, v2, v3, h0, h1, h2, h3⟩ := h
  exact ⟨v1, v2, v3, Nat.le_trans hb h0, h1, ⟨own_mono h2.1 hb, own_mono h2.2.1 hb, own_mono h2.2.2.1 hb, h2.2.2.2⟩, h3.mono hb⟩
/-- WHAT AN OK DISK GIVES of sizes. -/
theorem fine_sizes {d : DiskD} (h : DiskFine d) : HasRows d ∧ d.wait.length ≤ 40 ∧ (∀ j, j < d.slots.length → (d.slots.getD j ByteArray.empty).size ≤ 1000) ∧ (∀ j, j < d.rings.length → (d.rings.getD j ByteArray.empty).size ≤ 1000) ∧ (∀ j, j < d.wait.length → (d.wait.getD j put0).text.size ≤ 1000) := by
  obtain ⟨_, ⟨h1, h2, h3, h4⟩, h5, h6, h7, _⟩ := h
  refine ⟨⟨h1, h2, h3⟩, h4, fun j hj => ?_, fun j hj => ?_, fun j hj => ?_⟩
  · rcases h5 j hj with ⟨a, _⟩ | a <;> omega
  · have := h6 j hj; unfold Ring7 at this; omega
  · have := h7 j hj
    unfold PutOk at this
    split at this
    · omega
    · omega

theorem mkDrive {W : World} {base D st} {v1 v2 v3 : Value} {xs ys : List ByteArray} {bs : List Bool} (hD : base ≤ D) (hk : Blk W D #[.int .i64 st, v3, v1, v2, .pointer none, .pointer none, .int .i64 0] 95) (h1 : OwnTx W base v1 xs) (h2 : OwnTx W base v2 ys) (h3 : OwnBo W base v3 bs) (hn : ∀ i, v1.ownBlock = some i → v2.ownBlock ≠ some i) : Drive W base D ⟨st, xs, ys, bs, []⟩ [] :=
  ⟨v1, v2, v3, hD, hk, ⟨h1, h2, h3, hn⟩, ⟨rfl, fun j hj => by simp at hj, fun i j h1 h2 => by simp at h2⟩⟩
/-- Rows that were made one behind the other are apart. -/
theorem apart_new {w1 w2 : World} {b1 b2 K1 K2 : Nat} {e1 e2 : TypeId} {v1 v2 : Value} {n1 n2 : Nat} {x1 x2 : List Value} (h1 : w1.ownsRow b1 e1 K1 v1 n1 x1) (h2 : w2.ownsRow b2 e2 K2 v2 n2 x2) (hb : w1.heap.size ≤ b2) : ∀ i, v1.ownBlock = some i → v2.ownBlock ≠ some i :=
  fun i h k => by have := (h1.lt i h).2; have := (h2.lt i k).1; omega

set_option maxRecDepth 100000 in
set_option maxHeartbeats 4000000 in
theorem driveOf_ok (v : Value) (d : DiskD) (w : World) (hf : DiskFine d) (hv : DiskV w v d) :
    Calls Tryz.prog 52 #[v] w fun e w' => ∃ D ids, e = .returned (.tuple #[.pointer (some ⟨D, 0, none⟩), .bool true]) ∧ Drive w' w.heap.size D d ids ∧ Below w.heap.size w w' := by
  have HOk := Lib.hid (fun W (h : Below w.heap.size w W) => implOk_any v d W (hv.below h))
  rw [tt_true hf] at HOk
  obtain ⟨z0, z1, z2, z3, z4⟩ := fine_sizes hf
  obtain ⟨st, xs, ys, bs, ps⟩ := d
  obtain ⟨v1, v2, v3, v4, rfl, ⟨a1, c1, rfl, l1, m1, x1⟩, ⟨a2, c2, rfl, l2, m2, x2⟩, ⟨a3, c3, rfl, l3, m3, x3⟩, ⟨a4, c4, rfl, l4, m4, x4⟩⟩ := hv
  simp only at x1 x2 x3 x4 l1 l2 l3 l4 HOk z0 z1 z2 z3 z4 ⊢
  clear hf l1 l2 l3 l4 m1 m2 m3 m4
  have hl1 : xs.length = 12 := z0.1
  have hl2 : ys.length = 2 := z0.2.1
  have hl3 : bs.length = 12 := z0.2.2
  have hB : Below w.heap.size w (w.alloc (.cells #[.int .i64 st, .slice a1 xs.length c1, .slice a2 ys.length c2, .slice a3 bs.length c3, .slice a4 ps.length c4] 50)) := (Below.refl _ _).alloc (Nat.le_refl _) _
  have HB := Lib.hid hB
  have HK := Lib.hid (Blk.new w #[.int .i64 st, .slice a1 xs.length c1, .slice a2 ys.length c2, .slice a3 bs.length c3, .slice a4 ps.length c4] 50)
  have T1 := Lib.hid (fun W (h : Below w.heap.size w W) => textsCopy_any a1 c1 xs W (by omega) z2 (x1.below h))
  have T2 := Lib.hid (fun W (h : Below w.heap.size w W) => textsCopy_any a2 c2 ys W (by omega) z3 (x2.below h))
  have T3 := Lib.hid (fun W (h : Below w.heap.size w W) => cloneBo_any a3 c3 bs W (by omega) (x3.below h) (by omega))
  have X4 := Lib.hid x4
  have Z4 := Lib.hid z4
  clear x1 x2 x3 x4 hB z0 z2 z3 z4 hl1 hl2 hl3
  go_enter Tryz.func52, Tryz.ntmps52
  go_wp2_with fail
  generalize w.alloc (.cells #[.int .i64 st, .slice a1 xs.length c1, .slice a2 ys.length c2, .slice a3 bs.length c3, .slice a4 ps.length c4] 50) = W0 at HB HK ⊢
  refine (HOk.out _ HB.out).mono ?_
  rintro e w1 ⟨rfl, hB1⟩
  have K1 := Lib.hid (HK.out.below hB1 HK.out.lt)
  have B1 := Lib.hid (below_trans HB.out hB1 HB.out.size)
  obtain ⟨m0, m1, m2, m3, m4⟩ : w1.cell? ⟨w.heap.size, 0, none⟩ = some (.int .i64 st) ∧ w1.cell? ⟨w.heap.size, 1, none⟩ = some (.slice a1 xs.length c1) ∧ w1.cell? ⟨w.heap.size, 2, none⟩ = some (.slice a2 ys.length c2) ∧ w1.cell? ⟨w.heap.size, 3, none⟩ = some (.slice a3 bs.length c3) ∧ w1.cell? ⟨w.heap.size, 4, none⟩ = some (.slice a4 ps.length c4) := ⟨(K1.out.cell 0), (K1.out.cell 1), (K1.out.cell 2), (K1.out.cell 3), (K1.out.cell 4)⟩
  have hzl := K1.out.lt
  clear hB1 HB HK HOk
  go_upto_region 3 with (fail)
  go_cut [4] (fun s4 wx => ∃ D, s4 = .pointer (some ⟨D, 0, none⟩) ∧ Hid (Drive wx w1.heap.size D ⟨st, xs, ys, bs, []⟩ []) ∧ Hid (Below w1.heap.size w1 wx))
  case first =>
    have cur : Hid (Below w.heap.size w w1.drew) := B1.out.drew
    have curb : Hid (Below w1.heap.size w1 w1.drew) := (Below.refl _ _).drew
    have curs : Hid (w1.heap.size ≤ w1.drew.heap.size) := Nat.le_refl _
    have mm : w1.drew.cell? ⟨w.heap.size, 0, none⟩ = some (.int .i64 st) ∧ w1.drew.cell? ⟨w.heap.size, 1, none⟩ = some (.slice a1 xs.length c1) ∧ w1.drew.cell? ⟨w.heap.size, 2, none⟩ = some (.slice a2 ys.length c2) ∧ w1.drew.cell? ⟨w.heap.size, 3, none⟩ = some (.slice a3 bs.length c3) := ⟨m0, m1, m2, m3⟩
    go_region_held3 (fun w' => w'.cell? ⟨w.heap.size, 0, none⟩ = some (.int .i64 st) ∧ w'.cell? ⟨w.heap.size, 1, none⟩ = some (.slice a1 xs.length c1) ∧ w'.cell? ⟨w.heap.size, 2, none⟩ = some (.slice a2 ys.length c2) ∧ w'.cell? ⟨w.heap.size, 3, none⟩ = some (.slice a3 bs.length c3)) (first | go_keep | with_reducible exact mm)
      (first
        | (go_at_call_of 90 (Value.slice a1 xs.length c1); refine (T1.out _ cur.out).mono ?_; rintro e wX ⟨vX, rfl, oX, hBX⟩; obtain ⟨i1, i2, rfl, _⟩ := OwnTx.reads oX; (try (have ap := Lib.hid (show ∀ i, (Value.slice i1 xs.length i2).ownBlock = some i → (Value.slice j1 ys.length j2).ownBlock ≠ some i from fun i h k => apart_new r2.out oX (Nat.le_refl _) i k h))); (try (have r1 := Lib.hid (own_below r1.out hBX))); (try (have r2 := Lib.hid (own_below r2.out hBX))); (try (have r3 := Lib.hid (own_below r3.out hBX))); have r1 := Lib.hid (show OwnTx wX w1.heap.size _ _ from own_mono oX curs.out); have mm := (⟨cell_below hBX mm.1, cell_below hBX mm.2.1, cell_below hBX mm.2.2.1, cell_below hBX mm.2.2.2⟩ : wX.cell? ⟨w.heap.size, 0, none⟩ = some (.int .i64 st) ∧ wX.cell? ⟨w.heap.size, 1, none⟩ = some (.slice a1 xs.length c1) ∧ wX.cell? ⟨w.heap.size, 2, none⟩ = some (.slice a2 ys.length c2) ∧ wX.cell? ⟨w.heap.size, 3, none⟩ = some (.slice a3 bs.length c3)); have curs := Lib.hid (Nat.le_trans curs.out hBX.size); have curb := Lib.hid (below_trans curb.out hBX curb.out.size); have cur := Lib.hid (below_trans cur.out hBX cur.out.size); clear oX hBX)
        | (go_at_call_of 90 (Value.slice a2 ys.length c2); refine (T2.out _ cur.out).mono ?_; rintro e wX ⟨vX, rfl, oX, hBX⟩; obtain ⟨j1, j2, rfl, _⟩ := OwnTx.reads oX; (try (have ap := Lib.hid (show ∀ i, (Value.slice i1 xs.length i2).ownBlock = some i → (Value.slice j1 ys.length j2).ownBlock ≠ some i from apart_new r1.out oX (Nat.le_refl _)))); (try (have r1 := Lib.hid (own_below r1.out hBX))); (try (have r2 := Lib.hid (own_below r2.out hBX))); (try (have r3 := Lib.hid (own_below r3.out hBX))); have r2 := Lib.hid (show OwnTx wX w1.heap.size _ _ from own_mono oX curs.out); have mm := (⟨cell_below hBX mm.1, cell_below hBX mm.2.1, cell_below hBX mm.2.2.1, cell_below hBX mm.2.2.2⟩ : wX.cell? ⟨w.heap.size, 0, none⟩ = some (.int .i64 st) ∧ wX.cell? ⟨w.heap.size, 1, none⟩ = some (.slice a1 xs.length c1) ∧ wX.cell? ⟨w.heap.size, 2, none⟩ = some (.slice a2 ys.length c2) ∧ wX.cell? ⟨w.heap.size, 3, none⟩ = some (.slice a3 bs.length c3)); have curs := Lib.hid (Nat.le_trans curs.out hBX.size); have curb := Lib.hid (below_trans curb.out hBX curb.out.size); have cur := Lib.hid (below_trans cur.out hBX cur.out.size); clear oX hBX)
        | (go_at_call_of 89 (Value.slice a3 bs.length c3); refine (T3.out _ cur.out).mono ?_; rintro e wX ⟨vX, rfl, oX, hBX⟩; obtain ⟨k1, k2, rfl, _⟩ := OwnBo.reads oX; (try (have r1 := Lib.hid (own_below r1.out hBX))); (try (have r2 := Lib.hid (own_below r2.out hBX))); (try (have r3 := Lib.hid (own_below r3.out hBX))); have r3 := Lib.hid (show OwnBo wX w1.heap.size _ _ from own_mono oX curs.out); have mm := (⟨cell_below hBX mm.1, cell_below hBX mm.2.1, cell_below hBX mm.2.2.1, cell_below hBX mm.2.2.2⟩ : wX.cell? ⟨w.heap.size, 0, none⟩ = some (.int .i64 st) ∧ wX.cell? ⟨w.heap.size, 1, none⟩ = some (.slice a1 xs.length c1) ∧ wX.cell? ⟨w.heap.size, 2, none⟩ = some (.slice a2 ys.length c2) ∧ wX.cell? ⟨w.heap.size, 3, none⟩ = some (.slice a3 bs.length c3)); have curs := Lib.hid (Nat.le_trans curs.out hBX.size); have curb := Lib.hid (below_trans curb.out hBX curb.out.size); have cur := Lib.hid (below_trans cur.out hBX cur.out.size); clear oX hBX))
    all_goals
      go_wp2
      go_meet
      refine ⟨_, rfl, mkDrive curs.out (Blk.new _ _ _) (own_below r1.out ((Below.refl _ _).alloc (Nat.le_refl _) _)) (own_below r2.out ((Below.refl _ _).alloc (Nat.le_refl _) _)) (own_below r3.out ((Below.refl _ _).alloc (Nat.le_refl _) _)) ap.out, below_trans curb.out ((Below.refl _ _).alloc (Nat.le_refl _) _) curs.out⟩
  case rest =>
    obtain ⟨D, rfl, hdr, hBx⟩ := hcut
    have mc4 := cell_below hBx.out m4
    clear m0 m1 m2 m3 m4
    go_wp2_with fail
    go_loopw [27] (fun i wr => ∃ k : Nat, i = .int .i64 (k : Int) ∧ k ≤ ps.length ∧ Hid (∃ ids, Drive wr w1.heap.size D ⟨st, xs, ys, bs, ps.take k⟩ ids) ∧ Hid (Below w1.heap.size w1 wr)) (fun i _ => ps.length - (intOf i).toNat)
    case atStart => exact ⟨0, rfl, by omega, ⟨[], hdr.out⟩, hBx.out⟩
    case round =>
      obtain ⟨k, rfl, hk, hdk, hBk⟩ := hrel
      by_cases hlt : k < ps.length
      · obtain ⟨b, off, rfl, hc⟩ := (X4.out.below (B1.out.trans (hBk.out.mono B1.out.size))).resolve_left (fun e => by subst e; simp at hlt)
        obtain ⟨e0, e1, e2⟩ := hc k hlt
        have hsz := Z4.out k hlt
        have HT := Lib.hid (take_snocA ps put0 k hlt)
        clear hc
        generalize ps.getD k put0 = q at e0 e1 e2 hsz HT
        obtain ⟨r, z, s⟩ := q
        simp only at e0 e1 e2 hsz
        obtain ⟨ids, hdi⟩ := hdk.out
        have hBa : Below wr.heap.size wr (wr.alloc (.cells #[.bool r, .int .i64 z, .string s] 101)) := (Below.refl _ _).alloc (Nat.le_refl _) _
        have HBa := Lib.hid (below_trans hBk.out hBa hBk.out.size)
        have HDa := Lib.hid (hdi.below hBa)
        have KP := Lib.hid (Blk.new wr #[.bool r, .int .i64 z, .string s] 101)
        have htl : (ps.take k).length ≤ 1000 := by rw [List.length_take]; omega
        clear hdi hBa
        go_wp2_with fail
        generalize wr.alloc (.cells #[.bool r, .int .i64 z, .string s] 101) = wa at HBa HDa KP ⊢
        have n0 : wa.cell? ⟨wr.heap.size, 0, none⟩ = some (.bool r) := KP.out.cell 0
        have n1 : wa.cell? ⟨wr.heap.size, 1, none⟩ = some (.int .i64 z) := KP.out.cell 1
        have n2 : wa.cell? ⟨wr.heap.size, 2, none⟩ = some (.string s) := KP.out.cell 2
        have HAd := Lib.hid (add_any w1.heap.size D ⟨st, xs, ys, bs, ps.take k⟩ ids ⟨r, z, s⟩ wa.drew HBa.out.size hsz htl (HDa.out.below (Below.refl _ _).drew))
        have Bad : Hid (Below w1.heap.size w1 wa.drew) := HBa.out.drew
        go_region_with (go_at_call 91; refine HAd.out.mono ?_; rintro e wX ⟨⟨v, rfl⟩, ids', hd', hBX⟩; have HD' := Lib.hid hd'; have HBX := Lib.hid (Bad.out.trans hBX); clear hd' hBX)
        all_goals
          go_wp2
          exact ⟨⟨k + 1, by go_num, by omega, ⟨ids', by rw [HT.out]; exact HD'.out⟩, HBX⟩, by simp [intOf]; omega⟩
      · obtain rfl : k = ps.length := by omega
        go_wp2
        go_ret2
        obtain ⟨ids, hdi⟩ := hdk.out
        rw [List.take_length] at hdi
        exact ⟨D, ids, rfl, hdi.mono B1.out.size, B1.out.trans (hBk.out.mono B1.out.size)⟩

set_option maxRecDepth 100000 in
set_option maxHeartbeats 1000000 in
theorem driveOf_no (v : Value) (d : DiskD) (w : World) (hf : ¬DiskFine d) (hv : DiskV w v d) :
    Calls Tryz.prog 52 #[v] w fun e w' => e = .returned (.tuple #[.pointer none, .bool false]) ∧ Below w.heap.size w w' := by
  have HOk := Lib.hid (fun W (h : Below w.heap.size w W) => implOk_any v d W (hv.below h))
  rw [tt_false hf] at HOk
  obtain ⟨st, xs, ys, bs, ps⟩ := d
  obtain ⟨v1, v2, v3, v4, rfl, ⟨a1, c1, rfl, _⟩, ⟨a2, c2, rfl, _⟩, ⟨a3, c3, rfl, _⟩, ⟨a4, c4, rfl, _⟩⟩ := hv
  simp only at HOk ⊢
  clear hf
  have HB := Lib.hid (show Below w.heap.size w (w.alloc (.cells #[.int .i64 st, .slice a1 xs.length c1, .slice a2 ys.length c2, .slice a3 bs.length c3, .slice a4 ps.length c4] 50)) from (Below.refl _ _).alloc (Nat.le_refl _) _)
  go_enter Tryz.func52, Tryz.ntmps52
  go_wp2_with fail
  refine (HOk.out _ HB.out).mono ?_
  rintro e w1 ⟨rfl, hB1⟩
  go_wp2
  go_ret2
  exact ⟨rfl, below_trans HB.out hB1 HB.out.size⟩

end Go.Proofs.YtcdiengbmjkglaaGreat

namespace Go.Proofs.YtcdiengbmjkglaaGreat
open Go.RowKit Go.Sort Go.Shelf

end Go.Proofs.YtcdiengbmjkglaaGreat
