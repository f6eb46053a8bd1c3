/- Lists of disks: how they lie in memory, the exact laws' own helpers over them, whether all are ok. Conditions: the row's own bound on sizes. -/
import Derived.Test.YtcdiengbmjkglaaGreatPKG0
import Derived.Test.YtcdiengbmjkglaaGreatPKG4
import Derived.Test.YtcdiengbmjkglaaGreatPKG7
import Derived.Test.YtcdiengbmjkglaaGreatPKS0
namespace Go.Proofs.YtcdiengbmjkglaaGreat
open Go.RowKit Go.Sort

/-- DISKS THAT LIE BEHIND AN ADDRESS. -/
def DksAt (w : World) (a : Option Addr) (ds : List DiskD) : Prop :=
  ds = [] ∨ ∃ b off, a = some ⟨b, off, none⟩ ∧ ∀ j, j < ds.length → ∃ v1 v2 v3 v4, w.cell? ⟨b, off + j * 5, none⟩ = some (.int .i64 (ds.getD j disk0).state) ∧ w.cell? ⟨b, off + j * 5 + 1, none⟩ = some v1 ∧ w.cell? ⟨b, off + j * 5 + 2, none⟩ = some v2 ∧ w.cell? ⟨b, off + j * 5 + 3, none⟩ = some v3 ∧ w.cell? ⟨b, off + j * 5 + 4, none⟩ = some v4 ∧ DiskV w (.agg #[.int .i64 (ds.getD j disk0).state, v1, v2, v3, v4]) (ds.getD j disk0)
def DksV (w : World) (v : Value) (ds : List DiskD) : Prop := ∃ a cap, v = .slice a ds.length cap ∧ ds.length ≤ cap ∧ cap ≤ maxLen ∧ DksAt w a ds
theorem DksAt.below {w w' : World} {a : Option Addr} {ds : List DiskD} (h : DksAt w a ds) (hB : Below w.heap.size w w') : DksAt w' a ds := by
  rcases h with h | ⟨b, off, e, hc⟩
  · exact .inl h
  · refine .inr ⟨b, off, e, fun j hj => ?_⟩
    obtain ⟨v1, v2, v3, v4, h0, h1, h2, h3, h4, hv⟩ := hc j hj
    exact ⟨v1, v2, v3, v4, cell_below hB h0, cell_below hB h1, cell_below hB h2, cell_below hB h3, cell_below hB h4, hv.below hB⟩
/-- One disk of a list, its slices laid open. -/
theorem DksAt.at {w : World} {a : Option Addr} {ds : List DiskD} (h : DksAt w a ds) (k : Nat) (hk : k < ds.length) : ∃ b off a1 n1 c1 a2 n2 c2 a3 n3 c3 a4 n4 c4, a = some ⟨b, off, none⟩ ∧ w.cell? ⟨b, off + k * 5, none⟩ = some (.int .i64 (ds.getD k disk0).state) ∧ w.cell? ⟨b, off + k * 5 + 1, none⟩ = some (.slice a1 n1 c1) ∧ w.cell? ⟨b, off + k * 5 + 2, none⟩ = some (.slice a2 n2 c2) ∧ w.cell? ⟨b, off + k * 5 + 3, none⟩ = some (.slice a3 n3 c3) ∧ w.cell? ⟨b, off + k * 5 + 4, none⟩ = some (.slice a4 n4 c4) ∧ DiskV w (.agg #[.int .i64 (ds.getD k disk0).state, .slice a1 n1 c1, .slice a2 n2 c2, .slice a3 n3 c3, .slice a4 n4 c4]) (ds.getD k disk0) := by
  obtain ⟨b, off, e, hc⟩ := h.resolve_left (fun e => by subst e; simp at hk)
  obtain ⟨v1, v2, v3, v4, h0, h1, h2, h3, h4, hv⟩ := hc k hk
  have hv' := hv
  obtain ⟨u1, u2, u3, u4, eu, ⟨a1, c1, e1, _⟩, ⟨a2, c2, e2, _⟩, ⟨a3, c3, e3, _⟩, ⟨a4, c4, e4, _⟩⟩ := hv
  cases eu
  subst e1
  subst e2
  subst e3
  subst e4
  exact ⟨b, off, _, _, _, _, _, _, _, _, _, _, _, _, e, h0, h1, h2, h3, h4, hv'⟩

/-- DISKS THAT CAME IN. -/
theorem in_disks {H : Type} {enc : TypeId × Value → H} {w : World} {base : Nat} {spare : Nat → Bool} {held : Bool} {fuel : Nat} {v : Value} {x : DataW H × List MemPlace}
    (h : DataW.trod enc Tryz.prog w base spare held fuel 22 [v] = some x) : ∃ ds, DksV w v ds ∧ ∀ j, j < ds.length → DiskBd (ds.getD j disk0) := by
  obtain ⟨a, len, cap, rfl, hl, hm, hi⟩ := row_cells Tryz.underlying22 Tryz.underlying58 (by kernel_rfl) (by kernel_rfl) (by decide) h
  obtain ⟨ds, hpl, hps⟩ := choose_list disk0 len (fun i d => (∃ b off, a = some ⟨b, off, none⟩ ∧ ∃ v1 v2 v3 v4, w.cell? ⟨b, off + i * 5, none⟩ = some (.int .i64 d.state) ∧ w.cell? ⟨b, off + i * 5 + 1, none⟩ = some v1 ∧ w.cell? ⟨b, off + i * 5 + 2, none⟩ = some v2 ∧ w.cell? ⟨b, off + i * 5 + 3, none⟩ = some v3 ∧ w.cell? ⟨b, off + i * 5 + 4, none⟩ = some v4 ∧ DiskV w (.agg #[.int .i64 d.state, v1, v2, v3, v4]) d) ∧ DiskBd d) (fun i hil => by
    obtain ⟨b, off, rfl, hf⟩ := hi i hil
    obtain ⟨u0, y0, n0, c0, t0⟩ := hf 0 _ rfl
    obtain ⟨u1, y1, n1, c1, t1⟩ := hf 1 _ rfl
    obtain ⟨u2, y2, n2, c2, t2⟩ := hf 2 _ rfl
    obtain ⟨u3, y3, n3, c3, t3⟩ := hf 3 _ rfl
    obtain ⟨u4, y4, n4, c4, t4⟩ := hf 4 _ rfl
    obtain ⟨z0, e0, _⟩ := DataW.trod_int Tryz.underlying3 t0
    obtain ⟨xs, hxs, bxs⟩ := in_texts t1
    obtain ⟨ys, hys, bys⟩ := in_texts t2
    obtain ⟨bs, hbs⟩ := in_bools t3
    obtain ⟨ps, hps, bps⟩ := in_puts t4
    injection e0 with e0
    subst e0
    exact ⟨⟨z0, xs, ys, bs, ps⟩, ⟨b, off, rfl, u1, u2, u3, u4, by simpa using c0, by simpa [Nat.add_assoc] using c1, by simpa [Nat.add_assoc] using c2, by simpa [Nat.add_assoc] using c3, by simpa [Nat.add_assoc] using c4, u1, u2, u3, u4, rfl, hxs, hys, hbs, hps⟩, bxs, bys, bps⟩)
  subst hpl
  refine ⟨ds, ⟨a, cap, rfl, hl, hm, ?_⟩, fun j hj => (hps j hj).2⟩
  by_cases h0 : ds = []
  · exact .inl h0
  · have hp : 0 < ds.length := List.length_pos_iff.2 h0
    obtain ⟨⟨b, off, rfl, _⟩, _⟩ := hps 0 hp
    refine .inr ⟨b, off, rfl, fun j hj => ?_⟩
    obtain ⟨⟨b', off', e, h1⟩, _⟩ := hps j hj
    injection e with e
    injection e with e1 e2
    subst e1
    subst e2
    exact h1

def DksSmall (ds : List DiskD) : Prop := ds.length ≤ 1048576 ∧ ∀ j, j < ds.length → DiskSmall (ds.getD j disk0)

set_option maxRecDepth 100000 in
set_option maxHeartbeats 1000000 in
theorem szDiskS_any (a : Option Addr) (cap : Nat) (ds : List DiskD) (w : World) (hl : ds.length ≤ maxLen) (hb : Hid (∀ j, j < ds.length → DiskBd (ds.getD j disk0))) (hx : Hid (DksAt w a ds)) :
    Calls Tryz.prog 5 #[.slice a ds.length cap, .int .i64 1048576] w (SzIf (DksSmall ds) 1048576 w) := by
  unfold maxLen at hl
  by_cases h0 : 1048576 < ds.length
  · have d0 : decide ((1048576 : Int) - (ds.length : Int) < 0) = true := by simp; omega
    go_enter Tryz.func5, Tryz.ntmps5
    go_wp2
    go_ret
    exact ⟨.inl rfl, Below.refl _ _⟩
  · obtain ⟨r0, hr0⟩ : ∃ r0 : Nat, (1048576 : Int) - (ds.length : Int) = (r0 : Int) := ⟨1048576 - ds.length, by omega⟩
    have d0 : decide ((1048576 : Int) - (ds.length : Int) < 0) = false := by simp; omega
    go_enter Tryz.func5, Tryz.ntmps5
    go_wp2_with fail
    go_loopw [1, 5] (fun l i wr => ∃ k r : Nat, i = .int .i64 (k : Int) ∧ l = .int .i64 (r : Int) ∧ k ≤ ds.length ∧ r ≤ 1048576 ∧ Hid (Below w.heap.size w wr) ∧ Hid (∀ j, j < k → DiskSmall (ds.getD j disk0))) (fun _ i _ => ds.length - (intOf i).toNat)
    case atStart => exact ⟨0, r0, rfl, by go_num, by omega, by omega, Below.refl _ _, fun j hj => by omega⟩
    case round =>
      obtain ⟨k, r, rfl, rfl, hk, hr, hB, hall⟩ := hrel
      by_cases hlt : k < ds.length
      · obtain ⟨b, off, a1, n1, c1, a2, n2, c2, a3, n3, c3, a4, n4, c4, rfl, e0, e1, e2, e3, e4, hv⟩ := (hx.out.below hB.out).at k hlt
        have hbd := hb.out k hlt
        have HC := Lib.hid (szDisk_any _ _ r _ hv hbd hr)
        generalize hg : ds.getD k disk0 = q at e0 HC
        have Hg := Lib.hid hg
        clear hg hv hbd
        obtain ⟨st, xs, ys, bs, ps⟩ := q
        simp only at e0 HC
        go_wp2_with fail
        refine HC.out.mono ?_
        rintro e w1 ⟨he, hB1⟩
        have HB1 := Lib.hid (hB.out.trans (hB1.mono hB.out.size))
        clear hB1
        rcases he with rfl | ⟨r2, rfl, hr2, hs⟩
        · go_wp2
          go_ret
          exact ⟨.inl rfl, HB1.out⟩
        · have d1 : decide ((r2 : Int) < 0) = false := by simp
          have HN : Hid (∀ j, j < k + 1 → DiskSmall (ds.getD j disk0)) := fun j hj => by
            by_cases e : j = k
            · subst e; rw [Hg.out]; exact hs
            · exact hall.out j (by omega)
          clear hs
          go_wp2
          exact ⟨⟨k + 1, r2, by go_num, rfl, by omega, by omega, HB1, HN⟩, by simp [intOf]; omega⟩
      · have HL : Hid (DksSmall ds) := ⟨by omega, fun j hj => hall.out j (by omega)⟩
        go_wp2
        go_ret
        exact ⟨.inr ⟨r, rfl, hr, HL.out⟩, hB.out⟩

theorem infoDk : (Tryz.prog.info? 50).map (fun i => (i.zero, i.size, i.bytes)) = some (some (.agg #[.int .i64 0, .slice none 0 0, .slice none 0 0, .slice none 0 0, .slice none 0 0]), 5, 104) := by kernel_rfl
/-- DISKS IN A ROW, the first k of them there. -/
def DkRow (w : World) (base : Nat) (ds : List DiskD) (k : Nat) (xs : List Value) : Prop :=
  xs.length = ds.length * 5 ∧ ∀ j, j < k → ∃ v1 v2 v3 v4, xs[j * 5]? = some (.int .i64 (ds.getD j disk0).state) ∧ xs[j * 5 + 1]? = some v1 ∧ xs[j * 5 + 2]? = some v2 ∧ xs[j * 5 + 3]? = some v3 ∧ xs[j * 5 + 4]? = some v4 ∧ OwnDisk w base (.agg #[.int .i64 (ds.getD j disk0).state, v1, v2, v3, v4]) (ds.getD j disk0)
theorem DkRow.below {w w' : World} {base : Nat} {ds : List DiskD} {k : Nat} {xs : List Value} (h : DkRow w base ds k xs) (hB : Below w.heap.size w w') : DkRow w' base ds k xs :=
  ⟨h.1, fun j hj => by obtain ⟨v1, v2, v3, v4, q0, q1, q2, q3, q4, hv⟩ := h.2 j hj; exact ⟨v1, v2, v3, v4, q0, q1, q2, q3, q4, hv.below hB⟩⟩
theorem DkRow.far {w : World} {base : Nat} {ds : List DiskD} {k : Nat} {xs : List Value} (h : DkRow w base ds k xs) (p o : Nat) (u : Value) (hp : p < base) : DkRow (w.setCell ⟨p, o, none⟩ u) base ds k xs :=
  ⟨h.1, fun j hj => by obtain ⟨v1, v2, v3, v4, q0, q1, q2, q3, q4, hv⟩ := h.2 j hj; exact ⟨v1, v2, v3, v4, q0, q1, q2, q3, q4, hv.far p o u hp⟩⟩
theorem DkRow.next {w : World} {base : Nat} {ds : List DiskD} {k : Nat} {xs : List Value} {st : Int} {v1 v2 v3 v4 : Value} (h : DkRow w base ds k xs) (hk : k < ds.length) (h1 : (ds.getD k disk0).state = st) (h2 : OwnDisk w base (.agg #[.int .i64 st, v1, v2, v3, v4]) (ds.getD k disk0)) :
    DkRow w base ds (k + 1) (((((xs.set (k * 5) (.int .i64 st)).set (k * 5 + 1) v1).set (k * 5 + 2) v2).set (k * 5 + 3) v3).set (k * 5 + 4) v4) := by
  have hl := h.1
  refine ⟨by simp only [List.length_set]; exact hl, fun j hj => ?_⟩
  by_cases e : j = k
  · subst e
    refine ⟨v1, v2, v3, v4, ?_, ?_, ?_, ?_, ?_, by rw [h1]; exact h2⟩
    · rw [List.getElem?_set_ne (by omega), List.getElem?_set_ne (by omega), List.getElem?_set_ne (by omega), List.getElem?_set_ne (by omega), List.getElem?_set_self (by omega), h1]
    · rw [List.getElem?_set_ne (by omega), List.getElem?_set_ne (by omega), List.getElem?_set_ne (by omega), List.getElem?_set_self (by simp only [List.length_set]; omega)]
    · rw [List.getElem?_set_ne (by omega), List.getElem?_set_ne (by omega), List.getElem?_set_self (by simp only [List.length_set]; omega)]
    · rw [List.getElem?_set_ne (by omega), List.getElem?_set_self (by simp only [List.length_set]; omega)]
    · rw [List.getElem?_set_self (by simp only [List.length_set]; omega)]
  · obtain ⟨u1, u2, u3, u4, q0, q1, q2, q3, q4, hv⟩ := h.2 j (by omega)
    refine ⟨u1, u2, u3, u4, ?_, ?_, ?_, ?_, ?_, hv⟩
    all_goals rw [List.getElem?_set_ne (by omega), List.getElem?_set_ne (by omega), List.getElem?_set_ne (by omega), List.getElem?_set_ne (by omega), List.getElem?_set_ne (by omega)]; assumption
theorem DkRow.reads {w : World} {base : Nat} {ds : List DiskD} {xs : List Value} {g cap : Nat} {b0 : Nat} (h : DkRow w base ds ds.length xs) (ho : w.ownsRow b0 50 5 (.slice (some ⟨g, 0, none⟩) ds.length cap) ds.length xs) : DksV w (.slice (some ⟨g, 0, none⟩) ds.length cap) ds := by
  have ho' := ho
  rcases ho.2 with ⟨hv, _⟩ | ⟨g', cap', cur, hv, hb, hg, hkc, hcm, _⟩
  · cases hv
  · cases hv
    refine ⟨_, cap, rfl, hkc, hcm, .inr ⟨g, 0, rfl, fun j hj => ?_⟩⟩
    obtain ⟨v1, v2, v3, v4, q0, q1, q2, q3, q4, hv⟩ := h.2 j hj
    rw [Nat.zero_add]
    exact ⟨v1, v2, v3, v4, (own_cell ho' (j * 5) (by omega)).1.trans q0, (own_cell ho' (j * 5 + 1) (by omega)).1.trans q1, (own_cell ho' (j * 5 + 2) (by omega)).1.trans q2, (own_cell ho' (j * 5 + 3) (by omega)).1.trans q3, (own_cell ho' (j * 5 + 4) (by omega)).1.trans q4, hv.reads⟩

set_option maxRecDepth 100000 in
set_option maxHeartbeats 2000000 in
theorem toDiskS_any (a : Option Addr) (cap : Nat) (ds : List DiskD) (w : World) (hs : Hid (DksSmall ds)) (hx : Hid (DksAt w a ds)) :
    Calls Tryz.prog 8 #[.slice a ds.length cap] w fun e w' => ∃ v, e = .returned v ∧ DksV w' v ds ∧ Below w.heap.size w w' := by
  obtain ⟨i0, hi0, hz0, hz1, hz2⟩ := info_parts infoDk
  have hl := hs.out.1
  go_enter Tryz.func8, Tryz.ntmps8
  go_wp2_with (at_make; refine wpList_make_full _ rfl _ _ 28 rfl w.heap.size 50 i0 _ 5 Tryz.underlying28 hi0 hz0 hz1 .i64 .i64 _ _ ds.length rfl rfl rfl rfl (by rw [hz2]; omega) (by unfold maxLen; omega) (Nat.le_refl _) ?_; intro w1 hown hgrow)
  have hlen : (madeCells (Value.agg #[.int .i64 0, .slice none 0 0, .slice none 0 0, .slice none 0 0, .slice none 0 0]).cells (ds.length * 5)).toList.length = ds.length * 5 := hown.1
  generalize (madeCells (Value.agg #[.int .i64 0, .slice none 0 0, .slice none 0 0, .slice none 0 0, .slice none 0 0]).cells (ds.length * 5)).toList = ys0 at hown hlen
  have HB1 : Hid (Below w.heap.size w w1) := ⟨hgrow.os, hgrow.tape, hgrow.output, hgrow.size, fun k hk => hgrow.block k hk (by simp)⟩
  have hs1 : w.heap.size + 1 ≤ w1.heap.size := by have := (hown.lt w.heap.size rfl).2; omega
  have Hown := Lib.hid hown
  clear hown hgrow
  go_loopw [4] (fun i wr => ∃ k : Nat, i = .int .i64 (k : Int) ∧ k ≤ ds.length ∧ Hid (Below w.heap.size w wr ∧ w.heap.size + 1 ≤ wr.heap.size ∧ ∃ ys, DkRow wr (w.heap.size + 1) ds k ys ∧ wr.ownsRow w.heap.size 50 5 (.slice (some ⟨w.heap.size, 0, none⟩) ds.length ds.length) ds.length ys)) (fun i _ => ds.length - (intOf i).toNat)
  case atStart => exact ⟨0, rfl, by omega, HB1.out, hs1, ys0, ⟨hlen, fun j hj => by omega⟩, Hown.out⟩
  case round =>
    obtain ⟨k, rfl, hk, hI⟩ := hrel
    by_cases hlt : k < ds.length
    · obtain ⟨hB, hsr, ys, hd, ho⟩ := hI.out
      obtain ⟨b, off, a1, n1, c1, a2, n2, c2, a3, n3, c3, a4, n4, c4, rfl, e0, e1, e2, e3, e4, hv⟩ := (hx.out.below hB).at k hlt
      have HC := Lib.hid (toDisk_any _ _ _ (hs.out.2 k hlt) hv)
      have Hd := Lib.hid hd
      have Ho := Lib.hid ho
      have HB := Lib.hid hB
      generalize hg : ds.getD k disk0 = q at e0 HC
      have Hg := Lib.hid hg
      clear hg hv hd ho hB hI
      obtain ⟨st, xs, yys, bs, ps⟩ := q
      simp only at e0 HC
      go_wp2_with fail
      refine HC.out.mono ?_
      rintro e w2 ⟨v2, rfl, ho2, hB2⟩
      have HO2 := Lib.hid (own_below Ho.out hB2)
      obtain ⟨x0, f0, _, hxl⟩ := own_cell HO2.out (k * 5) (by omega)
      obtain ⟨x1, f1, _, _⟩ := own_cell HO2.out (k * 5 + 1) (by omega)
      obtain ⟨x2, f2, _, _⟩ := own_cell HO2.out (k * 5 + 2) (by omega)
      obtain ⟨x3, f3, _, _⟩ := own_cell HO2.out (k * 5 + 3) (by omega)
      obtain ⟨x4, f4, _, _⟩ := own_cell HO2.out (k * 5 + 4) (by omega)
      rw [List.getElem?_eq_getElem (by omega)] at x0 x1 x2 x3 x4
      generalize ys[k * 5]'(by omega) = y0 at x0
      generalize ys[k * 5 + 1]'(by omega) = y1 at x1
      generalize ys[k * 5 + 2]'(by omega) = y2 at x2
      generalize ys[k * 5 + 3]'(by omega) = y3 at x3
      generalize ys[k * 5 + 4]'(by omega) = y4 at x4
      have HB2 := Lib.hid (HB.out.trans (hB2.mono HB.out.size))
      have HP2 := Lib.hid (ho2.mono (show w.heap.size + 1 ≤ wr.heap.size by omega))
      have hs2 : w.heap.size + 1 ≤ w2.heap.size := by have := hB2.size; omega
      obtain ⟨u1, u2, u3, u4, rfl, ⟨z1, m1, rfl, _⟩, ⟨z2, m2, rfl, _⟩, ⟨z3, m3, rfl, _⟩, ⟨z4, m4, rfl, _⟩⟩ := ho2.reads
      have HN : Hid (∀ W, W = ((((w2.setCell ⟨w.heap.size, k * 5, none⟩ (.int .i64 st)).setCell ⟨w.heap.size, k * 5 + 1, none⟩ (.slice z1 xs.length m1)).setCell ⟨w.heap.size, k * 5 + 2, none⟩ (.slice z2 yys.length m2)).setCell ⟨w.heap.size, k * 5 + 3, none⟩ (.slice z3 bs.length m3)).setCell ⟨w.heap.size, k * 5 + 4, none⟩ (.slice z4 ps.length m4) →
          Below w.heap.size w W ∧ w.heap.size + 1 ≤ W.heap.size ∧ ∃ ys, DkRow W (w.heap.size + 1) ds (k + 1) ys ∧ W.ownsRow w.heap.size 50 5 (.slice (some ⟨w.heap.size, 0, none⟩) ds.length ds.length) ds.length ys) := fun W hW => by
        subst hW
        refine ⟨((((HB2.out.setCell (p := ⟨w.heap.size, k * 5, none⟩) (Nat.le_refl _) _).setCell (p := ⟨w.heap.size, k * 5 + 1, none⟩) (Nat.le_refl _) _).setCell (p := ⟨w.heap.size, k * 5 + 2, none⟩) (Nat.le_refl _) _).setCell (p := ⟨w.heap.size, k * 5 + 3, none⟩) (Nat.le_refl _) _).setCell (p := ⟨w.heap.size, k * 5 + 4, none⟩) (Nat.le_refl _) _, by simpa using hs2, _, ?_, own_set (own_set (own_set (own_set (own_set HO2.out _ _) _ _) _ _) _ _) _ _⟩
        exact ((((((Hd.out.below hB2).next hlt (by rw [Hg.out]) (by rw [Hg.out]; exact HP2.out)).far _ _ _ (by omega)).far _ _ _ (by omega)).far _ _ _ (by omega)).far _ _ _ (by omega)).far _ _ _ (by omega)
      clear hB2 hxl ho2 HP2
      go_wp2
      exact ⟨⟨k + 1, by go_num, by omega, HN.out _ rfl⟩, by simp [intOf]; omega⟩
    · obtain rfl : k = ds.length := by omega
      go_wp2
      go_ret
      obtain ⟨hB, _, ys, hd, ho⟩ := hI.out
      exact ⟨_, rfl, hd.reads ho, hB⟩

set_option maxRecDepth 100000 in
set_option maxHeartbeats 2000000 in
theorem eqDiskS_same (a b : Option Addr) (ca cb : Nat) (ds : List DiskD) (w : World) (hl : ds.length ≤ maxLen) (ha : Hid (DksAt w a ds)) (hb : Hid (DksAt w b ds)) :
    Calls Tryz.prog 11 #[.slice a ds.length ca, .slice b ds.length cb] w fun e w' => e = .returned (.bool true) ∧ Below w.heap.size w w' := by
  unfold maxLen at hl
  have d0 : ((ds.length : Int) != (ds.length : Int)) = false := by simp
  go_enter Tryz.func11, Tryz.ntmps11
  go_wp2_with fail
  go_loopw [5] (fun i wr => ∃ k : Nat, i = .int .i64 (k : Int) ∧ k ≤ ds.length ∧ Hid (Below w.heap.size w wr)) (fun i _ => ds.length - (intOf i).toNat)
  case atStart => exact ⟨0, rfl, by omega, Below.refl _ _⟩
  case round =>
    obtain ⟨k, rfl, hk, hB⟩ := hrel
    by_cases hlt : k < ds.length
    · obtain ⟨b1, o1, a1, n1, c1, a2, n2, c2, a3, n3, c3, a4, n4, c4, rfl, e0, e1, e2, e3, e4, hv⟩ := (ha.out.below hB.out).at k hlt
      obtain ⟨b2, o2, f1, m1, g1, f2, m2, g2, f3, m3, g3, f4, m4, g4, rfl, r0, r1, r2, r3, r4, hu⟩ := (hb.out.below hB.out).at k hlt
      have HE := Lib.hid (fun w' (hw : Below wr.heap.size wr w') => eqDisk_same _ _ _ w' (hv.below hw) (hu.below hw))
      generalize ds.getD k disk0 = q at e0 r0 HE
      obtain ⟨st, xs, ys, bs, ps⟩ := q
      simp only at e0 r0 HE
      have t0 := cell_regrown e0
      have t1 := cell_regrown e1
      have t2 := cell_regrown e2
      have t3 := cell_regrown e3
      have t4 := cell_regrown e4
      have s0 := cell_regrown r0
      have s1 := cell_regrown r1
      have s2 := cell_regrown r2
      have s3 := cell_regrown r3
      have s4 := cell_regrown r4
      clear e0 e1 e2 e3 e4 r0 r1 r2 r3 r4 hv hu
      have i1 : (k : Int) < (ds.length : Int) := by omega
      have i0 : (0 : Int) ≤ (k : Int) := by omega
      go_wp2_with fail
      refine wp_region_quiet_below (by kernel_rfl) (by kernel_rfl) ?_
      repeat (go_big_quiet_step ((go_at_call 33; with_reducible exact Calls.regrown_of (HE.out _ (below_regrown _ _ _)))))
      refine wpQuiet_nil ?_
      intro w9 hw9
      have HB9 : Hid (Below w.heap.size w w9) := by obtain ⟨p, rfl⟩ := hw9; exact rg_below hB.out _ _
      clear hw9
      go_wp2
      exact ⟨⟨k + 1, by go_num, by omega, HB9⟩, by simp [intOf]; omega⟩
    · go_wp2
      go_ret
      exact ⟨rfl, hB.out⟩

/-- ALL DISKS ARE OK. -/
def AllDk (ds : List DiskD) : Prop := ∀ j, j < ds.length → DiskFine (ds.getD j disk0)

set_option maxRecDepth 100000 in
set_option maxHeartbeats 2000000 in
theorem allDk_any (a : Option Addr) (cap : Nat) (ds : List DiskD) (w : World) (hl : ds.length ≤ maxLen) (hx : Hid (DksAt w a ds)) :
    Calls Tryz.prog 101 #[.slice a ds.length cap, .func (.func 88) #[] #[]] w fun e w' => e = .returned (.bool (tt (AllDk ds))) ∧ Below w.heap.size w w' := by
  have eg : ∀ args w, (callFunc 88 args).run Tryz.prog w = .ok (.enter 88 args) w := enters_of Tryz.func88 (by kernel_rfl) rfl
  unfold maxLen at hl
  go_enter Tryz.func101, Tryz.ntmps101
  go_wp2_with fail
  go_loopw [9] (fun i wr => ∃ k : Nat, i = .int .i64 (k : Int) ∧ k ≤ ds.length ∧ Hid (Below w.heap.size w wr) ∧ Hid (∀ j, j < k → DiskFine (ds.getD j disk0))) (fun i _ => ds.length - (intOf i).toNat)
  case atStart => exact ⟨0, rfl, by omega, Below.refl _ _, fun j hj => by omega⟩
  case round =>
    obtain ⟨k, rfl, hk, hB, hall⟩ := hrel
    by_cases hlt : k < ds.length
    · obtain ⟨b1, o1, a1, n1, c1, a2, n2, c2, a3, n3, c3, a4, n4, c4, rfl, e0, e1, e2, e3, e4, hv⟩ := (hx.out.below hB.out).at k hlt
      have HE := Lib.hid (fun w' (hw : Below wr.heap.size wr w') => implOk_any _ _ w' (hv.below hw))
      generalize hg : ds.getD k disk0 = q at e0 HE
      have Hg := Lib.hid hg
      clear hg hv
      obtain ⟨st, xs, ys, bs, ps⟩ := q
      simp only at e0 HE
      have hBa : Below wr.heap.size wr (wr.alloc (.cells #[.int .i64 st, .slice a1 n1 c1, .slice a2 n2 c2, .slice a3 n3 c3, .slice a4 n4 c4] 50)) := (Below.refl _ _).alloc (Nat.le_refl _) _
      have HBa := Lib.hid hBa
      have HEa := Lib.hid (HE.out _ hBa)
      clear hBa HE
      by_cases hf : DiskFine ⟨st, xs, ys, bs, ps⟩
      · rw [tt_true hf] at HEa
        have HN : Hid (∀ j, j < k + 1 → DiskFine (ds.getD j disk0)) := fun j hj => by
          by_cases e : j = k
          · subst e; rw [Hg.out]; exact hf
          · exact hall.out j (by omega)
        clear hf
        go_wp2_with fail
        refine HEa.out.mono ?_
        rintro e w1 ⟨rfl, hB1⟩
        have HB1 := Lib.hid (hB.out.trans ((HBa.out.trans (hB1.mono HBa.out.size)).mono hB.out.size))
        clear hB1
        go_wp2
        exact ⟨⟨k + 1, by go_num, by omega, HB1, HN⟩, by simp [intOf]; omega⟩
      · rw [tt_false hf] at HEa
        have HF := Lib.hid (tt_false (P := AllDk ds) (fun h => hf (by have := h k hlt; rw [Hg.out] at this; exact this)))
        clear hf
        go_wp2_with fail
        refine HEa.out.mono ?_
        rintro e w1 ⟨rfl, hB1⟩
        have HB1 := Lib.hid (hB.out.trans ((HBa.out.trans (hB1.mono HBa.out.size)).mono hB.out.size))
        clear hB1
        go_wp2
        go_ret
        exact ⟨ret_bool' HF.out.symm, HB1.out⟩
    · have HF := Lib.hid (tt_true (P := AllDk ds) (fun j hj => hall.out j (by omega)))
      go_wp2
      go_ret
      exact ⟨ret_bool' HF.out.symm, hB.out⟩

def StripeFine (ds : List DiskD) : Prop := Pool (ds.length : Int) ∧ AllDk ds

set_option maxRecDepth 100000 in
set_option maxHeartbeats 2000000 in
theorem implStripes_any (a : Option Addr) (cap : Nat) (ds : List DiskD) (w : World) (hl : ds.length ≤ maxLen) (hx : Hid (DksAt w a ds)) :
    Calls Tryz.prog 68 #[.slice a ds.length cap] w fun e w' => e = .returned (.bool (tt (StripeFine ds))) ∧ Below w.heap.size w w' := by
  have HP := Lib.hid (fun w' => isPool_any (ds.length : Int) w')
  by_cases hp : Pool (ds.length : Int)
  · rw [tt_true hp] at HP
    have HF := Lib.hid (tt_congr (show StripeFine ds ↔ AllDk ds from ⟨fun h => h.2, fun h => ⟨hp, h⟩⟩))
    have HA := Lib.hid (allDk_any a cap ds w hl hx)
    clear hp
    go_enter Tryz.func68, Tryz.ntmps68
    go_wp2_with fail
    refine (HP.out _).mono ?_
    rintro e w1 ⟨rfl, rfl⟩
    go_wp2_with fail
    refine HA.out.mono ?_
    rintro e w1 ⟨rfl, hB1⟩
    have HB1 := Lib.hid hB1
    clear hB1
    go_wp2
    go_ret
    exact ⟨ret_bool' HF.out.symm, HB1.out⟩
  · rw [tt_false hp] at HP
    have HF := Lib.hid (tt_false (P := StripeFine ds) (fun h => hp h.1))
    clear hp
    go_enter Tryz.func68, Tryz.ntmps68
    go_wp2_with fail
    refine (HP.out _).mono ?_
    rintro e w1 ⟨rfl, rfl⟩
    go_wp2
    go_ret
    exact ⟨ret_bool' HF.out.symm, Below.refl _ _⟩

set_option maxRecDepth 100000 in
set_option maxHeartbeats 2000000 in
theorem specStripes_any (a : Option Addr) (cap : Nat) (ds : List DiskD) (w : World) (hl : ds.length ≤ maxLen) (hx : Hid (DksAt w a ds)) :
    Calls Tryz.prog 59 #[.slice a ds.length cap] w fun e w' => e = .returned (.bool (tt (StripeFine ds))) ∧ Below w.heap.size w w' := by
  unfold maxLen at hl
  have HP := Lib.hid (fun w' => l2Disks_any (ds.length : Int) w')
  go_enter Tryz.func59, Tryz.ntmps59
  go_wp2_with fail
  go_loopw [3] (fun i wr => ∃ k : Nat, i = .int .i64 (k : Int) ∧ k ≤ ds.length ∧ Hid (Below w.heap.size w wr) ∧ Hid (∀ j, j < k → DiskFine (ds.getD j disk0))) (fun i _ => ds.length - (intOf i).toNat)
  case atStart => exact ⟨0, rfl, by omega, Below.refl _ _, fun j hj => by omega⟩
  case round =>
    obtain ⟨k, rfl, hk, hB, hall⟩ := hrel
    by_cases hlt : k < ds.length
    · obtain ⟨b1, o1, a1, n1, c1, a2, n2, c2, a3, n3, c3, a4, n4, c4, rfl, e0, e1, e2, e3, e4, hv⟩ := (hx.out.below hB.out).at k hlt
      have HE := Lib.hid (specOk_any _ _ wr hv)
      generalize hg : ds.getD k disk0 = q at e0 HE
      have Hg := Lib.hid hg
      clear hg hv
      obtain ⟨st, xs, ys, bs, ps⟩ := q
      simp only at e0 HE
      by_cases hf : DiskFine ⟨st, xs, ys, bs, ps⟩
      · rw [tt_true hf] at HE
        have HN : Hid (∀ j, j < k + 1 → DiskFine (ds.getD j disk0)) := fun j hj => by
          by_cases e : j = k
          · subst e; rw [Hg.out]; exact hf
          · exact hall.out j (by omega)
        clear hf
        go_wp2_with fail
        refine HE.out.mono ?_
        rintro e w1 ⟨rfl, hB1⟩
        have HB1 := Lib.hid (hB.out.trans (hB1.mono hB.out.size))
        clear hB1
        go_wp2
        exact ⟨⟨k + 1, by go_num, by omega, HB1, HN⟩, by simp [intOf]; omega⟩
      · rw [tt_false hf] at HE
        have HF := Lib.hid (tt_false (P := StripeFine ds) (fun h => hf (by have := h.2 k hlt; rw [Hg.out] at this; exact this)))
        clear hf
        go_wp2_with fail
        refine HE.out.mono ?_
        rintro e w1 ⟨rfl, hB1⟩
        have HB1 := Lib.hid (hB.out.trans (hB1.mono hB.out.size))
        clear hB1
        go_wp2
        go_ret
        exact ⟨ret_bool' HF.out.symm, HB1.out⟩
    · have HF := Lib.hid (tt_congr (show StripeFine ds ↔ Pool (ds.length : Int) from ⟨fun h => h.1, fun h => ⟨h, fun j hj => hall.out j (by omega)⟩⟩))
      go_wp2_with fail
      refine (HP.out _).mono ?_
      rintro e w1 ⟨rfl, rfl⟩
      generalize tt (Pool (ds.length : Int)) = bb at HF
      go_wp2
      go_ret
      exact ⟨ret_bool' HF.out.symm, hB.out⟩

end Go.Proofs.YtcdiengbmjkglaaGreat
