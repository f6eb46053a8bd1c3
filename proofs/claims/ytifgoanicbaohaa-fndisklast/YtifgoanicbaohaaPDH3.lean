/- A write that is to wait, put behind all others of a drive. Conditions: texts of at most a thousand bytes. -/
import Derived.Test.YtifgoanicbaohaaPDH2
namespace Go.Proofs.Ytifgoanicbaohaa
open Go.RowKit Go.Sort Go.Shelf

theorem Blk.drewN {w : World} {D : Nat} {cs : Array Value} {t : TypeId} (h : Blk w D cs t) (k : Nat) : Blk (w.drewN k) D cs t := by
  unfold Blk at *; simpa using h

set_option maxRecDepth 100000 in
set_option maxHeartbeats 2000000 in
theorem add_any (base D : Nat) (d : DiskD) (ids : List Nat) (p : PutD) (w : World) (hb : base ≤ w.heap.size) (hp : p.text.size ≤ 1000) (hlen : d.wait.length ≤ 1000) (hD : Drive w base D d ids) :
    Calls Try.prog 51 #[.pointer (some ⟨D, 4, none⟩), .agg #[.bool p.ring, .int .i64 p.pos, .string p.text]] w fun e w' => (∃ v, e = .returned v) ∧ ∃ ids', Drive w' base D ⟨d.state, d.slots, d.rings, d.spoilt, d.wait ++ [p]⟩ ids' ∧ Below base w w' := by
  obtain ⟨st, xs, ys, bs, ps⟩ := d
  obtain ⟨r, z, s⟩ := p
  obtain ⟨v1, v2, v3, hbD, hk, h3, hc⟩ := hD
  simp only at hp hlen h3 hc ⊢
  have hB0 : Below w.heap.size w (w.alloc (.cells #[.bool r, .int .i64 z, .string s] 33)) := (Below.refl _ _).alloc (Nat.le_refl _) _
  have HB0 := Lib.hid hB0
  have K0 := Lib.hid (hk.below hB0 hk.lt)
  have R0 := Lib.hid (h3.below hB0)
  have C0 := Lib.hid (hc.below hB0)
  have P0 := Lib.hid (Blk.new w #[.bool r, .int .i64 z, .string s] 33)
  have hDl := hk.lt
  clear hk h3 hc hB0
  go_enter Try.func51, Try.ntmps51
  go_wp2_with fail
  generalize w.alloc (.cells #[.bool r, .int .i64 z, .string s] 33) = W at HB0 K0 R0 C0 P0 ⊢
  refine (cloneTx_any s (by omega) _).mono ?_
  rintro e w1 ⟨rfl, hB1⟩
  have hz1 : w.heap.size < w1.heap.size := Nat.lt_of_lt_of_le P0.out.lt hB1.size
  have B1 := Lib.hid (below_trans HB0.out hB1 HB0.out.size)
  have K1 := Lib.hid (K0.out.below hB1 K0.out.lt)
  have R1 := Lib.hid (R0.out.below hB1)
  have C1 := Lib.hid (C0.out.below hB1)
  have P1 := Lib.hid (P0.out.below hB1 P0.out.lt)
  clear hB1 HB0 K0 R0 C0 P0
  have f2 := P1.out.frozen 2
  obtain ⟨p0, p1, p2⟩ : w1.cell? ⟨w.heap.size, 0, none⟩ = some (.bool r) ∧ w1.cell? ⟨w.heap.size, 1, none⟩ = some (.int .i64 z) ∧ w1.cell? ⟨w.heap.size, 2, none⟩ = some (.string s) := ⟨P1.out.cell 0, P1.out.cell 1, P1.out.cell 2⟩
  -- behind the store into the box, and the new block
  have hP2 : Blk (w1.setCell ⟨w.heap.size, 2, none⟩ (.string s)) w.heap.size #[.bool r, .int .i64 z, .string s] 33 := P1.out.set 2 _
  have hK2 := K1.out.other w.heap.size 2 (.string s) (by omega)
  have hR2 := R1.out.set P1.out (by decide) (by decide) 2 (.string s)
  have hC2 := C1.out.set P1.out (by decide) 2 (.string s)
  have hB2 : Below w.heap.size w (w1.setCell ⟨w.heap.size, 2, none⟩ (.string s)) := B1.out.setCell (p := ⟨w.heap.size, 2, none⟩) (Nat.le_refl _) _
  have hz2 : (w1.setCell ⟨w.heap.size, 2, none⟩ (.string s)).heap.size = w1.heap.size := by simp
  generalize hid : w1.heap.size = id at *
  have hA : Below id (w1.setCell ⟨w.heap.size, 2, none⟩ (.string s)) ((w1.setCell ⟨w.heap.size, 2, none⟩ (.string s)).alloc (.cells #[.bool r, .int .i64 z, .string s, .pointer none] 81)) := by
    have := (Below.refl (w1.setCell ⟨w.heap.size, 2, none⟩ (.string s)).heap.size (w1.setCell ⟨w.heap.size, 2, none⟩ (.string s))).alloc (Nat.le_refl _) (.cells #[.bool r, .int .i64 z, .string s, .pointer none] 81)
    rw [hz2] at this
    exact this
  have hN3 : Blk ((w1.setCell ⟨w.heap.size, 2, none⟩ (.string s)).alloc (.cells #[.bool r, .int .i64 z, .string s, .pointer none] 81)) id #[.bool r, .int .i64 z, .string s, .pointer none] 81 := by
    have := Blk.new (w1.setCell ⟨w.heap.size, 2, none⟩ (.string s)) #[.bool r, .int .i64 z, .string s, .pointer none] 81
    rw [hz2] at this
    exact this
  have hK3 := hK2.below hA (by omega)
  have hR3 := hR2.below (w' := (w1.setCell ⟨w.heap.size, 2, none⟩ (.string s)).alloc (.cells #[.bool r, .int .i64 z, .string s, .pointer none] 81)) (by rw [hz2]; exact hA)
  have hC3 := hC2.below (w' := (w1.setCell ⟨w.heap.size, 2, none⟩ (.string s)).alloc (.cells #[.bool r, .int .i64 z, .string s, .pointer none] 81)) (by rw [hz2]; exact hA)
  have hB3 : Below w.heap.size w ((w1.setCell ⟨w.heap.size, 2, none⟩ (.string s)).alloc (.cells #[.bool r, .int .i64 z, .string s, .pointer none] 81)) := hB2.alloc (by rw [hz2]; omega) _
  have hlt := Lib.hid (show ∀ j, j < ps.length → ids.getD j 0 < id from fun j hj => by have := (hC2.2.1 j hj).2.lt; rw [hz2] at this; exact this)
  have Hz2 := Lib.hid hz2
  have Hid' := Lib.hid hid
  have hDid : D < id := by omega
  clear hP2 hK2 hR2 hC2 hB2 hA P1 K1 R1 C1 B1 hz2 hid
  by_cases h0 : ids = []
  · subst h0
    have hps : ps = [] := List.eq_nil_of_length_eq_zero hC3.1.symm
    subst hps
    have hKd : Blk ((w1.setCell ⟨w.heap.size, 2, none⟩ (.string s)).alloc (.cells #[.bool r, .int .i64 z, .string s, .pointer none] 81)) D #[.int .i64 st, v3, v1, v2, .pointer none, .pointer none, .int .i64 0] 74 := hK3
    have k4 : ((w1.setCell ⟨w.heap.size, 2, none⟩ (.string s)).alloc (.cells #[.bool r, .int .i64 z, .string s, .pointer none] 81)).cell? ⟨D, 4, none⟩ = some (.pointer none) := hKd.cell 4
    have k5 : ((w1.setCell ⟨w.heap.size, 2, none⟩ (.string s)).alloc (.cells #[.bool r, .int .i64 z, .string s, .pointer none] 81)).cell? ⟨D, 5, none⟩ = some (.pointer none) := hKd.cell 5
    have k6 : ((w1.setCell ⟨w.heap.size, 2, none⟩ (.string s)).alloc (.cells #[.bool r, .int .i64 z, .string s, .pointer none] 81)).cell? ⟨D, 6, none⟩ = some (.int .i64 0) := hKd.cell 6
    have g4 := hKd.frozen 4
    have g5 := hKd.frozen 5
    have g6 := hKd.frozen 6
    go_wp2_with fail
    go_end0
    rw [Hid'.out]
    refine ⟨⟨_, rfl⟩, [id], ⟨v1, v2, v3, hbD, ?_, ?_, ?_⟩, ?_⟩
    · exact ((hKd.set 4 (.pointer (some ⟨id, 0, none⟩))).set 5 (.pointer (some ⟨id, 0, none⟩))).set 6 (.int .i64 1)
    · have a1 := hR3.set hKd (by decide) (by decide) 4 (.pointer (some ⟨id, 0, none⟩))
      have q1 := hKd.set 4 (.pointer (some ⟨id, 0, none⟩))
      have a2 := a1.set q1 (by decide) (by decide) 5 (.pointer (some ⟨id, 0, none⟩))
      have q2 := q1.set 5 (.pointer (some ⟨id, 0, none⟩))
      exact a2.set q2 (by decide) (by decide) 6 (.int .i64 1)
    · exact Chain.first (by omega) (((hN3.other D _ _ (by omega)).other D _ _ (by omega)).other D _ _ (by omega))
    · exact (((hB3.mono hb).setCell (p := ⟨D, 4, none⟩) hbD _).setCell (p := ⟨D, 5, none⟩) hbD _).setCell (p := ⟨D, 6, none⟩) hbD _
  · have hpos : 0 < ids.length := List.length_pos_iff.2 h0
    have hil := hC3.1
    obtain ⟨l1, l2⟩ := hC3.2.1 (ids.length - 1) (by omega)
    have hLast : ids[ids.length - 1]? = some (ids.getD (ids.length - 1) 0) := by rw [List.getD, List.getElem?_eq_getElem (by omega)]; rfl
    have hLid := hlt.out (ids.length - 1) (by omega)
    have hNone : ids[ids.length - 1 + 1]? = none := List.getElem?_eq_none (by omega)
    rw [hNone] at l2
    have hS := Chain.snoc (p := ⟨r, z, s⟩) hC3 h0 (show base ≤ id by omega) hN3 hlt.out
    have hLD : ids.getD (ids.length - 1) 0 ≠ D := fun e => by
      have := (by rw [e] at l2; exact l2.type hK3 : 81 = 74)
      exact absurd this (by decide)
    generalize hLg : ids.getD (ids.length - 1) 0 = L at *
    have hKd : Blk ((w1.setCell ⟨w.heap.size, 2, none⟩ (.string s)).alloc (.cells #[.bool r, .int .i64 z, .string s, .pointer none] 81)) D #[.int .i64 st, v3, v1, v2, linkTo ids[0]?, .pointer (some ⟨L, 0, none⟩), .int .i64 (ps.length : Int)] 74 := by
      have := hK3; unfold driveC at this; simp only at this; rw [hLast] at this; exact this
    have HS := Lib.hid hS
    have HL2 := Lib.hid l2
    have HK := Lib.hid hKd
    have HF := Lib.hid (show (ids ++ [id])[0]? = ids[0]? by rw [List.getElem?_append_left (by omega)])
    have HG := Lib.hid (show (ids ++ [id])[(ids ++ [id]).length - 1]? = some id by rw [List.length_append, List.length_singleton, Nat.add_sub_cancel]; exact get_snoc_eq _ _)
    have HLn := Lib.hid (show (ps ++ [(⟨r, z, s⟩ : PutD)]).length = ps.length + 1 by simp)
    have k5 : ((w1.setCell ⟨w.heap.size, 2, none⟩ (.string s)).alloc (.cells #[.bool r, .int .i64 z, .string s, .pointer none] 81)).cell? ⟨D, 5, none⟩ = some (.pointer (some ⟨L, 0, none⟩)) := hKd.cell 5
    have k6 : ((w1.setCell ⟨w.heap.size, 2, none⟩ (.string s)).alloc (.cells #[.bool r, .int .i64 z, .string s, .pointer none] 81)).cell? ⟨D, 6, none⟩ = some (.int .i64 (ps.length : Int)) := hKd.cell 6
    have g5 := hKd.frozen 5
    have g6 := hKd.frozen 6
    have j3 := (Blk.cell l2 3 : _ = some (linkTo none))
    have i3 := l2.frozen 3
    have j3' : ((w1.setCell ⟨w.heap.size, 2, none⟩ (.string s)).alloc (.cells #[.bool r, .int .i64 z, .string s, .pointer none] 81)).cell? ⟨L, 3, none⟩ = some (.pointer none) := j3
    have hDL : D ≠ L := fun e => hLD e.symm
    clear hS l2 hKd hNone hLast j3 hLg hil hC3
    go_wp2_with fail
    go_end0
    rw [Hid'.out]
    have b1 : Blk (((w1.setCell ⟨w.heap.size, 2, none⟩ (.string s)).alloc (.cells #[.bool r, .int .i64 z, .string s, .pointer none] 81)).setCell ⟨L, 3, none⟩ (.pointer (some ⟨id, 0, none⟩))) D _ _ := HK.out.other L 3 (.pointer (some ⟨id, 0, none⟩)) hLD
    have a1 := hR3.set HL2.out (by decide) (by decide) 3 (.pointer (some ⟨id, 0, none⟩))
    have c1 := HS.out
    have b2 := b1.set 5 (.pointer (some ⟨id, 0, none⟩))
    have a2 := a1.set b1 (by decide) (by decide) 5 (.pointer (some ⟨id, 0, none⟩))
    have c2 := c1.set b1 (by decide) 5 (.pointer (some ⟨id, 0, none⟩))
    have b3 := b2.set 6 (.int .i64 ((ps.length : Int) + 1))
    have a3 := a2.set b2 (by decide) (by decide) 6 (.int .i64 ((ps.length : Int) + 1))
    have c3 := c2.set b2 (by decide) 6 (.int .i64 ((ps.length : Int) + 1))
    refine ⟨⟨_, rfl⟩, ids ++ [id], ⟨v1, v2, v3, hbD, ?_, a3, c3⟩, ?_⟩
    · unfold driveC
      simp only
      rw [HF.out, HG.out, HLn.out, show ((ps.length + 1 : Nat) : Int) = (ps.length : Int) + 1 by omega]
      exact b3
    · exact (((hB3.mono hb).setCell (p := ⟨L, 3, none⟩) l1 _).setCell (p := ⟨D, 5, none⟩) hbD _).setCell (p := ⟨D, 6, none⟩) hbD _

end Go.Proofs.Ytifgoanicbaohaa
