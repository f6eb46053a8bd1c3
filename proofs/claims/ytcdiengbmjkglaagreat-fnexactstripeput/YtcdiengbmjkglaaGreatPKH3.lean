/- A write that is to wait, put behind all others of a drive. Conditions: texts of at most a thousand bytes. The writes that wait, told as a list; the disk of a drive. Conditions: at most a thousand writes. The disk of a drive. Conditions: at most a thousand writes. -/
import Derived.Test.YtcdiengbmjkglaaGreatPKHT2
namespace Go.Proofs.YtcdiengbmjkglaaGreat
open Go.RowKit Go.Sort Go.Shelf

theorem Blk.drewN {w : World} {D : Nat} {cs : Array Value} {t : TypeId} (h : Blk w D cs t) (k : Nat) : Blk (w.drewN k) D cs t := by
  unfold Blk at *; simpa using h

set_option maxRecDepth 100000 in
set_option maxHeartbeats 2000000 in
theorem add_any (base D : Nat) (d : DiskD) (ids : List Nat) (p : PutD) (w : World) (hb : base ≤ w.heap.size) (hp : p.text.size ≤ 1000) (hlen : d.wait.length ≤ 1000) (hD : Drive w base D d ids) :
    Calls Tryz.prog 91 #[.pointer (some ⟨D, 4, none⟩), .agg #[.bool p.ring, .int .i64 p.pos, .string p.text]] w fun e w' => (∃ v, e = .returned v) ∧ ∃ ids', Drive w' base D ⟨d.state, d.slots, d.rings, d.spoilt, d.wait ++ [p]⟩ ids' ∧ Below base w w' := by
  obtain ⟨st, xs, ys, bs, ps⟩ := d
  obtain ⟨r, z, s⟩ := p
  obtain ⟨v1, v2, v3, hbD, hk, h3, hc⟩ := hD
  simp only at hp hlen h3 hc ⊢
  have hB0 : Below w.heap.size w (w.alloc (.cells #[.bool r, .int .i64 z, .string s] 101)) := (Below.refl _ _).alloc (Nat.le_refl _) _
  have HB0 := Lib.hid hB0
  have K0 := Lib.hid (hk.below hB0 hk.lt)
  have R0 := Lib.hid (h3.below hB0)
  have C0 := Lib.hid (hc.below hB0)
  have P0 := Lib.hid (Blk.new w #[.bool r, .int .i64 z, .string s] 101)
  have hDl := hk.lt
  clear hk h3 hc hB0
  go_enter Tryz.func91, Tryz.ntmps91
  go_wp2_with fail
  generalize w.alloc (.cells #[.bool r, .int .i64 z, .string s] 101) = W at HB0 K0 R0 C0 P0 ⊢
  refine (cloneTx_any s (by omega) _).mono ?_
  rintro e w1 ⟨rfl, hB1⟩
  have hz1 : w.heap.size < w1.heap.size := Nat.lt_of_lt_of_le P0.out.lt hB1.size
  have B1 := Lib.hid (below_trans HB0.out hB1 HB0.out.size)
  have K1 := Lib.hid (K0.out.below hB1 K0.out.lt)
  have R1 := Lib.hid (R0.out.below hB1)
  have C1 := Lib.hid (C0.out.below hB1)
  have P1 := Lib.hid (P0.out.below hB1 P0.out.lt)
  clear hB1 HB0 K0 R0 C0 P0
  have f2 := P1.out.frozen 2
  obtain ⟨p0, p1, p2⟩ : w1.cell? ⟨w.heap.size, 0, none⟩ = some (.bool r) ∧ w1.cell? ⟨w.heap.size, 1, none⟩ = some (.int .i64 z) ∧ w1.cell? ⟨w.heap.size, 2, none⟩ = some (.string s) := ⟨P1.out.cell 0, P1.out.cell 1, P1.out.cell 2⟩
  -- behind the store into the box, and the new block
  have hP2 : Blk (w1.setCell ⟨w.heap.size, 2, none⟩ (.string s)) w.heap.size #[.bool r, .int .i64 z, .string s] 101 := P1.out.set 2 _
  have hK2 := K1.out.other w.heap.size 2 (.string s) (by omega)
  have hR2 := R1.out.set P1.out (by decide) (by decide) 2 (.string s)
  have hC2 := C1.out.set P1.out (by decide) 2 (.string s)
  have hB2 : Below w.heap.size w (w1.setCell ⟨w.heap.size, 2, none⟩ (.string s)) := B1.out.setCell (p := ⟨w.heap.size, 2, none⟩) (Nat.le_refl _) _
  have hz2 : (w1.setCell ⟨w.heap.size, 2, none⟩ (.string s)).heap.size = w1.heap.size := by simp
  generalize hid : w1.heap.size = id at *
  have hA : Below id (w1.setCell ⟨w.heap.size, 2, none⟩ (.string s)) ((w1.setCell ⟨w.heap.size, 2, none⟩ (.string s)).alloc (.cells #[.bool r, .int .i64 z, .string s, .pointer none] 126)) := by
    have := (Below.refl (w1.setCell ⟨w.heap.size, 2, none⟩ (.string s)).heap.size (w1.setCell ⟨w.heap.size, 2, none⟩ (.string s))).alloc (Nat.le_refl _) (.cells #[.bool r, .int .i64 z, .string s, .pointer none] 126)
    rw [hz2] at this
    exact this
  have hN3 : Blk ((w1.setCell ⟨w.heap.size, 2, none⟩ (.string s)).alloc (.cells #[.bool r, .int .i64 z, .string s, .pointer none] 126)) id #[.bool r, .int .i64 z, .string s, .pointer none] 126 := by
    have := Blk.new (w1.setCell ⟨w.heap.size, 2, none⟩ (.string s)) #[.bool r, .int .i64 z, .string s, .pointer none] 126
    rw [hz2] at this
    exact this
  have hK3 := hK2.below hA (by omega)
  have hR3 := hR2.below (w' := (w1.setCell ⟨w.heap.size, 2, none⟩ (.string s)).alloc (.cells #[.bool r, .int .i64 z, .string s, .pointer none] 126)) (by rw [hz2]; exact hA)
  have hC3 := hC2.below (w' := (w1.setCell ⟨w.heap.size, 2, none⟩ (.string s)).alloc (.cells #[.bool r, .int .i64 z, .string s, .pointer none] 126)) (by rw [hz2]; exact hA)
  have hB3 : Below w.heap.size w ((w1.setCell ⟨w.heap.size, 2, none⟩ (.string s)).alloc (.cells #[.bool r, .int .i64 z, .string s, .pointer none] 126)) := hB2.alloc (by rw [hz2]; omega) _
  have hlt := Lib.hid (show ∀ j, j < ps.length → ids.getD j 0 < id from fun j hj => by have := (hC2.2.1 j hj).2.lt; rw [hz2] at this; exact this)
  have Hz2 := Lib.hid hz2
  have Hid' := Lib.hid hid
  have hDid : D < id := by omega
  clear hP2 hK2 hR2 hC2 hB2 hA P1 K1 R1 C1 B1 hz2 hid
  by_cases h0 : ids = []
  · subst h0
    have hps : ps = [] := List.eq_nil_of_length_eq_zero hC3.1.symm
    subst hps
    have hKd : Blk ((w1.setCell ⟨w.heap.size, 2, none⟩ (.string s)).alloc (.cells #[.bool r, .int .i64 z, .string s, .pointer none] 126)) D #[.int .i64 st, v3, v1, v2, .pointer none, .pointer none, .int .i64 0] 95 := hK3
    have k4 : ((w1.setCell ⟨w.heap.size, 2, none⟩ (.string s)).alloc (.cells #[.bool r, .int .i64 z, .string s, .pointer none] 126)).cell? ⟨D, 4, none⟩ = some (.pointer none) := hKd.cell 4
    have k5 : ((w1.setCell ⟨w.heap.size, 2, none⟩ (.string s)).alloc (.cells #[.bool r, .int .i64 z, .string s, .pointer none] 126)).cell? ⟨D, 5, none⟩ = some (.pointer none) := hKd.cell 5
    have k6 : ((w1.setCell ⟨w.heap.size, 2, none⟩ (.string s)).alloc (.cells #[.bool r, .int .i64 z, .string s, .pointer none] 126)).cell? ⟨D, 6, none⟩ = some (.int .i64 0) := hKd.cell 6
    have g4 := hKd.frozen 4
    have g5 := hKd.frozen 5
    have g6 := hKd.frozen 6
    go_wp2_with fail
    go_end0
    rw [Hid'.out]
    refine ⟨⟨_, rfl⟩, [id], ⟨v1, v2, v3, hbD, ?_, ?_, ?_⟩, ?_⟩
    · exact ((hKd.set 4 (.pointer (some ⟨id, 0, none⟩))).set 5 (.pointer (some ⟨id, 0, none⟩))).set 6 (.int .i64 1)
    · have a1 := hR3.set hKd (by decide) (by decide) 4 (.pointer (some ⟨id, 0, none⟩))
      have q1 := hKd.set 4 (.pointer (some ⟨id, 0, none⟩))
      have a2 := a1.set q1 (by decide) (by decide) 5 (.pointer (some ⟨id, 0, none⟩))
      have q2 := q1.set 5 (.pointer (some ⟨id, 0, none⟩))
      exact a2.set q2 (by decide) (by decide) 6 (.int .i64 1)
    · exact Chain.first (by omega) (((hN3.other D _ _ (by omega)).other D _ _ (by omega)).other D _ _ (by omega))
    · exact (((hB3.mono hb).setCell (p := ⟨D, 4, none⟩) hbD _).setCell (p := ⟨D, 5, none⟩) hbD _).setCell (p := ⟨D, 6, none⟩) hbD _
  · have hpos : 0 < ids.length := List.length_pos_iff.2 h0
    have hil := hC3.1
    obtain ⟨l1, l2⟩ := hC3.2.1 (ids.length - 1) (by omega)
    have hLast : ids[ids.length - 1]? = some (ids.getD (ids.length - 1) 0) := by rw [List.getD, List.getElem?_eq_getElem (by omega)]; rfl
    have hLid := hlt.out (ids.length - 1) (by omega)
    have hNone : ids[ids.length - 1 + 1]? = none := List.getElem?_eq_none (by omega)
    rw [hNone] at l2
    have hS := Chain.snoc (p := ⟨r, z, s⟩) hC3 h0 (show base ≤ id by omega) hN3 hlt.out
    have hLD : ids.getD (ids.length - 1) 0 ≠ D := fun e => by
      have := (by rw [e] at l2; exact l2.type hK3 : 126 = 95)
      exact absurd this (by decide)
    generalize hLg : ids.getD (ids.length - 1) 0 = L at *
    have hKd : Blk ((w1.setCell ⟨w.heap.size, 2, none⟩ (.string s)).alloc (.cells #[.bool r, .int .i64 z, .string s, .pointer none] 126)) D #[.int .i64 st, v3, v1, v2, linkTo ids[0]?, .pointer (some ⟨L, 0, none⟩), .int .i64 (ps.length : Int)] 95 := by
      have := hK3; unfold driveC at this; simp only at this; rw [hLast] at this; exact this
    have HS := Lib.hid hS
    have HL2 := Lib.hid l2
    have HK := Lib.hid hKd
    have HF := Lib.hid (show (ids ++ [id])[0]? = ids[0]? by rw [List.getElem?_append_left (by omega)])
    have HG := Lib.hid (show (ids ++ [id])[(ids ++ [id]).length - 1]? = some id by rw [List.length_append, List.length_singleton, Nat.add_sub_cancel]; exact get_snoc_eq _ _)
    have HLn := Lib.hid (show (ps ++ [(⟨r, z, s⟩ : PutD)]).length = ps.length + 1 by simp)
    have k5 : ((w1.setCell ⟨w.heap.size, 2, none⟩ (.string s)).alloc (.cells #[.bool r, .int .i64 z, .string s, .pointer none] 126)).cell? ⟨D, 5, none⟩ = some (.pointer (some ⟨L, 0, none⟩)) := hKd.cell 5
    have k6 : ((w1.setCell ⟨w.heap.size, 2, none⟩ (.string s)).alloc (.cells #[.bool r, .int .i64 z, .string s, .pointer none] 126)).cell? ⟨D, 6, none⟩ = some (.int .i64 (ps.length : Int)) := hKd.cell 6
    have g5 := hKd.frozen 5
    have g6 := hKd.frozen 6
    have j3 := (Blk.cell l2 3 : _ = some (linkTo none))
    have i3 := l2.frozen 3
    have j3' : ((w1.setCell ⟨w.heap.size, 2, none⟩ (.string s)).alloc (.cells #[.bool r, .int .i64 z, .string s, .pointer none] 126)).cell? ⟨L, 3, none⟩ = some (.pointer none) := j3
    have hDL : D ≠ L := fun e => hLD e.symm
    clear hS l2 hKd hNone hLast j3 hLg hil hC3
    go_wp2_with fail
    go_end0
    rw [Hid'.out]
    have b1 : Blk (((w1.setCell ⟨w.heap.size, 2, none⟩ (.string s)).alloc (.cells #[.bool r, .int .i64 z, .string s, .pointer none] 126)).setCell ⟨L, 3, none⟩ (.pointer (some ⟨id, 0, none⟩))) D _ _ := HK.out.other L 3 (.pointer (some ⟨id, 0, none⟩)) hLD
    have a1 := hR3.set HL2.out (by decide) (by decide) 3 (.pointer (some ⟨id, 0, none⟩))
    have c1 := HS.out
    have b2 := b1.set 5 (.pointer (some ⟨id, 0, none⟩))
    have a2 := a1.set b1 (by decide) (by decide) 5 (.pointer (some ⟨id, 0, none⟩))
    have c2 := c1.set b1 (by decide) 5 (.pointer (some ⟨id, 0, none⟩))
    have b3 := b2.set 6 (.int .i64 ((ps.length : Int) + 1))
    have a3 := a2.set b2 (by decide) (by decide) 6 (.int .i64 ((ps.length : Int) + 1))
    have c3 := c2.set b2 (by decide) 6 (.int .i64 ((ps.length : Int) + 1))
    refine ⟨⟨_, rfl⟩, ids ++ [id], ⟨v1, v2, v3, hbD, ?_, a3, c3⟩, ?_⟩
    · unfold driveC
      simp only
      rw [HF.out, HG.out, HLn.out, show ((ps.length + 1 : Nat) : Int) = (ps.length : Int) + 1 by omega]
      exact b3
    · exact (((hB3.mono hb).setCell (p := ⟨L, 3, none⟩) l1 _).setCell (p := ⟨D, 5, none⟩) hbD _).setCell (p := ⟨D, 6, none⟩) hbD _

end Go.Proofs.YtcdiengbmjkglaaGreat

namespace Go.Proofs.YtcdiengbmjkglaaGreat
open Go.RowKit Go.Sort Go.Shelf

def sliceLen : Value → Nat
  | .slice _ n _ => n
  | _ => 0
theorem take_snocA {α : Type} (l : List α) (d : α) (k : Nat) (h : k < l.length) : l.take (k + 1) = l.take k ++ [l.getD k d] := by
  rw [List.take_add_one, List.getD, List.getElem?_eq_getElem h]; rfl
theorem ptrTo_lt {ids : List Nat} {k : Nat} (h : k < ids.length) : linkTo ids[k]? = .pointer (some ⟨ids.getD k 0, 0, none⟩) := by
  rw [List.getD, List.getElem?_eq_getElem h]; rfl
theorem ptrTo_ge {ids : List Nat} {k : Nat} (h : ids.length ≤ k) : linkTo ids[k]? = .pointer none := by
  rw [List.getElem?_eq_none h]; rfl

set_option maxRecDepth 100000 in
set_option maxHeartbeats 2000000 in
theorem puts_any (base D : Nat) (d : DiskD) (ids : List Nat) (w : World) (hlen : d.wait.length ≤ 1000) (hD : Drive w base D d ids) :
    Calls Tryz.prog 106 #[.pointer (some ⟨D, 4, none⟩)] w fun e w' => ∃ v, e = .returned v ∧ OwnPu w' w.heap.size v d.wait ∧ Below w.heap.size w w' := by
  obtain ⟨st, xs, ys, bs, ps⟩ := d
  obtain ⟨v1, v2, v3, hbD, hk, h3, hc⟩ := hD
  simp only at hlen hc ⊢
  have hil := hc.1
  have k4 : w.cell? ⟨D, 4, none⟩ = some (linkTo ids[0]?) := hk.cell 4
  have HC := Lib.hid hc
  clear hk h3 hc
  obtain ⟨i0, hi0, hz0, hz1, hz2⟩ := info_parts infoPu
  obtain ⟨p0, hp0⟩ : ∃ p0, p0 = linkTo ids[0]? := ⟨_, rfl⟩
  rw [← hp0] at k4
  have Hp0 := Lib.hid hp0
  have Hil := Lib.hid hil
  obtain ⟨pa, rfl⟩ : ∃ pa, p0 = .pointer pa := by
    rw [hp0]; cases ids[0]? with
    | none => exact ⟨_, rfl⟩
    | some b => exact ⟨_, rfl⟩
  clear hp0 hil
  go_enter Tryz.func106, Tryz.ntmps106
  go_wp2_with fail
  go_loopw [3, 4] (fun o one wr => ∃ k : Nat, k ≤ ps.length ∧ sliceLen o = k ∧ Hid (one = linkTo ids[k]?) ∧ Hid (OwnPu wr w.heap.size o (ps.take k)) ∧ Hid (Below w.heap.size w wr)) (fun o _ _ => ps.length - sliceLen o)
  case atStart => exact ⟨0, by omega, rfl, Hp0.out, World.ownsRow_nil _ _ _ _, Below.refl _ _⟩
  case round =>
    obtain ⟨k, hk, hsl, hone, hown, hB⟩ := hrel
    by_cases hlt : k < ps.length
    · have hone' := hone.out.trans (ptrTo_lt (by rw [Hil.out]; exact hlt))
      obtain ⟨c1, c2⟩ := (HC.out.below hB.out).2.1 k hlt
      have htk := Lib.hid (take_snocA ps put0 k hlt)
      have htl : (ps.take k).length = k := by rw [List.length_take]; omega
      generalize ps.getD k put0 = q at c2 htk
      generalize ids.getD k 0 = id at c1 c2 hone'
      have Hnx := Lib.hid (show ∃ x, linkTo ids[k + 1]? = .pointer x by
        cases ids[k + 1]? with
        | none => exact ⟨_, rfl⟩
        | some b => exact ⟨_, rfl⟩)
      obtain ⟨nx, hnx⟩ := Hnx.out
      rw [hnx] at c2
      have HN := Lib.hid hnx
      obtain ⟨r, z, s⟩ := q
      subst hone'
      have b0 : wr.cell? ⟨id, 0, none⟩ = some (.bool r) := c2.cell 0
      have b1 : wr.cell? ⟨id, 1, none⟩ = some (.int .i64 z) := c2.cell 1
      have b2 : wr.cell? ⟨id, 2, none⟩ = some (.string s) := c2.cell 2
      have b3 : wr.cell? ⟨id, 3, none⟩ = some (.pointer nx) := c2.cell 3
      have hidl := c2.lt
      have hown1 := hown.out
      unfold OwnPu at hown1
      rw [htl] at hown1
      have C2 := Lib.hid c2
      have HSl := Lib.hid hsl
      obtain ⟨ao, lo, co, rfl⟩ : ∃ ao lo co, u3 = .slice ao lo co := by
        obtain ⟨a', c', e, _⟩ := OwnPu.reads hown.out
        exact ⟨_, _, _, e⟩
      have hbw := hB.out.size
      have Hlk : Hid (∀ i, (Value.slice ao lo co).ownBlock = some i → w.heap.size ≤ i) := fun i e => (hown1.lt i e).1
      have Hne := Lib.hid (own_blk_ne hown1 C2.out (by decide))
      clear hnx Hnx c1 c2 hsl htl
      go_wp2_with (at_builtin; refine wpList_append_lies _ rfl _ _ 48 rfl w.heap.size 101 i0 _ 3 32 Tryz.underlying48 hi0 hz0 hz1 hz2 rfl (by omega) _ k (puC (ps.take k)) rfl (hown1.alloc _) ⟨wr.heap.size, 0, none⟩ 1 1 [.bool r, .int .i64 z, .string s] rfl rfl (World.news_of_block (cs := #[.bool r, .int .i64 z, .string s]) (t := 101) (fr := (0, 0)) (heap_alloc_new wr _)) (by simp [Value.oneCell']) (by omega) (by simp [maxLen]; omega) (by omega) (by simp; omega) _ rfl ?_; intro g cap w4 hown4 hgrow4 hat4 hlt4; have b4 : w4.cell? ⟨id, 3, none⟩ = some (.pointer nx) := ((C2.out.below ((Below.refl _ _).alloc (Nat.le_refl _) _) C2.out.lt).gb hgrow4 Hne.out).cell 3)
      go_roundw
      case rel =>
        refine ⟨k + 1, by omega, rfl, HN.out.symm, ?_, (hB.out.alloc hbw _).grown hgrow4 (by simp; omega) Hlk.out⟩
        show OwnPu _ _ _ _
        unfold OwnPu
        rw [htk.out, puC_append, List.length_append, List.length_singleton, List.length_take, Nat.min_eq_left (by omega)]
        exact hown4
      case measure => have := HSl.out; simp only [sliceLen] at this ⊢; omega
    · obtain rfl : k = ps.length := by omega
      have hone' := hone.out.trans (ptrTo_ge (by rw [Hil.out]; exact Nat.le_refl _))
      subst hone'
      go_wp2
      go_ret
      have := hown.out
      rw [List.take_length] at this
      exact ⟨_, rfl, this, hB.out⟩

end Go.Proofs.YtcdiengbmjkglaaGreat

namespace Go.Proofs.YtcdiengbmjkglaaGreat
open Go.RowKit Go.Sort Go.Shelf

set_option maxRecDepth 100000 in
set_option maxHeartbeats 2000000 in
theorem disk_any (base D : Nat) (d : DiskD) (ids : List Nat) (w : World) (hb : base ≤ w.heap.size) (hlen : d.wait.length ≤ 1000) (hD : Drive w base D d ids) :
    Calls Tryz.prog 72 #[.pointer (some ⟨D, 0, none⟩)] w fun e w' => ∃ v, e = .returned v ∧ OwnDisk w' base v d ∧ Below w.heap.size w w' := by
  have HP := Lib.hid (fun W (h : Below w.heap.size w W) => puts_any base D d ids W hlen (hD.below h))
  obtain ⟨st, xs, ys, bs, ps⟩ := d
  obtain ⟨v1, v2, v3, hbD, hk, h3, hc⟩ := hD
  simp only at hlen h3 hc HP ⊢
  have hDl := hk.lt
  have HR := Lib.hid h3
  obtain ⟨a1, c1, rfl, _⟩ := OwnTx.reads h3.1
  obtain ⟨a2, c2, rfl, _⟩ := OwnTx.reads h3.2.1
  obtain ⟨a3, c3, rfl, _⟩ := OwnBo.reads h3.2.2.1
  simp only at HR hk
  have hB0 : Below w.heap.size w (w.alloc (.cells #[.int .i64 0, .slice none 0 0, .slice none 0 0, .slice none 0 0, .slice none 0 0] 50)) := (Below.refl _ _).alloc (Nat.le_refl _) _
  have HB0 := Lib.hid hB0
  have K0 := Lib.hid (hk.below hB0 hDl)
  have Z0 := Lib.hid (Blk.new w #[.int .i64 0, .slice none 0 0, .slice none 0 0, .slice none 0 0, .slice none 0 0] 50)
  clear hk h3 hc hB0
  go_enter Tryz.func72, Tryz.ntmps72
  go_wp2_with fail
  generalize w.alloc (.cells #[.int .i64 0, .slice none 0 0, .slice none 0 0, .slice none 0 0, .slice none 0 0] 50) = W at HB0 K0 Z0 ⊢
  have HBd : Hid (Below w.heap.size w W.drew) := HB0.out.drew
  have k0 : W.cell? ⟨D, 0, none⟩ = some (.int .i64 st) := K0.out.cell 0
  have k1 : W.cell? ⟨D, 1, none⟩ = some (.slice a3 bs.length c3) := K0.out.cell 1
  have k2 : W.cell? ⟨D, 2, none⟩ = some (.slice a1 xs.length c1) := K0.out.cell 2
  have k3 : W.cell? ⟨D, 3, none⟩ = some (.slice a2 ys.length c2) := K0.out.cell 3
  have z0 : W.cell? ⟨w.heap.size, 0, none⟩ = some (.int .i64 0) := Z0.out.cell 0
  have z1 : W.cell? ⟨w.heap.size, 1, none⟩ = some (.slice none 0 0) := Z0.out.cell 1
  have z2 : W.cell? ⟨w.heap.size, 2, none⟩ = some (.slice none 0 0) := Z0.out.cell 2
  have z3 : W.cell? ⟨w.heap.size, 3, none⟩ = some (.slice none 0 0) := Z0.out.cell 3
  have z4 : W.cell? ⟨w.heap.size, 4, none⟩ = some (.slice none 0 0) := Z0.out.cell 4
  have hWl := Z0.out.lt
  have hne1 : D ≠ w.heap.size := by omega
  have hne2 : w.heap.size ≠ D := by omega
  have Zd := Lib.hid (Z0.out.below (Below.refl _ _).drew Z0.out.lt)
  go_region_held3 (fun w' => w'.cell? ⟨D, 0, none⟩ = some (.int .i64 st) ∧ w'.cell? ⟨D, 1, none⟩ = some (.slice a3 bs.length c3) ∧ w'.cell? ⟨D, 2, none⟩ = some (.slice a1 xs.length c1) ∧ w'.cell? ⟨D, 3, none⟩ = some (.slice a2 ys.length c2)) (first | go_keep | with_reducible exact hc7)
    (first
      | (go_at_call 106; refine (HP.out _ HBd.out).mono ?_; rintro e w7 ⟨v7, rfl, ho7, hB7⟩; obtain ⟨a4, c4, rfl, _⟩ := OwnPu.reads ho7; have hc7 := (⟨cell_below hB7 k0, cell_below hB7 k1, cell_below hB7 k2, cell_below hB7 k3⟩ : w7.cell? ⟨D, 0, none⟩ = some (.int .i64 st) ∧ w7.cell? ⟨D, 1, none⟩ = some (.slice a3 bs.length c3) ∧ w7.cell? ⟨D, 2, none⟩ = some (.slice a1 xs.length c1) ∧ w7.cell? ⟨D, 3, none⟩ = some (.slice a2 ys.length c2)); have HO7 := Lib.hid ho7; have HB7 := Lib.hid hB7; have y0 := cell_below hB7 z0; have y1 := cell_below hB7 z1; have y2 := cell_below hB7 z2; have y3 := cell_below hB7 z3; have y4 := cell_below hB7 z4; have ZZ := Lib.hid (Zd.out.below hB7 Zd.out.lt); have f0 := ZZ.out.frozen 0; have f1 := ZZ.out.frozen 1; have f2 := ZZ.out.frozen 2; have f3 := ZZ.out.frozen 3; have f4 := ZZ.out.frozen 4; clear ho7 hB7))
  all_goals
    go_wp2
    refine bodyPost_ret (v := .agg #[.int .i64 st, .slice a1 xs.length c1, .slice a2 ys.length c2, .slice a3 bs.length c3, .slice a4 ps.length c4]) (by simp [results, Tryz.results72, go_sem, y0, y1, y2, y3, y4]) rfl ⟨_, rfl, ⟨_, _, _, _, rfl, ?_⟩, ?_⟩
    · have hr := HR.out.below (below_trans HBd.out HB7.out HBd.out.size)
      have h4 : Own4 w7 base _ _ _ _ ⟨st, xs, ys, bs, ps⟩ := ⟨hr.1, hr.2.1, hr.2.2.1, own_mono HO7.out (Nat.le_trans hb HBd.out.size), hr.2.2.2⟩
      have f4' : ∀ o u (w8 : World) cs, Blk w8 w.heap.size cs 50 → Own4 w8 base (.slice a1 xs.length c1) (.slice a2 ys.length c2) (.slice a3 bs.length c3) (.slice a4 ps.length c4) ⟨st, xs, ys, bs, ps⟩ → Own4 (w8.setCell ⟨w.heap.size, o, none⟩ u) base (.slice a1 xs.length c1) (.slice a2 ys.length c2) (.slice a3 bs.length c3) (.slice a4 ps.length c4) ⟨st, xs, ys, bs, ps⟩ := fun o u w8 cs hbk h =>
        ⟨own_other h.1 _ _ _ (own_blk_ne h.1 hbk (by decide)), own_other h.2.1 _ _ _ (own_blk_ne h.2.1 hbk (by decide)), own_other h.2.2.1 _ _ _ (own_blk_ne h.2.2.1 hbk (by decide)), own_other h.2.2.2.1 _ _ _ (own_blk_ne h.2.2.2.1 hbk (by decide)), h.2.2.2.2⟩
      have b0 := ZZ.out.set 0 (.int .i64 st)
      have b1 := b0.set 1 (.slice a1 xs.length c1)
      have b2 := b1.set 2 (.slice a2 ys.length c2)
      have b3 := b2.set 3 (.slice a3 bs.length c3)
      exact f4' _ _ _ _ b3 (f4' _ _ _ _ b2 (f4' _ _ _ _ b1 (f4' _ _ _ _ b0 (f4' _ _ _ _ ZZ.out h4))))
    · have hB := below_trans HBd.out HB7.out HBd.out.size
      exact ((((hB.setCell (p := ⟨w.heap.size, 0, none⟩) (Nat.le_refl _) _).setCell (p := ⟨w.heap.size, 1, none⟩) (Nat.le_refl _) _).setCell (p := ⟨w.heap.size, 2, none⟩) (Nat.le_refl _) _).setCell (p := ⟨w.heap.size, 3, none⟩) (Nat.le_refl _) _).setCell (p := ⟨w.heap.size, 4, none⟩) (Nat.le_refl _) _

end Go.Proofs.YtcdiengbmjkglaaGreat
