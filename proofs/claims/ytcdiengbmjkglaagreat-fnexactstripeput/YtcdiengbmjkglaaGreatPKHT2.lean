/- Copies of texts by the program. Conditions: none. slices.Clone of truth values, by one application of the theorem that the library has of it. Conditions: the theorem names its own. Drives: a disk while something is done to it, with its linked list of writes; copies of texts. Conditions: none. -/
import Derived.Test.YtcdiengbmjkglaaGreatPKGT3
import Derived.Test.YtcdiengbmjkglaaGreatPKShelf
import Derived.Deep.AppendLies
import Derived.Ground.SlgnProg
import Derived.Shelf.SlicesE.Clone
import Derived.Test.YtcdiengbmjkglaaGreatPKG7
import Derived.Test.YtcdiengbmjkglaaGreatPKG8
namespace Go.Proofs.YtcdiengbmjkglaaGreat
open Go.RowKit Go.Sort Go.Shelf

set_option maxHeartbeats 400000 in
theorem cloneTx_any (s : ByteArray) (hs : s.size ≤ 281474976710656) (w : World) :
    Calls Tryz.prog 122 #[.string s] w fun e w' => e = .returned (.string s) ∧ Below w.heap.size w w' := by
  go_enter Tryz.func122, Tryz.ntmps122
  go_wp2_with fail
  refine (Tryz.stringslite_Clone s _ hs).mono ?_
  rintro e w1 ⟨rfl, hB⟩
  go_wp2
  go_ret
  exact ⟨rfl, hB⟩

set_option maxRecDepth 100000 in
set_option maxHeartbeats 1000000 in
theorem textsCopy_any (a : Option Addr) (cap : Nat) (xs : List ByteArray) (w : World) (hl : xs.length ≤ 1000) (hs : Hid (∀ j, j < xs.length → (xs.getD j ByteArray.empty).size ≤ 1000)) (hx : Hid (TxAt w a xs)) :
    Calls Tryz.prog 90 #[.slice a xs.length cap] w fun e w' => ∃ v, e = .returned v ∧ OwnTx w' w.heap.size v xs ∧ Below w.heap.size w w' := by
  obtain ⟨i0, hi0, hz0, hz1, hz2⟩ := info_parts infoTx
  go_enter Tryz.func90, Tryz.ntmps90
  go_wp2_with (at_make; refine wpList_make_full _ rfl _ _ 46 rfl w.heap.size 9 i0 _ 1 Tryz.underlying46 hi0 hz0 hz1 .i64 .i64 _ _ xs.length rfl rfl rfl rfl (by rw [hz2]; omega) (by unfold maxLen; omega) (Nat.le_refl _) ?_; intro w1 hown hgrow)
  have hlen : (madeCells (Value.string ByteArray.empty).cells (xs.length * 1)).toList.length = xs.length := hown.1.trans (Nat.mul_one _)
  generalize (madeCells (Value.string ByteArray.empty).cells (xs.length * 1)).toList = ys0 at hown hlen
  have HB1 : Hid (Below w.heap.size w w1) := ⟨hgrow.os, hgrow.tape, hgrow.output, hgrow.size, fun k hk => hgrow.block k hk (by simp)⟩
  have Hown := Lib.hid hown
  clear hown hgrow
  go_loopw [11] (fun i wr => ∃ k : Nat, i = .int .i64 (k : Int) ∧ k ≤ xs.length ∧ Hid (Below w.heap.size w wr ∧ ∃ ys, DoneTo (txC xs) k ys ∧ wr.ownsRow w.heap.size 9 1 (.slice (some ⟨w.heap.size, 0, none⟩) xs.length xs.length) xs.length ys)) (fun i _ => xs.length - (intOf i).toNat)
  case atStart => exact ⟨0, rfl, by omega, HB1.out, ys0, ⟨by rw [txC_length]; exact hlen, fun j hj => by omega⟩, Hown.out⟩
  case round =>
    obtain ⟨k, rfl, hk, hI⟩ := hrel
    by_cases hlt : k < xs.length
    · obtain ⟨hB, ys, hf, ho⟩ := hI.out
      obtain ⟨b, off, rfl, hc⟩ := (hx.out.below hB).resolve_left (fun e => by subst e; simp at hlt)
      have hck := hc k hlt
      have hsk := hs.out k hlt
      have HG := Lib.hid (txC_get xs k hlt)
      have HF := Lib.hid hf
      have HO := Lib.hid ho
      have HB := Lib.hid hB
      clear hc hf ho hB hI
      generalize xs.getD k ByteArray.empty = x at hck hsk HG
      go_wp2_with fail
      refine (cloneTx_any x (by omega) _).mono ?_
      rintro e w2 ⟨rfl, hB2⟩
      have ho2 := own_below HO.out hB2
      obtain ⟨x0, f0, _, hxl⟩ := own_cell ho2 k (by omega)
      rw [List.getElem?_eq_getElem (by omega)] at x0
      generalize ys[k]'(by omega) = y0 at x0
      have HN : Hid (Below w.heap.size w (w2.setCell ⟨w.heap.size, k, none⟩ (.string x)) ∧ ∃ ys, DoneTo (txC xs) (k + 1) ys ∧ (w2.setCell ⟨w.heap.size, k, none⟩ (.string x)).ownsRow w.heap.size 9 1 (.slice (some ⟨w.heap.size, 0, none⟩) xs.length xs.length) xs.length ys) :=
        ⟨(below_trans HB.out hB2 HB.out.size).setCell (p := ⟨w.heap.size, k, none⟩) (Nat.le_refl _) _, _, HF.out.next HG.out, own_set ho2 _ _⟩
      clear ho2 hB2 hxl
      go_wp2
      exact ⟨⟨k + 1, by go_num, by omega, HN⟩, by simp [intOf]; omega⟩
    · obtain rfl : k = xs.length := by omega
      go_wp2
      go_ret
      obtain ⟨hB, ys, hf, ho⟩ := hI.out
      rw [hf.all (by rw [txC_length]; omega)] at ho
      exact ⟨_, rfl, ho, hB⟩

end Go.Proofs.YtcdiengbmjkglaaGreat

namespace Go.Proofs.YtcdiengbmjkglaaGreat
open Go.Shelf Go.RowKit
def laysCl_ren : Go.Shelf.Ren := ⟨fun | 41 => 89 | n => n, fun | 22 => 47 | 23 => 4 | 4 => 4 | n => n, fun | n => n⟩
theorem laysCl : Go.Proofs.SlLaysE0.n41 Tryz.prog laysCl_ren := {
  mixed := by kernel_rfl
  f41 := ⟨Tryz.f89.name, by decide, Tryz.func89.trans (congrArg some (by kernel_rfl))⟩
  t4 := Tryz.underlying4
  a4 := Tryz.isAgg4
  z4 := Tryz.sizeOf4
  v4 := Tryz.zeroValue4
  t22 := Tryz.underlying47
  a22 := Tryz.isAgg47
  z22 := Tryz.sizeOf47
  v22 := Tryz.zeroValue47 }
theorem cloneBool (i0 : TypeInfo) (z : Value) (size bytes : Nat) (hi : Tryz.prog.info? 4 = some i0) (hz0 : i0.zero = some z) (hz1 : i0.size = size) (hz2 : i0.bytes = bytes) (hzs : z.cells.size = size) (hsz : 0 < size) (z23 : ∀ w, (Go.sizeOf 4).run Tryz.prog w = .ok size w) (b off n c : Nat) (news : List Value) (w : World) (hl : news.length = n * size) (hn : n ≤ maxLen) (hbig : n * bytes ≤ 140737488355328) (hc : ∀ j u, news[j]? = some u → w.cell? ⟨b, off + j, none⟩ = some u) (h1 : ∀ u ∈ news, u.oneCell' = true) :
    Calls Tryz.prog 89 #[.slice (some ⟨b, off, none⟩) n c] w fun e w' => ∃ v', e = .returned v' ∧ w'.ownsRow w.heap.size 4 size v' n news ∧ v' ≠ .slice none 0 0 ∧ Below w.heap.size w w' := AnyE.slices_Clone laysCl i0 z size bytes hi hz0 hz1 hz2 hzs hsz z23 b off n c news w hl hn hbig hc h1
end Go.Proofs.YtcdiengbmjkglaaGreat

namespace Go.Proofs.YtcdiengbmjkglaaGreat
open Go.RowKit Go.Sort Go.Shelf

/-- A POINTER to the head of a block. -/
def linkTo : Option Nat → Value
  | none => .pointer none
  | some b => .pointer (some ⟨b, 0, none⟩)
/-- A CHAIN of writes, each in a block of its own. -/
def Chain (w : World) (base : Nat) (ids : List Nat) (ps : List PutD) : Prop :=
  ids.length = ps.length ∧ (∀ j, j < ps.length → base ≤ ids.getD j 0 ∧ Blk w (ids.getD j 0) #[.bool (ps.getD j put0).ring, .int .i64 (ps.getD j put0).pos, .string (ps.getD j put0).text, linkTo ids[j + 1]?] 126) ∧ ∀ i j, i < j → j < ps.length → ids.getD i 0 < ids.getD j 0
/-- ROWS of one's own: slots, rings, marks. -/
def Rows3 (w : World) (base : Nat) (v1 v2 v3 : Value) (d : DiskD) : Prop := OwnTx w base v1 d.slots ∧ OwnTx w base v2 d.rings ∧ OwnBo w base v3 d.spoilt ∧ ∀ i, v1.ownBlock = some i → v2.ownBlock ≠ some i
theorem Rows3.below {w w' : World} {base : Nat} {v1 v2 v3 : Value} {d : DiskD} (h : Rows3 w base v1 v2 v3 d) (hB : Below w.heap.size w w') : Rows3 w' base v1 v2 v3 d :=
  ⟨own_below h.1 hB, own_below h.2.1 hB, own_below h.2.2.1 hB, h.2.2.2⟩
theorem Rows3.set {w : World} {base : Nat} {v1 v2 v3 : Value} {d : DiskD} (h : Rows3 w base v1 v2 v3 d) {p : Nat} {cs : Array Value} {t : TypeId} (hb : Blk w p cs t) (n1 : 9 ≠ t) (n2 : 4 ≠ t) (o : Nat) (u : Value) : Rows3 (w.setCell ⟨p, o, none⟩ u) base v1 v2 v3 d :=
  ⟨own_other h.1 p o u (own_blk_ne h.1 hb n1), own_other h.2.1 p o u (own_blk_ne h.2.1 hb n1), own_other h.2.2.1 p o u (own_blk_ne h.2.2.1 hb n2), h.2.2.2⟩
theorem Chain.below {w w' : World} {base : Nat} {ids : List Nat} {ps : List PutD} (h : Chain w base ids ps) (hB : Below w.heap.size w w') : Chain w' base ids ps :=
  ⟨h.1, fun j hj => ⟨(h.2.1 j hj).1, (h.2.1 j hj).2.below hB (h.2.1 j hj).2.lt⟩, h.2.2⟩
theorem Chain.set {w : World} {base : Nat} {ids : List Nat} {ps : List PutD} (h : Chain w base ids ps) {p : Nat} {cs : Array Value} {t : TypeId} (hb : Blk w p cs t) (n1 : 126 ≠ t) (o : Nat) (u : Value) : Chain (w.setCell ⟨p, o, none⟩ u) base ids ps :=
  ⟨h.1, fun j hj => ⟨(h.2.1 j hj).1, (h.2.1 j hj).2.other p o u (fun e => n1 (by have := (h.2.1 j hj).2; rw [← e] at this; exact this.type hb))⟩, h.2.2⟩
/-- THE DRIVE of a disk. -/
def driveC (d : DiskD) (v1 v2 v3 : Value) (ids : List Nat) : Array Value := #[.int .i64 d.state, v3, v1, v2, linkTo ids[0]?, linkTo ids[ids.length - 1]?, .int .i64 (d.wait.length : Int)]
def Drive (w : World) (base D : Nat) (d : DiskD) (ids : List Nat) : Prop :=
  ∃ v1 v2 v3, base ≤ D ∧ Blk w D (driveC d v1 v2 v3 ids) 95 ∧ Rows3 w base v1 v2 v3 d ∧ Chain w base ids d.wait
theorem Drive.below {w w' : World} {base D : Nat} {d : DiskD} {ids : List Nat} (h : Drive w base D d ids) (hB : Below w.heap.size w w') : Drive w' base D d ids := by
  obtain ⟨v1, v2, v3, h0, h1, h2, h3⟩ := h
  exact ⟨v1, v2, v3, h0, h1.below hB h1.lt, h2.below hB, h3.below hB⟩

theorem boC_one (bs : List Bool) : ∀ u ∈ boC bs, u.oneCell' = true := by
  intro u hu
  obtain ⟨b, _, rfl⟩ := List.mem_map.1 hu
  rfl
theorem cloneBo_any (a : Option Addr) (cap : Nat) (bs : List Bool) (w : World) (hl : bs.length ≤ 1000) (hx : BoAt w a bs) (h0 : bs.length ≠ 0) :
    Calls Tryz.prog 89 #[.slice a bs.length cap] w fun e w' => ∃ v, e = .returned v ∧ OwnBo w' w.heap.size v bs ∧ Below w.heap.size w w' := by
  obtain ⟨i0, hi0, hz0, hz1, hz2⟩ := info_parts infoBo
  obtain ⟨b, off, rfl, hc⟩ := hx.resolve_left (fun e => h0 (by rw [e]; rfl))
  refine (cloneBool i0 _ 1 1 hi0 hz0 hz1 hz2 rfl (by omega) Tryz.sizeOf4 b off bs.length cap (boC bs) w (by rw [boC_length]; omega) (by unfold maxLen; omega) (by omega) (fun j u hu => ?_) (boC_one bs)).mono ?_
  · have hj : j < bs.length := by have := (List.getElem?_eq_some_iff.1 hu).1; rw [boC_length] at this; exact this
    rw [boC_get bs j hj] at hu
    rw [hc j hj]; exact hu
  · rintro e w' ⟨v, rfl, ho, _, hB⟩
    exact ⟨v, rfl, ho, hB⟩

theorem Chain.first {w : World} {base : Nat} {id : Nat} {p : PutD} (hb : base ≤ id) (h : Blk w id #[.bool p.ring, .int .i64 p.pos, .string p.text, .pointer none] 126) : Chain w base [id] [p] := by
  refine ⟨rfl, fun j hj => ?_, fun i j hij hj => ?_⟩
  · have : j = 0 := by simp at hj; omega
    subst this
    exact ⟨hb, h⟩
  · simp at hj; omega

/-- The last write's pointer turned to a new block. -/
theorem Chain.snoc {w : World} {base : Nat} {ids : List Nat} {ps : List PutD} (h : Chain w base ids ps) (h0 : ids ≠ []) {id : Nat} {p : PutD} (hb : base ≤ id) (hid : Blk w id #[.bool p.ring, .int .i64 p.pos, .string p.text, .pointer none] 126) (hlt : ∀ j, j < ps.length → ids.getD j 0 < id) :
    Chain (w.setCell ⟨ids.getD (ids.length - 1) 0, 3, none⟩ (.pointer (some ⟨id, 0, none⟩))) base (ids ++ [id]) (ps ++ [p]) := by
  obtain ⟨hl, hc, hs⟩ := h
  have hpos : 0 < ids.length := List.length_pos_iff.2 h0
  refine ⟨by simp [hl], fun j hj => ?_, fun i j hij hj => ?_⟩
  · rw [List.length_append, List.length_singleton] at hj
    by_cases e : j = ps.length
    · subst e
      rw [← hl, getD_snoc_eq, hl, getD_snoc_eq]
      refine ⟨hb, ?_⟩
      have : (ids ++ [id])[ps.length + 1]? = none := List.getElem?_eq_none (by simp; omega)
      rw [this]
      have hne := hlt (ps.length - 1) (by omega)
      exact hid.other _ _ _ (by omega)
    · have hj' : j < ps.length := by omega
      obtain ⟨c1, c2⟩ := hc j hj'
      rw [getD_snoc_lt _ _ _ _ (by omega), getD_snoc_lt _ _ _ _ hj']
      refine ⟨c1, ?_⟩
      by_cases el : j + 1 = ps.length
      · have e1 : (ids ++ [id])[j + 1]? = some id := by rw [el, ← hl]; exact get_snoc_eq _ _
        rw [e1]
        have e2 : ids.length - 1 = j := by omega
        rw [e2]
        exact c2.set 3 (.pointer (some ⟨id, 0, none⟩))
      · rw [List.getElem?_append_left (by omega)]
        have := hs j (ids.length - 1) (by omega) (by omega)
        exact c2.other _ _ _ (by omega)
  · rw [List.length_append, List.length_singleton] at hj
    rw [getD_snoc_lt _ _ _ _ (by omega)]
    by_cases e : j = ps.length
    · subst e
      rw [← hl, getD_snoc_eq]
      exact hlt i (by omega)
    · rw [getD_snoc_lt _ _ _ _ (by omega)]
      exact hs i j hij (by omega)

end Go.Proofs.YtcdiengbmjkglaaGreat
