/- A text written to a builder of the call's own; what the builder is, and what it leaves as it was. Conditions: the new length is at most 2^47. The lines of a root's text, of the program. Conditions: the table of powers of ten lies there; an ok pointer. -/
import Derived.Test.YtceielkcplcccaaGreatDoorPKShelf
import Derived.Test.YtceielkcplcccaaGreatDoorPKQ8
namespace Go.Proofs.YtceielkcplcccaaGreatDoor
open Go.RowKit Go.Shelf

def lays166_ren : Go.Shelf.Ren := ⟨fun | 166 => 26 | 240 => 49 | 276 => 72 | n => n, fun | 0 => 0 | 3 => 3 | 4 => 4 | 5 => 5 | 9 => 9 | 20 => 20 | 37 => 51 | 70 => 50 | 72 => 53 | 75 => 55 | 80 => 68 | 164 => 99 | n => n, fun | n => n⟩
theorem lays166 : Go.Proofs.Lays.n166 Tryz.prog lays166_ren := {
  mixed := by kernel_rfl
  f166 := Tryz.func26.trans (congrArg some (by kernel_rfl))
  f240 := Tryz.func49.trans (congrArg some (by kernel_rfl))
  f276 := Tryz.func72.trans (congrArg some (by kernel_rfl))
  t0 := Tryz.underlying0
  a0 := Tryz.isAgg0
  z0 := Tryz.sizeOf0
  v0 := Tryz.zeroValue0
  t3 := Tryz.underlying3
  a3 := Tryz.isAgg3
  z3 := Tryz.sizeOf3
  v3 := Tryz.zeroValue3
  t4 := Tryz.underlying4
  a4 := Tryz.isAgg4
  z4 := Tryz.sizeOf4
  v4 := Tryz.zeroValue4
  t9 := Tryz.underlying9
  a9 := Tryz.isAgg9
  z9 := Tryz.sizeOf9
  v9 := Tryz.zeroValue9
  t20 := Tryz.underlying20
  a20 := Tryz.isAgg20
  z20 := Tryz.sizeOf20
  v20 := Tryz.zeroValue20
  t37 := Tryz.underlying51
  a37 := Tryz.isAgg51
  z37 := Tryz.sizeOf51
  v37 := Tryz.zeroValue51
  t70 := Tryz.underlying50
  a70 := Tryz.isAgg50
  z70 := Tryz.sizeOf50
  v70 := Tryz.zeroValue50
  t72 := Tryz.underlying53
  a72 := Tryz.isAgg53
  z72 := Tryz.sizeOf53
  v72 := Tryz.zeroValue53
  t75 := Tryz.underlying55
  a75 := Tryz.isAgg55
  z75 := Tryz.sizeOf55
  v75 := Tryz.zeroValue55
  t164 := Tryz.underlying99
  a164 := Tryz.isAgg99
  z164 := Tryz.sizeOf99
  v164 := Tryz.zeroValue99 }
theorem extra166 : Builder.Extra Tryz.prog lays166_ren := {
  sizeBuilder := by kernel_rfl
  liesBuilder := by kernel_rfl
  t5 := Tryz.underlying5
  a5 := Tryz.isAgg5
  z5 := Tryz.sizeOf5
  v5 := Tryz.zeroValue5
  infoByte := by kernel_rfl
  cellsByte := by kernel_rfl
  sizeByte := by kernel_rfl
  neB5 := by decide }

/-- A BUILDER OF ONE's OWN that holds a text. -/
def Bld (B b : Nat) (t : ByteArray) (w : World) : Prop := Lib.IsBuilderF 53 5 B b (Lib.byteCells t.data.toList) w
theorem Bld.below {B b : Nat} {t : ByteArray} {w w' : World} (h : Bld B b t w) (hB : Below w.heap.size w w') : Bld B b t w' := by
  have hg : w.grownBy w' none := ⟨hB.os, hB.tape, hB.output, hB.size, fun k hk _ => hB.block k hk⟩
  have k : ∀ p, Lib.BuilderAtF 53 5 B b p (Lib.byteCells t.data.toList) w → Lib.BuilderAtF 53 5 B b p (Lib.byteCells t.data.toList) w' := by
    rintro p ⟨h1, v, hb, hown, hne⟩
    have hlt : b < w.heap.size := (Array.getElem?_eq_some_iff.1 hb).1
    exact ⟨h1, v, (hB.block b hlt).trans hb, hown.kept hg (by by_cases e : v.ownBlock = none; exact .inl e; exact .inr e), hne⟩
  rcases h with h | h
  · exact .inl (k _ h)
  · exact .inr (k _ h)
theorem Bld.new (w : World) : Bld w.heap.size w.heap.size ⟨#[]⟩ (w.alloc (.cells #[.pointer none, .slice none 0 0] 53)) :=
  .inl ⟨Nat.le_refl _, _, heap_alloc_new w _, ⟨rfl, .inl ⟨rfl, rfl⟩⟩, by simp [Value.ownBlock]⟩
/-- A BLOCK of another kind that lies there. -/
def BoxAt (w : World) (k : Nat) (cs : Array Value) (t : TypeId) : Prop := w.heap[k]? = some (.cells cs t (0, 0))
theorem strCells_byte (s : ByteArray) : Lib.strCells s = Lib.byteCells s.data.toList := rfl
theorem byteCells_add (a b : List UInt8) : Lib.byteCells a ++ Lib.byteCells b = Lib.byteCells (a ++ b) := by simp [Lib.byteCells]
theorem WriteString_any (B b : Nat) (t s : ByteArray) (w : World) (h : Bld B b t w) (hlen : t.size + s.size ≤ 100000) (hBw : B ≤ w.heap.size) :
    Calls Tryz.prog 26 #[.pointer (some ⟨b, 0, none⟩), .string s] w fun e w' => e = .returned (.tuple #[.int .i64 s.size, .nilIface]) ∧ Bld B b (t ++ s) w' ∧ Below B w w' ∧ Lib.OthersKept 5 (some b) w w' := by
  have hl : (Lib.byteCells t.data.toList).length = t.size := by rw [Lib.byteCells, List.length_map]; exact Array.length_toList
  refine (Any.Builder_WriteString_k lays166 extra166 B b _ s w h (by rw [hl]; omega) hBw).mono ?_
  rintro e w' ⟨rfl, h1, h2, h3⟩
  refine ⟨rfl, .inr ?_, h2, h3⟩
  rw [strCells_byte, byteCells_add] at h1
  have e : (t ++ s).data.toList = t.data.toList ++ s.data.toList := by rw [ByteArray.data_append, Array.toList_append]
  rw [e]
  exact h1
theorem String_any (B b : Nat) (t : ByteArray) (w : World) (h : Bld B b t w) (hBw : B ≤ w.heap.size) :
    Calls Tryz.prog 31 #[.pointer (some ⟨b, 0, none⟩)] w fun e w' => e = .returned (.string t) ∧ Bld B b t w' ∧ Below B w w' ∧ Lib.OthersKept 5 (some b) w w' :=
  Tryz.Builder_String_any_k B b t.data.toList w h hBw

end Go.Proofs.YtceielkcplcccaaGreatDoor

namespace Go.Proofs.YtceielkcplcccaaGreatDoor
open Go.RowKit Go.Sort

theorem line_two (x y : ByteArray) : lineT [x, y] = tx (x.data.toList ++ [32] ++ y.data.toList ++ [10]) := by
  rw [lineT, List.map_cons, List.map_cons, List.map_nil, Lib.join_cons, Lib.joinTail]
  simp
theorem line_two_size (x y : ByteArray) : (lineT [x, y]).size = x.size + y.size + 2 := by
  have e : ∀ s : ByteArray, s.data.toList.length = s.size := fun s => Array.length_toList
  rw [line_two, tx_size]
  simp only [List.length_append, List.length_cons, List.length_nil, e]
  omega
theorem line_root (r : RootD) : lineT [⟨#[114, 111, 111, 116]⟩, tx (dz r.txg)] = roT r 0 := by
  rw [line_two, ← roT_zero]
  show tx ([114, 111, 111, 116] ++ [32] ++ dz r.txg ++ [10]) = tx [114, 111, 111, 116, 32] ++ tx (dz r.txg) ++ tx [10]
  rw [tx_add, tx_add]; rfl
theorem line_vol (r : RootD) (k : Nat) : roT r k ++ lineT [⟨#[118, 111, 108]⟩, (r.vols.getD k vol0).name] = rbT r k 0 := by
  rw [line_two, ← rbT_zero]
  show tx _ ++ tx ([118, 111, 108] ++ [32] ++ (r.vols.getD k vol0).name.data.toList ++ [10]) = tx _ ++ tx [118, 111, 108, 32] ++ tx (r.vols.getD k vol0).name.data.toList ++ tx [10]
  rw [tx_add, tx_add, tx_add, tx_add]
  simp only [List.append_assoc]
  rfl
theorem line_sum (r : RootD) : bodyT r ++ lineT [⟨#[115, 117, 109]⟩, tx (dz (sumT r))] = fullT r := by
  rw [line_two, fullT]
  show tx _ ++ tx ([115, 117, 109] ++ [32] ++ dz (sumT r) ++ [10]) = tx _ ++ tx [115, 117, 109, 32] ++ tx (dz (sumT r)) ++ tx [10]
  rw [tx_add, tx_add, tx_add, tx_add]
  simp only [List.append_assoc]
  rfl

theorem line2 (W : World) (x y : ByteArray) (g : Nat) (hg : g = W.heap.size) (hz : x.size + y.size ≤ 50000) :
    Calls Tryz.prog 27 #[.slice (some ⟨g, 0, none⟩) 2 2] (W.alloc (.cells #[.string x, .string y] 9)) fun e w' => e = .returned (.string (lineT [x, y])) ∧ Below W.heap.size W w' := by
  subst hg
  have hB : Below W.heap.size W (W.alloc (.cells #[.string x, .string y] 9)) := (Below.refl _ _).alloc (Nat.le_refl _) _
  have hw : WordsAt (W.alloc (.cells #[.string x, .string y] 9)) W.heap.size 0 [x, y] := by
    intro j z hj
    rw [Nat.zero_add, World.cell?_alloc_mark]
    match j, hj with
    | 0, h => cases h; rfl
    | 1, h => cases h; rfl
    | j + 2, h => simp at h
  refine (lineOf_any W.heap.size 0 2 [x, y] _ hw (by simp) (Nat.le_refl _) (by simp) (by unfold Hid; rw [line_two_size]; omega)).mono ?_
  rintro e w' ⟨rfl, h⟩
  exact ⟨rfl, hB.trans (h.mono hB.size)⟩

theorem lineNone (W : World) (g : Nat) (hg : g = W.heap.size) :
    Calls Tryz.prog 27 #[.slice (some ⟨g, 0, none⟩) 1 1] (W.alloc (.cells #[.string ⟨#[110, 111, 110, 101]⟩] 9)) fun e w' => e = .returned (.string (tx [110, 111, 110, 101, 10])) ∧ Below W.heap.size W w' := by
  subst hg
  have hB : Below W.heap.size W (W.alloc (.cells #[.string ⟨#[110, 111, 110, 101]⟩] 9)) := (Below.refl _ _).alloc (Nat.le_refl _) _
  have hw : WordsAt (W.alloc (.cells #[.string ⟨#[110, 111, 110, 101]⟩] 9)) W.heap.size 0 [⟨#[110, 111, 110, 101]⟩] := by
    intro j z hj
    rw [Nat.zero_add, World.cell?_alloc_mark]
    match j, hj with
    | 0, h => cases h; rfl
    | j + 1, h => simp at h
  have e : lineT [⟨#[110, 111, 110, 101]⟩] = tx [110, 111, 110, 101, 10] := by
    rw [lineT, List.map_cons, List.map_nil, Lib.join_one]; rfl
  refine (lineOf_any W.heap.size 0 1 [⟨#[110, 111, 110, 101]⟩] _ hw (by simp) (Nat.le_refl _) (by simp) (by unfold Hid; rw [e, tx_size]; simp)).mono ?_
  rintro e w' ⟨rfl, h⟩
  exact ⟨ret_text e, hB.trans (h.mono hB.size)⟩

set_option maxRecDepth 100000 in
set_option maxHeartbeats 2000000 in
theorem ptrLine_none (p : PtrD) (a : Option Addr) (cap : Nat) (w : World) (hp : Hid (Nothing p)) :
    Calls Tryz.prog 29 #[.agg #[.int .i64 p.size, .int .i64 p.sum, .slice a p.places.length cap]] w fun e w' => e = .returned (.string (tx (ptrTx p))) ∧ Below w.heap.size w w' := by
  have HN := Lib.hid (fun w' => isNothing_any p a cap w')
  rw [tt_true hp.out] at HN
  have HR : Hid (tx (ptrTx p) = tx [110, 111, 110, 101, 10]) := by unfold Hid; rw [ptrTx, if_pos hp.out.1]
  generalize tx (ptrTx p) = T at HR ⊢
  obtain ⟨z, s, ps⟩ := p
  simp only at HN ⊢
  clear hp
  go_enter Tryz.func29, Tryz.ntmps29
  go_wp2_with fail
  refine (HN.out _).mono ?_
  rintro e w1 ⟨rfl, hB1⟩
  have hB0 : Below w.heap.size w (w.alloc (.cells #[.int .i64 z, .int .i64 s, .slice a ps.length cap] 65)) := (Below.refl _ _).alloc (Nat.le_refl _) _
  have HB1 := Lib.hid (hB0.trans (hB1.mono hB0.size))
  clear hB1 hB0 HN
  go_wp2_with fail
  refine (lineNone w1 _ rfl).mono ?_
  rintro e w2 ⟨rfl, hB2⟩
  have HB2 := Lib.hid (HB1.out.trans (hB2.mono HB1.out.size))
  clear hB2
  go_wp2_with fail
  go_ret
  exact ⟨ret_text HR.out.symm, HB2.out⟩

theorem ptrLine_any (n : Int) (p : PtrD) (a : Option Addr) (cap : Nat) (w : World) (hn : Pool n) (hp : PtrFine n p) (hx : PlacesAt w a p.places) (hT : Tab w) :
    Calls Tryz.prog 29 #[.agg #[.int .i64 p.size, .int .i64 p.sum, .slice a p.places.length cap]] w fun e w' => e = .returned (.string (tx (ptrTx p))) ∧ Below w.heap.size w w' := by
  rcases hp with h | h
  · exact ptrLine_none p a cap w h
  · exact ptrLine_told n p a cap w hn h hx hT

end Go.Proofs.YtceielkcplcccaaGreatDoor
