/- Slices of bytes and of texts of the call's own: what is appended, and bytes read as a text. Conditions: none. The exact laws' own marks on texts. Conditions: at most a hundred million marks. The exact laws' own marks on disks. Conditions: at most a hundred million marks. Disks marked, and held against their marks. Conditions: at most a hundred million marks. -/
import Derived.WalkKit
import Derived.Lib.Hide
import Derived.Deep.AppendLies
import Derived.Laws.BytesArg
import Derived.OwnWalk
import Derived.Maps.Range
import Derived.Test.YtifgoanicbaohaaRows
import Derived.Test.YtifgoanicbaohaaPDGT2
import Derived.Test.YtifgoanicbaohaaPDSC
namespace Go.Proofs.Ytifgoanicbaohaa
open Go.RowKit

theorem grownBy_drew1 {w w' : World} {r : Option Nat} (h : w.grownBy w' r) : w.grownBy w'.drew r := ⟨h.os, h.tape, h.output, h.size, h.block⟩

/-- 'string(out)' of a slice of one's own. -/
theorem conv_own {w : World} {base : Nat} {v : Value} {k : Nat} {zs : List Int} (h : w.ownsRow base 5 1 v k (zs.map (Value.int .u8))) :
    (convert 22 9 v).run Try.prog w = .ok (.string (strOfNums zs)) w := by
  have hl : zs.length = k := by have := h.1; simpa using this
  rcases h.2 with ⟨rfl, hk⟩ | ⟨g, cap, cur, rfl, hb, hg, hkc, hcm, hcs, hx⟩
  · have : zs = [] := List.eq_nil_of_length_eq_zero (by omega)
    subst this
    exact run_convert_bytes_nil w 22 5 Try.underlying22 Try.underlying5 0 0 9 Try.underlying9
  · refine run_convert_bytes_arg w 22 5 Try.underlying22 Try.underlying5 g 0 k cap zs hl (fun i hi => ?_) 9 Try.underlying9
    have e : (cur.toList.take (k * 1))[i]? = (zs.map (Value.int .u8))[i]? := by rw [hx]
    rw [List.getElem?_take, if_pos (by omega)] at e
    simp only [World.cell?, hg, Nat.zero_add]
    simp [List.getD, List.getElem?_eq_getElem (show i < zs.length by omega)] at e ⊢
    exact e

theorem news_new (W : World) (z : Value) (t : TypeId) (H : Nat) (hH : W.heap.size = H) : ∀ j u, [z][j]? = some u → (W.alloc (.cells #[z] t)).cell? ((⟨H, 0, none⟩ : Addr).add j) = some u := by
  subst hH
  exact World.news_of_block (cs := #[z]) (t := t) (fr := (0, 0)) (heap_alloc_new W _)

theorem info5 : (Try.prog.info? 5).map (fun i => (i.zero, i.size, i.bytes)) = some (some (.int .u8 0), 1, 1) := by kernel_rfl

end Go.Proofs.Ytifgoanicbaohaa

namespace Go.Proofs.Ytifgoanicbaohaa
open Go.RowKit Go.Sort

/-- THE DIGITS, put before a text. -/
def digT (k : Nat) (out : ByteArray) : ByteArray := if _h : k = 0 then out else digT (k / 10) (strOfNums [48 + (k : Int) % 10] ++ out)
termination_by k
decreasing_by omega
theorem digT_zero (out : ByteArray) : digT 0 out = out := by rw [digT]; rfl
theorem digT_pos {k : Nat} (out : ByteArray) (h : 0 < k) : digT k out = digT (k / 10) (strOfNums [48 + (k : Int) % 10] ++ out) := by rw [digT, dif_neg (by omega)]

theorem conv_1 (w : World) (z : Int) : (convert 22 9 (.slice (some ⟨w.heap.size, 0, none⟩) 1 1)).run Try.prog (w.alloc (.cells #[.int .u8 z] 5)) = .ok (.string (strOfNums [z])) (w.alloc (.cells #[.int .u8 z] 5)) := by
  refine run_convert_bytes_arg _ 22 5 Try.underlying22 Try.underlying5 w.heap.size 0 1 1 [z] rfl (fun i hi => ?_) 9 Try.underlying9
  have : i = 0 := by simp at hi; omega
  subst this
  exact news_new w (.int .u8 z) 5 w.heap.size rfl 0 _ rfl

/-- A MARK. -/
def mkT (k : Nat) : ByteArray := ⟨#[109]⟩ ++ digT k ByteArray.empty
theorem ret_tx {a b : ByteArray} (h : a = b) : Ending.returned (.string a) = .returned (.string b) := by rw [h]

/-- MARKS IN A ROW. -/
def mkS (k n : Nat) : List ByteArray := (List.range n).map fun j => mkT (k + j)
theorem mkS_length (k n : Nat) : (mkS k n).length = n := by simp [mkS]
theorem mkS_get (k n j : Nat) (hj : j < n) : (mkS k n).getD j ByteArray.empty = mkT (k + j) := by
  rw [List.getD, mkS, List.getElem?_map, List.getElem?_range hj]; rfl
theorem ret_i {a b : Int} (h : a = b) : Ending.returned (.int .i64 a) = .returned (.int .i64 b) := by rw [h]

theorem gb_below {w w' : World} (h : Below w.heap.size w w') (r : Option Nat) : w.grownBy w' r := ⟨h.os, h.tape, h.output, h.size, fun k hk _ => h.block k hk⟩
theorem gb_set (w : World) (B o : Nat) (v : Value) : w.grownBy (w.setCell ⟨B, o, none⟩ v) (some B) :=
  ⟨rfl, rfl, rfl, by rw [World.size_setCell]; exact Nat.le_refl _, fun k _ hne => Below.heap_setCell _ _ _ _ (fun e => hne (by rw [e]))⟩
theorem gb_refl (w : World) (r : Option Nat) : w.grownBy w r := ⟨rfl, rfl, rfl, Nat.le_refl _, fun _ _ _ => rfl⟩
theorem below_gb {n : Nat} {w w' : World} {r : Option Nat} (h : w.grownBy w' r) (hn : n ≤ w.heap.size) (hr : ∀ k, r = some k → n ≤ k) : Below n w w' :=
  ⟨h.os, h.tape, h.output, h.size, fun k hk => h.block k (by omega) (fun e => by have := hr k e.symm; omega)⟩

end Go.Proofs.Ytifgoanicbaohaa

namespace Go.Proofs.Ytifgoanicbaohaa
open Go.RowKit Go.Sort

def mkB (k n : Nat) : List Bool := (List.range n).map fun j => ((k + j : Nat) : Int) % 3 == 0
def mkP (k n : Nat) : List PutD := (List.range n).map fun j => ⟨((k + j * 3 : Nat) : Int) % 3 == 0, ((k + j * 3 + 1 : Nat) : Int), mkT (k + j * 3 + 2)⟩
theorem mkB_length (k n : Nat) : (mkB k n).length = n := by simp [mkB]
theorem mkP_length (k n : Nat) : (mkP k n).length = n := by simp [mkP]
theorem mkB_get (k n j : Nat) (hj : j < n) : (mkB k n).getD j false = (((k + j : Nat) : Int) % 3 == 0) := by
  rw [List.getD, mkB, List.getElem?_map, List.getElem?_range hj]; rfl
theorem mkP_get (k n j : Nat) (hj : j < n) : (mkP k n).getD j put0 = ⟨((k + j * 3 : Nat) : Int) % 3 == 0, ((k + j * 3 + 1 : Nat) : Int), mkT (k + j * 3 + 2)⟩ := by
  rw [List.getD, mkP, List.getElem?_map, List.getElem?_range hj]; rfl
end Go.Proofs.Ytifgoanicbaohaa

namespace Go.Proofs.Ytifgoanicbaohaa
open Go.RowKit Go.Sort

/-- BLOCKS OF OTHER TYPES stay. -/
def Others (w w' : World) : Prop := ∀ (D : Nat) (cs : Array Value) (t : TypeId), 9 ≠ t → 4 ≠ t → 33 ≠ t → Blk w D cs t → Blk w' D cs t
/-- HOW MANY MARKS a disk takes, and the disk with them. -/
def mkN (d : DiskD) : Nat := d.slots.length + d.rings.length + d.spoilt.length + d.wait.length * 3
def mkD (k : Nat) (d : DiskD) : DiskD := ⟨d.state, mkS k d.slots.length, mkS (k + d.slots.length) d.rings.length, mkB (k + d.slots.length + d.rings.length) d.spoilt.length, mkP (k + d.slots.length + d.rings.length + d.spoilt.length) d.wait.length⟩

end Go.Proofs.Ytifgoanicbaohaa
