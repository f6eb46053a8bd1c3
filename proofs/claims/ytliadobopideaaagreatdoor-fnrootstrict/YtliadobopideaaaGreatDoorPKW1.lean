/- Slices of bytes and of texts of the call's own: what is appended, and bytes read as a text. Conditions: none. A drawn text: whatever the code, it has at most so many bytes, and only the reader's own block turns. Conditions: the reader's place is small. What the proofs of all laws share: the closed facts of the program, and how a slice of bytes that came in lies in memory. Conditions: none. The reader of drawn codes is opened. Conditions: none but the row's own bound on sizes. The sum of a text as plain data. Conditions: none. SumOf of the specification answers the sum of the first nine bytes. Conditions: none. -/
import Derived.WalkKit
import Derived.Lib.Hide
import Derived.Deep.AppendLies
import Derived.Laws.BytesArg
import Derived.OwnWalk
import Derived.Maps.Range
import Derived.Test.YtliadobopideaaaGreatDoorRows
import Derived.Test.YtliadobopideaaaGreatDoorPKUA
import Derived.Deep.RegionWith
import Derived.Deep.RegionLaw
import Derived.ProofKit
import Derived.OpenShut
import Derived.ShutString
import Derived.ChangeOld
import Derived.Below
import Derived.Test.YtliadobopideaaaGreatDoorPKR0
namespace Go.Proofs.YtliadobopideaaaGreatDoor
open Go.RowKit

theorem grownBy_drew1 {w w' : World} {r : Option Nat} (h : w.grownBy w' r) : w.grownBy w'.drew r := ⟨h.os, h.tape, h.output, h.size, h.block⟩

/-- 'string(out)' of a slice of one's own. -/
theorem conv_own {w : World} {base : Nat} {v : Value} {k : Nat} {zs : List Int} (h : w.ownsRow base 5 1 v k (zs.map (Value.int .u8))) :
    (convert 22 9 v).run Tryz.prog w = .ok (.string (strOfNums zs)) w := by
  have hl : zs.length = k := by have := h.1; simpa using this
  rcases h.2 with ⟨rfl, hk⟩ | ⟨g, cap, cur, rfl, hb, hg, hkc, hcm, hcs, hx⟩
  · have : zs = [] := List.eq_nil_of_length_eq_zero (by omega)
    subst this
    exact run_convert_bytes_nil w 22 5 Tryz.underlying22 Tryz.underlying5 0 0 9 Tryz.underlying9
  · refine run_convert_bytes_arg w 22 5 Tryz.underlying22 Tryz.underlying5 g 0 k cap zs hl (fun i hi => ?_) 9 Tryz.underlying9
    have e : (cur.toList.take (k * 1))[i]? = (zs.map (Value.int .u8))[i]? := by rw [hx]
    rw [List.getElem?_take, if_pos (by omega)] at e
    simp only [World.cell?, hg, Nat.zero_add]
    simp [List.getD, List.getElem?_eq_getElem (show i < zs.length by omega)] at e ⊢
    exact e

theorem news_new (W : World) (z : Value) (t : TypeId) (H : Nat) (hH : W.heap.size = H) : ∀ j u, [z][j]? = some u → (W.alloc (.cells #[z] t)).cell? ((⟨H, 0, none⟩ : Addr).add j) = some u := by
  subst hH
  exact World.news_of_block (cs := #[z]) (t := t) (fr := (0, 0)) (heap_alloc_new W _)

theorem info5 : (Tryz.prog.info? 5).map (fun i => (i.zero, i.size, i.bytes)) = some (some (.int .u8 0), 1, 1) := by kernel_rfl

end Go.Proofs.YtliadobopideaaaGreatDoor

namespace Go.Proofs.YtliadobopideaaaGreatDoor
open Go.RowKit

theorem Rd.alloc {n₀ B p : Nat} {w : World} (h : Rd n₀ B p w) (o : Obj) : Rd n₀ B p (w.alloc o) := by
  obtain ⟨hB, a, len, cap, zs, hblk, hlm, hz, hcs⟩ := h
  have hlt := (Array.getElem?_eq_some_iff.1 hblk).1
  refine ⟨hB, a, len, cap, zs, (Below.heap_alloc _ _ _ hlt).trans hblk, hlm, hz, ?_⟩
  rcases hcs with h | ⟨b, off, rfl, hb, hc⟩
  · exact .inl h
  · exact .inr ⟨b, off, rfl, hb, fun i hi => (World.cell?_of_block (Below.heap_alloc _ _ _ (by simp; omega))).trans (hc i hi)⟩
theorem Rd.drew {n₀ B p : Nat} {w : World} (h : Rd n₀ B p w) : Rd n₀ B p w.drew := h.drewN 1
theorem Rd.lt {n₀ B p : Nat} {w : World} (h : Rd n₀ B p w) : B < w.heap.size := by
  obtain ⟨hB, a, len, cap, zs, hblk, hlm, hz, hcs⟩ := h
  exact (Array.getElem?_eq_some_iff.1 hblk).1
/-- What turns only a row of one's own beyond the reader leaves the reader. -/
theorem Rd.kept {n₀ B p : Nat} {w w' : World} {r : Option Nat} (h : Rd n₀ B p w) (hg : w.grownBy w' r) (hr : ∀ k, r = some k → B < k) : Rd n₀ B p w' := by
  have hlt := h.lt
  obtain ⟨hB, a, len, cap, zs, hblk, hlm, hz, hcs⟩ := h
  refine ⟨hB, a, len, cap, zs, (hg.block B hlt (fun e => by have := hr B e.symm; omega)).trans hblk, hlm, hz, ?_⟩
  rcases hcs with h | ⟨b, off, rfl, hb, hc⟩
  · exact .inl h
  · exact .inr ⟨b, off, rfl, hb, fun i hi => (World.cell?_of_block (hg.block b (by omega) (fun e => by have := hr b e.symm; omega))).trans (hc i hi)⟩

/-- WHAT l71Text ANSWERS. -/
def Texted (n₀ B p m : Nat) (w : World) (e : Ending) (w' : World) : Prop :=
  ∃ (s : ByteArray) (q : Nat), e = .returned (.string s) ∧ s.size ≤ m ∧ q ≤ p + 1 + 2 * m ∧ Rd n₀ B q w' ∧ w.grownBy w' (some B)

/-- The six bytes of which texts are made. -/
def tab (v : Int) : Int := if v = 0 then 97 else if v = 1 then 98 else if v = 2 then 122 else if v = 3 then 0 else if v = 4 then 255 else 128
theorem tab_bd (v : Int) : 0 ≤ tab v ∧ tab v ≤ 255 := by unfold tab; split <;> (try split) <;> (try split) <;> (try split) <;> (try split) <;> omega
theorem tab_list (v : Int) (h0 : 0 ≤ v) (h6 : v < 6) : ([Value.int .u8 97, .int .u8 98, .int .u8 122, .int .u8 0, .int .u8 255, .int .u8 128] : List Value)[v.toNat]? = some (.int .u8 (tab v)) := by
  obtain ⟨n, rfl⟩ := Int.eq_ofNat_of_zero_le h0
  match n, h6 with
  | 0, _ => rfl
  | 1, _ => rfl
  | 2, _ => rfl
  | 3, _ => rfl
  | 4, _ => rfl
  | 5, _ => rfl
  | n + 6, h => omega
theorem tab_get (v : Int) (h0 : 0 ≤ v) (h6 : v < 6) : ∀ h, ([Value.int .u8 97, .int .u8 98, .int .u8 122, .int .u8 0, .int .u8 255, .int .u8 128] : List Value)[v.toNat]'h = .int .u8 (tab v) := fun h => by
  have := tab_list v h0 h6
  rw [List.getElem?_eq_getElem h] at this
  exact Option.some.inj this
theorem tab_cell (w : World) (v : Int) (h0 : 0 ≤ v) (h6 : v < 6) : (w.alloc (.cells #[.int .u8 97, .int .u8 98, .int .u8 122, .int .u8 0, .int .u8 255, .int .u8 128] 5)).cell? ⟨w.heap.size, v.toNat, none⟩ = some (.int .u8 (tab v)) := by
  rw [World.cell?_alloc_mark]
  simpa using tab_list v h0 h6

set_option maxRecDepth 100000 in
set_option maxHeartbeats 4000000 in
theorem l71Text_any (n₀ B p m : Nat) (w : World) (hp : p ≤ 900000) (hm : m ≤ 1000) (hR : Rd n₀ B p w) :
    Calls Tryz.prog 104 #[.pointer (some ⟨B, 0, none⟩), .int .i64 (m : Int)] w (Texted n₀ B p m w) := by
  obtain ⟨i0, hi0, hz0, hz1, hz2⟩ := info_parts info5
  have hBlt := hR.lt
  go_enter Tryz.func104, Tryz.ntmps104
  go_wp2_with fail
  refine (pick_any n₀ B p _ _ (by omega) (hR.alloc _)).mono ?_
  rintro e w1 ⟨v, rfl, hv0, hvn, hR1, hg1⟩
  have hvm : v ≤ m := by have := hvn (by omega); omega
  clear hvn
  go_wp2_with fail
  have hown0 : w1.ownsRow w.heap.size 5 1 (.slice (some ⟨w.heap.size, 0, none⟩) 0 0) 0 [] := (World.ownsRow_made w #[] 0 (Nat.le_refl _) (by simp [maxLen]) (by simp)).kept hg1 (.inr (by simp [Value.ownBlock]; omega))
  have hgw : w.grownBy w1 (some B) := (World.grownBy_alloc w _ _).trans hg1
  go_loopw [5, 6] (fun s n wr => ∃ (k j : Nat) (zs : List Int), n = .int .i64 (j : Int) ∧ k + j ≤ m ∧ wr.ownsRow w.heap.size 5 1 s k (zs.map (Value.int .u8)) ∧ Rd n₀ B (p + 1 + 2 * k) wr ∧ w.grownBy wr (some B))
    (fun _ n _ => (intOf n).toNat)
  case atStart =>
    obtain ⟨j, rfl⟩ := Int.eq_ofNat_of_zero_le hv0
    exact ⟨0, j, [], rfl, by omega, hown0, hR1, hgw⟩
  case round =>
    obtain ⟨k, j, zs, rfl, hkj, hown, hRk, hgk⟩ := hrel
    have hsz : w.heap.size ≤ wr.heap.size := hgk.size
    by_cases hj : 0 < j
    · go_wp2_with fail
      have hnb : u5.ownBlock = none ∨ u5.ownBlock ≠ some B := .inr (fun e => by have := (hown.lt B e).1; omega)
      have hbk : ∀ i, u5.ownBlock = some i → B < i := fun i e => by have := (hown.lt i e).1; omega
      go_region_law (first
        | (refine step_append_lies _ (by rfl) _ _ _ (by rfl) w.heap.size 5 i0 _ 1 1 Tryz.underlying22 hi0 hz0 hz1 hz2 rfl (by omega) u5 k (zs.map (Value.int .u8)) (by rfl) ?_ ⟨_, 0, none⟩ 1 1 [.int .u8 (IntKind.u8.wrap (tab v2 + IntKind.u8.wrap v3))] (by rfl) (by rfl)
              (news_new _ _ 5 _ (by simp)) (by simp [Value.oneCell']) (by omega) (by simp [maxLen]; omega) (by omega) ?_ _ rfl ?_; (first | exact ho3.alloc _ | exact (ho3.alloc _).alloc _); (have q3 := hg3.size; simp at q3 ⊢; omega); intro g cap w4 hown4 hgrow4 hat4 hlt4)
        | (go_simp; go_at_call_of 40 (Value.int IntKind.i64 6); refine (pick_any n₀ B (p + 1 + 2 * k) 6 _ (by omega) ?_).mono ?_; (first | exact hRk.drew | exact (hRk.alloc _).drew); rintro e w2 ⟨v2, rfl, hv20, hv2n, hR2, hg2⟩; have hv26 := hv2n (by omega); clear hv2n; have hl2 := tab_get v2 hv20 hv26; have q2 := hg2.size; simp at q2;
            (first | (have ho2 := (hown.drew).kept hg2 hnb; have hgw2 := (grownBy_drew1 hgk).trans hg2) | (have ho2 := ((hown.alloc _).drew).kept hg2 hnb; have hgw2 := (grownBy_drew1 (hgk.trans (World.grownBy_alloc wr _ _))).trans hg2; have hc2 := hg2.cell (show ((wr.alloc _).drew).cell? _ = _ from tab_cell wr v2 hv20 hv26) (by simp; omega))))
        | (go_simp; go_at_call_of 40 (Value.int IntKind.i64 3); refine (pick_any n₀ B (p + 1 + 2 * k + 1) 3 _ (by omega) ?_).mono ?_; (first | exact hR2 | exact hR2.alloc _); rintro e w3 ⟨v3, rfl, hv30, hv3n, hR3, hg3⟩; have hv33 := hv3n (by omega); clear hv3n;
            (first | (have ho3 := ho2.kept hg3 hnb; have hgw3 := hgw2.trans hg3; (first | (have hc3 := hg3.cell hc2 (by simp; omega)) | skip)) | (have ho3 := (ho2.alloc _).kept hg3 hnb; have hgw3 := (hgw2.trans (World.grownBy_alloc w2 _ _)).trans hg3; have hc3 := hg3.cell (tab_cell w2 v2 hv20 hv26) (by simp; omega)))))
      all_goals
        go_wp2
        go_roundw
      all_goals first
        | (refine ⟨k + 1, j - 1, zs ++ [IntKind.u8.wrap (tab v2 + IntKind.u8.wrap v3)], by congr 1; omega, by omega, by rw [List.map_append]; exact hown4, ?_, ?_⟩
           · rw [show p + 1 + 2 * (k + 1) = p + 1 + 2 * k + 1 + 1 by omega]
             first | exact (hR3.alloc _).kept hgrow4 hbk | exact ((hR3.alloc _).alloc _).kept hgrow4 hbk
           · first | exact (hgw3.trans (World.grownBy_alloc w3 _ _)).andThen hgrow4 (fun i e => .inl (hown.lt i e).1) | exact ((hgw3.trans (World.grownBy_alloc w3 _ _)).trans (World.grownBy_alloc _ _ _)).andThen hgrow4 (fun i e => .inl (hown.lt i e).1))
        | (simp [intOf]; omega)
    · have hconv := conv_own hown
      have hl : zs.length = k := by have := hown.1; simpa using this
      have HL := Lib.hid hl
      clear hl
      go_wp2
      go_ret
      exact ⟨strOfNums zs, p + 1 + 2 * k, rfl, by rw [strOfNums_size, HL.out]; omega, by omega, hRk, hgk⟩

end Go.Proofs.YtliadobopideaaaGreatDoor

namespace Go.Proofs.YtliadobopideaaaGreatDoor
open Go.ChangeShapes Go.WideShapes Go.ChangeAt Go.RowKit

theorem own : ownKnob Tryz.prog.godebug = none := by kernel_rfl
theorem laidOut : laidOutB Tryz.prog = true := by kernel_rfl

/-- A SLICE OF BYTES THAT CAME IN: it is nil; or it leads to a row of 'cap' cells, the bytes 'zs' (the first 'len' are its elements, the rest its spare room). -/
def IsBytes (w : World) (a : Option Addr) (len cap : Nat) (zs : List Int) : Prop :=
  (a = none ∧ len = 0 ∧ cap = 0 ∧ zs = []) ∨
  ∃ x, a = some x ∧ len ≤ cap ∧ cap ≤ maxLen ∧ zs.length = cap ∧ (∀ i, i < zs.length → w.cell? (x.add i) = some (.int .u8 (zs.getD i 0))) ∧ ∀ n ∈ zs, (Lit.int .u8 n).wf = true

end Go.Proofs.YtliadobopideaaaGreatDoor

namespace Go.Proofs.YtliadobopideaaaGreatDoor
open Go.ChangeShapes Go.WideShapes Go.ChangeAt Go.RowKit

theorem IsBytes.opened {w : World} {a : Option Addr} {len cap : Nat} {z : List Int} (h : IsBytes w a len cap z) :
    len ≤ cap ∧ cap ≤ maxLen ∧ ∃ zs : Nat → Int, (∀ i, 0 ≤ zs i ∧ zs i ≤ 255) ∧ (len = 0 ∨ ∃ b off, a = some ⟨b, off, none⟩ ∧ b < w.heap.size ∧ ∀ i, i < len → w.cell? ⟨b, off + i, none⟩ = some (.int .u8 (zs i))) := by
  rcases h with ⟨rfl, rfl, rfl, rfl⟩ | ⟨x, rfl, hl, hm, hz, hc, hw⟩
  · exact ⟨by omega, by simp [maxLen], fun _ => 0, fun _ => by simp, .inl rfl⟩
  · refine ⟨hl, hm, fun i => z[i]?.getD 0, fun i => range_u8 hw i, ?_⟩
    by_cases h0 : len = 0
    · exact .inl h0
    · obtain ⟨b, off, rfl, hc'⟩ := ints_at hc (by omega)
      refine .inr ⟨b, off, rfl, World.block_lt_of_cell? w ⟨b, off + 0, none⟩ (hc' 0 (by omega)), fun i hi => ?_⟩
      have := hc' i (by omega)
      simpa [List.getD] using this

theorem IsBytes.below {w w' : World} {a : Option Addr} {len cap : Nat} {z : List Int} (h : IsBytes w a len cap z) (hB : Below w.heap.size w w') : IsBytes w' a len cap z := by
  rcases h with h | ⟨x, rfl, hl, hm, hz, hc, hw⟩
  · exact .inl h
  · refine .inr ⟨x, rfl, hl, hm, hz, fun i hi => ?_, hw⟩
    have := hc i hi
    exact (hB.cell (World.block_lt_of_cell? w _ this)).trans this

/-- WHAT l6Open ANSWERS: a reader in a new block. -/
def Opened (w : World) (e : Ending) (w' : World) : Prop :=
  ∃ B, e = .returned (.pointer (some ⟨B, 0, none⟩)) ∧ Rd w.heap.size B 0 w' ∧ Below w.heap.size w w'

theorem Rd.new {w : World} {a : Option Addr} {len cap : Nat} {zs : Nat → Int} (hlm : len ≤ 2000) (hz : ∀ i, 0 ≤ zs i ∧ zs i ≤ 255)
    (hc : len = 0 ∨ ∃ b off, a = some ⟨b, off, none⟩ ∧ b < w.heap.size ∧ ∀ i, i < len → w.cell? ⟨b, off + i, none⟩ = some (.int .u8 (zs i))) :
    Rd w.heap.size w.heap.size 0 (w.alloc (.cells #[.slice a len cap, .int .i64 0] 105)) := by
  refine ⟨Nat.le_refl _, a, len, cap, zs, heap_alloc_new w _, hlm, hz, ?_⟩
  rcases hc with h | ⟨b, off, rfl, hb, hc⟩
  · exact .inl h
  · exact .inr ⟨b, off, rfl, hb, fun i hi => (World.cell?_of_block (Below.heap_alloc _ _ _ hb)).trans (hc i hi)⟩

set_option maxHeartbeats 1000000 in
theorem l6Open_any (a : Option Addr) (len cap : Nat) (z : List Int) (w : World) (h : IsBytes w a len cap z) :
    Calls Tryz.prog 37 #[.slice a len cap] w (Opened w) := by
  obtain ⟨hl, hm, zs, hz, hc⟩ := h.opened
  clear h
  by_cases h2 : len ≤ 2000
  · have H := Lib.hid (Rd.new (cap := cap) h2 hz hc)
    clear hz hc
    unfold maxLen at hm
    go_enter Tryz.func37, Tryz.ntmps37
    go_wp2
    go_ret
    exact ⟨w.heap.size, rfl, H.out, (Below.refl _ _).alloc (Nat.le_refl _) _⟩
  · have hc2 : 2000 = 0 ∨ ∃ b off, a = some ⟨b, off, none⟩ ∧ b < w.heap.size ∧ ∀ i, i < 2000 → w.cell? ⟨b, off + i, none⟩ = some (.int .u8 (zs i)) := by
      rcases hc with h | ⟨b, off, e, hb, hc⟩
      · omega
      · exact .inr ⟨b, off, e, hb, fun i hi => hc i (by omega)⟩
    have H := Lib.hid (Rd.new (cap := cap) (Nat.le_refl 2000) hz hc2)
    have Ha : ∃ b off, a = some ⟨b, off, none⟩ := by
      rcases hc with h | ⟨b, off, e, _⟩
      · omega
      · exact ⟨b, off, e⟩
    obtain ⟨b, off, rfl⟩ := Ha
    clear hz hc hc2
    unfold maxLen at hm
    go_enter Tryz.func37, Tryz.ntmps37
    go_wp2
    go_ret
    exact ⟨w.heap.size, rfl, H.out, (Below.refl _ _).alloc (Nat.le_refl _) _⟩

/-- A DRAWN TEXT of at most m bytes; nothing old has turned. -/
def Drawn (m : Nat) (w : World) (e : Ending) (w' : World) : Prop := ∃ s : ByteArray, e = .returned (.string s) ∧ s.size ≤ m ∧ Below w.heap.size w w'

theorem Below.ofGrown {n₀ B : Nat} {w w' : World} (hg : w.grownBy w' (some B)) (h1 : n₀ ≤ B) (h2 : n₀ ≤ w.heap.size) : Below n₀ w w' :=
  (Below.refl n₀ w).grown hg h2 (fun k e => by cases e; exact h1)

end Go.Proofs.YtliadobopideaaaGreatDoor

namespace Go.Proofs.YtliadobopideaaaGreatDoor
open Go.RowKit Go.Shelf

/-- WHAT THE ITERATOR HANDS OUT: a place and its byte. -/
abbrev Oct := { x : Nat × Int // x.1 < 140737488355328 ∧ 0 ≤ x.2 ∧ x.2 ≤ 255 }
def octVals (x : Oct) : Array Value := #[.int .i64 (x.1.1 : Int), .int .u8 x.1.2]
def oct (s : ByteArray) (k : Nat) : Oct := if h : k < 140737488355328 then ⟨(k, byteAt s k), h, (byteAt_bd s k).1, (byteAt_bd s k).2⟩ else ⟨(0, 0), by omega, by omega, by omega⟩
theorem oct_1 (s : ByteArray) {k : Nat} (h : k < 140737488355328) : (oct s k).1 = (k, byteAt s k) := by unfold oct; rw [dif_pos h]
def octs (s : ByteArray) (k : Nat) : List Oct := (List.range k).map (oct s)
theorem octs_succ (s : ByteArray) (k : Nat) : octs s (k + 1) = octs s k ++ [oct s k] := by simp [octs, List.range_succ]
theorem octs_length (s : ByteArray) (k : Nat) : (octs s k).length = k := by simp [octs]

/-- WHAT HAS COME, summed. -/
def sumI (l : List Oct) : Int := (l.map fun x => x.1.2 * (65536 + (x.1.1 : Int) + 1)).sum
theorem sumI_snoc (l : List Oct) (x : Oct) : sumI (l ++ [x]) = sumI l + x.1.2 * (65536 + (x.1.1 : Int) + 1) := by simp [sumI]
theorem term_bd (x : Oct) : 0 ≤ x.1.2 * (65536 + (x.1.1 : Int) + 1) ∧ x.1.2 * (65536 + (x.1.1 : Int) + 1) ≤ 36028797018963968 := by
  obtain ⟨⟨k, c⟩, h1, h2, h3⟩ := x
  simp only at h1 h2 h3 ⊢
  have a : 0 ≤ (65536 + (k : Int) + 1) := by omega
  refine ⟨Int.mul_nonneg h2 a, ?_⟩
  calc c * (65536 + (k : Int) + 1) ≤ 255 * (65536 + (k : Int) + 1) := Int.mul_le_mul_of_nonneg_right h3 a
    _ ≤ 36028797018963968 := by omega
theorem sumI_bd (l : List Oct) : 0 ≤ sumI l ∧ sumI l ≤ l.length * 36028797018963968 := by
  induction l with
  | nil => simp [sumI]
  | cons x l ih =>
    have := term_bd x
    have e : sumI (x :: l) = x.1.2 * (65536 + (x.1.1 : Int) + 1) + sumI l := by simp [sumI]
    rw [e]
    simp only [List.length_cons]
    omega

/-- THE SUM OF A TEXT's FIRST k BYTES. -/
def sumTo (s : ByteArray) : Nat → Int
  | 0 => 0
  | k + 1 => sumTo s k + byteAt s k * (65536 + (k : Int) + 1)
theorem sumI_octs (s : ByteArray) (k : Nat) (h : k ≤ 140737488355328) : sumI (octs s k) = sumTo s k := by
  induction k with
  | zero => simp [octs, sumI, sumTo]
  | succ k ih => rw [octs_succ, sumI_snoc, ih (by omega), oct_1 s (by omega)]; rfl
theorem sumTo_bd (s : ByteArray) (k : Nat) (h : k ≤ 9) : 0 ≤ sumTo s k ∧ sumTo s k ≤ k * 36028797018963968 := by
  have := sumI_bd (octs s k)
  rw [octs_length, sumI_octs s k (by omega)] at this
  exact this
/-- **SumOf**, as the document has it: of the first nine bytes. -/
def sumOf (s : ByteArray) : Int := sumTo s (min s.size 9)

end Go.Proofs.YtliadobopideaaaGreatDoor

namespace Go.Proofs.YtliadobopideaaaGreatDoor
open Go.RowKit Go.Shelf
attribute [local go_sem] Oper.semAt_some

set_option maxRecDepth 100000 in
set_option maxHeartbeats 1000000 in
theorem specSum_any (s : ByteArray) (hs : s.size ≤ maxLen) (w : World) :
    Calls Tryz.prog 128 #[.string s] w fun e w' => e = .returned (.int .i64 (sumOf s)) ∧ w = w' := by
  unfold maxLen at hs
  go_enter Tryz.func128, Tryz.ntmps128
  go_wp2
  go_loop [3, 4] (fun n i => ∃ k : Nat, k ≤ s.size ∧ k ≤ 9 ∧ i = .int .i64 k ∧ n = .int .i64 (sumTo s k)) (fun _ i => 9 - (intOf i).toNat)
  case atStart => exact ⟨0, Nat.zero_le _, Nat.zero_le _, rfl, rfl⟩
  case round =>
    obtain ⟨k, hk, hk9, rfl, rfl⟩ := hrel
    have hd := sumTo_bd s k hk9
    have hl9 : (k : Int) * 36028797018963968 ≤ 9 * 36028797018963968 := by omega
    by_cases hlt : k < s.size
    · by_cases h9 : k < 9
      · have HS : Hid (sumTo s (k + 1) = sumTo s k + (s[k].toNat : Int) * (65536 + (k : Int) + 1)) := by rw [← byteAt_lt hlt]; rfl
        have ht := term_bd (oct s k)
        rw [oct_1 s (by omega), byteAt_lt hlt] at ht
        simp only at ht
        have hb8 : (s[k].toNat : Int) < 256 := by have := s[k].toNat_lt; omega
        go_wp2
        go_round
        case rel => exact ⟨k + 1, by omega, by omega, by go_num, by rw [HS.out]⟩
        case measure => simp [intOf]; omega
      · have HS := Lib.hid (show sumOf s = sumTo s k by unfold sumOf; rw [show min s.size 9 = k by omega])
        go_wp2
        go_ret
        exact ⟨ret_int HS.out.symm, rfl⟩
    · have HS := Lib.hid (show sumOf s = sumTo s k by unfold sumOf; rw [show min s.size 9 = k by omega])
      go_wp2
      go_ret
      exact ⟨ret_int HS.out.symm, rfl⟩

end Go.Proofs.YtliadobopideaaaGreatDoor
