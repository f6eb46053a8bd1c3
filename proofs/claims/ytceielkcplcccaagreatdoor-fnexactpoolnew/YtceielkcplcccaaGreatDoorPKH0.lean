/- DiskNew of the program and of the specification. Conditions: none. A new disk with a root in its first ring. Conditions: none. The sum of a text as plain data. Conditions: none. -/
import Derived.Test.YtceielkcplcccaaGreatDoorPKG6
import Derived.Test.YtceielkcplcccaaGreatDoorPKG2
import Derived.Deep.RegionWith
import Derived.Test.YtceielkcplcccaaGreatDoorPKPN1
import Derived.Test.YtceielkcplcccaaGreatDoorPKTE
namespace Go.Proofs.YtceielkcplcccaaGreatDoor
open Go.RowKit Go.Sort

def twelve : List ByteArray := List.replicate 12 ByteArray.empty
def two2 : List ByteArray := List.replicate 2 ByteArray.empty
def twelveB : List Bool := List.replicate 12 false
/-- **DiskNew**, as the document has it. -/
noncomputable def diskNew (st : Int) : DiskD := if tt (StateOk st) then ⟨st, twelve, two2, twelveB, []⟩ else disk0
theorem diskNew_yes {st : Int} (h : StateOk st) : diskNew st = ⟨st, twelve, two2, twelveB, []⟩ := by unfold diskNew; rw [tt_true h]; rfl
theorem diskNew_no {st : Int} (h : ¬StateOk st) : diskNew st = disk0 := by unfold diskNew; rw [tt_false h]; rfl

theorem mk12 (w : World) : (Instr.makeSlice 33 (.int .i64 12) (.int .i64 12)).run Tryz.prog w = .ok (.slice (some ⟨w.heap.size, 0, none⟩) 12 12) (w.alloc (.cells (txC twelve).toArray 9)) := by kernel_rfl
theorem mk2 (w : World) : (Instr.makeSlice 33 (.int .i64 2) (.int .i64 2)).run Tryz.prog w = .ok (.slice (some ⟨w.heap.size, 0, none⟩) 2 2) (w.alloc (.cells (txC two2).toArray 9)) := by kernel_rfl
theorem mk12b (w : World) : (Instr.makeSlice 34 (.int .i64 12) (.int .i64 12)).run Tryz.prog w = .ok (.slice (some ⟨w.heap.size, 0, none⟩) 12 12) (w.alloc (.cells (boC twelveB).toArray 4)) := by kernel_rfl

theorem own_of_blk {w : World} {base g n K : Nat} {cs : Array Value} {t : TypeId} (h : Blk w g cs t) (hb : base ≤ g) (hs : cs.size = n * K) (hm : n ≤ maxLen) : w.ownsRow base t K (.slice (some ⟨g, 0, none⟩) n n) n cs.toList :=
  ⟨by rw [Array.length_toList]; exact hs, .inr ⟨g, n, cs, rfl, hb, h, Nat.le_refl _, hm, hs, List.take_of_length_le (by rw [Array.length_toList, hs]; exact Nat.le_refl _)⟩⟩

theorem blk4 (w : World) (o : Obj) (A B C : Array Value) (tA tB tC : TypeId) :
    Blk ((((w.alloc o).alloc (.cells A tA)).alloc (.cells B tB)).alloc (.cells C tC)).drew (w.heap.size + 1) A tA ∧ Blk ((((w.alloc o).alloc (.cells A tA)).alloc (.cells B tB)).alloc (.cells C tC)).drew (w.heap.size + 1 + 1) B tB ∧ Blk ((((w.alloc o).alloc (.cells A tA)).alloc (.cells B tB)).alloc (.cells C tC)).drew (w.heap.size + 1 + 1 + 1) C tC := by
  have h1 := Blk.new (w.alloc o) A tA
  have h2 := Blk.new ((w.alloc o).alloc (.cells A tA)) B tB
  have h3 := Blk.new (((w.alloc o).alloc (.cells A tA)).alloc (.cells B tB)) C tC
  have g1 := h1.below ((Below.refl _ _).alloc (Nat.le_refl _) (.cells B tB)) h1.lt
  have g1 := g1.below ((Below.refl _ _).alloc (Nat.le_refl _) (.cells C tC)) g1.lt
  have g1 := g1.below (Below.refl _ _).drew g1.lt
  have g2 := h2.below ((Below.refl _ _).alloc (Nat.le_refl _) (.cells C tC)) h2.lt
  have g2 := g2.below (Below.refl _ _).drew g2.lt
  have g3 := h3.below (Below.refl _ _).drew h3.lt
  simp only [World.size_alloc] at g1 g2 g3
  exact ⟨g1, g2, g3⟩
theorem own_new {W : World} {base b1 b2 b3 : Nat} {A1 A2 A3 : Array Value} {st : Int} (e1 : (txC twelve).toArray = A1) (e2 : (txC two2).toArray = A2) (e3 : (boC twelveB).toArray = A3) (h1 : Blk W b1 A1 9) (h2 : Blk W b2 A2 9) (h3 : Blk W b3 A3 4)
    (k1 : base ≤ b1) (k2 : base ≤ b2) (k3 : base ≤ b3) (hne : b1 ≠ b2) :
    OwnDisk W base (.agg #[.int .i64 st, .slice (some ⟨b1, 0, none⟩) 12 12, .slice (some ⟨b2, 0, none⟩) 2 2, .slice (some ⟨b3, 0, none⟩) 12 12, .slice none 0 0]) ⟨st, twelve, two2, twelveB, []⟩ := by
  subst e1 e2 e3
  have o1 := own_of_blk (n := 12) (K := 1) h1 k1 (by simp [txC, twelve]) (by simp [maxLen])
  have o2 := own_of_blk (n := 2) (K := 1) h2 k2 (by simp [txC, two2]) (by simp [maxLen])
  have o3 := own_of_blk (n := 12) (K := 1) h3 k3 (by simp [boC, twelveB]) (by simp [maxLen])
  refine ⟨_, _, _, _, rfl, o1, o2, o3, ⟨rfl, .inl ⟨rfl, rfl⟩⟩, fun i h k => hne ?_⟩
  simp only [Value.ownBlock, Option.some.injEq] at h k
  omega

set_option maxRecDepth 100000 in
set_option maxHeartbeats 2000000 in
theorem implNew_any (st : Int) (w : World) : Calls Tryz.prog 14 #[.int .i64 st] w (NewDisk (diskNew st) w) := by
  have S1 := Lib.hid (fun W => isState_any st W)
  by_cases h : StateOk st
  · rw [tt_true h] at S1
    have HN := Lib.hid (diskNew_yes h)
    clear h
    have hm1 := mk12
    have hm2 := mk2
    have hm3 := mk12b
    have H1 : Hid ((txC twelve).toArray = (txC twelve).toArray) := rfl
    have H2 : Hid ((txC two2).toArray = (txC two2).toArray) := rfl
    have H3 : Hid ((boC twelveB).toArray = (boC twelveB).toArray) := rfl
    generalize h1 : (txC twelve).toArray = A1 at hm1
    generalize h2 : (txC two2).toArray = A2 at hm2
    generalize h3 : (boC twelveB).toArray = A3 at hm3
    replace H1 := Lib.hid h1
    replace H2 := Lib.hid h2
    replace H3 := Lib.hid h3
    clear h1 h2 h3
    go_enter Tryz.func14, Tryz.ntmps14
    go_wp2_with fail
    refine (S1.out _).mono ?_
    rintro e w1 ⟨rfl, rfl⟩
    go_wp2_with fail
    go_region
    all_goals
      go_wp2
      refine bodyPost_ret (by simp [results, Tryz.results14, go_sem]; rfl) rfl ⟨_, rfl, ?_, ?_⟩
      · rw [HN.out]
        refine own_new H1.out H2.out H3.out ?_ ?_ ?_ (by omega) (by omega) (by omega) (by omega)
        all_goals first | with_reducible exact (blk4 _ _ _ _ _ _ _ _).1 | with_reducible exact (blk4 _ _ _ _ _ _ _ _).2.1 | with_reducible exact (blk4 _ _ _ _ _ _ _ _).2.2
      · refine (((((Below.refl _ w).alloc ?_ _).alloc ?_ _).alloc ?_ _).alloc ?_ _).drew
        all_goals first | exact Nat.le_refl _ | (simp; done) | (simp; omega)
  · rw [tt_false h] at S1
    have HN := Lib.hid (diskNew_no h)
    clear h
    go_enter Tryz.func14, Tryz.ntmps14
    go_wp2_with fail
    refine (S1.out _).mono ?_
    rintro e w1 ⟨rfl, rfl⟩
    go_wp2
    refine bodyPost_ret (v := .agg #[.int .i64 0, .slice none 0 0, .slice none 0 0, .slice none 0 0, .slice none 0 0]) (by simp [results, Tryz.results14, go_sem]) rfl ⟨_, rfl, ?_, ?_⟩
    · rw [HN.out]
      exact ⟨_, _, _, _, rfl, ⟨rfl, .inl ⟨rfl, rfl⟩⟩, ⟨rfl, .inl ⟨rfl, rfl⟩⟩, ⟨rfl, .inl ⟨rfl, rfl⟩⟩, ⟨rfl, .inl ⟨rfl, rfl⟩⟩, fun i h => by cases h⟩
    · exact (Below.refl _ w).alloc (Nat.le_refl _) _

end Go.Proofs.YtceielkcplcccaaGreatDoor

namespace Go.Proofs.YtceielkcplcccaaGreatDoor
open Go.RowKit Go.Sort

/-- A NEW DISK with the text of a root in its first ring. -/
def ringD (T : ByteArray) : DiskD := ⟨0, twelve, two2.set 0 T, twelveB, []⟩
theorem diskNew_0 : diskNew 0 = ⟨0, twelve, two2, twelveB, []⟩ := diskNew_yes (by unfold StateOk; omega)
theorem ringD_few (T : ByteArray) (n : Nat) : ∀ j, j < (List.replicate n (ringD T)).length → mkN ((List.replicate n (ringD T)).getD j disk0) ≤ 1000 := by
  intro j hj
  rw [List.length_replicate] at hj
  rw [List.getD, List.getElem?_replicate, if_pos hj]
  simp [mkN, ringD, twelve, two2, twelveB]
theorem own_len {w : World} {base g n cap : Nat} {e : TypeId} {xs : List Value} {K m : Nat} (h : w.ownsRow base e K (.slice (some ⟨g, 0, none⟩) n cap) m xs) : n = m := by
  rcases h.2 with ⟨hv, _⟩ | ⟨_, _, _, hv, _⟩
  · cases hv
  · cases hv; rfl


end Go.Proofs.YtceielkcplcccaaGreatDoor

namespace Go.Proofs.YtceielkcplcccaaGreatDoor
open Go.RowKit Go.Shelf

/-- WHAT THE ITERATOR HANDS OUT: a place and its byte. -/
abbrev Oct := { x : Nat × Int // x.1 < 140737488355328 ∧ 0 ≤ x.2 ∧ x.2 ≤ 255 }
def octVals (x : Oct) : Array Value := #[.int .i64 (x.1.1 : Int), .int .u8 x.1.2]
def oct (s : ByteArray) (k : Nat) : Oct := if h : k < 140737488355328 then ⟨(k, byteAt s k), h, (byteAt_bd s k).1, (byteAt_bd s k).2⟩ else ⟨(0, 0), by omega, by omega, by omega⟩
theorem oct_1 (s : ByteArray) {k : Nat} (h : k < 140737488355328) : (oct s k).1 = (k, byteAt s k) := by unfold oct; rw [dif_pos h]
def octs (s : ByteArray) (k : Nat) : List Oct := (List.range k).map (oct s)
theorem octs_succ (s : ByteArray) (k : Nat) : octs s (k + 1) = octs s k ++ [oct s k] := by simp [octs, List.range_succ]
theorem octs_length (s : ByteArray) (k : Nat) : (octs s k).length = k := by simp [octs]

/-- WHAT HAS COME, summed. -/
def sumI (l : List Oct) : Int := (l.map fun x => x.1.2 * (65536 + (x.1.1 : Int) + 1)).sum
theorem sumI_snoc (l : List Oct) (x : Oct) : sumI (l ++ [x]) = sumI l + x.1.2 * (65536 + (x.1.1 : Int) + 1) := by simp [sumI]
theorem term_bd (x : Oct) : 0 ≤ x.1.2 * (65536 + (x.1.1 : Int) + 1) ∧ x.1.2 * (65536 + (x.1.1 : Int) + 1) ≤ 36028797018963968 := by
  obtain ⟨⟨k, c⟩, h1, h2, h3⟩ := x
  simp only at h1 h2 h3 ⊢
  have a : 0 ≤ (65536 + (k : Int) + 1) := by omega
  refine ⟨Int.mul_nonneg h2 a, ?_⟩
  calc c * (65536 + (k : Int) + 1) ≤ 255 * (65536 + (k : Int) + 1) := Int.mul_le_mul_of_nonneg_right h3 a
    _ ≤ 36028797018963968 := by omega
theorem sumI_bd (l : List Oct) : 0 ≤ sumI l ∧ sumI l ≤ l.length * 36028797018963968 := by
  induction l with
  | nil => simp [sumI]
  | cons x l ih =>
    have := term_bd x
    have e : sumI (x :: l) = x.1.2 * (65536 + (x.1.1 : Int) + 1) + sumI l := by simp [sumI]
    rw [e]
    simp only [List.length_cons]
    omega

/-- THE SUM OF A TEXT's FIRST k BYTES. -/
def sumTo (s : ByteArray) : Nat → Int
  | 0 => 0
  | k + 1 => sumTo s k + byteAt s k * (65536 + (k : Int) + 1)
theorem sumI_octs (s : ByteArray) (k : Nat) (h : k ≤ 140737488355328) : sumI (octs s k) = sumTo s k := by
  induction k with
  | zero => simp [octs, sumI, sumTo]
  | succ k ih => rw [octs_succ, sumI_snoc, ih (by omega), oct_1 s (by omega)]; rfl
theorem sumTo_bd (s : ByteArray) (k : Nat) (h : k ≤ 9) : 0 ≤ sumTo s k ∧ sumTo s k ≤ k * 36028797018963968 := by
  have := sumI_bd (octs s k)
  rw [octs_length, sumI_octs s k (by omega)] at this
  exact this
/-- **SumOf**, as the document has it: of the first nine bytes. -/
def sumOf (s : ByteArray) : Int := sumTo s (min s.size 9)

end Go.Proofs.YtceielkcplcccaaGreatDoor
