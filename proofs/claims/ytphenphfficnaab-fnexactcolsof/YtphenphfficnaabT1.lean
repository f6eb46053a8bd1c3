/- ColsOf of the program: a text is split into columns. Conditions: none but the row's own bound on sizes. -/
import Derived.Test.YtphenphfficnaabM4
import Derived.Test.YtphenphfficnaabX2
import Derived.Deep.AppendLies
namespace Go.Proofs.Ytphenphfficnaab
open Go.RowKit Go.Shelf

theorem repeatNul_any (s : ByteArray) (hs : s = ⟨#[0]⟩) (w : World) :
    Calls Try.prog 41 #[.string s, .int .i64 3] w fun e w' => e = .returned (.string nul3) ∧ Below w.heap.size w w' := by
  subst hs
  exact Try.strings_Repeat ⟨#[0]⟩ 3 w (by omega) (by decide)

set_option maxHeartbeats 400000 in
theorem filled_any (p : ByteArray) (hp : p.size ≤ 1000) (w : World) :
    Calls Try.prog 27 #[.string p] w fun e w' => e = .returned (.string (xorS p nul3)) ∧ Below w.heap.size w w' := by
  go_enter Try.func27, Try.ntmps27
  go_wp2_with fail
  refine (repeatNul_any _ rfl _).mono ?_
  rintro e w1 ⟨rfl, hB1⟩
  go_wp2_with fail
  refine (implXor_any p nul3 (by omega) (by rw [nul3_size]; omega) _).mono ?_
  rintro e w2 ⟨rfl, hB2⟩
  go_wp2
  go_ret
  exact ⟨rfl, hB1.trans (hB2.mono hB1.size)⟩

theorem info9 : (Try.prog.info? 9).map (fun i => (i.zero, i.size, i.bytes)) = some (some (.string ByteArray.empty), 1, 16) := by kernel_rfl

theorem owns_below {w w' : World} {base : Nat} {e : TypeId} {size : Nat} {v : Value} {n : Nat} {xs : List Value} (h : w.ownsRow base e size v n xs) (hB : Below w.heap.size w w') : w'.ownsRow base e size v n xs :=
  h.kept (row := none) ⟨hB.os, hB.tape, hB.output, hB.size, fun k hk _ => hB.block k hk⟩ (by cases v.ownBlock <;> simp)

/-- A NEW SLICE OF TEXTS. -/
def NewStrs (xs : List ByteArray) (w : World) (e : Ending) (w' : World) : Prop :=
  ∃ v, e = .returned v ∧ w'.ownsRow w.heap.size 9 1 v xs.length (xs.map Value.string) ∧ Below w.heap.size w w'

set_option maxRecDepth 100000 in
set_option maxHeartbeats 4000000 in
theorem implCols_any (s : ByteArray) (hs : s.size ≤ maxLen) (w : World) :
    Calls Try.prog 11 #[.string s] w (NewStrs (colsOf s) w) := by
  unfold maxLen at hs
  obtain ⟨i0, hi0, hz0, hz1, hz2⟩ := info_parts info9
  by_cases h9 : s.size ≤ 9
  · have HE := Lib.hid (show colsOf s = colsTo s ((s.size + 2) / 3) by unfold colsOf; rw [if_pos h9])
    go_enter Try.func11, Try.ntmps11
    go_wp2_with fail
    go_loopw [3, 4] (fun o i wr => ∃ k f : Nat, f = 3 * k ∧ f ≤ s.size + 2 ∧ i = .int .i64 (f : Int) ∧ wr.ownsRow w.heap.size 9 1 o k ((colsTo s k).map Value.string) ∧ Below w.heap.size w wr)
      (fun _ i _ => s.size + 3 - (intOf i).toNat)
    case atStart => exact ⟨0, 0, rfl, by omega, rfl, World.ownsRow_nil _ _ _ _, Below.refl _ _⟩
    case round =>
      obtain ⟨k, f, hf, hk, rfl, hown, hB⟩ := hrel
      have Hf := Lib.hid hf
      have hk4 : k ≤ 4 := by omega
      clear hf
      by_cases hlt : f < s.size
      · obtain ⟨b, hb⟩ : ∃ b : Nat, b = min (f + 3) s.size := ⟨_, rfl⟩
        have hmn : min ((f : Int) + 3) (s.size : Int) = (b : Int) := by omega
        have hb1 : f ≤ b := by omega
        have hb2 : b ≤ s.size := by omega
        have hps : (s.extract f b).size ≤ 1000 := by simp [ByteArray.size_extract]; omega
        have HX : Hid (xorS (s.extract f b) nul3 = colOf s k) := by have := Hf.out; subst this; exact filled_eq s k b hb
        have HS := Lib.hid (colsTo_succ s k)
        have hsz : w.heap.size ≤ wr.heap.size := hB.size
        have Hlk : Hid (∀ i, u3.ownBlock = some i → w.heap.size ≤ i) := fun i e => (hown.lt i e).1
        clear hb
        go_wp2_with fail
        refine (filled_any (s.extract f b) hps _).mono ?_
        rintro e w1 ⟨rfl, hB1⟩
        rw [HX.out]
        have hown1 := owns_below hown hB1
        have q1 := hB1.size
        go_wp2_with (at_builtin; refine wpList_append_lies _ rfl _ _ 24 rfl w.heap.size 9 i0 _ 1 16 Try.underlying24 hi0 hz0 hz1 hz2 rfl (by omega) _ k ((colsTo s k).map Value.string) rfl (hown1.alloc _) ⟨w1.heap.size, 0, none⟩ 1 1 [.string (colOf s k)] rfl rfl (news_new _ _ 9 _ rfl) (by simp [Value.oneCell']) (by omega) (by simp [maxLen]; omega) (by omega) (by simp; omega) _ rfl ?_; intro g cap w4 hown4 hgrow4 hat4 hlt4)
        go_roundw
        case rel => exact ⟨k + 1, f + 3, by have := Hf.out; omega, by omega, by go_num, by rw [HS.out, List.map_append]; exact hown4, ((hB.trans (hB1.mono hsz)).alloc (by omega) _).grown hgrow4 (by simp; omega) Hlk.out⟩
        case measure => simp [intOf]; omega
      · have HL : Hid (colsOf s = colsTo s k) := by
          rw [HE.out]
          have := Hf.out
          rw [show (s.size + 2) / 3 = k by omega]; exact rfl
        go_wp2
        go_ret
        exact ⟨_, rfl, by rw [HL.out, colsTo_length]; exact hown, hB⟩
  · have HE := Lib.hid (show colsOf s = [] by unfold colsOf; rw [if_neg h9])
    go_enter Try.func11, Try.ntmps11
    go_wp2
    go_ret
    exact ⟨_, rfl, by rw [HE.out]; exact World.ownsRow_nil _ _ _ _, Below.refl _ _⟩

end Go.Proofs.Ytphenphfficnaab
