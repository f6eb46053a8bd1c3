/- 'laws.FnParityNone' returns true at every code: all columns with their parity are noughts; of one column the parity is that. Conditions: none. -/
import Derived.Test.YtphenphfficnaaaK
import Derived.Test.YtphenphfficnaaaD6
import Derived.Test.YtphenphfficnaaaM8
import Derived.Deep.RegionHeld3
namespace Go.Proofs.Ytphenphfficnaaa
open Go.ChangeShapes Go.WideShapes Go.ChangeAt Go.RowKit
open Go.ChangeMaps (open_string shut_string)
namespace FnParityNone
set_option linter.unusedVariables false

theorem parityOne {x : ByteArray} {b off cap : Nat} {w : World} (hx : x.size = 3) (hc : w.cell? ⟨b, off, none⟩ = some (.string x)) :
    Calls Try.prog 30 #[.slice (some ⟨b, off, none⟩) 1 cap] w fun e w' => e = .returned (.string x) ∧ Below w.heap.size w w' := by
  have h := implParity_any (some ⟨b, off, none⟩) cap [x] w (.inr ⟨b, off, rfl, fun j hj => by
    obtain rfl : j = 0 := by simp at hj; exact hj
    exact hc⟩)
  have h1 := parity_one x hx
  rw [parRes_yes h1.1, h1.2] at h
  exact h

set_option maxRecDepth 100000 in
set_option maxHeartbeats 600000 in
theorem main (a0 : Option Addr) (len0 cap0 : Nat) (z0 : List Int) (w : World) (H0 : Hid (IsBytes w a0 len0 cap0 z0)) (hl0 : len0 ≤ 1048576) :
    Calls Try.prog 9 #[.slice a0 len0 cap0] w fun e w' => e = .returned (.bool true) ∧ Below w.heap.size w w' := by
  go_enter Try.func9, Try.ntmps9
  go_wp2_with fail
  refine (drawParity_any a0 len0 cap0 z0 _ H0.out).mono ?_
  rintro e w1 ⟨a, cap, xs, rfl, h1, h6, hown, hB1⟩
  obtain ⟨a', cap', hv, hlc, _, hst⟩ := strs_of_owns hown
  cases hv
  have Ha := Lib.hid hst
  have q1 := hB1.size
  clear hown hst
  go_wp2_with fail
  refine (implParity_any a cap xs _ Ha).mono ?_
  rintro e w2 ⟨rfl, hB2⟩
  have Ha2 := Lib.hid (Ha.out.below hB2)
  have q2 := hB2.size
  have HB2 : Hid (Below w.heap.size w w2) := hB1.trans (hB2.mono q1)
  clear hB1 hB2
  go_wp2_with fail
  refine (specParity_any a cap xs _ (by unfold maxLen; omega) Ha2).mono ?_
  rintro e w3 ⟨rfl, hB3⟩
  have Ha3 := Lib.hid (Ha2.out.below hB3)
  have q3 := hB3.size
  have HB3 : Hid (Below w.heap.size w w3) := HB2.out.trans (hB3.mono (by omega))
  clear hB3
  cases hcb : colsB xs
  · rw [parRes_no hcb]
    have HR := Lib.hid (parRes_no hcb)
    clear hcb
    go_wp2_with fail
    refine (specParity_any a cap xs _ (by unfold maxLen; omega) Ha3).mono ?_
    rintro e w4 ⟨rfl, hB4⟩
    rw [HR.out]
    have HB4 : Hid (Below w.heap.size w w4) := HB3.out.trans (hB4.mono (by omega))
    clear hB4
    go_wp2
    go_ret
    exact ⟨rfl, HB4.out⟩
  · have hok := (colsB_iff xs).1 hcb
    have hpp : parRes xs = parOf xs := parRes_yes hcb
    rw [hpp]
    have hps : (parOf xs).size = 3 := parOf_size hok
    have hpe : (parOf xs).toList.isEmpty = false := text_some (by omega)
    have Hz := Lib.hid (fun t ht => parity_none hok t ht)
    have Hok := Lib.hid hok
    have hp3 : (((parOf xs).size : Int) == 3) = true := beq_iff_eq.2 (by omega)
    have hps3 : (parOf xs).size ≤ 3 := by omega
    clear hpp hok hcb hps
    generalize parOf xs = p at *
    obtain ⟨b, off, rfl, hc⟩ := Ha3.out.resolve_left (fun e => by subst e; simp at h1)
    have hbl : b < w3.heap.size := World.block_lt_of_cell? w3 _ (hc 0 (by omega))
    have Hc := Lib.hid hc
    clear hc
    go_wp2_with fail
    go_loopw [5, 6] (fun o i wr => ∃ k : Nat, i = .int .i64 (k : Int) ∧ k ≤ xs.length ∧ o = .string (parTo p xs k) ∧ Below w3.heap.size w3 wr) (fun _ i _ => xs.length - (intOf i).toNat)
    case atStart => exact ⟨0, rfl, by omega, rfl, Below.refl _ _⟩
    case round =>
      obtain ⟨k, rfl, hk, rfl, hB⟩ := hrel
      have hsz := hB.size
      by_cases hlt : k < xs.length
      · have hck := (hB.cell (p := ⟨b, off + k, none⟩) hbl).trans (Hc.out k hlt)
        have hps := (parTo_size p xs Hok.out.2 hps3 k hk).1
        have hx3 := Hok.out.2 k hlt
        have HS : Hid (xorS (parTo p xs k) (xs.getD k ByteArray.empty) = parTo p xs (k + 1)) := rfl
        generalize xs.getD k ByteArray.empty = x at hck hx3 HS
        generalize parTo p xs k = o at hps HS ⊢
        go_wp2_with fail
        refine (implXor_any o x (by omega) (by omega) _).mono ?_
        rintro e w5 ⟨rfl, hB5⟩
        rw [HS.out]
        go_wp2
        exact ⟨⟨k + 1, by go_num, by omega, rfl, hB.trans (hB5.mono hsz)⟩, by simp [intOf]; omega⟩
      · obtain rfl : k = xs.length := by omega
        rw [Hz.out ⟨#[0, 0, 0]⟩ rfl]
        have hc0 := (hB.cell (p := ⟨b, off + 0, none⟩) hbl).trans (Hc.out 0 (by omega))
        have hx3 := Hok.out.2 0 (by omega)
        rw [Nat.add_zero] at hc0
        generalize xs.getD 0 ByteArray.empty = x at hc0 hx3
        have Hx3 := Lib.hid hx3
        have i1 : (0 : Int) < (xs.length : Int) := by omega
        have i2 : 0 < xs.length := by omega
        have i3 : (1 : Int) ≤ (cap : Int) := by omega
        have i4 : 1 ≤ cap := by omega
        have i5 : ¬ cap < 1 := by omega
        have i6 : cap ≠ 0 := by omega
        have i7 : 0 < cap := by omega
        clear hx3
        have hbr : b < wr.heap.size := by omega
        have hqd : w.heap.size ≤ wr.drew.heap.size := by show w.heap.size ≤ wr.heap.size; omega
        have HBd : Hid (Below w.heap.size w wr.drew) := (HB3.out.trans (hB.mono (by omega))).drew
        have Hqd := Lib.hid hqd
        clear hqd
        go_wp2_with fail
        go_region_held3 (fun w' => w'.cell? ⟨b, off, none⟩ = some (.string x)) (first | go_keep | exact hc9)
          (first | (go_at_call 30; refine (parityOne Hx3.out ?_).mono ?_; exact hc0; rintro e w9 ⟨rfl, hB9⟩; have hc9 := (hB9.cell (p := ⟨b, off, none⟩) hbr).trans hc0; have HB9 : Hid (Below w.heap.size w w9) := HBd.out.trans (hB9.mono Hqd.out); clear hB9))
        all_goals
          go_wp2
          go_ret
          exact ⟨rfl, HB9.out⟩

set_option maxRecDepth 100000 in
set_option maxHeartbeats 1000000 in
theorem walk (a0 : Option Addr) (len0 cap0 : Nat) (z0 : List Int) (w : World) (w0 : IsBytes w a0 len0 cap0 z0) :
    Calls Try.prog 9 #[.slice a0 len0 cap0] w fun e w' => e = .returned (.bool true) ∧ Below w.heap.size w w' := by
  by_cases hl0 : len0 ≤ 1048576
  · exact main a0 len0 cap0 z0 w (Lib.hid w0) hl0
  · clear w0
    go_enter Try.func9, Try.ntmps9
    go_wp2
    go_ret
    exact ⟨rfl, Below.refl _ _⟩

set_option maxRecDepth 100000 in
theorem lifted (os : Os) (started : os.Started) (H : Type) (enc : TypeId × Value → H) :
    ReturnsInHanded {} Try.checked os 9 .any (Rows.fnParityNoneSpec.pre6 enc Try.prog Try.f9 Rows.fnParityNoneRow.domain false) (Rows.fnParityNoneSpec.post enc Try.prog Try.f9 false true false false) := by
  refine returnsInHanded_of_change (C := Try.checked) own started (by kernel_rfl) Try.func9
    (ChangeSpec.witness6 (enc := enc) (C := Try.checked) false ⟨#[], #[.slice none 0 0], []⟩ 8 (by kernel_rfl) (by kernel_rfl) (by kernel_rfl) (by kernel_rfl)) ?_
  intro W base args ds gs before hval0 hW hcnd _
  have hval : ∀ (j : Nat) t v, Try.f9.params[j]? = some t → args[j]? = some v → Value.okWide Try.prog W .any base t v := hval0
  have hW' := hW
  obtain ⟨p, q, hA0, hV, rfl, hfz, hnd⟩ := hW
  have hA : DataW.TrodAll enc Try.prog W 0 (fun _ => true) true Try.f9.params.toList args.toList ds p := hA0
  rw [Try.params9] at hA hval
  obtain ⟨v0, vs0, d0, ds0, p0, q0, hargs, rfl, rfl, h0, r0⟩ := trodAll_cons hA
  obtain ⟨rfl, rfl, rfl⟩ := trodAll_nil r0
  obtain rfl : args = #[v0] := by cases args; simp_all
  obtain ⟨rfl, rfl⟩ := trodVars_none hV
  have k0 := h0
  have lt0 : ∀ x ∈ p0, x.block < W.heap.size := by obtain ⟨m, hm⟩ := k0; exact DataW.trod_lt m _ _ _ hm
  obtain ⟨a0, len0, cap0, rfl⟩ := okWide_slice Try.underlying22 (hval 0 22 v0 rfl rfl)
  obtain ⟨z0, w0⟩ : ∃ zs, IsBytes W a0 len0 cap0 zs := by
    obtain ⟨fuel, hf⟩ := h0
    rcases open_ints Try.underlying22 Try.underlying5 (by kernel_rfl) hf with ⟨hcs, _⟩ | ⟨x, l, c, zs, hcs, _, hl, hm, hz, _, hcell, hwz⟩
    · simp [Value.cells] at hcs
      obtain ⟨rfl, rfl, rfl⟩ := hcs
      exact ⟨[], .inl ⟨rfl, rfl, rfl, rfl⟩⟩
    · simp [Value.cells] at hcs
      obtain ⟨rfl, rfl, rfl⟩ := hcs
      exact ⟨zs, .inr ⟨_, rfl, hl, hm, by simpa using hz, hcell, hwz⟩⟩
  clear hA0 hval0
  refine (walk a0 len0 cap0 z0 W w0).mono fun e W' ⟨he, bel⟩ => ?_
  subst he
  exact ⟨_, rfl, _, _, _, [], _, [], hW', trodAll_mk1 (shut_bool Try.underlying4 _), (trodAll_cons_mk (Below.trod laidOut (by kernel_rfl) (of_decide_eq_true (by kernel_rfl)) k0 bel lt0) trodAll_mk0), rfl, bel.frame _, fun h => by cases h⟩

theorem over : Rows.fnParityNoneRow.holds Try.pinned (OpenSpec.ofChange Rows.fnParityNoneSpec) :=
  OpenClaim.holds_of_wide 9 Try.f9 rfl rfl rfl rfl rfl rfl rfl ⟨rfl, rfl, rfl, rfl, rfl⟩ rfl rfl rfl rfl rfl (by kernel_rfl) Try.func9 (by kernel_rfl)
    (of_decide_eq_true (by kernel_rfl)) (by unfold Func.isWrapper; first | (rw [if_pos (by decide +kernel)]; kernel_rfl) | (rw [if_neg (by decide +kernel)]; exact ⟨rfl, rfl⟩))
    (fun os started H enc _ => lifted os started H enc)

end FnParityNone

theorem FnParityNone_holds : Rows.FnParityNoneSaid := FnParityNone.over

end Go.Proofs.Ytphenphfficnaaa
