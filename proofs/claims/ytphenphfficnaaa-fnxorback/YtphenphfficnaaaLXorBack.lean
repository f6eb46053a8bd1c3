/- 'laws.FnXorBack' returns true at every code: XorOf twice with the same is the text with noughts behind it, of itself noughts, and the order does not matter. Conditions: none. -/
import Derived.Test.YtphenphfficnaaaK
import Derived.Test.YtphenphfficnaaaX2
import Derived.Test.YtphenphfficnaaaM3
import Derived.Test.YtphenphfficnaaaD4
namespace Go.Proofs.Ytphenphfficnaaa
open Go.ChangeShapes Go.WideShapes Go.ChangeAt Go.RowKit
open Go.ChangeMaps (open_string shut_string)
namespace FnXorBack
set_option linter.unusedVariables false

theorem xorTo {s t : ByteArray} (r : ByteArray) (h : xorS s t = r) (hs : s.size ≤ 1000) (ht : t.size ≤ 1000) (w : World) :
    Calls Try.prog 20 #[.string s, .string t] w fun e w' => e = .returned (.string r) ∧ Below w.heap.size w w' := by
  subst h
  exact implXor_any s t (by omega) (by omega) w
theorem xorNone (s t : ByteArray) (h : t.size = 0) (hs : s.size ≤ 1000) (w : World) :
    Calls Try.prog 20 #[.string s, .string t] w fun e w' => e = .returned (.string s) ∧ Below w.heap.size w w' :=
  xorTo s (xorS_empty s t h) hs (by omega) w

theorem below_drewN {n : Nat} {w w' : World} (h : Below n w w') (d : Nat) : Below n w (w'.drewN d) := ⟨h.os, h.tape, h.output, h.size, h.block⟩

set_option maxRecDepth 100000 in
set_option maxHeartbeats 4000000 in
theorem main (a0 : Option Addr) (len0 cap0 : Nat) (z0 : List Int) (w : World) (H0 : Hid (IsBytes w a0 len0 cap0 z0)) (hl0 : len0 ≤ 1048576) :
    Calls Try.prog 5 #[.slice a0 len0 cap0] w fun e w' => e = .returned (.bool true) ∧ Below w.heap.size w w' := by
  go_enter Try.func5, Try.ntmps5
  go_wp2_with fail
  refine (drawXor_any a0 len0 cap0 z0 _ H0.out).mono ?_
  rintro e w1 ⟨a, b, rfl, ha, hb, hB1⟩
  have sx := xorS_size a b
  have sz := xorS_size a a
  obtain ⟨x, hx⟩ : ∃ x, xorS a b = x := ⟨_, rfl⟩
  have sy := xorS_size x b
  have by' := xorS_back a b
  obtain ⟨z, hz⟩ : ∃ z, xorS a a = z := ⟨_, rfl⟩
  have bz := xorS_self a
  rw [hx] at sx by'
  rw [hz] at sz bz
  obtain ⟨y, hy⟩ : ∃ y, xorS x b = y := ⟨_, rfl⟩
  rw [hy] at sy by'
  have hcm : xorS b a = x := by rw [xorS_comm]; exact hx
  have lx : x.size ≤ 1000 := by omega
  have ly : y.size ≤ 1000 := by omega
  have lz : z.size ≤ 1000 := by omega
  have Hx := Lib.hid hx
  have Hy := Lib.hid hy
  have Hz := Lib.hid hz
  have Hc := Lib.hid hcm
  have Hby := Lib.hid by'
  have Hbz := Lib.hid bz
  have Hsx := Lib.hid sx
  have Hsy := Lib.hid sy
  clear hx hy hz hcm by' bz sx sy sz
  go_wp2_with fail
  refine (xorTo x Hx.out (by omega) (by omega) _).mono ?_
  rintro e w3 ⟨rfl, hB3⟩
  go_wp2_with fail
  refine (specXor_any a b (by omega) (by omega) _).mono ?_
  rintro e w4 ⟨he, hB4⟩
  rw [Hx.out] at he
  subst he
  go_wp2_with fail
  refine (xorTo y Hy.out (by omega) (by omega) _).mono ?_
  rintro e w5 ⟨rfl, hB5⟩
  go_wp2_with fail
  refine (xorTo z Hz.out (by omega) (by omega) _).mono ?_
  rintro e w6 ⟨rfl, hB6⟩
  have q1 := hB1.size
  have q3 := hB3.size
  have q4 := hB4.size
  have q5 := hB5.size
  have q6 := hB6.size
  have hB : Below w.heap.size w w6 := hB1.trans ((hB3.mono (by omega)).trans ((hB4.mono (by omega)).trans ((hB5.mono (by omega)).trans (hB6.mono (by omega)))))
  have HB := Lib.hid hB
  clear hB hB1 hB3 hB4 hB5 hB6
  go_wp2_with fail
  go_loopw [8] (fun i wr => ∃ k : Nat, k ≤ y.size ∧ i = .int .i64 (k : Int) ∧ Below w.heap.size w wr) (fun i _ => y.size - (intOf i).toNat)
  case atStart => exact ⟨0, Nat.zero_le _, rfl, HB.out⟩
  case round =>
    obtain ⟨k, hk, rfl, hBr⟩ := hrel
    clear HB
    by_cases hlt : k < y.size
    · have e1 := Hby.out k
      rw [byteAt_lt hlt] at e1
      by_cases hka : k < a.size
      · rw [byteAt_lt hka] at e1
        have hn : ((y[k].toNat : Int) != (a[k].toNat : Int)) = false := by simp [e1]
        have g1 : decide (k < a.size) = true := by simpa using hka
        have g2 : decide (a.size ≤ k) = false := by simp; omega
        clear e1
        go_wp2
        go_quiet (fail)
        go_wp2
        exact ⟨⟨k + 1, by omega, by go_num, below_drewN hBr nq⟩, by simp [intOf]; omega⟩
      · rw [byteAt_ge (s := a) (by omega)] at e1
        have hn : ((y[k].toNat : Int) != 0) = false := by simp [e1]
        have g1 : decide (k < a.size) = false := by simpa using hka
        have g2 : decide (a.size ≤ k) = true := by simp; omega
        clear e1
        go_wp2
        go_quiet (fail)
        go_wp2
        exact ⟨⟨k + 1, by omega, by go_num, below_drewN hBr nq⟩, by simp [intOf]; omega⟩
    · go_wp2_with fail
      go_loopw [9] (fun i w2 => ∃ k : Nat, k ≤ z.size ∧ i = .int .i64 (k : Int) ∧ Below w.heap.size w w2) (fun i _ => z.size - (intOf i).toNat)
      case atStart => exact ⟨0, Nat.zero_le _, rfl, hBr⟩
      case round =>
        obtain ⟨j, hj, rfl, hBz⟩ := hrel
        clear hBr
        by_cases hjz : j < z.size
        · have e1 := Hbz.out j
          rw [byteAt_lt hjz] at e1
          have hn : ((z[j].toNat : Int) != 0) = false := by simp [e1]
          clear e1
          go_wp2
          exact ⟨⟨j + 1, by omega, by go_num, hBz⟩, by simp [intOf]; omega⟩
        · have hmax : max (a.size : Int) (b.size : Int) = (x.size : Int) := by have := Hsx.out; omega
          have hyx : ((y.size : Int) == (x.size : Int)) = true := beq_iff_eq.2 (by have := Hsx.out; have := Hsy.out; omega)
          have hxx : ((x.size : Int) == (x.size : Int)) = true := beq_iff_eq.2 rfl
          go_wp2_with fail
          refine (xorTo x Hc.out (by omega) (by omega) _).mono ?_
          rintro e w8 ⟨rfl, hB8⟩
          go_wp2_with fail
          refine (xorNone a _ rfl (by omega) _).mono ?_
          rintro e w9 ⟨rfl, hB9⟩
          have q7 := hBz.size
          have q8 := hB8.size
          go_wp2
          go_ret
          exact ⟨rfl, hBz.trans ((hB8.mono q7).trans (hB9.mono (by omega)))⟩

set_option maxRecDepth 100000 in
set_option maxHeartbeats 1000000 in
theorem walk (a0 : Option Addr) (len0 cap0 : Nat) (z0 : List Int) (w : World) (w0 : IsBytes w a0 len0 cap0 z0) :
    Calls Try.prog 5 #[.slice a0 len0 cap0] w fun e w' => e = .returned (.bool true) ∧ Below w.heap.size w w' := by
  by_cases hl0 : len0 ≤ 1048576
  · exact main a0 len0 cap0 z0 w (Lib.hid w0) hl0
  · clear w0
    go_enter Try.func5, Try.ntmps5
    go_wp2
    go_ret
    exact ⟨rfl, Below.refl _ _⟩

set_option maxRecDepth 100000 in
theorem lifted (os : Os) (started : os.Started) (H : Type) (enc : TypeId × Value → H) :
    ReturnsInHanded {} Try.checked os 5 .any (Rows.fnXorBackSpec.pre6 enc Try.prog Try.f5 Rows.fnXorBackRow.domain false) (Rows.fnXorBackSpec.post enc Try.prog Try.f5 false true false false) := by
  refine returnsInHanded_of_change (C := Try.checked) own started (by kernel_rfl) Try.func5
    (ChangeSpec.witness6 (enc := enc) (C := Try.checked) false ⟨#[], #[.slice none 0 0], []⟩ 8 (by kernel_rfl) (by kernel_rfl) (by kernel_rfl) (by kernel_rfl)) ?_
  intro W base args ds gs before hval0 hW hcnd _
  have hval : ∀ (j : Nat) t v, Try.f5.params[j]? = some t → args[j]? = some v → Value.okWide Try.prog W .any base t v := hval0
  have hW' := hW
  obtain ⟨p, q, hA0, hV, rfl, hfz, hnd⟩ := hW
  have hA : DataW.TrodAll enc Try.prog W 0 (fun _ => true) true Try.f5.params.toList args.toList ds p := hA0
  rw [Try.params5] at hA hval
  obtain ⟨v0, vs0, d0, ds0, p0, q0, hargs, rfl, rfl, h0, r0⟩ := trodAll_cons hA
  obtain ⟨rfl, rfl, rfl⟩ := trodAll_nil r0
  obtain rfl : args = #[v0] := by cases args; simp_all
  obtain ⟨rfl, rfl⟩ := trodVars_none hV
  have k0 := h0
  have lt0 : ∀ x ∈ p0, x.block < W.heap.size := by obtain ⟨m, hm⟩ := k0; exact DataW.trod_lt m _ _ _ hm
  obtain ⟨a0, len0, cap0, rfl⟩ := okWide_slice Try.underlying22 (hval 0 22 v0 rfl rfl)
  obtain ⟨z0, w0⟩ : ∃ zs, IsBytes W a0 len0 cap0 zs := by
    obtain ⟨fuel, hf⟩ := h0
    rcases open_ints Try.underlying22 Try.underlying5 (by kernel_rfl) hf with ⟨hcs, _⟩ | ⟨x, l, c, zs, hcs, _, hl, hm, hz, _, hcell, hwz⟩
    · simp [Value.cells] at hcs
      obtain ⟨rfl, rfl, rfl⟩ := hcs
      exact ⟨[], .inl ⟨rfl, rfl, rfl, rfl⟩⟩
    · simp [Value.cells] at hcs
      obtain ⟨rfl, rfl, rfl⟩ := hcs
      exact ⟨zs, .inr ⟨_, rfl, hl, hm, by simpa using hz, hcell, hwz⟩⟩
  clear hA0 hval0
  refine (walk a0 len0 cap0 z0 W w0).mono fun e W' ⟨he, bel⟩ => ?_
  subst he
  exact ⟨_, rfl, _, _, _, [], _, [], hW', trodAll_mk1 (shut_bool Try.underlying4 _), (trodAll_cons_mk (Below.trod laidOut (by kernel_rfl) (of_decide_eq_true (by kernel_rfl)) k0 bel lt0) trodAll_mk0), rfl, bel.frame _, fun h => by cases h⟩

theorem over : Rows.fnXorBackRow.holds Try.pinned (OpenSpec.ofChange Rows.fnXorBackSpec) :=
  OpenClaim.holds_of_wide 5 Try.f5 rfl rfl rfl rfl rfl rfl rfl ⟨rfl, rfl, rfl, rfl, rfl⟩ rfl rfl rfl rfl rfl (by kernel_rfl) Try.func5 (by kernel_rfl)
    (of_decide_eq_true (by kernel_rfl)) (by unfold Func.isWrapper; first | (rw [if_pos (by decide +kernel)]; kernel_rfl) | (rw [if_neg (by decide +kernel)]; exact ⟨rfl, rfl⟩))
    (fun os started H enc _ => lifted os started H enc)

end FnXorBack

theorem FnXorBack_holds : Rows.FnXorBackSaid := FnXorBack.over

end Go.Proofs.Ytphenphfficnaaa
