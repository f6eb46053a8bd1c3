/- Two models of the same volumes are told to be the same (laws.lpaModel). Conditions: they are small. -/
import Derived.Test.YtmmckpjapnkepaaI0
import Derived.Lib.QuietBelow
import Derived.Deep.QuietTactic
import Derived.BigQuiet
namespace Go.Proofs.Ytmmckpjapnkepaa
open Go.RowKit Go.Sort Go.Lib

set_option maxRecDepth 100000 in
set_option maxHeartbeats 1000000 in
theorem lpaTx_same (a b : Option Addr) (ca cb : Nat) (xs : List ByteArray) (w : World) (hl : xs.length ≤ maxLen) (ha : Hid (TxAt w a xs)) (hb : Hid (TxAt w b xs)) :
    Calls Try.prog 45 #[.slice a xs.length ca, .slice b xs.length cb] w fun e w' => e = .returned (.bool true) ∧ Below w.heap.size w w' := by
  unfold maxLen at hl
  have d0 : ((xs.length : Int) != (xs.length : Int)) = false := by simp
  go_enter Try.func45, Try.ntmps45
  go_wp2_with fail
  go_loopw [5] (fun i wr => ∃ k : Nat, i = .int .i64 (k : Int) ∧ k ≤ xs.length ∧ Below w.heap.size w wr) (fun i _ => xs.length - (intOf i).toNat)
  case atStart => exact ⟨0, rfl, by omega, Below.refl _ _⟩
  case round =>
    obtain ⟨k, rfl, hk, hB⟩ := hrel
    by_cases hlt : k < xs.length
    · obtain ⟨b1, o1, rfl, hc1⟩ := (ha.out.below hB).resolve_left (fun e => by subst e; simp at hlt)
      obtain ⟨b2, o2, rfl, hc2⟩ := (hb.out.below hB).resolve_left (fun e => by subst e; simp at hlt)
      have k1 := hc1 k hlt
      have k2 := hc2 k hlt
      clear hc1 hc2
      generalize xs.getD k ByteArray.empty = x at k1 k2
      have i1 : (k : Int) < (xs.length : Int) := by omega
      have i0 : (0 : Int) ≤ (k : Int) := by omega
      go_wp2
      go_quiet (fail)
      go_wp2
      exact ⟨⟨k + 1, by go_num, by omega, belowN hB nq⟩, by simp [intOf]; omega⟩
    · go_wp2
      go_ret
      exact ⟨rfl, hB⟩

set_option maxRecDepth 100000 in
set_option maxHeartbeats 2000000 in
theorem lpaModel_same (a b : Option Addr) (ca cb : Nat) (ss : List ShD) (w : World) (hl : MdSmall ss) (ha : Hid (ShAt w a ss)) (hb : Hid (ShAt w b ss)) :
    Calls Try.prog 15 #[.agg #[.slice a ss.length ca], .agg #[.slice b ss.length cb]] w fun e w' => e = .returned (.bool true) ∧ Below w.heap.size w w' := by
  obtain ⟨hl, hsm⟩ := hl
  have HS := Lib.hid hsm
  clear hsm
  have hB : Below w.heap.size w ((w.alloc (.cells #[.slice a ss.length ca] 25)).alloc (.cells #[.slice b ss.length cb] 25)) := ((Below.refl _ _).alloc (Nat.le_refl _) _).alloc (by simp) _
  have hK1 : Blk ((w.alloc (.cells #[.slice a ss.length ca] 25)).alloc (.cells #[.slice b ss.length cb] 25)) w.heap.size #[.slice a ss.length ca] 25 := (Blk.new w _ _).below ((Below.refl _ _).alloc (Nat.le_refl _) _) (by simp)
  have hK2 : Blk ((w.alloc (.cells #[.slice a ss.length ca] 25)).alloc (.cells #[.slice b ss.length cb] 25)) (w.heap.size + 1) #[.slice b ss.length cb] 25 := by
    have := Blk.new (w.alloc (.cells #[.slice a ss.length ca] 25)) #[.slice b ss.length cb] 25
    simp only [World.size_alloc] at this
    exact this
  obtain ⟨w0, HW⟩ : ∃ w0, (w.alloc (.cells #[.slice a ss.length ca] 25)).alloc (.cells #[.slice b ss.length cb] 25) = w0 := ⟨_, rfl⟩
  rw [HW] at hB hK1 hK2
  have HB := Lib.hid hB
  have HA := Lib.hid (ha.out.below hB)
  have HBb := Lib.hid (hb.out.below hB)
  have HK1 := Lib.hid hK1
  have HK2 := Lib.hid hK2
  have d0 : ((ss.length : Int) != (ss.length : Int)) = false := by simp
  have y1 : w0.cell? ⟨w.heap.size, 0, none⟩ = some (.slice a ss.length ca) := hK1.cell 0
  have y2 : w0.cell? ⟨w.heap.size + 1, 0, none⟩ = some (.slice b ss.length cb) := hK2.cell 0
  clear hB hK1 hK2
  go_enter Try.func15, Try.ntmps15
  go_wp2_with fail
  clear y1 y2 HW
  go_loopw [5] (fun i wr => ∃ k : Nat, i = .int .i64 (k : Int) ∧ k ≤ ss.length ∧ Hid (Below w0.heap.size w0 wr)) (fun i _ => ss.length - (intOf i).toNat)
  case atStart => exact ⟨0, rfl, by omega, Below.refl _ _⟩
  case round =>
    obtain ⟨k, rfl, hk, hBr⟩ := hrel
    have z1 : wr.cell? ⟨w.heap.size, 0, none⟩ = some (.slice a ss.length ca) := (HK1.out.below hBr.out HK1.out.lt).cell 0
    have z2 : wr.cell? ⟨w.heap.size + 1, 0, none⟩ = some (.slice b ss.length cb) := (HK2.out.below hBr.out HK2.out.lt).cell 0
    by_cases hlt : k < ss.length
    · obtain ⟨b1, o1, rfl, hc1⟩ := (HA.out.below hBr.out).resolve_left (fun e => by subst e; simp at hlt)
      obtain ⟨b2, o2, rfl, hc2⟩ := (HBb.out.below hBr.out).resolve_left (fun e => by subst e; simp at hlt)
      obtain ⟨p0, v1, p1, hv1⟩ := hc1 k hlt
      obtain ⟨q0, v2, q1, hv2⟩ := hc2 k hlt
      have hbl := (HS.out k hlt).2.1
      clear hc1 hc2
      generalize ss.getD k sh0 = q at p0 q0 hv1 hv2 hbl
      obtain ⟨nm, xs⟩ := q
      obtain ⟨a1, c1, rfl, _, _, hx1⟩ := hv1
      obtain ⟨a2, c2, rfl, _, _, hx2⟩ := hv2
      simp only at p0 q0 p1 q1 hx1 hx2 hbl
      have i1 : (k : Int) < (ss.length : Int) := by omega
      have i0 : (0 : Int) ≤ (k : Int) := by omega
      go_wp2_with fail
      have HE := Lib.hid (fun w' (h : Below wr.heap.size wr w') => lpaTx_same a1 a2 c1 c2 xs w' (by unfold maxLen; omega) (TxAt.below hx1 h) (TxAt.below hx2 h))
      have g1 := cell_regrown p0
      have g2 := cell_regrown p1
      have g3 := cell_regrown q0
      have g4 := cell_regrown q1
      have g5 := cell_regrown z1
      have g6 := cell_regrown z2
      clear p0 p1 q0 q1 hx1 hx2 z1 z2
      refine wp_region_quiet_below (by kernel_rfl) (by kernel_rfl) ?_
      repeat (go_big_quiet_step ((go_at_call 45; with_reducible exact Calls.regrown_of (HE.out _ (below_regrown _ _ _)))))
      refine wpQuiet_nil ?_
      intro w9 hw9
      have HB9 : Hid (Below w0.heap.size w0 w9) := by obtain ⟨p, rfl⟩ := hw9; exact rg_below hBr.out _ _
      clear hw9 g1 g2 g3 g4 g5 g6
      go_wp2
      exact ⟨⟨k + 1, by go_num, by omega, HB9⟩, by simp [intOf]; omega⟩
    · go_wp2
      go_ret
      exact ⟨rfl, HB.out.trans (hBr.out.mono HB.out.size)⟩

end Go.Proofs.Ytmmckpjapnkepaa
