/- Whether a model is ok, of the program. Conditions: none but the row's own bound on sizes. -/
import Derived.Test.YtmmckpjapnkepaaI1
import Derived.Test.YtmmckpjapnkepaaI2
import Derived.Deep.RegionHeld3
import Derived.Lib.QuietBelow
namespace Go.Proofs.Ytmmckpjapnkepaa
open Go.RowKit Go.Sort Go.Lib Go.Maps

set_option maxHeartbeats 400000 in
theorem isBlockText_any (s : ByteArray) (w : World) :
    Calls Try.prog 67 #[.string s] w fun e w' => e = .returned (.bool (tt (Short9 s))) ∧ w = w' := by
  have H0 : decide ((s.size : Int) ≤ 9) = tt (Short9 s) := by
    by_cases h2 : s.size ≤ 9
    · rw [tt_true (show Short9 s from h2)]; simp; omega
    · rw [tt_false (show ¬Short9 s from h2)]; simp; omega
  have H := Lib.hid H0
  clear H0
  go_enter Try.func67, Try.ntmps67
  go_wp2
  go_ret
  exact ⟨ret_bool' H.out, rfl⟩
theorem isBlockTextP : Hid (∀ s W, Calls Try.prog 67 #[.string s] W fun e w' => e = .returned (.bool (tt (Short9 s))) ∧ W = w') := fun s W => isBlockText_any s W

set_option maxRecDepth 100000 in
set_option maxHeartbeats 1000000 in
theorem isShelf_any (nm : ByteArray) (a : Option Addr) (cap : Nat) (xs : List ByteArray) (w : World) (hn : nm.size ≤ maxLen) (hl : xs.length ≤ maxLen) (hx : Hid (TxAt w a xs)) :
    Calls Try.prog 50 #[.agg #[.string nm, .slice a xs.length cap]] w fun e w' => e = .returned (.bool (tt (ShFine ⟨nm, xs⟩))) ∧ Below w.heap.size w w' := by
  have hB : Below w.heap.size w (w.alloc (.cells #[.string nm, .slice a xs.length cap] 35)) := (Below.refl _ _).alloc (Nat.le_refl _) _
  have HB := Lib.hid hB
  have HA := Lib.hid (allTx_any 67 Short9 a cap xs _ (enters_of Try.func67 (by kernel_rfl) rfl) isBlockTextP hl (hx.out.below hB))
  have HN := Lib.hid (fun W => isName_any nm W hn)
  clear hB
  by_cases h1 : NameOk nm
  · rw [tt_true h1] at HN
    by_cases h3 : xs.length = 3
    · have d3 : ((xs.length : Int) == 3) = true := by simp; omega
      have HF := Lib.hid (tt_congr (show ShFine ⟨nm, xs⟩ ↔ AllTx Short9 xs from ⟨fun h => h.2.2, fun h => ⟨h1, h3, h⟩⟩))
      have Hl := Lib.hid hl
      clear h1 h3 hl
      go_enter Try.func50, Try.ntmps50
      go_wp2_with fail
      refine (HN.out _).mono ?_
      rintro e w1 ⟨rfl, rfl⟩
      go_wp2_with fail
      refine HA.out.mono ?_
      rintro e w1 ⟨rfl, rfl⟩
      generalize tt (AllTx Short9 xs) = bb at HF
      go_wp2
      go_ret
      exact ⟨ret_bool' HF.out.symm, HB.out⟩
    · have d3 : ((xs.length : Int) == 3) = false := by simp; omega
      have HF := Lib.hid (tt_false (P := ShFine ⟨nm, xs⟩) (fun h => h3 h.2.1))
      clear h1 h3 hl
      go_enter Try.func50, Try.ntmps50
      go_wp2_with fail
      refine (HN.out _).mono ?_
      rintro e w1 ⟨rfl, rfl⟩
      go_wp2
      go_ret
      exact ⟨ret_bool' HF.out.symm, HB.out⟩
  · rw [tt_false h1] at HN
    have HF := Lib.hid (tt_false (P := ShFine ⟨nm, xs⟩) (fun h => h1 h.1))
    clear h1 hl
    go_enter Try.func50, Try.ntmps50
    go_wp2_with fail
    refine (HN.out _).mono ?_
    rintro e w1 ⟨rfl, rfl⟩
    go_wp2
    go_ret
    exact ⟨ret_bool' HF.out.symm, HB.out⟩

set_option maxRecDepth 100000 in
set_option maxHeartbeats 2000000 in
theorem allSh_any (a : Option Addr) (cap : Nat) (ss : List ShD) (w : World) (hs : MdSmall ss) (hx : Hid (ShAt w a ss)) :
    Calls Try.prog 49 #[.slice a ss.length cap, .func (.func 50) #[] #[]] w fun e w' => e = .returned (.bool (tt (AllSh ShFine ss))) ∧ Below w.heap.size w w' := by
  have eg : ∀ args w, (callFunc 50 args).run Try.prog w = .ok (.enter 50 args) w := enters_of Try.func50 (by kernel_rfl) rfl
  obtain ⟨hl, hsm⟩ := hs
  have HS := Lib.hid hsm
  clear hsm
  go_enter Try.func49, Try.ntmps49
  go_wp2_with fail
  go_loopw [9] (fun i wr => ∃ k : Nat, i = .int .i64 (k : Int) ∧ k ≤ ss.length ∧ Hid (Below w.heap.size w wr) ∧ Hid (∀ j, j < k → ShFine (ss.getD j sh0))) (fun i _ => ss.length - (intOf i).toNat)
  case atStart => exact ⟨0, rfl, by omega, Below.refl _ _, fun j hj => by omega⟩
  case round =>
    obtain ⟨k, rfl, hk, hB, hall⟩ := hrel
    by_cases hlt : k < ss.length
    · obtain ⟨b, off, rfl, hc⟩ := (hx.out.below hB.out).resolve_left (fun e => by subst e; simp at hlt)
      obtain ⟨e0, v, e1, hv⟩ := hc k hlt
      obtain ⟨s0, s1, s2⟩ := HS.out k hlt
      clear hc s2
      generalize hg : ss.getD k sh0 = q at e0 hv s0 s1
      have Hg := Lib.hid hg
      clear hg
      obtain ⟨nm, xs⟩ := q
      obtain ⟨a1, c1, rfl, hc1, hm1, hx1⟩ := hv
      simp only at e0 e1 s0 s1 hx1
      have hBa : Below wr.heap.size wr (wr.alloc (.cells #[.string nm, .slice a1 xs.length c1] 35)) := (Below.refl _ _).alloc (Nat.le_refl _) _
      have HBa := Lib.hid hBa
      have HEa := Lib.hid (isShelf_any nm a1 c1 xs _ (by unfold maxLen; omega) (by unfold maxLen; omega) (hx1.below hBa))
      clear hBa hx1
      by_cases hf : ShFine ⟨nm, xs⟩
      · rw [tt_true hf] at HEa
        have HN : Hid (∀ j, j < k + 1 → ShFine (ss.getD j sh0)) := fun j hj => by
          by_cases e : j = k
          · subst e; rw [Hg.out]; exact hf
          · exact hall.out j (by omega)
        clear hf
        go_wp2_with fail
        refine HEa.out.mono ?_
        rintro e w1 ⟨rfl, hB1⟩
        have HB1 := Lib.hid (hB.out.trans ((HBa.out.trans (hB1.mono HBa.out.size)).mono hB.out.size))
        clear hB1
        go_wp2
        exact ⟨⟨k + 1, by go_num, by omega, HB1, HN⟩, by simp [intOf]; omega⟩
      · rw [tt_false hf] at HEa
        have HF := Lib.hid (tt_false (P := AllSh ShFine ss) (fun h => hf (by have := h k hlt; rw [Hg.out] at this; exact this)))
        clear hf
        go_wp2_with fail
        refine HEa.out.mono ?_
        rintro e w1 ⟨rfl, hB1⟩
        have HB1 := Lib.hid (hB.out.trans ((HBa.out.trans (hB1.mono HBa.out.size)).mono hB.out.size))
        clear hB1
        go_wp2
        go_ret
        exact ⟨ret_bool' HF.out.symm, HB1.out⟩
    · have HF := Lib.hid (tt_true (P := AllSh ShFine ss) (fun j hj => hall.out j (by omega)))
      go_wp2
      go_ret
      exact ⟨ret_bool' HF.out.symm, hB.out⟩

set_option maxRecDepth 100000 in
set_option maxHeartbeats 2000000 in
/-- shelfPlaces: where each name stands. -/
theorem shelfPlaces_any (a : Option Addr) (cap : Nat) (ss : List ShD) (w : World) (hl : ss.length ≤ 100) (hs : AllSh ShSmall ss) (hx : Hid (ShAt w a ss)) :
    Calls Try.prog 51 #[.slice a ss.length cap] w fun e w' => e = .returned (.map (some w.heap.size)) ∧ PlN w' w.heap.size ss.length ss ss.length ∧ Below w.heap.size w w' := by
  have hmm := @run_makeMap Try.prog
  have HS := Lib.hid hs
  clear hs
  go_enter Try.func51, Try.ntmps51
  go_wp2_with fail
  go_loopw [9] (fun i wr => ∃ k : Nat, i = .int .i64 (k : Int) ∧ k ≤ ss.length ∧ Hid (PlN wr w.heap.size k ss k) ∧ Hid (Below w.heap.size w wr)) (fun i _ => ss.length - (intOf i).toNat)
  case atStart => exact ⟨0, rfl, by omega, PlN.made w ss, (Below.refl _ _).alloc (Nat.le_refl _) _⟩
  case round =>
    obtain ⟨k, rfl, hk, hC, hB⟩ := hrel
    by_cases hlt : k < ss.length
    · obtain ⟨b, off, rfl, hc⟩ := (hx.out.below hB.out).resolve_left (fun e => by subst e; simp at hlt)
      obtain ⟨e0, v, e1, hv⟩ := hc k hlt
      obtain ⟨a1, c1, rfl, _⟩ := hv
      have s0 := (HS.out k hlt).1
      have i0 : (0 : Int) ≤ (k : Int) := by omega
      have i1 : (k : Int) < (ss.length : Int) := by omega
      have hCa := hC.out.kept (World.grownBy_alloc wr (.cells #[.string (nmAt ss k), .slice a1 (blAt ss k).length c1] 35) none) (by simp)
      obtain ⟨w', hput, hC', hg'⟩ := hCa.put (by omega) (by omega) (by have : (nmAt ss k).size ≤ 1048576 := s0; unfold maxLen; omega)
      have HB' : Hid (Below w.heap.size w w') := (hB.out.alloc hB.out.size _).grown hg' (Nat.le_trans hB.out.size (by simp)) (fun j hj => by cases hj; exact Nat.le_refl _)
      have HC' := Lib.hid hC'
      have h0 : (ss.getD k sh0).name = nmAt ss k := rfl
      have h1 : (ss.getD k sh0).blocks = blAt ss k := rfl
      rw [h0] at e0
      rw [h1] at e1
      clear hC' hg' hCa hc h0 h1
      generalize (blAt ss k).length = m at e1 hput
      generalize nmAt ss k = nm at e0 hput
      go_wp2
      exact ⟨⟨k + 1, by go_num, by omega, HC', HB'⟩, by simp [intOf]; omega⟩
    · obtain rfl : k = ss.length := by omega
      go_wp2
      go_ret
      exact ⟨rfl, hC.out, hB.out⟩

end Go.Proofs.Ytmmckpjapnkepaa
