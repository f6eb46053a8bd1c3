/- DrawRootRead of the specification: a number of disks and some text that is not long. Conditions: none but the row's own bound on sizes. -/
import Derived.Test.YtliadobopideaaaGreatDoorPSJW1
import Derived.Test.YtliadobopideaaaGreatDoorPSRS3
import Derived.Test.YtliadobopideaaaGreatDoorPKLF
import Derived.Test.YtliadobopideaaaGreatDoorPKMI
namespace Go.Proofs.YtliadobopideaaaGreatDoor
open Go.RowKit Go.Sort

theorem rootT_short (n : Int) (r : RootD) : (rootT n r).size ≤ 700 := by
  by_cases h : RootOkP n r
  · rw [rootT_ok h]; exact full_short h
  · rw [rootT_no h]; decide

/-- WHAT DrawRootRead ANSWERS. -/
def ReadDrawn (w : World) (e : Ending) (w' : World) : Prop := ∃ (n : Int) (s : ByteArray), e = .returned (.tuple #[.int .i64 n, .string s]) ∧ Below w.heap.size w w'

def moreL : List ByteArray := [⟨#[48]⟩, ⟨#[32]⟩, ⟨#[10]⟩, ⟨#[49]⟩, ⟨#[118, 111, 108, 32, 113, 10]⟩, ⟨#[110, 111, 110, 101, 10]⟩]
theorem more_short (i : Nat) : (moreL.getD i ByteArray.empty).size ≤ 6 := by
  match i with
  | 0 => decide
  | 1 => decide
  | 2 => decide
  | 3 => decide
  | 4 => decide
  | 5 => decide
  | n + 6 => rw [List.getD, List.getElem?_eq_none (by simp [moreL])]; decide
def moreC : Array Value := #[.string ⟨#[48]⟩, .string ⟨#[32]⟩, .string ⟨#[10]⟩, .string ⟨#[49]⟩, .string ⟨#[118, 111, 108, 32, 113, 10]⟩, .string ⟨#[110, 111, 110, 101, 10]⟩]
theorem more_cell {W : World} {g : Nat} (h : Bx W g moreC 9) (j : Nat) (hj : j < moreL.length) : W.cell? ⟨g, j, none⟩ = some (.string (moreL.getD j ByteArray.empty)) := by
  rw [h.cell j]
  match j, hj with
  | 0, _ => rfl
  | 1, _ => rfl
  | 2, _ => rfl
  | 3, _ => rfl
  | 4, _ => rfl
  | 5, _ => rfl

set_option maxRecDepth 100000 in
set_option maxHeartbeats 8000000 in
theorem drawRead_any (a : Option Addr) (len cap : Nat) (z : List Int) (w : World) (h : IsBytes w a len cap z) :
    Calls Tryz.prog 13 #[.slice a len cap] w (ReadDrawn w) := by
  have H := Lib.hid h
  clear h
  go_enter Tryz.func13, Tryz.ntmps13
  go_wp2_with fail
  refine (l6Open_any a len cap z _ H.out).mono ?_
  rintro e w1 ⟨B, rfl, hR1, hB1⟩
  have hB : w.heap.size ≤ B := hR1.1
  have HB1 := Lib.hid hB1
  have HR1 := Lib.hid hR1
  clear hR1 hB1 H
  go_wp2_with fail
  refine (l71Disks_any _ B 0 _ (by omega) HR1.out).mono ?_
  rintro e w2 ⟨n, rfl, hn, hR2, hg2⟩
  have HB2 := Lib.hid (HB1.out.trans (Below.ofGrown hg2 hB HB1.out.size))
  have HR2 := Lib.hid hR2
  have Hn := Lib.hid hn
  clear hR2 hg2 hn HB1 HR1
  go_wp2_with fail
  refine (l71Root_any _ B (0 + 1) n _ (by omega) Hn.out HR2.out).mono ?_
  rintro e w3 ⟨t, o, vs, q, rfl, hO, hv4, hq, hR3, hg3⟩
  have hL := hO.lv
  obtain ⟨⟨ao, co, rfl, hc1, hc2, hX⟩, hnm⟩ := hL.reads
  have HB3 := Lib.hid (HB2.out.trans (Below.ofGrown hg3 hB HB2.out.size))
  have HNa : Hid (∀ j, j < vs.length → (vs.getD j vol0).name.size ≤ maxLen) := fun j hj => Nat.le_trans (hnm j hj) (by simp [maxLen])
  have HS := Lib.hid (fun W h => specText_any n ⟨t, vs⟩ ao co W (by show vs.length ≤ maxLen; omega) HNa h)
  have HX := Lib.hid hX
  have HR3 := Lib.hid hR3
  have hsz := rootT_short n ⟨t, vs⟩
  simp only at HS
  generalize rootT n ⟨t, vs⟩ = s at HS hsz
  clear hO hL hc1 hc2 hX hnm hR3 hg3 HB2 HR2 HNa hv4
  go_wp2_with fail
  refine (HS.out _ HX.out).mono ?_
  rintro e w4 ⟨rfl, hB4⟩
  have HR4 := Lib.hid (PtrDrawn.rd HR3.out hB4)
  have HB4 := Lib.hid (HB3.out.trans (hB4.mono HB3.out.size))
  clear hB4 HB3 HR3 HX HS
  go_wp2_with fail
  refine (pick_any _ B q ((s.size : Int) + 1) _ (by omega) HR4.out).mono ?_
  rintro e w5 ⟨v, rfl, hv0, hvn, hR5, hg5⟩
  have hvs := hvn (by omega)
  obtain ⟨at0, rfl⟩ := Int.eq_ofNat_of_zero_le hv0
  have hat : at0 ≤ s.size := by omega
  have HB5 := Lib.hid (HB4.out.trans (Below.ofGrown hg5 hB HB4.out.size))
  have HR5 := Lib.hid hR5
  clear hv0 hvn hvs hR5 hg5 HB4 HR4
  go_wp2_with fail
  refine (pick_any _ B (q + 1) 8 _ (by omega) HR5.out).mono ?_
  rintro e w6 ⟨c, rfl, hc0, hc8, hR6, hg6⟩
  have HB6 := Lib.hid (HB5.out.trans (Below.ofGrown hg6 hB HB5.out.size))
  have HR6 := Lib.hid hR6
  have h38 := Hn.out
  obtain ⟨h3, h4⟩ := h38
  clear hc8 hR6 hg6 HB5 HR5
  have s0 : (0 : Int) ≤ (at0 : Int) := by omega
  have s1 : (at0 : Int) ≤ (s.size : Int) := by omega
  by_cases e0 : c = 0
  · subst e0
    go_wp2_with fail
    go_region
    go_wp2_with fail
    go_ret2
    exact ⟨n, _, rfl, HB6.out.drew⟩
  · have d0 : (c == 0) = false := by simp; exact e0
    by_cases e1 : c = 1
    · subst e1
      have hBl := HR6.out.lt
      go_wp2_with fail
      go_region_with ((go_simp; go_at_call 41; refine (of_any _ B (q + 1 + 1) w6.heap.size 6 moreL _ (by omega) (by first | exact (HR6.out.alloc _).drew | exact HR6.out.drew.alloc _) (by decide) (by decide) (by omega) (fun j hj => (by first | exact more_cell (Bx.new _ _ _) j hj | exact drew_cell (more_cell (Bx.new _ _ _) j hj)))).mono ?_; rintro e w7 ⟨i7, hi7, rfl, hR7, hg7⟩; have hms := more_short i7; generalize moreL.getD i7 ByteArray.empty = mt at hms ⊢))
      all_goals
        have hBa := HB6.out.trans (((((Below.refl w6.heap.size w6).alloc (Nat.le_refl _) (.cells moreC 9)).drew).mono HB6.out.size))
        have HB7 := Lib.hid (hBa.grown hg7 hBa.size (fun k e => by cases e; exact hB))
        clear hBa hg7 hR7
        go_wp2_with fail
        go_ret2
        exact ⟨n, _, rfl, HB7.out⟩
    · have d1 : (c == 1) = false := by simp; exact e1
      by_cases e2 : c = 2
      · subst e2
        go_wp2_with fail
        go_ret2
        exact ⟨_, s, rfl, HB6.out⟩
      · have d2 : (c == 2) = false := by simp; exact e2
        by_cases e3 : c = 3
        · subst e3
          clear e0 e1 e2
          go_wp2_with fail
          refine (l71Off_any _ B (q + 1 + 1) n _ (by omega) Hn.out HR6.out).mono ?_
          rintro e w7 ⟨t7, o7, v7, q7, rfl, hL, hv5, hq7, hR7, hg7⟩
          have hfw := hL.few
          obtain ⟨⟨a7, c7, rfl, _, _, hX⟩, _⟩ := hL.reads
          have HB7 := Lib.hid (HB6.out.trans (Below.ofGrown hg7 hB HB6.out.size))
          have HT := Lib.hid (l2Text_gen ⟨t7, v7⟩ a7 c7 w7 hv5 (show FewD v7 from hfw) hX)
          have hxz : (roG ⟨t7, v7⟩ v7.length).size ≤ 7387 := by have := roG_size ⟨t7, v7⟩ (show FewD v7 from hfw) v7.length (Nat.le_refl _); omega
          simp only at HT
          generalize roG ⟨t7, v7⟩ v7.length = x at HT hxz
          clear hfw hL hX hR7 hg7 HB6 hv5
          go_wp2_with fail
          refine HT.out.mono ?_
          rintro e w8 ⟨rfl, hB8⟩
          have HB8 := Lib.hid (HB7.out.trans (hB8.mono HB7.out.size))
          have HC := Lib.hid (fun W => l2Check_gen x (by omega) W)
          generalize sumTo x x.size = S at HC
          have hdz := dzI_size S
          have HD := Lib.hid (fun W => l6Dec_all S W)
          generalize dzI S = D at HD hdz
          clear hB8 HB7 HT
          go_wp2_with fail
          refine (HC.out _).mono ?_
          rintro e w9 ⟨rfl, rfl⟩
          go_wp2_with fail
          refine (HD.out _).mono ?_
          rintro e w9 ⟨rfl, hB9⟩
          have HB9 := Lib.hid (HB8.out.trans (hB9.mono HB8.out.size))
          clear hB9 HB8
          go_wp2_with fail
          go_ret2
          exact ⟨n, _, rfl, HB9.out⟩
        · have d3 : (c == 3) = false := by simp; exact e3
          go_wp2_with fail
          go_ret2
          exact ⟨n, s, rfl, HB6.out⟩

end Go.Proofs.YtliadobopideaaaGreatDoor
