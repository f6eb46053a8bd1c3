/- The exact laws' own marks on disks. Conditions: at most a hundred million marks. -/
import Derived.Test.YtceielkcplcccaaGreatDoorPKGT8
import Derived.Test.YtceielkcplcccaaGreatDoorPKG2
import Derived.Test.YtceielkcplcccaaGreatDoorPKRG
namespace Go.Proofs.YtceielkcplcccaaGreatDoor
open Go.RowKit Go.Sort

def mkB (k n : Nat) : List Bool := (List.range n).map fun j => ((k + j : Nat) : Int) % 3 == 0
def mkP (k n : Nat) : List PutD := (List.range n).map fun j => ⟨((k + j * 3 : Nat) : Int) % 3 == 0, ((k + j * 3 + 1 : Nat) : Int), mkT (k + j * 3 + 2)⟩
theorem mkB_length (k n : Nat) : (mkB k n).length = n := by simp [mkB]
theorem mkP_length (k n : Nat) : (mkP k n).length = n := by simp [mkP]
theorem mkB_get (k n j : Nat) (hj : j < n) : (mkB k n).getD j false = (((k + j : Nat) : Int) % 3 == 0) := by
  rw [List.getD, mkB, List.getElem?_map, List.getElem?_range hj]; rfl
theorem mkP_get (k n j : Nat) (hj : j < n) : (mkP k n).getD j put0 = ⟨((k + j * 3 : Nat) : Int) % 3 == 0, ((k + j * 3 + 1 : Nat) : Int), mkT (k + j * 3 + 2)⟩ := by
  rw [List.getD, mkP, List.getElem?_map, List.getElem?_range hj]; rfl
set_option maxRecDepth 100000 in
set_option maxHeartbeats 1000000 in
theorem markBo_own (base g n cap k : Nat) (ys0 : List Value) (w : World) (hk : 0 < k) (hkn : k + n ≤ 100000000) (ho : Hid (w.ownsRow base 4 1 (.slice (some ⟨g, 0, none⟩) n cap) n ys0)) :
    Calls Tryz.prog 35 #[.slice (some ⟨g, 0, none⟩) n cap, .int .i64 (k : Int)] w fun e w' => e = .returned (.int .i64 ((k + n : Nat) : Int)) ∧ w.grownBy w' (some g) ∧ w'.ownsRow base 4 1 (.slice (some ⟨g, 0, none⟩) n cap) n (boC (mkB k n)) := by
  go_enter Tryz.func35, Tryz.ntmps35
  go_wp2_with fail
  go_loopw [1, 5] (fun kv iv wr => ∃ i : Nat, iv = .int .i64 (i : Int) ∧ i ≤ n ∧ kv = .int .i64 ((k + i : Nat) : Int) ∧ Hid (w.grownBy wr (some g) ∧ ∃ ys, DoneTo (boC (mkB k n)) i ys ∧ wr.ownsRow base 4 1 (.slice (some ⟨g, 0, none⟩) n cap) n ys)) (fun _ iv _ => n - (intOf iv).toNat)
  case atStart => exact ⟨0, rfl, by omega, rfl, gb_refl _ _, ys0, ⟨by rw [boC_length, mkB_length]; have := ho.out.1; omega, fun j hj => by omega⟩, ho.out⟩
  case round =>
    obtain ⟨i, rfl, hi, rfl, hI⟩ := hrel
    by_cases hlt : i < n
    · have hkb : k + i ≤ 100000000 := by omega
      have hnext : k + i + 1 = k + (i + 1) := by omega
      have HG := Lib.hid (show (boC (mkB k n))[i]? = some (.bool (((k + i : Nat) : Int) % 3 == 0)) by rw [boC_get _ _ (by rw [mkB_length]; exact hlt), mkB_get k n i hlt])
      generalize k + i = ki at hkb hnext HG
      obtain ⟨hB, ys, hf, ho1⟩ := hI.out
      obtain ⟨x0, f0, _, hxl⟩ := own_cell ho1 i (by omega)
      rw [List.getElem?_eq_getElem (by omega)] at x0
      generalize ys[i]'(by omega) = y0 at x0
      have HN : Hid (w.grownBy (wr.setCell ⟨g, i, none⟩ (.bool ((ki : Int) % 3 == 0))) (some g) ∧ ∃ ys, DoneTo (boC (mkB k n)) (i + 1) ys ∧ (wr.setCell ⟨g, i, none⟩ (.bool ((ki : Int) % 3 == 0))).ownsRow base 4 1 (.slice (some ⟨g, 0, none⟩) n cap) n ys) :=
        ⟨hB.trans (gb_set _ _ _ _), _, hf.next HG.out, own_set ho1 _ _⟩
      clear ho1 hf hI hB hxl
      go_wp2
      exact ⟨⟨i + 1, by go_num, by omega, by rw [← hnext]; go_num, HN⟩, by simp [intOf]; omega⟩
    · obtain rfl : i = n := by omega
      go_wp2
      go_ret
      obtain ⟨hB, ys, hf, ho1⟩ := hI.out
      rw [hf.all (by rw [boC_length, mkB_length]; omega)] at ho1
      exact ⟨rfl, hB, ho1⟩

set_option maxRecDepth 100000 in
set_option maxHeartbeats 2000000 in
theorem markPu_own (base g n cap k : Nat) (ys0 : List Value) (w : World) (hk : 0 < k) (hkn : k + n * 3 ≤ 100000000) (ho : Hid (w.ownsRow base 41 3 (.slice (some ⟨g, 0, none⟩) n cap) n ys0)) :
    Calls Tryz.prog 36 #[.slice (some ⟨g, 0, none⟩) n cap, .int .i64 (k : Int)] w fun e w' => e = .returned (.int .i64 ((k + n * 3 : Nat) : Int)) ∧ w.grownBy w' (some g) ∧ w'.ownsRow base 41 3 (.slice (some ⟨g, 0, none⟩) n cap) n (puC (mkP k n)) := by
  go_enter Tryz.func36, Tryz.ntmps36
  go_wp2_with fail
  go_loopw [1, 5] (fun kv iv wr => ∃ i : Nat, iv = .int .i64 (i : Int) ∧ i ≤ n ∧ kv = .int .i64 ((k + i * 3 : Nat) : Int) ∧ Hid (w.grownBy wr (some g) ∧ ∃ ys, DoneTo (puC (mkP k n)) (i * 3) ys ∧ wr.ownsRow base 41 3 (.slice (some ⟨g, 0, none⟩) n cap) n ys)) (fun _ iv _ => n - (intOf iv).toNat)
  case atStart => exact ⟨0, rfl, by omega, rfl, gb_refl _ _, ys0, ⟨by rw [puC_length, mkP_length]; have := ho.out.1; omega, fun j hj => by omega⟩, ho.out⟩
  case round =>
    obtain ⟨i, rfl, hi, rfl, hI⟩ := hrel
    by_cases hlt : i < n
    · have hkb : k + i * 3 + 2 ≤ 100000000 := by omega
      have hks : 0 < k + i * 3 := by omega
      have hnext : k + i * 3 + 3 = k + (i + 1) * 3 := by omega
      have HG := puC_get (mkP k n) i (by rw [mkP_length]; exact hlt)
      rw [mkP_get k n i hlt] at HG
      simp only at HG
      generalize k + i * 3 = ki at hkb hks hnext HG
      obtain ⟨hG0, hG1, hG2⟩ := HG
      obtain ⟨hB, ys, hf, ho1⟩ := hI.out
      obtain ⟨x0, f0, _, hxl⟩ := own_cell ho1 (i * 3) (by omega)
      obtain ⟨x1, f1, _, _⟩ := own_cell ho1 (i * 3 + 1) (by omega)
      rw [List.getElem?_eq_getElem (by omega)] at x0 x1
      generalize ys[i * 3]'(by omega) = y0 at x0
      generalize ys[i * 3 + 1]'(by omega) = y1 at x1
      have ho2 := own_set (own_set ho1 (i * 3) (.bool ((ki : Int) % 3 == 0))) (i * 3 + 1) (.int .i64 ((ki + 1 : Nat) : Int))
      have hf2 := (hf.next hG0).next hG1
      have hB2 : w.grownBy ((wr.setCell ⟨g, i * 3, none⟩ (.bool ((ki : Int) % 3 == 0))).setCell ⟨g, i * 3 + 1, none⟩ (.int .i64 ((ki + 1 : Nat) : Int))) (some g) := (hB.trans (gb_set _ _ _ _)).trans (gb_set _ _ _ _)
      rw [show ((ki + 1 : Nat) : Int) = (ki : Int) + 1 by omega] at ho2 hf2 hB2
      generalize ((ys.set (i * 3) (Value.bool ((ki : Int) % 3 == 0))).set (i * 3 + 1) (Value.int .i64 ((ki : Int) + 1))) = ys2 at ho2 hf2
      have HO2 := Lib.hid ho2
      have HF2 := Lib.hid hf2
      have HB2 := Lib.hid hB2
      have HG2 := Lib.hid hG2
      have HM := Lib.hid (fun W => mkText_pos (ki + 2) W (by omega) (by omega))
      rw [show ((ki + 2 : Nat) : Int) = (ki : Int) + 1 + 1 by omega] at HM
      clear ho2 hf2 hB2 hG0 hG1 hG2 ho1 hf hI hB hxl
      go_wp2_with fail
      generalize (wr.setCell ⟨g, i * 3, none⟩ (.bool ((ki : Int) % 3 == 0))).setCell ⟨g, i * 3 + 1, none⟩ (.int .i64 ((ki : Int) + 1)) = W at HO2 HB2 ⊢
      refine (HM.out _).mono ?_
      rintro e w2 ⟨rfl, hB2⟩
      have ho3 := own_below HO2.out hB2
      obtain ⟨x2, f2, _, hxl⟩ := own_cell ho3 (i * 3 + 2) (by omega)
      rw [List.getElem?_eq_getElem (by omega)] at x2
      generalize ys2[i * 3 + 2]'(by omega) = y2 at x2
      have HN : Hid (w.grownBy (w2.setCell ⟨g, i * 3 + 2, none⟩ (.string (mkT (ki + 2)))) (some g) ∧ ∃ ys, DoneTo (puC (mkP k n)) ((i + 1) * 3) ys ∧ (w2.setCell ⟨g, i * 3 + 2, none⟩ (.string (mkT (ki + 2)))).ownsRow base 41 3 (.slice (some ⟨g, 0, none⟩) n cap) n ys) :=
        ⟨(HB2.out.trans (gb_below hB2 _)).trans (gb_set _ _ _ _), _, by rw [show (i + 1) * 3 = i * 3 + 1 + 1 + 1 by omega]; exact HF2.out.next HG2.out, own_set ho3 _ _⟩
      clear ho3 hB2 hxl x0 x1 f0 f1
      generalize mkT (ki + 2) = x at HN
      go_wp2
      exact ⟨⟨i + 1, by go_num, by omega, by rw [← hnext]; go_num, HN⟩, by simp [intOf]; omega⟩
    · obtain rfl : i = n := by omega
      go_wp2
      go_ret
      obtain ⟨hB, ys, hf, ho1⟩ := hI.out
      rw [hf.all (by rw [puC_length, mkP_length]; omega)] at ho1
      exact ⟨rfl, hB, ho1⟩

set_option maxHeartbeats 400000 in
theorem markBo_nil (k : Nat) (w : World) :
    Calls Tryz.prog 35 #[.slice none 0 0, .int .i64 (k : Int)] w fun e w' => e = .returned (.int .i64 (k : Int)) ∧ w = w' := by
  go_enter Tryz.func35, Tryz.ntmps35
  go_wp2_with fail
  go_loop [1, 5] (fun kv iv => kv = .int .i64 (k : Int) ∧ iv = .int .i64 0) (fun _ _ => 0)
  case atStart => exact ⟨rfl, rfl⟩
  case round =>
    obtain ⟨rfl, rfl⟩ := hrel
    go_wp2
    go_ret
    exact ⟨rfl, rfl⟩
set_option maxHeartbeats 400000 in
theorem markPu_nil (k : Nat) (w : World) :
    Calls Tryz.prog 36 #[.slice none 0 0, .int .i64 (k : Int)] w fun e w' => e = .returned (.int .i64 (k : Int)) ∧ w = w' := by
  go_enter Tryz.func36, Tryz.ntmps36
  go_wp2_with fail
  go_loop [1, 5] (fun kv iv => kv = .int .i64 (k : Int) ∧ iv = .int .i64 0) (fun _ _ => 0)
  case atStart => exact ⟨rfl, rfl⟩
  case round =>
    obtain ⟨rfl, rfl⟩ := hrel
    go_wp2
    go_ret
    exact ⟨rfl, rfl⟩

theorem markBo_any (base k : Nat) (v : Value) (xs : List Bool) (w : World) (hk : 0 < k) (hkn : k + xs.length ≤ 100000000) (ho : OwnBo w base v xs) :
    Calls Tryz.prog 35 #[v, .int .i64 (k : Int)] w fun e w' => e = .returned (.int .i64 ((k + xs.length : Nat) : Int)) ∧ w.grownBy w' v.ownBlock ∧ OwnBo w' base v (mkB k xs.length) := by
  have ho' := ho
  unfold OwnBo
  rw [mkB_length]
  rcases ho.2 with ⟨rfl, hn⟩ | ⟨g, cap, cur, rfl, hb, _⟩
  · rw [hn]
    refine (markBo_nil k w).mono ?_
    rintro e w' ⟨rfl, rfl⟩
    exact ⟨rfl, gb_refl _ _, ⟨rfl, .inl ⟨rfl, rfl⟩⟩⟩
  · exact markBo_own base g xs.length cap k _ w hk hkn ho'
theorem markPu_any (base k : Nat) (v : Value) (xs : List PutD) (w : World) (hk : 0 < k) (hkn : k + xs.length * 3 ≤ 100000000) (ho : OwnPu w base v xs) :
    Calls Tryz.prog 36 #[v, .int .i64 (k : Int)] w fun e w' => e = .returned (.int .i64 ((k + xs.length * 3 : Nat) : Int)) ∧ w.grownBy w' v.ownBlock ∧ OwnPu w' base v (mkP k xs.length) := by
  have ho' := ho
  unfold OwnPu
  rw [mkP_length]
  rcases ho.2 with ⟨rfl, hn⟩ | ⟨g, cap, cur, rfl, hb, _⟩
  · rw [hn]
    refine (markPu_nil k w).mono ?_
    rintro e w' ⟨rfl, rfl⟩
    exact ⟨rfl, gb_refl _ _, ⟨rfl, .inl ⟨rfl, rfl⟩⟩⟩
  · exact markPu_own base g xs.length cap k _ w hk hkn ho'

set_option maxRecDepth 100000 in
set_option maxHeartbeats 1000000 in
theorem heldBo_any (a : Option Addr) (n cap k : Nat) (w : World) (hkn : k + n ≤ 100000000) (ha : Hid (BoAt w a (mkB k n))) :
    Calls Tryz.prog 39 #[.slice a n cap, .int .i64 (k : Int)] w fun e w' => e = .returned (.int .i64 ((k + n : Nat) : Int)) ∧ w = w' := by
  go_enter Tryz.func39, Tryz.ntmps39
  go_wp2_with fail
  go_loop [1, 5] (fun kv iv => ∃ i : Nat, iv = .int .i64 (i : Int) ∧ i ≤ n ∧ kv = .int .i64 ((k + i : Nat) : Int)) (fun _ iv => n - (intOf iv).toNat)
  case atStart => exact ⟨0, rfl, by omega, rfl⟩
  case round =>
    obtain ⟨i, rfl, hi, rfl⟩ := hrel
    by_cases hlt : i < n
    · obtain ⟨b, off, rfl, hc⟩ := ha.out.resolve_left (fun e => by have := mkB_length k n; rw [e] at this; simp at this; omega)
      have hck := hc i (by rw [mkB_length]; exact hlt)
      rw [mkB_get k n i hlt] at hck
      clear hc
      have hkb : k + i ≤ 100000000 := by omega
      have hnext : k + i + 1 = k + (i + 1) := by omega
      generalize k + i = ki at hkb hnext hck
      have e1 : (((ki : Int) % 3 == 0) != ((ki : Int) % 3 == 0)) = false := by simp
      go_wp2
      exact ⟨⟨i + 1, by go_num, by omega, by rw [← hnext]; go_num⟩, by simp [intOf]; omega⟩
    · obtain rfl : i = n := by omega
      go_wp2
      go_ret
      exact ⟨rfl, rfl⟩

set_option maxRecDepth 100000 in
set_option maxHeartbeats 2000000 in
theorem heldPu_any (a : Option Addr) (n cap k : Nat) (w : World) (hk : 0 < k) (hkn : k + n * 3 ≤ 100000000) (ha : Hid (PuAt w a (mkP k n))) :
    Calls Tryz.prog 40 #[.slice a n cap, .int .i64 (k : Int)] w fun e w' => e = .returned (.int .i64 ((k + n * 3 : Nat) : Int)) ∧ Below w.heap.size w w' := by
  go_enter Tryz.func40, Tryz.ntmps40
  go_wp2_with fail
  go_loopw [1, 5] (fun kv iv wr => ∃ i : Nat, iv = .int .i64 (i : Int) ∧ i ≤ n ∧ kv = .int .i64 ((k + i * 3 : Nat) : Int) ∧ Hid (Below w.heap.size w wr)) (fun _ iv _ => n - (intOf iv).toNat)
  case atStart => exact ⟨0, rfl, by omega, rfl, Below.refl _ _⟩
  case round =>
    obtain ⟨i, rfl, hi, rfl, hB⟩ := hrel
    by_cases hlt : i < n
    · obtain ⟨b, off, rfl, hc⟩ := (ha.out.below hB.out).resolve_left (fun e => by have := mkP_length k n; rw [e] at this; simp at this; omega)
      have hck := hc i (by rw [mkP_length]; exact hlt)
      rw [mkP_get k n i hlt] at hck
      clear hc
      have hks : 0 < k + i * 3 := by omega
      have hkb : k + i * 3 + 2 ≤ 100000000 := by omega
      have hnext : k + i * 3 + 3 = k + (i + 1) * 3 := by omega
      generalize k + i * 3 = ki at hks hkb hnext hck
      obtain ⟨c0, c1, c2⟩ := hck
      simp only at c0 c1 c2
      have HM := Lib.hid (fun W => mkText_pos (ki + 2) W (by omega) (by omega))
      rw [show ((ki + 2 : Nat) : Int) = (ki : Int) + 1 + 1 by omega] at HM
      rw [show ((ki + 1 : Nat) : Int) = (ki : Int) + 1 by omega] at c1
      generalize mkT (ki + 2) = x at c2 HM
      have e1 : (((ki : Int) % 3 == 0) != ((ki : Int) % 3 == 0)) = false := by simp
      have e2 : (((ki : Int) + 1) != ((ki : Int) + 1)) = false := by simp
      have g2 := cell_regrown c2
      have i1 : (i : Int) < (n : Int) := by omega
      have i0 : (0 : Int) ≤ (i : Int) := by omega
      go_wp2_with fail
      refine wp_region_quiet_below (by kernel_rfl) (by kernel_rfl) ?_
      repeat (go_big_quiet_step ((go_at_call 58; with_reducible exact Calls.regrown_of (HM.out _))))
      refine wpQuiet_nil ?_
      intro w9 hw9
      have HB9 : Hid (Below w.heap.size w w9) := by obtain ⟨p, rfl⟩ := hw9; exact rg_below hB.out _ _
      clear hw9
      go_wp2
      exact ⟨⟨i + 1, by go_num, by omega, by rw [← hnext]; go_num, HB9⟩, by simp [intOf]; omega⟩
    · obtain rfl : i = n := by omega
      go_wp2
      go_ret
      exact ⟨rfl, hB.out⟩

end Go.Proofs.YtceielkcplcccaaGreatDoor
