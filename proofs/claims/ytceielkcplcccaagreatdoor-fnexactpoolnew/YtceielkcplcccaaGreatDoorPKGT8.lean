/- The exact laws' own marks on texts. Conditions: at most a hundred million marks. -/
import Derived.Test.YtceielkcplcccaaGreatDoorPKRG
namespace Go.Proofs.YtceielkcplcccaaGreatDoor
open Go.RowKit Go.Sort

/-- THE DIGITS, put before a text. -/
def digT (k : Nat) (out : ByteArray) : ByteArray := if _h : k = 0 then out else digT (k / 10) (strOfNums [48 + (k : Int) % 10] ++ out)
termination_by k
decreasing_by omega
theorem digT_zero (out : ByteArray) : digT 0 out = out := by rw [digT]; rfl
theorem digT_pos {k : Nat} (out : ByteArray) (h : 0 < k) : digT k out = digT (k / 10) (strOfNums [48 + (k : Int) % 10] ++ out) := by rw [digT, dif_neg (by omega)]

theorem conv_1 (w : World) (z : Int) : (convert 51 9 (.slice (some ⟨w.heap.size, 0, none⟩) 1 1)).run Tryz.prog (w.alloc (.cells #[.int .u8 z] 5)) = .ok (.string (strOfNums [z])) (w.alloc (.cells #[.int .u8 z] 5)) := by
  refine run_convert_bytes_arg _ 51 5 Tryz.underlying51 Tryz.underlying5 w.heap.size 0 1 1 [z] rfl (fun i hi => ?_) 9 Tryz.underlying9
  have : i = 0 := by simp at hi; omega
  subst this
  exact news_new w (.int .u8 z) 5 w.heap.size rfl 0 _ rfl

/-- A MARK. -/
def mkT (k : Nat) : ByteArray := ⟨#[109]⟩ ++ digT k ByteArray.empty
theorem ret_tx {a b : ByteArray} (h : a = b) : Ending.returned (.string a) = .returned (.string b) := by rw [h]

set_option maxRecDepth 100000 in
set_option maxHeartbeats 1000000 in
theorem mkText_pos (k0 : Nat) (w : World) (hk0 : 0 < k0) (hb : k0 ≤ 100000000) :
    Calls Tryz.prog 58 #[.int .i64 (k0 : Int)] w fun e w' => e = .returned (.string (mkT k0)) ∧ Below w.heap.size w w' := by
  have d0 : decide ((k0 : Int) ≤ 0) = false := by simp; omega
  go_enter Tryz.func58, Tryz.ntmps58
  go_wp2_with fail
  go_loopw [0, 3] (fun kv o wr => ∃ (k : Nat) (out : ByteArray), kv = .int .i64 (k : Int) ∧ o = .string out ∧ out.size + k ≤ k0 ∧ Hid (digT k out = digT k0 ByteArray.empty) ∧ Below w.heap.size w wr) (fun kv _ _ => (intOf kv).toNat)
  case atStart => exact ⟨k0, ByteArray.empty, rfl, rfl, by simp, rfl, Below.refl _ _⟩
  case round =>
    obtain ⟨k, out, rfl, rfl, hs, hd, hB⟩ := hrel
    by_cases hk : 0 < k
    · have HD : Hid (digT (k / 10) (strOfNums [48 + (k : Int) % 10] ++ out) = digT k0 ByteArray.empty) := (digT_pos out hk).symm.trans hd.out
      have hconv := conv_1 wr (48 + (k : Int) % 10)
      have hz : (strOfNums [48 + (k : Int) % 10]).size = 1 := by rw [strOfNums_size]; rfl
      have hsz : (strOfNums [48 + (k : Int) % 10] ++ out).size = 1 + out.size := by rw [ByteArray.size_append, hz]
      generalize strOfNums [48 + (k : Int) % 10] = d at HD hconv hz hsz
      have HB2 : Hid (Below w.heap.size w (wr.alloc (.cells #[.int .u8 (48 + (k : Int) % 10)] 5))) := hB.alloc hB.size _
      go_wp2
      exact ⟨⟨k / 10, d ++ out, by go_num, rfl, by omega, HD, HB2.out⟩, by simp [intOf]; omega⟩
    · obtain rfl : k = 0 := by omega
      have HO : Hid (out = digT k0 ByteArray.empty) := (digT_zero out).symm.trans hd.out
      go_wp2
      go_ret
      exact ⟨ret_tx (congrArg _ HO.out), hB⟩

/-- MARKS IN A ROW. -/
def mkS (k n : Nat) : List ByteArray := (List.range n).map fun j => mkT (k + j)
theorem mkS_length (k n : Nat) : (mkS k n).length = n := by simp [mkS]
theorem mkS_get (k n j : Nat) (hj : j < n) : (mkS k n).getD j ByteArray.empty = mkT (k + j) := by
  rw [List.getD, mkS, List.getElem?_map, List.getElem?_range hj]; rfl
theorem ret_i {a b : Int} (h : a = b) : Ending.returned (.int .i64 a) = .returned (.int .i64 b) := by rw [h]

theorem gb_below {w w' : World} (h : Below w.heap.size w w') (r : Option Nat) : w.grownBy w' r := ⟨h.os, h.tape, h.output, h.size, fun k hk _ => h.block k hk⟩
theorem gb_set (w : World) (B o : Nat) (v : Value) : w.grownBy (w.setCell ⟨B, o, none⟩ v) (some B) :=
  ⟨rfl, rfl, rfl, by rw [World.size_setCell]; exact Nat.le_refl _, fun k _ hne => Below.heap_setCell _ _ _ _ (fun e => hne (by rw [e]))⟩
theorem gb_refl (w : World) (r : Option Nat) : w.grownBy w r := ⟨rfl, rfl, rfl, Nat.le_refl _, fun _ _ _ => rfl⟩
theorem below_gb {n : Nat} {w w' : World} {r : Option Nat} (h : w.grownBy w' r) (hn : n ≤ w.heap.size) (hr : ∀ k, r = some k → n ≤ k) : Below n w w' :=
  ⟨h.os, h.tape, h.output, h.size, fun k hk => h.block k (by omega) (fun e => by have := hr k e.symm; omega)⟩

set_option maxRecDepth 100000 in
set_option maxHeartbeats 1000000 in
theorem markTx_own (base g n cap k : Nat) (ys0 : List Value) (w : World) (hk : 0 < k) (hkn : k + n ≤ 100000000) (ho : Hid (w.ownsRow base 9 1 (.slice (some ⟨g, 0, none⟩) n cap) n ys0)) :
    Calls Tryz.prog 34 #[.slice (some ⟨g, 0, none⟩) n cap, .int .i64 (k : Int)] w fun e w' => e = .returned (.int .i64 ((k + n : Nat) : Int)) ∧ w.grownBy w' (some g) ∧ w'.ownsRow base 9 1 (.slice (some ⟨g, 0, none⟩) n cap) n (txC (mkS k n)) := by
  go_enter Tryz.func34, Tryz.ntmps34
  go_wp2_with fail
  go_loopw [1, 5] (fun kv iv wr => ∃ i : Nat, iv = .int .i64 (i : Int) ∧ i ≤ n ∧ kv = .int .i64 ((k + i : Nat) : Int) ∧ Hid (w.grownBy wr (some g) ∧ ∃ ys, DoneTo (txC (mkS k n)) i ys ∧ wr.ownsRow base 9 1 (.slice (some ⟨g, 0, none⟩) n cap) n ys)) (fun _ iv _ => n - (intOf iv).toNat)
  case atStart => exact ⟨0, rfl, by omega, rfl, gb_refl _ _, ys0, ⟨by rw [txC_length, mkS_length]; have := ho.out.1; omega, fun j hj => by omega⟩, ho.out⟩
  case round =>
    obtain ⟨i, rfl, hi, rfl, hI⟩ := hrel
    by_cases hlt : i < n
    · have hks : 0 < k + i := by omega
      have hkb : k + i ≤ 100000000 := by omega
      have hnext : k + i + 1 = k + (i + 1) := by omega
      have HG := Lib.hid (show (txC (mkS k n))[i]? = some (.string (mkT (k + i))) by rw [txC_get _ _ (by rw [mkS_length]; exact hlt), mkS_get k n i hlt])
      generalize hki : k + i = ki at hks hkb hnext HG
      have Hki := Lib.hid hki
      clear hki
      go_wp2_with fail
      refine (mkText_pos ki _ hks hkb).mono ?_
      rintro e w2 ⟨rfl, hB2⟩
      obtain ⟨hB, ys, hf, ho1⟩ := hI.out
      have ho2 := own_below ho1 hB2
      obtain ⟨x0, f0, _, hxl⟩ := own_cell ho2 i (by omega)
      rw [List.getElem?_eq_getElem (by omega)] at x0
      generalize ys[i]'(by omega) = y0 at x0
      have HN : Hid (w.grownBy (w2.setCell ⟨g, i, none⟩ (.string (mkT ki))) (some g) ∧ ∃ ys, DoneTo (txC (mkS k n)) (i + 1) ys ∧ (w2.setCell ⟨g, i, none⟩ (.string (mkT ki))).ownsRow base 9 1 (.slice (some ⟨g, 0, none⟩) n cap) n ys) :=
        ⟨(hB.trans (gb_below hB2 _)).trans (gb_set _ _ _ _), _, hf.next HG.out, own_set ho2 _ _⟩
      clear ho1 ho2 hf hI hB hB2 hxl
      generalize mkT ki = x at HN
      go_wp2
      exact ⟨⟨i + 1, by go_num, by omega, by rw [← hnext]; go_num, HN⟩, by simp [intOf]; omega⟩
    · obtain rfl : i = n := by omega
      go_wp2
      go_ret
      obtain ⟨hB, ys, hf, ho1⟩ := hI.out
      rw [hf.all (by rw [txC_length, mkS_length]; omega)] at ho1
      exact ⟨rfl, hB, ho1⟩

set_option maxHeartbeats 400000 in
theorem markTx_nil (k : Nat) (w : World) :
    Calls Tryz.prog 34 #[.slice none 0 0, .int .i64 (k : Int)] w fun e w' => e = .returned (.int .i64 (k : Int)) ∧ w = w' := by
  go_enter Tryz.func34, Tryz.ntmps34
  go_wp2_with fail
  go_loop [1, 5] (fun kv iv => kv = .int .i64 (k : Int) ∧ iv = .int .i64 0) (fun _ _ => 0)
  case atStart => exact ⟨rfl, rfl⟩
  case round =>
    obtain ⟨rfl, rfl⟩ := hrel
    go_wp2
    go_ret
    exact ⟨rfl, rfl⟩
/-- MARKED: what was marked, and that nothing but its own row has turned. -/
theorem markTx_any (base k : Nat) (v : Value) (xs : List ByteArray) (w : World) (hk : 0 < k) (hkn : k + xs.length ≤ 100000000) (ho : OwnTx w base v xs) :
    Calls Tryz.prog 34 #[v, .int .i64 (k : Int)] w fun e w' => e = .returned (.int .i64 ((k + xs.length : Nat) : Int)) ∧ w.grownBy w' v.ownBlock ∧ OwnTx w' base v (mkS k xs.length) := by
  have ho' := ho
  unfold OwnTx
  rw [mkS_length]
  rcases ho.2 with ⟨rfl, hn⟩ | ⟨g, cap, cur, rfl, hb, _⟩
  · rw [hn]
    refine (markTx_nil k w).mono ?_
    rintro e w' ⟨rfl, rfl⟩
    exact ⟨rfl, gb_refl _ _, ⟨rfl, .inl ⟨rfl, rfl⟩⟩⟩
  · exact markTx_own base g xs.length cap k _ w hk hkn ho'
set_option maxRecDepth 100000 in
set_option maxHeartbeats 1000000 in
theorem heldTx_any (a : Option Addr) (n cap k : Nat) (w : World) (hk : 0 < k) (hkn : k + n ≤ 100000000) (ha : Hid (TxAt w a (mkS k n))) :
    Calls Tryz.prog 38 #[.slice a n cap, .int .i64 (k : Int)] w fun e w' => e = .returned (.int .i64 ((k + n : Nat) : Int)) ∧ Below w.heap.size w w' := by
  go_enter Tryz.func38, Tryz.ntmps38
  go_wp2_with fail
  go_loopw [1, 5] (fun kv iv wr => ∃ i : Nat, iv = .int .i64 (i : Int) ∧ i ≤ n ∧ kv = .int .i64 ((k + i : Nat) : Int) ∧ Hid (Below w.heap.size w wr)) (fun _ iv _ => n - (intOf iv).toNat)
  case atStart => exact ⟨0, rfl, by omega, rfl, Below.refl _ _⟩
  case round =>
    obtain ⟨i, rfl, hi, rfl, hB⟩ := hrel
    by_cases hlt : i < n
    · obtain ⟨b, off, rfl, hc⟩ := (ha.out.below hB.out).resolve_left (fun e => by have := mkS_length k n; rw [e] at this; simp at this; omega)
      have hck := hc i (by rw [mkS_length]; exact hlt)
      rw [mkS_get k n i hlt] at hck
      clear hc
      have hks : 0 < k + i := by omega
      have hkb : k + i ≤ 100000000 := by omega
      have hnext : k + i + 1 = k + (i + 1) := by omega
      generalize k + i = ki at hks hkb hnext hck
      have HM := Lib.hid (fun W => mkText_pos ki W hks hkb)
      generalize mkT ki = x at hck HM
      have g1 := cell_regrown hck
      clear hck
      have i1 : (i : Int) < (n : Int) := by omega
      have i0 : (0 : Int) ≤ (i : Int) := by omega
      go_wp2_with fail
      refine wp_region_quiet_below (by kernel_rfl) (by kernel_rfl) ?_
      repeat (go_big_quiet_step ((go_at_call 58; with_reducible exact Calls.regrown_of (HM.out _))))
      refine wpQuiet_nil ?_
      intro w9 hw9
      have HB9 : Hid (Below w.heap.size w w9) := by obtain ⟨p, rfl⟩ := hw9; exact rg_below hB.out _ _
      clear hw9
      go_wp2
      exact ⟨⟨i + 1, by go_num, by omega, by rw [← hnext]; go_num, HB9⟩, by simp [intOf]; omega⟩
    · obtain rfl : i = n := by omega
      go_wp2
      go_ret
      exact ⟨rfl, hB.out⟩

end Go.Proofs.YtceielkcplcccaaGreatDoor
