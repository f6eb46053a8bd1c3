/- All pointers of volumes that lie in older memory, of both sides. Conditions: none but the row's own bound on sizes. The reader of drawn codes: what pick answers lies in its range, and only the reader's own block turns. Conditions: the reader's place is below a million. -/
import Derived.Test.YtliadobopideaaaGreatDoorPKS5
import Derived.WalkKit
import Derived.Lib.Hide
import Derived.Deep.QuietTactic
import Derived.BigQuiet
import Derived.RangeFuncBox
import Derived.Laws.BitsAllLaws
import Derived.Test.YtliadobopideaaaGreatDoorRows
namespace Go.Proofs.YtliadobopideaaaGreatDoor
open Go.RowKit Go.Sort

set_option maxRecDepth 100000 in
set_option maxHeartbeats 2000000 in
theorem ptrsOf_at (a : Option Addr) (cap : Nat) (vs : List VolD) (w0 w : World) (hT : Hid (Threes vs)) (hZ : Hid (Below w0.heap.size w0 w)) (hx : Hid (VolsAt w0 a vs)) :
    Calls Tryz.prog 36 #[.slice a vs.length cap] w fun e w' => ∃ v xs, e = .returned v ∧ w'.ownsRow w.heap.size 54 3 v (allOf vs).length xs ∧ PtRow w0 (allOf vs) xs ∧ Below w.heap.size w w' := by
  obtain ⟨i0, hi0, hz0, hz1, hz2⟩ := info_parts infoPt
  have hn := hT.out.1
  go_enter Tryz.func36, Tryz.ntmps36
  go_wp2_with fail
  go_loopw [3, 8] (fun o i wr => ∃ k : Nat, i = .int .i64 (k : Int) ∧ k ≤ vs.length ∧ Hid (Below w.heap.size w wr) ∧ Hid (∃ xs, wr.ownsRow w.heap.size 54 3 o (k * 3) xs ∧ PtRow w0 (allTo vs k) xs)) (fun _ i _ => vs.length - (intOf i).toNat)
  case atStart => exact ⟨0, rfl, by omega, Below.refl _ _, [], World.ownsRow_nil _ _ _ _, PtRow.nil _⟩
  case round =>
    obtain ⟨k, rfl, hk, hB, hO⟩ := hrel
    by_cases hlt : k < vs.length
    · obtain ⟨b, off, rfl, hc⟩ := hx.out.resolve_left (fun e => by subst e; simp at hlt)
      obtain ⟨c0, u1, c1, hu1⟩ := hc k hlt
      have h3 := hT.out.2 k hlt
      have Hs := Lib.hid (allTo_succ vs k hlt)
      clear hc
      generalize vs.getD k vol0 = q at c0 hu1 h3 Hs
      obtain ⟨nm, qs⟩ := q
      simp only at c0 hu1 h3 Hs
      obtain ⟨a1, cap1, rfl, hcap1, hcm1, hat1⟩ := hu1
      rw [h3] at c1 hcap1
      obtain ⟨b1, o1, rfl, _⟩ := hat1.resolve_left (fun e => by subst e; simp at h3)
      obtain ⟨xs, hown, hrow⟩ := hO.out
      obtain ⟨news, hnrow, hnew0⟩ := ptRow_of hat1
      have hBa : Below wr.heap.size wr (wr.alloc (.cells #[.string nm, .slice (some ⟨b1, o1, none⟩) 3 cap1] 51)) := (Below.refl _ _).alloc (Nat.le_refl _) _
      have HB1 := Lib.hid (hB.out.trans (hBa.mono hB.out.size))
      have hnews : ∀ j u, news[j]? = some u → (wr.alloc (.cells #[.string nm, .slice (some ⟨b1, o1, none⟩) 3 cap1] 51)).cell? ((⟨b1, o1, none⟩ : Addr).add j) = some u := fun j u h => by
        have := hnew0 j u h
        exact ((hZ.out.trans (HB1.out.mono hZ.out.size)).cell (World.block_lt_of_cell? w0 _ this)).trans this
      have hnl : news.length = 9 := by have := hnrow.1; rw [h3] at this; exact this
      have hown' := own_below hown hBa
      have HR : Hid (PtRow w0 (allTo vs (k + 1)) (xs ++ news)) := by rw [Hs.out]; exact hrow.append hnrow
      have Hlk : Hid (∀ i, u3.ownBlock = some i → w.heap.size ≤ i) := fun i e => (hown.lt i e).1
      have hsz : w.heap.size ≤ wr.heap.size := hB.out.size
      have hone := hnrow.oneCell
      have c0' := cell_below (hZ.out.trans (hB.out.mono hZ.out.size)) c0
      have c1' := cell_below (hZ.out.trans (hB.out.mono hZ.out.size)) c1
      clear hBa hown hrow hO hnew0 hat1 h3 hnrow c0 c1
      have HX : Hid (∀ w4 : World, (wr.alloc (.cells #[.string nm, .slice (some ⟨b1, o1, none⟩) 3 cap1] 51)).grownBy w4 u3.ownBlock → Below w.heap.size w w4) := fun w4 hg => HB1.out.grown hg (by have := hB.out.size; simp; omega) Hlk.out
      go_wp2_with (at_builtin; refine wpList_append_lies _ rfl _ _ 49 rfl w.heap.size 54 i0 _ 3 40 Tryz.underlying49 hi0 hz0 hz1 hz2 rfl (by omega) _ (k * 3) xs rfl hown' ⟨b1, o1, none⟩ 3 cap1 news rfl hnl hnews hone (by omega) (by simp [maxLen]; omega) (by omega) (by simp; omega) _ rfl ?_; intro g cap w4 hown4 hgrow4 hat4 hlt4)
      exact ⟨⟨k + 1, by go_num, by omega, HX.out w4 hgrow4, xs ++ news, by rw [show (k + 1) * 3 = k * 3 + 3 by omega]; exact hown4, HR.out⟩, by simp [intOf]; omega⟩
    · obtain rfl : k = vs.length := by omega
      go_wp2
      go_ret
      obtain ⟨xs, hown, hrow⟩ := hO.out
      refine ⟨_, xs, rfl, ?_, ?_, hB.out⟩
      · rw [← allTo_all vs vs.length (Nat.le_refl _), allTo_length hT.out _ (Nat.le_refl _)]; exact hown
      · rw [← allTo_all vs vs.length (Nat.le_refl _)]; exact hrow

set_option maxRecDepth 100000 in
set_option maxHeartbeats 2000000 in
theorem l2All_at (t : Int) (a : Option Addr) (cap : Nat) (vs : List VolD) (w0 w : World) (hT : Hid (Threes vs)) (hZ : Hid (Below w0.heap.size w0 w)) (hx : Hid (VolsAt w0 a vs)) :
    Calls Tryz.prog 75 #[.agg #[.int .i64 t, .slice a vs.length cap]] w fun e w' => ∃ v xs, e = .returned v ∧ w'.ownsRow w.heap.size 54 3 v (allOf vs).length xs ∧ PtRow w0 (allOf vs) xs ∧ Below w.heap.size w w' := by
  obtain ⟨i0, hi0, hz0, hz1, hz2⟩ := info_parts infoPt
  have hn := hT.out.1
  have hB0 : Below w.heap.size w (w.alloc (.cells #[.int .i64 t, .slice a vs.length cap] 25)) := (Below.refl _ _).alloc (Nat.le_refl _) _
  have HB0 := Lib.hid hB0
  have Hc : Hid ((w.alloc (.cells #[.int .i64 t, .slice a vs.length cap] 25)).cell? ⟨w.heap.size, 1, none⟩ = some (.slice a vs.length cap)) := by
    show (w.alloc (.cells #[.int .i64 t, .slice a vs.length cap] 25)).cell? ⟨w.heap.size, 1, none⟩ = _
    rw [World.cell?_alloc_mark]; rfl
  have hs1 : (w.alloc (.cells #[.int .i64 t, .slice a vs.length cap] 25)).heap.size = w.heap.size + 1 := by simp
  have Hs1 := Lib.hid hs1
  clear hB0 hs1
  go_enter Tryz.func75, Tryz.ntmps75
  go_wp2_with fail
  generalize w.alloc (.cells #[.int .i64 t, .slice a vs.length cap] 25) = w1 at HB0 Hc Hs1 ⊢
  have Hown0 := Lib.hid (World.ownsRow_made (e := 54) (size := 3) w1 #[] 0 (Nat.le_refl _) (by simp [maxLen]) (by simp))
  have HBm : Hid (Below w1.heap.size w1 (w1.alloc (.cells #[] 54))) := (Below.refl _ _).alloc (Nat.le_refl _) _
  rw [← Hs1.out]
  go_loopw [3, 4] (fun o i wr => ∃ k : Nat, i = .int .i64 (k : Int) ∧ k ≤ vs.length ∧ Hid (Below w1.heap.size w1 wr) ∧ Hid (∃ xs, wr.ownsRow w1.heap.size 54 3 o (k * 3) xs ∧ PtRow w0 (allTo vs k) xs)) (fun _ i _ => vs.length - (intOf i).toNat)
  case atStart => exact ⟨0, rfl, by omega, HBm, [], Hown0.out, PtRow.nil _⟩
  case round =>
    obtain ⟨k, rfl, hk, hB, hO⟩ := hrel
    have cb := cell_below hB.out Hc.out
    have HBw := Lib.hid (HB0.out.trans (hB.out.mono HB0.out.size))
    by_cases hlt : k < vs.length
    · obtain ⟨b, off, rfl, hc⟩ := hx.out.resolve_left (fun e => by subst e; simp at hlt)
      obtain ⟨c0, u1, c1, hu1⟩ := hc k hlt
      have h3 := hT.out.2 k hlt
      have Hs := Lib.hid (allTo_succ vs k hlt)
      clear hc
      generalize vs.getD k vol0 = q at c0 hu1 h3 Hs
      obtain ⟨nm, qs⟩ := q
      simp only at c0 hu1 h3 Hs
      obtain ⟨a1, cap1, rfl, hcap1, hcm1, hat1⟩ := hu1
      rw [h3] at c1 hcap1
      obtain ⟨b1, o1, rfl, _⟩ := hat1.resolve_left (fun e => by subst e; simp at h3)
      obtain ⟨xs, hown, hrow⟩ := hO.out
      obtain ⟨news, hnrow, hnew0⟩ := ptRow_of hat1
      have hnews : ∀ j u, news[j]? = some u → wr.cell? ((⟨b1, o1, none⟩ : Addr).add j) = some u := fun j u h => by
        have := hnew0 j u h
        exact ((hZ.out.trans (HBw.out.mono hZ.out.size)).cell (World.block_lt_of_cell? w0 _ this)).trans this
      have hnl : news.length = 9 := by have := hnrow.1; rw [h3] at this; exact this
      have HR : Hid (PtRow w0 (allTo vs (k + 1)) (xs ++ news)) := by rw [Hs.out]; exact hrow.append hnrow
      have Hlk : Hid (∀ i, u3.ownBlock = some i → w1.heap.size ≤ i) := fun i e => (hown.lt i e).1
      have hsz : w1.heap.size ≤ wr.heap.size := hB.out.size
      have hone := hnrow.oneCell
      have c1' := cell_below (hZ.out.trans (HBw.out.mono hZ.out.size)) c1
      clear hrow hO hnew0 hat1 h3 hnrow c0 c1
      have HX : Hid (∀ w4 : World, wr.grownBy w4 u3.ownBlock → Below w1.heap.size w1 w4) := fun w4 hg => hB.out.grown hg hB.out.size Hlk.out
      go_wp2_with (at_builtin; refine wpList_append_lies _ rfl _ _ 49 rfl w1.heap.size 54 i0 _ 3 40 Tryz.underlying49 hi0 hz0 hz1 hz2 rfl (by omega) _ (k * 3) xs rfl hown ⟨b1, o1, none⟩ 3 cap1 news rfl hnl hnews hone (by omega) (by simp [maxLen]; omega) (by omega) (by omega) _ rfl ?_; intro g cap w4 hown4 hgrow4 hat4 hlt4)
      exact ⟨⟨k + 1, by go_num, by omega, HX.out w4 hgrow4, xs ++ news, by rw [show (k + 1) * 3 = k * 3 + 3 by omega]; exact hown4, HR.out⟩, by simp [intOf]; omega⟩
    · obtain rfl : k = vs.length := by omega
      go_wp2
      go_ret
      obtain ⟨xs, hown, hrow⟩ := hO.out
      refine ⟨_, xs, rfl, ?_, ?_, HBw.out⟩
      · rw [← allTo_all vs vs.length (Nat.le_refl _), allTo_length hT.out _ (Nat.le_refl _)]; exact own_mono hown HB0.out.size
      · rw [← allTo_all vs vs.length (Nat.le_refl _)]; exact hrow

end Go.Proofs.YtliadobopideaaaGreatDoor

namespace Go.Proofs.YtliadobopideaaaGreatDoor
open Go.RowKit

/-- A READER AT BLOCK B, its place p, over bytes that lie below n₀. -/
def Rd (n₀ B p : Nat) (w : World) : Prop :=
  n₀ ≤ B ∧ ∃ (a : Option Addr) (len cap : Nat) (zs : Nat → Int), w.heap[B]? = some (.cells #[.slice a len cap, .int .i64 (p : Int)] 105 (0, 0)) ∧ len ≤ 2000 ∧ (∀ i, 0 ≤ zs i ∧ zs i ≤ 255) ∧
    (len = 0 ∨ ∃ b off, a = some ⟨b, off, none⟩ ∧ b < n₀ ∧ ∀ i, i < len → w.cell? ⟨b, off + i, none⟩ = some (.int .u8 (zs i)))

/-- WHAT pick ANSWERS. -/
def Picked (n₀ B p : Nat) (n : Int) (w : World) (e : Ending) (w' : World) : Prop :=
  ∃ v : Int, e = .returned (.int .i64 v) ∧ 0 ≤ v ∧ (1 ≤ n → v < n) ∧ Rd n₀ B (p + 1) w' ∧ w.grownBy w' (some B)

theorem i64_xor_nat (a b : Nat) (ha : a < 9223372036854775808) (hb : b < 9223372036854775808) : bits .xor .i64 (a : Int) (b : Int) = ((a ^^^ b : Nat) : Int) := by
  have hx : a ^^^ b < 2 ^ 63 := Nat.xor_lt_two_pow (by omega) (by omega)
  show IntKind.i64.wrap ((BitVec.ofInt 64 (a : Int) ^^^ BitVec.ofInt 64 (b : Int)).toNat : Int) = _
  rw [BitVec.toNat_xor, ofInt_u64 a (by omega), ofInt_u64 b (by omega)]
  simp [IntKind.wrap, IntKind.bits, IntKind.signed]
  omega

theorem mix_bd (x n : Int) (hx : 0 ≤ x ∧ x ≤ 4611686018427387904) (hn : 1 ≤ n) :
    0 ≤ (bits BinOp.xor IntKind.i64 (wrap64 x) (wrap64 ((wrap64 x).tdiv 64))).tmod n ∧ (bits BinOp.xor IntKind.i64 (wrap64 x) (wrap64 ((wrap64 x).tdiv 64))).tmod n < n := by
  have h1 : wrap64 x = x := by unfold wrap64; omega
  rw [h1]
  obtain ⟨X, rfl⟩ := Int.eq_ofNat_of_zero_le hx.1
  have h2 : (X : Int).tdiv 64 = ((X / 64 : Nat) : Int) := by rw [Int.tdiv_eq_ediv_of_nonneg hx.1]; omega
  have h3 : wrap64 ((X / 64 : Nat) : Int) = ((X / 64 : Nat) : Int) := by unfold wrap64; omega
  rw [h2, h3, i64_xor_nat X (X / 64) (by omega) (by omega), Int.tmod_eq_emod_of_nonneg (by omega)]
  exact ⟨Int.emod_nonneg _ (by omega), Int.emod_lt_of_pos _ (by omega)⟩

theorem mix_in (z y : Int) (p len : Nat) (hz : 0 ≤ z ∧ z ≤ 255) (hy : 0 ≤ y ∧ y ≤ 255) (hp : p ≤ 1000000) (hlm : len ≤ 2000) (hl0 : 0 < len) :
    0 ≤ z * 131 + y * 1117 + (p : Int) * 29 + wrap64 (wrap64 ((p : Int) / (len : Int)) * 53) ∧ z * 131 + y * 1117 + (p : Int) * 29 + wrap64 (wrap64 ((p : Int) / (len : Int)) * 53) ≤ 4611686018427387904 := by
  have a : 0 ≤ (p : Int) / (len : Int) := Int.ediv_nonneg (by omega) (by omega)
  have b : (p : Int) / (len : Int) ≤ p := Int.ediv_le_self _ (by omega)
  generalize (p : Int) / (len : Int) = q at a b ⊢
  have h1 : wrap64 q = q := by unfold wrap64; omega
  have h2 : wrap64 (q * 53) = q * 53 := by unfold wrap64; omega
  rw [h1, h2]
  omega

theorem grownBy_setCellAt (w : World) (B o : Nat) (v : Value) : w.grownBy (w.setCell ⟨B, o, none⟩ v) (some B) :=
  ⟨rfl, rfl, rfl, by simp [World.setCell], fun k _ h => Below.heap_setCell _ _ _ _ (fun e => h (by rw [e]))⟩

theorem Rd.drewN {n₀ B p : Nat} {w : World} (h : Rd n₀ B p w) (d : Nat) : Rd n₀ B p (w.drewN d) := by
  obtain ⟨hB, a, len, cap, zs, hblk, hlm, hz, hcs⟩ := h
  refine ⟨hB, a, len, cap, zs, by simpa using hblk, hlm, hz, ?_⟩
  rcases hcs with h | ⟨b, off, rfl, hb, hc⟩
  · exact .inl h
  · exact .inr ⟨b, off, rfl, hb, fun i hi => by simpa using hc i hi⟩

theorem grownBy_drewN {w w' : World} {r : Option Nat} (h : w.grownBy w' r) (d : Nat) : w.grownBy (w'.drewN d) r := ⟨h.os, h.tape, h.output, h.size, h.block⟩

set_option maxRecDepth 100000 in
set_option maxHeartbeats 1000000 in
theorem pick_low (B p : Nat) (n : Int) (w : World) (hp : p ≤ 1000000) (hn : n < 1)
    (h1 : w.cell? ⟨B, 1, none⟩ = some (.int .i64 (p : Int))) (hf : w.frozen? ⟨B, 1, none⟩ = false) :
    Calls Tryz.prog 40 #[.pointer (some ⟨B, 0, none⟩), .int .i64 n] w fun e w' => e = .returned (.int .i64 0) ∧ w.setCell ⟨B, 1, none⟩ (.int .i64 ((p : Int) + 1)) = w' := by
  go_enter Tryz.func40, Tryz.ntmps40
  go_wp2
  go_ret
  exact ⟨rfl, rfl⟩

set_option maxRecDepth 100000 in
set_option maxHeartbeats 1000000 in
theorem pick_none (B p : Nat) (a : Option Addr) (cap : Nat) (n : Int) (w : World) (hp : p ≤ 1000000) (hn : 1 ≤ n)
    (h0 : w.cell? ⟨B, 0, none⟩ = some (.slice a 0 cap)) (h1 : w.cell? ⟨B, 1, none⟩ = some (.int .i64 (p : Int))) (hf : w.frozen? ⟨B, 1, none⟩ = false) :
    Calls Tryz.prog 40 #[.pointer (some ⟨B, 0, none⟩), .int .i64 n] w fun e w' => e = .returned (.int .i64 0) ∧ w.setCell ⟨B, 1, none⟩ (.int .i64 ((p : Int) + 1)) = w' := by
  have hd : decide (n < 1) = false := by simp; omega
  go_enter Tryz.func40, Tryz.ntmps40
  go_wp2
  go_ret
  exact ⟨rfl, rfl⟩

set_option maxRecDepth 100000 in
set_option maxHeartbeats 1000000 in
theorem pick_in (B p : Nat) (b off len cap : Nat) (n z : Int) (w : World) (hp : p ≤ 1000000) (hn : 1 ≤ n) (hl : p < len) (hz : 0 ≤ z ∧ z ≤ 255)
    (h0 : w.cell? ⟨B, 0, none⟩ = some (.slice (some ⟨b, off, none⟩) len cap)) (h1 : w.cell? ⟨B, 1, none⟩ = some (.int .i64 (p : Int))) (hf : w.frozen? ⟨B, 1, none⟩ = false)
    (hc : (w.setCell ⟨B, 1, none⟩ (.int .i64 ((p : Int) + 1))).cell? ⟨b, off + p, none⟩ = some (.int .u8 z)) :
    Calls Tryz.prog 40 #[.pointer (some ⟨B, 0, none⟩), .int .i64 n] w fun e w' => e = .returned (.int .i64 (z % n)) ∧ w.setCell ⟨B, 1, none⟩ (.int .i64 ((p : Int) + 1)) = w' := by
  have hd : decide (n < 1) = false := by simp; omega
  have he : ((len : Int) == 0) = false := by simp; omega
  go_enter Tryz.func40, Tryz.ntmps40
  go_wp2
  go_ret
  exact ⟨rfl, rfl⟩

set_option maxRecDepth 100000 in
set_option maxHeartbeats 1000000 in
theorem pick_past (B p : Nat) (b off len cap i j : Nat) (n z y : Int) (w : World) (hp : p ≤ 1000000) (hn : 1 ≤ n) (hl : len ≤ p) (hl0 : 0 < len) (hlm : len ≤ 2000) (hz : 0 ≤ z ∧ z ≤ 255) (hy : 0 ≤ y ∧ y ≤ 255)
    (h0 : w.cell? ⟨B, 0, none⟩ = some (.slice (some ⟨b, off, none⟩) len cap)) (h1 : w.cell? ⟨B, 1, none⟩ = some (.int .i64 (p : Int))) (hf : w.frozen? ⟨B, 1, none⟩ = false)
    (hi : (p : Int) % (len : Int) = (i : Int)) (hj : ((p : Int) * 7 + 3) % (len : Int) = (j : Int)) (hil : i < len) (hjl : j < len)
    (hc : (w.setCell ⟨B, 1, none⟩ (.int .i64 ((p : Int) + 1))).cell? ⟨b, off + i, none⟩ = some (.int .u8 z))
    (hc' : (w.setCell ⟨B, 1, none⟩ (.int .i64 ((p : Int) + 1))).cell? ⟨b, off + j, none⟩ = some (.int .u8 y)) :
    Calls Tryz.prog 40 #[.pointer (some ⟨B, 0, none⟩), .int .i64 n] w fun e w' => (∃ v : Int, e = .returned (.int .i64 v) ∧ 0 ≤ v ∧ v < n) ∧ ∃ d, w' = (w.setCell ⟨B, 1, none⟩ (.int .i64 ((p : Int) + 1))).drewN d := by
  have hd : decide (n < 1) = false := by simp; omega
  have he : ((len : Int) == 0) = false := by simp; omega
  go_enter Tryz.func40, Tryz.ntmps40
  go_wp2
  go_quiet (fail)
  go_wp2
  have Hm := mix_bd (z * 131 + y * 1117 + (p : Int) * 29 + wrap64 (wrap64 ((p : Int) / (len : Int)) * 53)) n (mix_in z y p len hz hy hp hlm hl0) hn
  generalize ((bits BinOp.xor IntKind.i64 (wrap64 (z * 131 + y * 1117 + (p : Int) * 29 + wrap64 (wrap64 ((p : Int) / (len : Int)) * 53)))
                  (wrap64 ((wrap64 (z * 131 + y * 1117 + (p : Int) * 29 + wrap64 (wrap64 ((p : Int) / (len : Int)) * 53))).tdiv 64))).tmod n) = v at Hm ⊢
  go_ret
  exact ⟨⟨v, rfl, Hm.1, Hm.2⟩, nq, rfl⟩

/-- THE STORE INTO THE READER'S PLACE. -/
theorem Rd.turn {B p : Nat} {w : World} {v0 : Value} (hb : w.heap[B]? = some (.cells #[v0, .int .i64 (p : Int)] 105 (0, 0))) :
    (w.setCell ⟨B, 1, none⟩ (.int .i64 ((p : Int) + 1))).heap[B]? = some (.cells #[v0, .int .i64 ((p + 1 : Nat) : Int)] 105 (0, 0)) := by
  obtain ⟨hlt, hk⟩ := Array.getElem?_eq_some_iff.1 hb
  show (w.heap.modify B _)[B]? = _
  rw [Array.getElem?_eq_getElem (by rw [Array.size_modify]; exact hlt), Array.getElem_modify_self, hk]
  simp

theorem heap_drewN (w : World) (d : Nat) : (w.drewN d).heap = w.heap := by simp

theorem pick_any (n₀ B p : Nat) (n : Int) (w : World) (hp : p ≤ 1000000) (hR : Rd n₀ B p w) :
    Calls Tryz.prog 40 #[.pointer (some ⟨B, 0, none⟩), .int .i64 n] w (Picked n₀ B p n w) := by
  obtain ⟨hB, a, len, cap, zs, hblk, hlm, hz, hcs⟩ := hR
  have h0 : w.cell? ⟨B, 0, none⟩ = some (.slice a len cap) := by simp [World.cell?, hblk]
  have h1 : w.cell? ⟨B, 1, none⟩ = some (.int .i64 (p : Int)) := by simp [World.cell?, hblk]
  have hf : w.frozen? ⟨B, 1, none⟩ = false := by simp [World.frozen?, hblk]
  have hR' : Rd n₀ B (p + 1) (w.setCell ⟨B, 1, none⟩ (.int .i64 ((p : Int) + 1))) := by
    refine ⟨hB, a, len, cap, zs, Rd.turn hblk, hlm, hz, ?_⟩
    rcases hcs with h | ⟨b, off, rfl, hb, hc⟩
    · exact .inl h
    · exact .inr ⟨b, off, rfl, hb, fun i hi => (World.cell?_of_block (Below.heap_setCell _ _ _ _ (by simp; omega))).trans (hc i hi)⟩
  have hg : w.grownBy (w.setCell ⟨B, 1, none⟩ (.int .i64 ((p : Int) + 1))) (some B) := grownBy_setCellAt w B 1 _
  have fin : ∀ (v : Int) (w' : World), (∃ d, w' = (w.setCell ⟨B, 1, none⟩ (.int .i64 ((p : Int) + 1))).drewN d) → 0 ≤ v → (1 ≤ n → v < n) → Picked n₀ B p n w (.returned (.int .i64 v)) w' := by
    rintro v w' ⟨d, rfl⟩ hv hvn
    exact ⟨v, rfl, hv, hvn, hR'.drewN d, grownBy_drewN hg d⟩
  by_cases hn : n < 1
  · refine (pick_low B p n w hp hn h1 hf).mono ?_
    rintro e w' ⟨rfl, rfl⟩
    exact fin 0 _ ⟨0, rfl⟩ (by omega) (by omega)
  · rcases hcs with rfl | ⟨b, off, rfl, hb, hc⟩
    · refine (pick_none B p a cap n w hp (by omega) h0 h1 hf).mono ?_
      rintro e w' ⟨rfl, rfl⟩
      exact fin 0 _ ⟨0, rfl⟩ (by omega) (by omega)
    · have hcc : ∀ i, i < len → (w.setCell ⟨B, 1, none⟩ (.int .i64 ((p : Int) + 1))).cell? ⟨b, off + i, none⟩ = some (.int .u8 (zs i)) := fun i hi =>
        (World.cell?_of_block (Below.heap_setCell _ _ _ _ (by simp; omega))).trans (hc i hi)
      by_cases hl : p < len
      · refine (pick_in B p b off len cap n (zs p) w hp (by omega) hl (hz p) h0 h1 hf (hcc p hl)).mono ?_
        rintro e w' ⟨rfl, rfl⟩
        exact fin _ _ ⟨0, rfl⟩ (Int.emod_nonneg _ (by omega)) (fun _ => Int.emod_lt_of_pos _ (by omega))
      · by_cases hl0 : len = 0
        · subst hl0
          refine (pick_none B p _ cap n w hp (by omega) h0 h1 hf).mono ?_
          rintro e w' ⟨rfl, rfl⟩
          exact fin 0 _ ⟨0, rfl⟩ (by omega) (by omega)
        · have hi : p % len < len := Nat.mod_lt _ (by omega)
          have hj : (p * 7 + 3) % len < len := Nat.mod_lt _ (by omega)
          refine (pick_past B p b off len cap (p % len) ((p * 7 + 3) % len) n (zs _) (zs _) w hp (by omega) (by omega) (by omega) hlm (hz _) (hz _) h0 h1 hf (by push_cast; rfl) (by push_cast; rfl) hi hj (hcc _ hi) (hcc _ hj)).mono ?_
          rintro e w' ⟨⟨v, rfl, hv⟩, hd⟩
          exact fin v _ hd hv.1 (fun _ => hv.2)

end Go.Proofs.YtliadobopideaaaGreatDoor
