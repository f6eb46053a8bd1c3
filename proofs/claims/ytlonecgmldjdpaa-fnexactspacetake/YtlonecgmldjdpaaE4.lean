/- The exact laws' own marks on the copies that a function was given. Conditions: the row's own bound on sizes. -/
import Derived.Test.YtlonecgmldjdpaaE3
namespace Go.Proofs.Ytlonecgmldjdpaa
open Go.RowKit Go.Sort

set_option maxRecDepth 100000 in
set_option maxHeartbeats 1000000 in
theorem markPlaceS_mk (lo hi : Nat) (a : Option Addr) (n cap k : Nat) (w : World) (_hlo : lo ≤ w.heap.size) (hk : k + n * 2 ≤ 9000000000000000000) (hs : Hid (PlSh w lo hi a n)) :
    Calls Try.prog 29 #[.slice a n cap, .int .i64 (k : Int)] w fun e w' => e = .returned (.int .i64 ((k + n * 2 : Nat) : Int)) ∧ Mk lo hi w w' := by
  go_enter Try.func29, Try.ntmps29
  go_wp2_with fail
  go_loopw [1, 5] (fun kv iv wr => ∃ i : Nat, iv = .int .i64 (i : Int) ∧ i ≤ n ∧ kv = .int .i64 ((k + i * 2 : Nat) : Int) ∧ Hid (Mk lo hi w wr)) (fun _ iv _ => n - (intOf iv).toNat)
  case atStart => exact ⟨0, rfl, by omega, rfl, Mk.refl _ _ _⟩
  case round =>
    obtain ⟨i, rfl, hi', rfl, hM⟩ := hrel
    by_cases hlt : i < n
    · obtain ⟨b, off, rfl, hb1, hb2, hc⟩ := (hs.out.mk hM.out).resolve_left (fun e => by omega)
      obtain ⟨⟨y0, x0, s0, f0⟩, ⟨y1, x1, s1, f1⟩⟩ := hc i hlt
      clear hc
      have hkb : k + i * 2 ≤ 8999999999999999998 := by omega
      have hnext : k + (i + 1) * 2 = k + i * 2 + 2 := by omega
      generalize k + i * 2 = ki at hkb hnext
      have HN : Hid (Mk lo hi w ((wr.setCell ⟨b, off + i * 2, none⟩ (.int .i64 (ki : Int))).setCell ⟨b, off + i * 2 + 1, none⟩ (.int .i64 ((ki : Int) + 1)))) :=
        (hM.out.set x0 s0 rfl hb1 hb2).set ((World.cell?_setCell_other _ _ _ _ (by intro e; injection e with _ e; omega)).trans x1) s1 rfl hb1 hb2
      clear s0 s1 hM
      go_wp2
      exact ⟨⟨i + 1, by go_num, by omega, by rw [hnext]; go_num, HN⟩, by simp [intOf]; omega⟩
    · obtain rfl : i = n := by omega
      go_wp2
      go_ret
      exact ⟨rfl, hM.out⟩

set_option maxRecDepth 100000 in
set_option maxHeartbeats 1000000 in
theorem markPtrS_mk (lo hi : Nat) (a : Option Addr) (n cap k : Nat) (w : World) (hlo : lo ≤ w.heap.size) (hk : k + n * 2097154 ≤ 9000000000000000000) (hs : Hid (PtSh w lo hi a n)) :
    Calls Try.prog 85 #[.slice a n cap, .int .i64 (k : Int)] w fun e w' => (∃ r : Nat, e = .returned (.int .i64 (r : Int)) ∧ k ≤ r ∧ r ≤ k + n * 2097154) ∧ Mk lo hi w w' := by
  go_enter Try.func85, Try.ntmps85
  go_wp2_with fail
  go_loopw [1, 5] (fun kv iv wr => ∃ i ki : Nat, iv = .int .i64 (i : Int) ∧ i ≤ n ∧ kv = .int .i64 (ki : Int) ∧ k ≤ ki ∧ ki ≤ k + i * 2097154 ∧ Hid (Mk lo hi w wr)) (fun _ iv _ => n - (intOf iv).toNat)
  case atStart => exact ⟨0, k, rfl, by omega, rfl, by omega, by omega, Mk.refl _ _ _⟩
  case round =>
    obtain ⟨i, ki, rfl, hi', rfl, hk1, hk2, hM⟩ := hrel
    by_cases hlt : i < n
    · obtain ⟨b, off, rfl, hb1, hb2, hc⟩ := (hs.out.mk hM.out).resolve_left (fun e => by omega)
      obtain ⟨⟨y0, x0, s0, f0⟩, ⟨y1, x1, s1, f1⟩, a', n', c', x2, hn', hsh⟩ := hc i hlt
      clear hc
      have hkb : ki + n' * 2 + 2 ≤ 9000000000000000000 := by omega
      have hst : Mk lo hi wr ((wr.setCell ⟨b, off + i * 3, none⟩ (.int .i64 (ki : Int))).setCell ⟨b, off + i * 3 + 1, none⟩ (.int .i64 ((ki : Int) + 1))) :=
        ((Mk.refl lo hi wr).set x0 s0 rfl hb1 hb2).set ((World.cell?_setCell_other _ _ _ _ (by intro e; injection e with _ e; omega)).trans x1) s1 rfl hb1 hb2
      have HN := Lib.hid (hM.out.trans hst)
      have HS := Lib.hid (hsh.mk hst)
      have hsz : lo ≤ ((wr.setCell ⟨b, off + i * 3, none⟩ (.int .i64 (ki : Int))).setCell ⟨b, off + i * 3 + 1, none⟩ (.int .i64 ((ki : Int) + 1))).heap.size := by have := HN.out.low.size; omega
      have HC := Lib.hid (markPlaceS_mk lo hi a' n' c' (ki + 2) _ hsz (by omega) HS)
      rw [show ((ki + 2 : Nat) : Int) = (ki : Int) + 2 by omega] at HC
      clear s0 s1 hM hst hsh hsz
      go_wp2_with fail
      refine HC.out.mono ?_
      rintro e w2 ⟨rfl, hm2⟩
      have HN2 := Lib.hid (HN.out.trans hm2)
      clear hm2
      have hk3 : ki + 2 + n' * 2 ≤ k + (i + 1) * 2097154 := by omega
      have hk4 : k ≤ ki + 2 + n' * 2 := by omega
      generalize ki + 2 + n' * 2 = kj at hk3 hk4
      go_wp2
      exact ⟨⟨i + 1, kj, by go_num, by omega, rfl, hk4, hk3, HN2⟩, by simp [intOf]; omega⟩
    · obtain rfl : i = n := by omega
      go_wp2
      go_ret
      exact ⟨⟨ki, rfl, hk1, hk2⟩, hM.out⟩

theorem conv_m (w : World) (z : Int) : (convert 22 9 (.slice (some ⟨w.heap.size, 0, none⟩) 1 1)).run Try.prog (w.alloc (.cells #[.int .u8 z] 5)) = .ok (.string (strOfNums [z])) (w.alloc (.cells #[.int .u8 z] 5)) := by
  refine run_convert_bytes_arg _ 22 5 Try.underlying22 Try.underlying5 w.heap.size 0 1 1 [z] rfl (fun i hi => ?_) 9 Try.underlying9
  have : i = 0 := by simp at hi; omega
  subst this
  exact news_new w (.int .u8 z) 5 w.heap.size rfl 0 _ rfl

set_option maxRecDepth 100000 in
set_option maxHeartbeats 1000000 in
theorem markText_some (k0 : Nat) (w : World) (hk0 : 0 < k0) (hb : k0 ≤ 9000000000000000000) :
    Calls Try.prog 84 #[.int .i64 (k0 : Int)] w fun e w' => (∃ t, e = .returned (.string t)) ∧ Below w.heap.size w w' := by
  have d0 : decide ((k0 : Int) ≤ 0) = false := by simp; omega
  go_enter Try.func84, Try.ntmps84
  go_wp2_with fail
  go_loopw [0, 3] (fun kv o wr => ∃ (k : Nat) (out : ByteArray), kv = .int .i64 (k : Int) ∧ o = .string out ∧ out.size + k ≤ k0 ∧ Below w.heap.size w wr) (fun kv _ _ => (intOf kv).toNat)
  case atStart => exact ⟨k0, ByteArray.empty, rfl, rfl, by simp, Below.refl _ _⟩
  case round =>
    obtain ⟨k, out, rfl, rfl, hs, hB⟩ := hrel
    by_cases hk : 0 < k
    · have hconv := conv_m wr (48 + (k : Int) % 10)
      have hz : (strOfNums [48 + (k : Int) % 10]).size = 1 := by rw [strOfNums_size]; rfl
      have hsz : (strOfNums [48 + (k : Int) % 10] ++ out).size = 1 + out.size := by rw [ByteArray.size_append, hz]
      generalize strOfNums [48 + (k : Int) % 10] = d at hconv hz hsz
      have HB2 : Hid (Below w.heap.size w (wr.alloc (.cells #[.int .u8 (48 + (k : Int) % 10)] 5))) := hB.alloc hB.size _
      go_wp2
      exact ⟨⟨k / 10, d ++ out, by go_num, rfl, by omega, HB2.out⟩, by simp [intOf]; omega⟩
    · obtain rfl : k = 0 := by omega
      go_wp2
      go_ret
      exact ⟨⟨_, rfl⟩, hB⟩

set_option maxRecDepth 100000 in
set_option maxHeartbeats 1000000 in
theorem markVolS_mk (lo hi : Nat) (a : Option Addr) (n cap k : Nat) (w : World) (hlo : lo ≤ w.heap.size) (hk0 : 0 < k) (hk : k + n * 2199025352705 ≤ 9000000000000000000) (hs : Hid (VoSh w lo hi a n)) :
    Calls Try.prog 57 #[.slice a n cap, .int .i64 (k : Int)] w fun e w' => (∃ r : Nat, e = .returned (.int .i64 (r : Int)) ∧ k ≤ r ∧ r ≤ k + n * 2199025352705) ∧ Mk lo hi w w' := by
  go_enter Try.func57, Try.ntmps57
  go_wp2_with fail
  go_loopw [1, 5] (fun kv iv wr => ∃ i ki : Nat, iv = .int .i64 (i : Int) ∧ i ≤ n ∧ kv = .int .i64 (ki : Int) ∧ k ≤ ki ∧ ki ≤ k + i * 2199025352705 ∧ Hid (Mk lo hi w wr)) (fun _ iv _ => n - (intOf iv).toNat)
  case atStart => exact ⟨0, k, rfl, by omega, rfl, by omega, by omega, Mk.refl _ _ _⟩
  case round =>
    obtain ⟨i, ki, rfl, hi', rfl, hk1, hk2, hM⟩ := hrel
    by_cases hlt : i < n
    · have hkb : ki + 2199025352705 ≤ 9000000000000000000 := by omega
      go_wp2_with fail
      refine (markText_some ki _ (by omega) (by omega)).mono ?_
      rintro e w1 ⟨⟨t, rfl⟩, hB1⟩
      have hM1 := hM.out.below hB1 hlo
      obtain ⟨b, off, rfl, hb1, hb2, hc⟩ := (hs.out.mk hM1).resolve_left (fun e => by omega)
      obtain ⟨⟨y0, x0, s0, f0⟩, a', n', c', x2, hn', hsh⟩ := hc i hlt
      clear hc
      have hst : Mk lo hi w1 (w1.setCell ⟨b, off + i * 2, none⟩ (.string t)) := (Mk.refl lo hi w1).set x0 s0 rfl hb1 hb2
      have HN := Lib.hid (hM1.trans hst)
      have HS := Lib.hid (hsh.mk hst)
      have hsz : lo ≤ (w1.setCell ⟨b, off + i * 2, none⟩ (.string t)).heap.size := by have := HN.out.low.size; omega
      have HC := Lib.hid (markPtrS_mk lo hi a' n' c' (ki + 1) _ hsz (by omega) HS)
      rw [show ((ki + 1 : Nat) : Int) = (ki : Int) + 1 by omega] at HC
      clear s0 hM hst hsh hsz hM1 hB1
      go_wp2_with fail
      refine HC.out.mono ?_
      rintro e w2 ⟨⟨kj, rfl, hj1, hj2⟩, hm2⟩
      have HN2 := Lib.hid (HN.out.trans hm2)
      clear hm2
      go_wp2
      exact ⟨⟨i + 1, kj, by go_num, by omega, rfl, by omega, by omega, HN2⟩, by simp [intOf]; omega⟩
    · obtain rfl : i = n := by omega
      go_wp2
      go_ret
      exact ⟨⟨ki, rfl, hk1, hk2⟩, hM.out⟩

set_option maxRecDepth 100000 in
set_option maxHeartbeats 1000000 in
theorem markRoot_mk (lo hi : Nat) (t : Int) (a : Option Addr) (n cap k : Nat) (w : World) (hlo : lo ≤ w.heap.size) (hk0 : 0 < k) (hn : n ≤ 1048576) (hk : k ≤ 4000000000000000000) (hs : Hid (VoSh w lo hi a n)) :
    Calls Try.prog 28 #[.agg #[.int .i64 t, .slice a n cap], .int .i64 (k : Int)] w fun e w' => (∃ r : Nat, e = .returned (.int .i64 (r : Int)) ∧ k ≤ r ∧ r ≤ k + 2305845208239570944) ∧ Mk lo hi w w' := by
  have hB0 : Below w.heap.size w (w.alloc (.cells #[.int .i64 t, .slice a n cap] 25)) := (Below.refl _ _).alloc (Nat.le_refl _) _
  have HM0 := Lib.hid (Mk.of_below (lo := lo) (hi := hi) hB0 hlo)
  clear hB0
  have HC := Lib.hid (markVolS_mk lo hi a n cap k _ (by have := HM0.out.low.size; omega) hk0 (by omega) (hs.out.mk HM0.out))
  go_enter Try.func28, Try.ntmps28
  go_wp2_with fail
  refine HC.out.mono ?_
  rintro e w2 ⟨⟨kj, rfl, hj1, hj2⟩, hm2⟩
  have HN2 := Lib.hid (HM0.out.trans hm2)
  clear hm2
  go_wp2
  go_ret
  exact ⟨⟨kj, rfl, hj1, by omega⟩, HN2.out⟩

end Go.Proofs.Ytlonecgmldjdpaa
