/- What lasts over a call that turns one row. Conditions: none. The exact laws' own marks on texts, whatever they are. Conditions: the row's own bound on sizes. -/
import Derived.Test.YtceielkcplcccaaGreatDoorPKMK
import Derived.Test.YtceielkcplcccaaGreatDoorPKGT8
namespace Go.Proofs.YtceielkcplcccaaGreatDoor
open Go.RowKit Go.Sort

theorem own_gb {w w' : World} {base K : Nat} {e : TypeId} {v : Value} {n : Nat} {xs : List Value} {r : Option Nat} (h : w.ownsRow base e K v n xs) (hg : w.grownBy w' r) (hne : ∀ i, r = some i → v.ownBlock ≠ some i) : w'.ownsRow base e K v n xs :=
  h.kept hg (by
    cases hv : v.ownBlock with
    | none => exact .inl rfl
    | some j => exact .inr (fun e => hne j e.symm hv))
theorem Blk.gb {w w' : World} {D : Nat} {cs : Array Value} {t : TypeId} {r : Option Nat} (h : Blk w D cs t) (hg : w.grownBy w' r) (hne : r ≠ some D) : Blk w' D cs t :=
  (hg.block D h.lt (fun e => hne e.symm)).trans h

theorem own_blk_ne {w : World} {base K : Nat} {e : TypeId} {v : Value} {n : Nat} {xs : List Value} (h : w.ownsRow base e K v n xs) {D : Nat} {cs : Array Value} {t : TypeId} (hb : Blk w D cs t) (hne : e ≠ t) : v.ownBlock ≠ some D := by
  intro hp
  rcases h.2 with ⟨rfl, _⟩ | ⟨g1, cap1, cur1, rfl, _, hg1, _⟩
  · cases hp
  · simp only [Value.ownBlock, Option.some.injEq] at hp
    rw [hp] at hg1
    exact hne (Blk.type hg1 hb)

end Go.Proofs.YtceielkcplcccaaGreatDoor

namespace Go.Proofs.YtceielkcplcccaaGreatDoor
open Go.RowKit Go.Sort

set_option maxRecDepth 100000 in
set_option maxHeartbeats 1000000 in
theorem mkText_some (k0 : Nat) (w : World) (hk0 : 0 < k0) (hb : k0 ≤ 9000000000000000000) :
    Calls Tryz.prog 58 #[.int .i64 (k0 : Int)] w fun e w' => (∃ t, e = .returned (.string t)) ∧ Below w.heap.size w w' := by
  have d0 : decide ((k0 : Int) ≤ 0) = false := by simp; omega
  go_enter Tryz.func58, Tryz.ntmps58
  go_wp2_with fail
  go_loopw [0, 3] (fun kv o wr => ∃ (k : Nat) (out : ByteArray), kv = .int .i64 (k : Int) ∧ o = .string out ∧ out.size + k ≤ k0 ∧ Below w.heap.size w wr) (fun kv _ _ => (intOf kv).toNat)
  case atStart => exact ⟨k0, ByteArray.empty, rfl, rfl, by simp, Below.refl _ _⟩
  case round =>
    obtain ⟨k, out, rfl, rfl, hs, hB⟩ := hrel
    by_cases hk : 0 < k
    · have hconv := conv_1 wr (48 + (k : Int) % 10)
      have hz : (strOfNums [48 + (k : Int) % 10]).size = 1 := by rw [strOfNums_size]; rfl
      have hsz : (strOfNums [48 + (k : Int) % 10] ++ out).size = 1 + out.size := by rw [ByteArray.size_append, hz]
      generalize strOfNums [48 + (k : Int) % 10] = d at hconv hz hsz
      have HB2 : Hid (Below w.heap.size w (wr.alloc (.cells #[.int .u8 (48 + (k : Int) % 10)] 5))) := hB.alloc hB.size _
      go_wp2
      exact ⟨⟨k / 10, d ++ out, by go_num, rfl, by omega, HB2.out⟩, by simp [intOf]; omega⟩
    · obtain rfl : k = 0 := by omega
      go_wp2
      go_ret
      exact ⟨⟨_, rfl⟩, hB⟩

/-- SHAPES of texts that may be marked. -/
def TxSh (w : World) (lo hi : Nat) (a : Option Addr) (n : Nat) : Prop :=
  n = 0 ∨ ∃ b off, a = some ⟨b, off, none⟩ ∧ lo ≤ b ∧ b < hi ∧ ∀ j, j < n → Fit w b (off + j)
theorem TxSh.mk {lo hi : Nat} {w w' : World} {a : Option Addr} {n : Nat} (h : TxSh w lo hi a n) (m : Mk lo hi w w') : TxSh w' lo hi a n := by
  rcases h with h | ⟨b, off, e, h1, h2, hc⟩
  · exact .inl h
  · exact .inr ⟨b, off, e, h1, h2, fun j hj => (hc j hj).mk m⟩
theorem own_fits {w : World} {base K : Nat} {e : TypeId} {g n cap : Nat} {xs : List Value} {v : Value} (h : w.ownsRow base e K (.slice (some ⟨g, 0, none⟩) n cap) n xs) (i : Nat) (hi : i < n * K) (hv : xs[i]? = some v) (hs : isSl v = false) : Fit w g (0 + i) := by
  obtain ⟨h1, h2, _, _⟩ := own_cell h i hi
  rw [Nat.zero_add]
  exact ⟨v, h1.trans hv, hs, h2⟩
theorem OwnTx.shape {w : World} {base : Nat} {xs : List ByteArray} {a : Option Addr} {n c : Nat} (h : OwnTx w base (.slice a n c) xs) : TxSh w base w.heap.size a n := by
  have h' := h
  rcases h.2 with ⟨hv, hk⟩ | ⟨g, cap, cur, hv, hb, hg, hkc, hcm, hcs, hx⟩
  · cases hv
    exact .inl rfl
  · cases hv
    exact .inr ⟨g, 0, rfl, hb, (Array.getElem?_eq_some_iff.1 hg).1, fun j hj => own_fits h' j (by omega) (txC_get xs j hj) rfl⟩

set_option maxRecDepth 100000 in
set_option maxHeartbeats 1000000 in
theorem markTx_mk (lo hi : Nat) (a : Option Addr) (n cap k : Nat) (w : World) (hlo : lo ≤ w.heap.size) (hk0 : 0 < k) (hk : k + n ≤ 9000000000000000000) (hs : Hid (TxSh w lo hi a n)) :
    Calls Tryz.prog 34 #[.slice a n cap, .int .i64 (k : Int)] w fun e w' => e = .returned (.int .i64 ((k + n : Nat) : Int)) ∧ Mk lo hi w w' := by
  go_enter Tryz.func34, Tryz.ntmps34
  go_wp2_with fail
  go_loopw [1, 5] (fun kv iv wr => ∃ i : Nat, iv = .int .i64 (i : Int) ∧ i ≤ n ∧ kv = .int .i64 ((k + i : Nat) : Int) ∧ Hid (Mk lo hi w wr)) (fun _ iv _ => n - (intOf iv).toNat)
  case atStart => exact ⟨0, rfl, by omega, rfl, Mk.refl _ _ _⟩
  case round =>
    obtain ⟨i, rfl, hi', rfl, hM⟩ := hrel
    by_cases hlt : i < n
    · have hkb : k + i ≤ 8999999999999999999 := by omega
      have hkp : 0 < k + i := by omega
      have hnext : k + (i + 1) = k + i + 1 := by omega
      generalize k + i = ki at hkb hnext hkp
      go_wp2_with fail
      refine (mkText_some ki _ hkp (by omega)).mono ?_
      rintro e w1 ⟨⟨t, rfl⟩, hB1⟩
      have hM1 := hM.out.below hB1 hlo
      obtain ⟨b, off, rfl, hb1, hb2, hc⟩ := (hs.out.mk hM1).resolve_left (fun e => by omega)
      obtain ⟨y0, x0, s0, f0⟩ := hc i hlt
      clear hc
      have HN : Hid (Mk lo hi w (w1.setCell ⟨b, off + i, none⟩ (.string t))) := hM1.set x0 s0 rfl hb1 hb2
      clear s0 hM hM1 hB1
      go_wp2
      exact ⟨⟨i + 1, by go_num, by omega, by rw [hnext]; go_num, HN⟩, by simp [intOf]; omega⟩
    · obtain rfl : i = n := by omega
      go_wp2
      go_ret
      exact ⟨rfl, hM.out⟩

end Go.Proofs.YtceielkcplcccaaGreatDoor
