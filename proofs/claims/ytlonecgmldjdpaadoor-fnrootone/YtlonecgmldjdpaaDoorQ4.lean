/- The text of a root ahead of its sum, and its sum, as the specification has them. Conditions: a root of small numbers. -/
import Derived.Test.YtlonecgmldjdpaaDoorQ3
import Derived.Test.YtlonecgmldjdpaaDoorA3
import Derived.Test.YtlonecgmldjdpaaDoorU9
namespace Go.Proofs.YtlonecgmldjdpaaDoor
open Go.RowKit Go.Sort

def volHd (v : VolD) : List UInt8 := [118, 111, 108, 32] ++ v.name.data.toList ++ [10]
def blocksTx (bs : List PtrD) (k : Nat) : List UInt8 := (bs.take k).flatMap ptrTx
def volTx (v : VolD) : List UInt8 := volHd v ++ blocksTx v.blocks v.blocks.length
def volsTx (vs : List VolD) (k : Nat) : List UInt8 := (vs.take k).flatMap volTx
def rootHd (r : RootD) : List UInt8 := [114, 111, 111, 116, 32] ++ dz r.txg ++ [10]
/-- A ROOT OF SMALL NUMBERS. -/
def SmallVol (v : VolD) : Prop := v.name.size ≤ 3 ∧ v.blocks.length = 3 ∧ ∀ j, j < v.blocks.length → SmallPtr (v.blocks.getD j ptr0)
def SmallRoot (r : RootD) : Prop := (0 ≤ r.txg ∧ r.txg ≤ 100000) ∧ r.vols.length ≤ 4 ∧ ∀ k, k < r.vols.length → SmallVol (r.vols.getD k vol0)

theorem blocksTx_succ (bs : List PtrD) (k : Nat) (h : k < bs.length) : blocksTx bs (k + 1) = blocksTx bs k ++ ptrTx (bs.getD k ptr0) := by
  rw [blocksTx, List.take_succ_eq_append_getElem h, List.flatMap_append, List.getD, List.getElem?_eq_getElem h]
  simp [blocksTx]
theorem volsTx_succ (vs : List VolD) (k : Nat) (h : k < vs.length) : volsTx vs (k + 1) = volsTx vs k ++ volTx (vs.getD k vol0) := by
  rw [volsTx, List.take_succ_eq_append_getElem h, List.flatMap_append, List.getD, List.getElem?_eq_getElem h]
  simp [volsTx]

def roT (r : RootD) (k : Nat) : ByteArray := tx (rootHd r ++ volsTx r.vols k)
def rbT (r : RootD) (k j : Nat) : ByteArray := tx (rootHd r ++ volsTx r.vols k ++ volHd (r.vols.getD k vol0) ++ blocksTx (r.vols.getD k vol0).blocks j)
theorem tx_of (s : ByteArray) : tx s.data.toList = s := rfl
theorem roT_zero (r : RootD) : (⟨#[114, 111, 111, 116, 32]⟩ : ByteArray) ++ tx (dz r.txg) ++ ⟨#[10]⟩ = roT r 0 := by
  show tx [114, 111, 111, 116, 32] ++ tx (dz r.txg) ++ tx [10] = tx (rootHd r ++ volsTx r.vols 0)
  rw [tx_add, tx_add, rootHd]
  simp [volsTx]
theorem rbT_zero (r : RootD) (k : Nat) : roT r k ++ ⟨#[118, 111, 108, 32]⟩ ++ (r.vols.getD k vol0).name ++ ⟨#[10]⟩ = rbT r k 0 := by
  show tx (rootHd r ++ volsTx r.vols k) ++ tx [118, 111, 108, 32] ++ tx (r.vols.getD k vol0).name.data.toList ++ tx [10] = tx _
  rw [tx_add, tx_add, tx_add, volHd]
  simp [blocksTx]
theorem rbT_succ (r : RootD) (k j : Nat) (h : j < (r.vols.getD k vol0).blocks.length) : rbT r k j ++ tx (ptrTx ((r.vols.getD k vol0).blocks.getD j ptr0)) = rbT r k (j + 1) := by
  rw [rbT, rbT, tx_add, blocksTx_succ _ _ h]
  simp only [List.append_assoc]
theorem rbT_all (r : RootD) (k : Nat) (h : k < r.vols.length) : rbT r k (r.vols.getD k vol0).blocks.length = roT r (k + 1) := by
  rw [rbT, roT, volsTx_succ _ _ h, volTx]
  simp only [List.append_assoc]

theorem ptrTx_length (p : PtrD) (h : SmallPtr p) : (ptrTx p).length ≤ 211 := by
  by_cases hz : p.size = 0
  · rw [ptrTx, if_pos hz]; simp
  · have := ptT_size p h p.places.length (Nat.le_refl _)
    have e := congrArg ByteArray.size (ptT_all p hz)
    rw [tx_size, ByteArray.size_append] at e
    have : (⟨#[10]⟩ : ByteArray).size = 1 := rfl
    omega
theorem blocksTx_length (v : VolD) (h : SmallVol v) (j : Nat) (hj : j ≤ v.blocks.length) : (blocksTx v.blocks j).length ≤ 211 * j := by
  induction j with
  | zero => simp [blocksTx]
  | succ j ih =>
    rw [blocksTx_succ _ _ (by omega), List.length_append]
    have := ih (by omega)
    have := ptrTx_length _ (h.2.2 j (by omega))
    omega
theorem volHd_length (v : VolD) (h : SmallVol v) : (volHd v).length ≤ 8 := by
  have := h.1
  have e : v.name.data.toList.length = v.name.size := Array.length_toList
  simp only [volHd, List.length_append, List.length_cons, List.length_nil, e]
  omega
theorem volsTx_length (r : RootD) (h : SmallRoot r) (k : Nat) (hk : k ≤ r.vols.length) : (volsTx r.vols k).length ≤ 641 * k := by
  induction k with
  | zero => simp [volsTx]
  | succ k ih =>
    rw [volsTx_succ _ _ (by omega), List.length_append, volTx, List.length_append]
    have hv := h.2.2 k (by omega)
    have := ih (by omega)
    have := volHd_length _ hv
    have := blocksTx_length _ hv _ (Nat.le_refl _)
    have := hv.2.1
    omega
theorem roT_size (r : RootD) (h : SmallRoot r) (k : Nat) (hk : k ≤ r.vols.length) : (roT r k).size ≤ 2600 := by
  have := volsTx_length r h k hk
  have := dz_length r.txg (by have := h.1; omega)
  have := h.2.1
  rw [roT, tx_size, rootHd]
  simp only [List.length_append, List.length_cons, List.length_nil]
  omega
theorem rbT_size (r : RootD) (h : SmallRoot r) (k j : Nat) (hk : k < r.vols.length) (hj : j ≤ (r.vols.getD k vol0).blocks.length) : (rbT r k j).size ≤ 2600 := by
  have hv := h.2.2 k hk
  have := volsTx_length r h k (by omega)
  have := dz_length r.txg (by have := h.1; omega)
  have := h.2.1
  have := volHd_length _ hv
  have := blocksTx_length _ hv _ hj
  have := hv.2.1
  rw [rbT, tx_size, rootHd]
  simp only [List.length_append, List.length_cons, List.length_nil]
  omega

set_option maxRecDepth 100000 in
set_option maxHeartbeats 1000000 in
theorem l2Check_any (s : ByteArray) (hs : s.size < 4096) (w : World) :
    Calls Tryd.prog 23 #[.string s] w fun e w' => e = .returned (.int .i64 (sumTo s s.size)) ∧ w = w' := by
  go_enter Tryd.func23, Tryd.ntmps23
  go_wp2
  go_loop [3, 4] (fun n i => ∃ k : Nat, k ≤ s.size ∧ i = .int .i64 k ∧ n = .int .i64 (sumTo s k)) (fun _ i => s.size - (intOf i).toNat)
  case atStart => exact ⟨0, Nat.zero_le _, rfl, rfl⟩
  case round =>
    obtain ⟨k, hk, rfl, rfl⟩ := hrel
    have hd := sumTo_bdw s k (by omega)
    have hl9 : (k : Int) * 17756160 ≤ 4096 * 17756160 := by omega
    by_cases hlt : k < s.size
    · have HS : Hid (sumTo s (k + 1) = sumTo s k + (s[k].toNat : Int) * (65536 + (k : Int) + 1)) := by rw [← byteAt_lt hlt]; rfl
      have hb8 : (s[k].toNat : Int) < 256 := by have := s[k].toNat_lt; omega
      have hb0 : (0 : Int) ≤ (s[k].toNat : Int) := by omega
      have ht : (s[k].toNat : Int) * (65536 + (k : Int) + 1) ≤ 255 * 69633 := Int.mul_le_mul (by omega) (by omega) (by omega) (by omega)
      have ht0 : 0 ≤ (s[k].toNat : Int) * (65536 + (k : Int) + 1) := Int.mul_nonneg (by omega) (by omega)
      go_wp2
      go_round
      case rel => exact ⟨k + 1, by omega, by go_num, by rw [HS.out]⟩
      case measure => simp [intOf]; omega
    · obtain rfl : k = s.size := by omega
      go_wp2
      go_ret
      exact ⟨rfl, rfl⟩

end Go.Proofs.YtlonecgmldjdpaaDoor
