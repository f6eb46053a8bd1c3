/- The text of a root ahead of its sum, and its sum, as the specification has them. Conditions: a root of small numbers. The text of a root, as the specification writes it. Conditions: the row's own bounds. -/
import Derived.Test.YtceielkcplcccaaGreatDoorPKQ3
import Derived.Test.YtceielkcplcccaaGreatDoorPKA3
import Derived.Test.YtceielkcplcccaaGreatDoorPKU9
namespace Go.Proofs.YtceielkcplcccaaGreatDoor
open Go.RowKit Go.Sort

def volHd (v : VolD) : List UInt8 := [118, 111, 108, 32] ++ v.name.data.toList ++ [10]
def blocksTx (bs : List PtrD) (k : Nat) : List UInt8 := (bs.take k).flatMap ptrTx
def volTx (v : VolD) : List UInt8 := volHd v ++ blocksTx v.blocks v.blocks.length
def volsTx (vs : List VolD) (k : Nat) : List UInt8 := (vs.take k).flatMap volTx
def rootHd (r : RootD) : List UInt8 := [114, 111, 111, 116, 32] ++ dz r.txg ++ [10]
/-- A ROOT OF SMALL NUMBERS. -/
def SmallVol (v : VolD) : Prop := v.name.size ≤ 3 ∧ v.blocks.length = 3 ∧ ∀ j, j < v.blocks.length → SmallPtr (v.blocks.getD j ptr0)
def SmallRoot (r : RootD) : Prop := (0 ≤ r.txg ∧ r.txg ≤ 100000) ∧ r.vols.length ≤ 4 ∧ ∀ k, k < r.vols.length → SmallVol (r.vols.getD k vol0)

theorem blocksTx_succ (bs : List PtrD) (k : Nat) (h : k < bs.length) : blocksTx bs (k + 1) = blocksTx bs k ++ ptrTx (bs.getD k ptr0) := by
  rw [blocksTx, List.take_succ_eq_append_getElem h, List.flatMap_append, List.getD, List.getElem?_eq_getElem h]
  simp [blocksTx]
theorem volsTx_succ (vs : List VolD) (k : Nat) (h : k < vs.length) : volsTx vs (k + 1) = volsTx vs k ++ volTx (vs.getD k vol0) := by
  rw [volsTx, List.take_succ_eq_append_getElem h, List.flatMap_append, List.getD, List.getElem?_eq_getElem h]
  simp [volsTx]

def roT (r : RootD) (k : Nat) : ByteArray := tx (rootHd r ++ volsTx r.vols k)
def rbT (r : RootD) (k j : Nat) : ByteArray := tx (rootHd r ++ volsTx r.vols k ++ volHd (r.vols.getD k vol0) ++ blocksTx (r.vols.getD k vol0).blocks j)
theorem tx_of (s : ByteArray) : tx s.data.toList = s := rfl
theorem roT_zero (r : RootD) : (⟨#[114, 111, 111, 116, 32]⟩ : ByteArray) ++ tx (dz r.txg) ++ ⟨#[10]⟩ = roT r 0 := by
  show tx [114, 111, 111, 116, 32] ++ tx (dz r.txg) ++ tx [10] = tx (rootHd r ++ volsTx r.vols 0)
  rw [tx_add, tx_add, rootHd]
  simp [volsTx]
theorem rbT_zero (r : RootD) (k : Nat) : roT r k ++ ⟨#[118, 111, 108, 32]⟩ ++ (r.vols.getD k vol0).name ++ ⟨#[10]⟩ = rbT r k 0 := by
  show tx (rootHd r ++ volsTx r.vols k) ++ tx [118, 111, 108, 32] ++ tx (r.vols.getD k vol0).name.data.toList ++ tx [10] = tx _
  rw [tx_add, tx_add, tx_add, volHd]
  simp [blocksTx]
theorem rbT_succ (r : RootD) (k j : Nat) (h : j < (r.vols.getD k vol0).blocks.length) : rbT r k j ++ tx (ptrTx ((r.vols.getD k vol0).blocks.getD j ptr0)) = rbT r k (j + 1) := by
  rw [rbT, rbT, tx_add, blocksTx_succ _ _ h]
  simp only [List.append_assoc]
theorem rbT_all (r : RootD) (k : Nat) (h : k < r.vols.length) : rbT r k (r.vols.getD k vol0).blocks.length = roT r (k + 1) := by
  rw [rbT, roT, volsTx_succ _ _ h, volTx]
  simp only [List.append_assoc]

theorem ptrTx_length (p : PtrD) (h : SmallPtr p) : (ptrTx p).length ≤ 211 := by
  by_cases hz : p.size = 0
  · rw [ptrTx, if_pos hz]; simp
  · have := ptT_size p h p.places.length (Nat.le_refl _)
    have e := congrArg ByteArray.size (ptT_all p hz)
    rw [tx_size, ByteArray.size_append] at e
    have : (⟨#[10]⟩ : ByteArray).size = 1 := rfl
    omega
theorem blocksTx_length (v : VolD) (h : SmallVol v) (j : Nat) (hj : j ≤ v.blocks.length) : (blocksTx v.blocks j).length ≤ 211 * j := by
  induction j with
  | zero => simp [blocksTx]
  | succ j ih =>
    rw [blocksTx_succ _ _ (by omega), List.length_append]
    have := ih (by omega)
    have := ptrTx_length _ (h.2.2 j (by omega))
    omega
theorem volHd_length (v : VolD) (h : SmallVol v) : (volHd v).length ≤ 8 := by
  have := h.1
  have e : v.name.data.toList.length = v.name.size := Array.length_toList
  simp only [volHd, List.length_append, List.length_cons, List.length_nil, e]
  omega
theorem volsTx_length (r : RootD) (h : SmallRoot r) (k : Nat) (hk : k ≤ r.vols.length) : (volsTx r.vols k).length ≤ 641 * k := by
  induction k with
  | zero => simp [volsTx]
  | succ k ih =>
    rw [volsTx_succ _ _ (by omega), List.length_append, volTx, List.length_append]
    have hv := h.2.2 k (by omega)
    have := ih (by omega)
    have := volHd_length _ hv
    have := blocksTx_length _ hv _ (Nat.le_refl _)
    have := hv.2.1
    omega
theorem roT_size (r : RootD) (h : SmallRoot r) (k : Nat) (hk : k ≤ r.vols.length) : (roT r k).size ≤ 2600 := by
  have := volsTx_length r h k hk
  have := dz_length r.txg (by have := h.1; omega)
  have := h.2.1
  rw [roT, tx_size, rootHd]
  simp only [List.length_append, List.length_cons, List.length_nil]
  omega
theorem rbT_size (r : RootD) (h : SmallRoot r) (k j : Nat) (hk : k < r.vols.length) (hj : j ≤ (r.vols.getD k vol0).blocks.length) : (rbT r k j).size ≤ 2600 := by
  have hv := h.2.2 k hk
  have := volsTx_length r h k (by omega)
  have := dz_length r.txg (by have := h.1; omega)
  have := h.2.1
  have := volHd_length _ hv
  have := blocksTx_length _ hv _ hj
  have := hv.2.1
  rw [rbT, tx_size, rootHd]
  simp only [List.length_append, List.length_cons, List.length_nil]
  omega

set_option maxRecDepth 100000 in
set_option maxHeartbeats 1000000 in
theorem l2Check_any (s : ByteArray) (hs : s.size < 4096) (w : World) :
    Calls Tryz.prog 45 #[.string s] w fun e w' => e = .returned (.int .i64 (sumTo s s.size)) ∧ w = w' := by
  go_enter Tryz.func45, Tryz.ntmps45
  go_wp2
  go_loop [3, 4] (fun n i => ∃ k : Nat, k ≤ s.size ∧ i = .int .i64 k ∧ n = .int .i64 (sumTo s k)) (fun _ i => s.size - (intOf i).toNat)
  case atStart => exact ⟨0, Nat.zero_le _, rfl, rfl⟩
  case round =>
    obtain ⟨k, hk, rfl, rfl⟩ := hrel
    have hd := sumTo_bdw s k (by omega)
    have hl9 : (k : Int) * 17756160 ≤ 4096 * 17756160 := by omega
    by_cases hlt : k < s.size
    · have HS : Hid (sumTo s (k + 1) = sumTo s k + (s[k].toNat : Int) * (65536 + (k : Int) + 1)) := by rw [← byteAt_lt hlt]; rfl
      have hb8 : (s[k].toNat : Int) < 256 := by have := s[k].toNat_lt; omega
      have hb0 : (0 : Int) ≤ (s[k].toNat : Int) := by omega
      have ht : (s[k].toNat : Int) * (65536 + (k : Int) + 1) ≤ 255 * 69633 := Int.mul_le_mul (by omega) (by omega) (by omega) (by omega)
      have ht0 : 0 ≤ (s[k].toNat : Int) * (65536 + (k : Int) + 1) := Int.mul_nonneg (by omega) (by omega)
      go_wp2
      go_round
      case rel => exact ⟨k + 1, by omega, by go_num, by rw [HS.out]⟩
      case measure => simp [intOf]; omega
    · obtain rfl : k = s.size := by omega
      go_wp2
      go_ret
      exact ⟨rfl, rfl⟩

end Go.Proofs.YtceielkcplcccaaGreatDoor

namespace Go.Proofs.YtceielkcplcccaaGreatDoor
open Go.RowKit Go.Sort

theorem RootOkP.small {n : Int} {r : RootD} (h : RootOkP n r) : SmallRoot r := by
  obtain ⟨hp, ht, ⟨hv4, hv⟩, _⟩ := h
  refine ⟨ht, hv4, fun k hk => ?_⟩
  obtain ⟨h1, _, h3, h4⟩ := hv k hk
  exact ⟨h1.1.2, h3, fun j hj => (h4 j hj).2.small hp⟩

set_option maxRecDepth 100000 in
set_option maxHeartbeats 2000000 in
theorem l2Text_any (r : RootD) (a : Option Addr) (cap : Nat) (w : World) (hr : Hid (SmallRoot r)) (hx : Hid (VolsAt w a r.vols)) :
    Calls Tryz.prog 43 #[.agg #[.int .i64 r.txg, .slice a r.vols.length cap]] w fun e w' => e = .returned (.string (roT r r.vols.length)) ∧ Below w.heap.size w w' := by
  have H0 := Lib.hid (roT_zero r)
  have HD := Lib.hid (fun W => l6Dec_int r.txg hr.out.1.1 (by have := hr.out.1; omega) W)
  have hd := dz_size r.txg (by have := hr.out.1; omega)
  have HZ0 := Lib.hid (fun k => rbT_zero r k)
  have HS := Lib.hid (fun k j h => rbT_succ r k j h)
  have HA := Lib.hid (fun k h => rbT_all r k h)
  have HRs := Lib.hid (fun k hk => roT_size r hr.out k hk)
  have HBs := Lib.hid (fun k j hk hj => rbT_size r hr.out k j hk hj)
  have HV := Lib.hid hr.out.2.2
  have hv4 := hr.out.2.1
  generalize roT r = RO at H0 HZ0 HA HRs ⊢
  generalize rbT r = RB at HZ0 HS HA HBs
  generalize tx (dz r.txg) = T1 at H0 HD hd
  obtain ⟨t, vs⟩ := r
  simp only at HD HZ0 HS HA HRs HBs HV hv4 hx ⊢
  clear hr
  go_enter Tryz.func43, Tryz.ntmps43
  go_wp2_with fail
  refine (HD.out _).mono ?_
  rintro e w1 ⟨rfl, hB1⟩
  have hB0 : Below w.heap.size w (w.alloc (.cells #[.int .i64 t, .slice a vs.length cap] 25)) := (Below.refl _ _).alloc (Nat.le_refl _) _
  have c1 : w1.cell? ⟨w.heap.size, 1, none⟩ = some (.slice a vs.length cap) := (hB1.cell (p := ⟨w.heap.size, 1, none⟩) (by simp)).trans (by rw [World.cell?_alloc_mark]; rfl)
  have HB1 := Lib.hid (hB0.trans (hB1.mono hB0.size))
  have hsz : w.heap.size < w1.heap.size := by have := hB1.size; simp at this; omega
  clear hB1 hB0 HD
  have H0' := H0.out
  go_wp2_with fail
  generalize hT0 : (({ data := #[114, 111, 111, 116, 32] } : ByteArray) ++ T1 ++ { data := #[10] }) = T0 at H0' ⊢
  subst H0'
  clear hT0 H0
  go_loopw [3, 4] (fun o i wr => ∃ k : Nat, o = .string (RO k) ∧ i = .int .i64 (k : Int) ∧ k ≤ vs.length ∧ Hid (Below w.heap.size w wr) ∧ w.heap.size < wr.heap.size ∧ wr.cell? ⟨w.heap.size, 1, none⟩ = some (.slice a vs.length cap)) (fun _ i _ => vs.length - (intOf i).toNat)
  case atStart => exact ⟨0, rfl, rfl, Nat.zero_le _, HB1, hsz, c1⟩
  case round =>
    obtain ⟨k, rfl, rfl, hk, hB, hsw, hcw⟩ := hrel
    have hRz := HRs.out k hk
    by_cases hlt : k < vs.length
    · obtain ⟨b, off, rfl, hc⟩ := hx.out.resolve_left (fun e => by subst e; simp at hlt)
      obtain ⟨q0, u1, q1, hu1⟩ := hc k hlt
      obtain ⟨hn3, hb3, hsp⟩ := HV.out k hlt
      have HZk := Lib.hid (HZ0.out k)
      have HSk := Lib.hid (fun j h => HS.out k j h)
      have HAk := Lib.hid (HA.out k hlt)
      have HBk := Lib.hid (fun j hj => HBs.out k j hlt hj)
      have HP := Lib.hid hsp
      clear hc hsp
      generalize vs.getD k vol0 = q at q0 hu1 hn3 hb3 HZk HSk HAk HBk HP
      obtain ⟨nm, qs⟩ := q
      simp only at q0 hu1 hn3 hb3 HZk HSk HAk HBk HP
      rw [hb3] at HAk HBk HSk HP
      obtain ⟨a1, cap1, rfl, hcap1, hcm1, hat1⟩ := hu1
      rw [hb3] at q1
      have HU := Lib.hid hat1
      clear hat1 hcap1 hcm1
      generalize RB k = RBk at HZk HSk HAk HBk
      have hRk1 : Hid (RBk 3 = RO (k + 1)) := HAk
      clear HAk
      generalize RO k = Rk at hRz HZk ⊢
      have q0' := cell_below hB.out q0
      have q1' := cell_below hB.out q1
      have hk0 : (0 : Int) ≤ (k : Int) := by omega
      have hk1 : (k : Int) < (vs.length : Int) := by omega
      go_wp2_with fail
      go_loopw [3, 5] (fun o i wx => ∃ j : Nat, o = .string (RBk j) ∧ i = .int .i64 (j : Int) ∧ j ≤ 3 ∧ Hid (Below w.heap.size w wx) ∧ w.heap.size < wx.heap.size ∧ wx.cell? ⟨w.heap.size, 1, none⟩ = some (.slice (some ⟨b, off, none⟩) vs.length cap)) (fun _ i _ => 3 - (intOf i).toNat)
      case atStart => exact ⟨0, congrArg Value.string HZk.out, rfl, by omega, hB, hsw, hcw⟩
      case round =>
        clear hsw hcw q0' q1'
        obtain ⟨j, rfl, rfl, hj, hBx, hsx, hcx⟩ := hrel
        have q0' := cell_below hBx.out q0
        have q1' := cell_below hBx.out q1
        have hjz := HBk.out j hj
        by_cases hjl : j < 3
        · obtain ⟨b1, o1, rfl, hc1⟩ := HU.out.resolve_left (fun e => by subst e; simp at hb3)
          obtain ⟨p0, p1, u2, p2, a3, cap3, rfl, _, _, hat3⟩ := hc1 j (by omega)
          have HSj := Lib.hid (HSk.out j hjl)
          have hpl := ptrTx_length _ (HP.out j hjl)
          rw [← tx_size] at hpl
          have HL := Lib.hid (fun W h => l2PtrText_any (qs.getD j ptr0) a3 cap3 W (HP.out j hjl) h)
          have HX3 := Lib.hid hat3
          have p0' := cell_below hBx.out p0
          have p1' := cell_below hBx.out p1
          have p2' := cell_below hBx.out p2
          clear hc1 hat3 p0 p1 p2
          generalize tx (ptrTx (qs.getD j ptr0)) = TP at HSj hpl HL
          generalize qs.getD j ptr0 = pp at p0' p1' p2' HL HX3
          obtain ⟨z, sm, pls⟩ := pp
          simp only at p0' p1' p2' HL HX3
          have hj0 : (0 : Int) ≤ (j : Int) := by omega
          have hj1 : (j : Int) < (3 : Int) := by omega
          go_wp2_with fail
          refine (HL.out _ (HX3.out.below hBx.out)).mono ?_
          rintro e w5 ⟨rfl, hB5⟩
          have HB5 := Lib.hid (hBx.out.trans (hB5.mono hBx.out.size))
          have hs5 : w.heap.size < w5.heap.size := Nat.lt_of_lt_of_le hsx hB5.size
          have hc5 := cell_below hB5 hcx
          clear hB5 HL hcx hsx p0' p1' p2' q0' q1'
          go_wp2_with fail
          go_roundw
          case rel => exact ⟨j + 1, congrArg Value.string HSj.out, by simp, by omega, HB5, hs5, hc5⟩
          case measure => simp [intOf]; omega
        · obtain rfl : j = 3 := by omega
          go_wp2_with fail
          go_roundw
          case rel => exact ⟨k + 1, congrArg Value.string hRk1.out, by simp, by omega, hBx, hsx, hcx⟩
          case measure => simp [intOf]; omega
    · obtain rfl : k = vs.length := by omega
      go_wp2_with fail
      go_ret
      exact ⟨rfl, hB.out⟩

end Go.Proofs.YtceielkcplcccaaGreatDoor
