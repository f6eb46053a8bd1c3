/- The text of a root, as the specification writes it. Conditions: the row's own bounds. -/
import Derived.Test.YtlonecgmldjdpaaDoorQ4
namespace Go.Proofs.YtlonecgmldjdpaaDoor
open Go.RowKit Go.Sort

theorem RootOkP.small {n : Int} {r : RootD} (h : RootOkP n r) : SmallRoot r := by
  obtain ⟨hp, ht, ⟨hv4, hv⟩, _⟩ := h
  refine ⟨ht, hv4, fun k hk => ?_⟩
  obtain ⟨h1, _, h3, h4⟩ := hv k hk
  exact ⟨h1.1.2, h3, fun j hj => (h4 j hj).2.small hp⟩

set_option maxRecDepth 100000 in
set_option maxHeartbeats 2000000 in
theorem l2Text_any (r : RootD) (a : Option Addr) (cap : Nat) (w : World) (hr : Hid (SmallRoot r)) (hx : Hid (VolsAt w a r.vols)) :
    Calls Tryd.prog 21 #[.agg #[.int .i64 r.txg, .slice a r.vols.length cap]] w fun e w' => e = .returned (.string (roT r r.vols.length)) ∧ Below w.heap.size w w' := by
  have H0 := Lib.hid (roT_zero r)
  have HD := Lib.hid (fun W => l6Dec_int r.txg hr.out.1.1 (by have := hr.out.1; omega) W)
  have hd := dz_size r.txg (by have := hr.out.1; omega)
  have HZ0 := Lib.hid (fun k => rbT_zero r k)
  have HS := Lib.hid (fun k j h => rbT_succ r k j h)
  have HA := Lib.hid (fun k h => rbT_all r k h)
  have HRs := Lib.hid (fun k hk => roT_size r hr.out k hk)
  have HBs := Lib.hid (fun k j hk hj => rbT_size r hr.out k j hk hj)
  have HV := Lib.hid hr.out.2.2
  have hv4 := hr.out.2.1
  generalize roT r = RO at H0 HZ0 HA HRs ⊢
  generalize rbT r = RB at HZ0 HS HA HBs
  generalize tx (dz r.txg) = T1 at H0 HD hd
  obtain ⟨t, vs⟩ := r
  simp only at HD HZ0 HS HA HRs HBs HV hv4 hx ⊢
  clear hr
  go_enter Tryd.func21, Tryd.ntmps21
  go_wp2_with fail
  refine (HD.out _).mono ?_
  rintro e w1 ⟨rfl, hB1⟩
  have hB0 : Below w.heap.size w (w.alloc (.cells #[.int .i64 t, .slice a vs.length cap] 25)) := (Below.refl _ _).alloc (Nat.le_refl _) _
  have c1 : w1.cell? ⟨w.heap.size, 1, none⟩ = some (.slice a vs.length cap) := (hB1.cell (p := ⟨w.heap.size, 1, none⟩) (by simp)).trans (by rw [World.cell?_alloc_mark]; rfl)
  have HB1 := Lib.hid (hB0.trans (hB1.mono hB0.size))
  have hsz : w.heap.size < w1.heap.size := by have := hB1.size; simp at this; omega
  clear hB1 hB0 HD
  have H0' := H0.out
  go_wp2_with fail
  generalize hT0 : (({ data := #[114, 111, 111, 116, 32] } : ByteArray) ++ T1 ++ { data := #[10] }) = T0 at H0' ⊢
  subst H0'
  clear hT0 H0
  go_loopw [3, 4] (fun o i wr => ∃ k : Nat, o = .string (RO k) ∧ i = .int .i64 (k : Int) ∧ k ≤ vs.length ∧ Hid (Below w.heap.size w wr) ∧ w.heap.size < wr.heap.size ∧ wr.cell? ⟨w.heap.size, 1, none⟩ = some (.slice a vs.length cap)) (fun _ i _ => vs.length - (intOf i).toNat)
  case atStart => exact ⟨0, rfl, rfl, Nat.zero_le _, HB1, hsz, c1⟩
  case round =>
    obtain ⟨k, rfl, rfl, hk, hB, hsw, hcw⟩ := hrel
    have hRz := HRs.out k hk
    by_cases hlt : k < vs.length
    · obtain ⟨b, off, rfl, hc⟩ := hx.out.resolve_left (fun e => by subst e; simp at hlt)
      obtain ⟨q0, u1, q1, hu1⟩ := hc k hlt
      obtain ⟨hn3, hb3, hsp⟩ := HV.out k hlt
      have HZk := Lib.hid (HZ0.out k)
      have HSk := Lib.hid (fun j h => HS.out k j h)
      have HAk := Lib.hid (HA.out k hlt)
      have HBk := Lib.hid (fun j hj => HBs.out k j hlt hj)
      have HP := Lib.hid hsp
      clear hc hsp
      generalize vs.getD k vol0 = q at q0 hu1 hn3 hb3 HZk HSk HAk HBk HP
      obtain ⟨nm, qs⟩ := q
      simp only at q0 hu1 hn3 hb3 HZk HSk HAk HBk HP
      rw [hb3] at HAk HBk HSk HP
      obtain ⟨a1, cap1, rfl, hcap1, hcm1, hat1⟩ := hu1
      rw [hb3] at q1
      have HU := Lib.hid hat1
      clear hat1 hcap1 hcm1
      generalize RB k = RBk at HZk HSk HAk HBk
      have hRk1 : Hid (RBk 3 = RO (k + 1)) := HAk
      clear HAk
      generalize RO k = Rk at hRz HZk ⊢
      have q0' := cell_below hB.out q0
      have q1' := cell_below hB.out q1
      have hk0 : (0 : Int) ≤ (k : Int) := by omega
      have hk1 : (k : Int) < (vs.length : Int) := by omega
      go_wp2_with fail
      go_loopw [3, 5] (fun o i wx => ∃ j : Nat, o = .string (RBk j) ∧ i = .int .i64 (j : Int) ∧ j ≤ 3 ∧ Hid (Below w.heap.size w wx) ∧ w.heap.size < wx.heap.size ∧ wx.cell? ⟨w.heap.size, 1, none⟩ = some (.slice (some ⟨b, off, none⟩) vs.length cap)) (fun _ i _ => 3 - (intOf i).toNat)
      case atStart => exact ⟨0, congrArg Value.string HZk.out, rfl, by omega, hB, hsw, hcw⟩
      case round =>
        clear hsw hcw q0' q1'
        obtain ⟨j, rfl, rfl, hj, hBx, hsx, hcx⟩ := hrel
        have q0' := cell_below hBx.out q0
        have q1' := cell_below hBx.out q1
        have hjz := HBk.out j hj
        by_cases hjl : j < 3
        · obtain ⟨b1, o1, rfl, hc1⟩ := HU.out.resolve_left (fun e => by subst e; simp at hb3)
          obtain ⟨p0, p1, u2, p2, a3, cap3, rfl, _, _, hat3⟩ := hc1 j (by omega)
          have HSj := Lib.hid (HSk.out j hjl)
          have hpl := ptrTx_length _ (HP.out j hjl)
          rw [← tx_size] at hpl
          have HL := Lib.hid (fun W h => l2PtrText_any (qs.getD j ptr0) a3 cap3 W (HP.out j hjl) h)
          have HX3 := Lib.hid hat3
          have p0' := cell_below hBx.out p0
          have p1' := cell_below hBx.out p1
          have p2' := cell_below hBx.out p2
          clear hc1 hat3 p0 p1 p2
          generalize tx (ptrTx (qs.getD j ptr0)) = TP at HSj hpl HL
          generalize qs.getD j ptr0 = pp at p0' p1' p2' HL HX3
          obtain ⟨z, sm, pls⟩ := pp
          simp only at p0' p1' p2' HL HX3
          have hj0 : (0 : Int) ≤ (j : Int) := by omega
          have hj1 : (j : Int) < (3 : Int) := by omega
          go_wp2_with fail
          refine (HL.out _ (HX3.out.below hBx.out)).mono ?_
          rintro e w5 ⟨rfl, hB5⟩
          have HB5 := Lib.hid (hBx.out.trans (hB5.mono hBx.out.size))
          have hs5 : w.heap.size < w5.heap.size := Nat.lt_of_lt_of_le hsx hB5.size
          have hc5 := cell_below hB5 hcx
          clear hB5 HL hcx hsx p0' p1' p2' q0' q1'
          go_wp2_with fail
          go_roundw
          case rel => exact ⟨j + 1, congrArg Value.string HSj.out, by simp, by omega, HB5, hs5, hc5⟩
          case measure => simp [intOf]; omega
        · obtain rfl : j = 3 := by omega
          go_wp2_with fail
          go_roundw
          case rel => exact ⟨k + 1, congrArg Value.string hRk1.out, by simp, by omega, hBx, hsx, hcx⟩
          case measure => simp [intOf]; omega
    · obtain rfl : k = vs.length := by omega
      go_wp2_with fail
      go_ret
      exact ⟨rfl, hB.out⟩

end Go.Proofs.YtlonecgmldjdpaaDoor
