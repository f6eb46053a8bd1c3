/- RootText of the program. Conditions: the table of powers of ten lies there; the row's own bounds. -/
import Derived.Test.YtceielkcplcccaaGreatDoorPKQ9
namespace Go.Proofs.YtceielkcplcccaaGreatDoor
open Go.RowKit Go.Sort

/-- What a builder leaves: a block of another kind. -/
theorem box_others {b k : Nat} {w w' : World} {cs : Array Value} {t : TypeId} (h : BoxAt w k cs t) (hk : k ≠ b) (ht : t ≠ 5) (ho : Lib.OthersKept 5 (some b) w w') : BoxAt w' k cs t :=
  ho k _ h (fun e => hk (by injection e)) (fun c fz e => ht (by injection e))
theorem BoxAt.below {w w' : World} {k : Nat} {cs : Array Value} {t : TypeId} (h : BoxAt w k cs t) (hB : Below w.heap.size w w') : BoxAt w' k cs t :=
  (hB.block k (Array.getElem?_eq_some_iff.1 h).1).trans h
theorem BoxAt.cell {w : World} {k : Nat} {cs : Array Value} {t : TypeId} (h : BoxAt w k cs t) (j : Nat) : w.cell? ⟨k, j, none⟩ = cs[j]? := by
  unfold BoxAt at h
  simp [World.cell?, h]

theorem empty_add (x : ByteArray) : (⟨#[]⟩ : ByteArray) ++ x = x := by
  show tx [] ++ tx x.data.toList = tx x.data.toList
  rw [tx_add]; rfl

set_option maxRecDepth 100000 in
set_option maxHeartbeats 4000000 in
theorem implText_ok (n : Int) (r : RootD) (a : Option Addr) (cap : Nat) (w : World) (hok : Hid (RootOkP n r)) (hl : r.vols.length ≤ cap) (hnm : Hid (∀ j, j < r.vols.length → (r.vols.getD j vol0).name.size ≤ maxLen)) (hx : Hid (VolsAt w a r.vols)) (hT : Hid (Tab w)) :
    Calls Tryz.prog 15 #[.int .i64 n, .agg #[.int .i64 r.txg, .slice a r.vols.length cap]] w fun e w' => e = .returned (.string (fullT r)) ∧ Below w.heap.size w w' := by
  have hB0 : Below w.heap.size w (w.alloc (.cells #[.int .i64 r.txg, .slice a r.vols.length cap] 25)) := (Below.refl _ _).alloc (Nat.le_refl _) _
  have HO := Lib.hid (implRoot_any n r a cap _ hl hnm (hx.out.below hB0))
  rw [tt_true hok.out] at HO
  have HB0 := Lib.hid hB0
  clear hB0
  have hsm := hok.out.small
  have HL0 := Lib.hid (line_root r)
  have HLV := Lib.hid (fun k => line_vol r k)
  have HLS := Lib.hid (line_sum r)
  have HS := Lib.hid (fun k j h => rbT_succ r k j h)
  have HA := Lib.hid (fun k h => rbT_all r k h)
  have HRs := Lib.hid (fun k hk => roT_size r hsm k hk)
  have HBs := Lib.hid (fun k j hk hj => rbT_size r hsm k j hk hj)
  have HI := Lib.hid (fun W h => itoa_int r.txg hsm.1.1 (by have := hsm.1; omega) W h)
  have hd := dz_size r.txg (by have := hsm.1; omega)
  have hbz : (bodyT r).size ≤ 2600 := roT_size r hsm _ (Nat.le_refl _)
  have HW : Hid (∀ W, Calls Tryz.prog 30 #[.string (bodyT r)] W fun e w' => e = .returned (.int .i64 (sumT r)) ∧ Below W.heap.size W w') := fun W => weighed_any (bodyT r) (by omega) W
  have hsb := sumT_bd r hsm
  have HI2 := Lib.hid (fun W h => itoa_int (sumT r) hsb.1 hsb.2 W h)
  have hd2 := dz_size (sumT r) hsb.2
  have HV : Hid (∀ k, k < r.vols.length → (r.vols.getD k vol0).name.size ≤ 3 ∧ (r.vols.getD k vol0).blocks.length = 3 ∧ ∀ j, j < (r.vols.getD k vol0).blocks.length → PtrFine n ((r.vols.getD k vol0).blocks.getD j ptr0) ∧ SmallPtr ((r.vols.getD k vol0).blocks.getD j ptr0)) := fun k hk => by
    obtain ⟨h1, h2, h3⟩ := hsm.2.2 k hk
    exact ⟨h1, h2, fun j hj => ⟨((hok.out.2.2.1.2 k hk).2.2.2 j hj).2, h3 j hj⟩⟩
  have HPl := Lib.hid hok.out.1
  have hv4 := hsm.2.1
  have HBd : Hid (roT r r.vols.length = bodyT r) := rfl
  generalize roT r = RO at HL0 HLV HA HRs HBd
  generalize rbT r = RB at HLV HS HA HBs
  generalize fullT r = FT at HLS ⊢
  generalize tx (dz r.txg) = T1 at HL0 HI hd
  generalize tx (dz (sumT r)) = T2 at HLS HI2 hd2
  generalize sumT r = SM at HW HI2 hsb
  generalize bodyT r = BT at HLS hbz HW HBd
  clear hok hsm hnm
  obtain ⟨t, vs⟩ := r
  simp only at HO HB0 HLV HS HA HRs HBs HI HV HBd hv4 hl hx ⊢
  go_enter Tryz.func15, Tryz.ntmps15
  go_wp2_with fail
  refine HO.out.mono ?_
  rintro e w1 ⟨rfl, hB1⟩
  have c0 : w1.cell? ⟨w.heap.size, 0, none⟩ = some (.int .i64 t) := (hB1.cell (p := ⟨w.heap.size, 0, none⟩) (by simp)).trans (by rw [World.cell?_alloc_mark]; rfl)
  have c1 : w1.cell? ⟨w.heap.size, 1, none⟩ = some (.slice a vs.length cap) := (hB1.cell (p := ⟨w.heap.size, 1, none⟩) (by simp)).trans (by rw [World.cell?_alloc_mark]; rfl)
  have HB1 := Lib.hid (HB0.out.trans (hB1.mono HB0.out.size))
  have hsz : w.heap.size < w1.heap.size := by have := hB1.size; simp at this; omega
  have hx1 := Lib.hid (hx.out.below HB1.out)
  have hT1 := Lib.hid (hT.out.below HB1.out)
  clear hB1 HB0 HO hx hT
  have hB2 : Below w1.heap.size w1 (w1.alloc (.cells #[.pointer none, .slice none 0 0] 53)) := (Below.refl _ _).alloc (Nat.le_refl _) _
  have HBl := Lib.hid (Bld.new w1)
  have d0 := cell_below hB2 c0
  have HB2 := Lib.hid hB2
  clear hB2
  go_wp2_with fail
  refine (HI.out _ (hT1.out.below HB2.out)).mono ?_
  rintro e w3 ⟨rfl, hB3⟩
  have HBl3 := Lib.hid (HBl.out.below hB3)
  have HB3 := Lib.hid (HB2.out.trans (hB3.mono HB2.out.size))
  have hs3 : w1.heap.size < w3.heap.size := by have := hB3.size; simp at this; omega
  clear hB3 HBl HB2 d0 HI c0
  have HLn := Lib.hid (line2 w3 ⟨#[114, 111, 111, 116]⟩ T1 w3.heap.size rfl (by show 4 + _ ≤ _; omega))
  rw [HL0.out] at HLn
  go_wp2_with fail
  refine HLn.out.mono ?_
  rintro e w4 ⟨rfl, hB4⟩
  have HBl4 := Lib.hid (HBl3.out.below hB4)
  have HB4 := Lib.hid (HB3.out.trans (hB4.mono HB3.out.size))
  have hs4 : w1.heap.size < w4.heap.size := Nat.lt_of_lt_of_le hs3 hB4.size
  have hr0 := HRs.out 0 (Nat.zero_le _)
  clear hB4 HBl3 HB3 HLn HL0 hs3
  go_wp2_with fail
  refine (WriteString_any w1.heap.size w1.heap.size ⟨#[]⟩ (RO 0) w4 HBl4.out (by show 0 + _ ≤ _; omega) HB4.out.size).mono ?_
  rintro e w5 ⟨rfl, hb5, hB5, _⟩
  rw [empty_add] at hb5
  have HBl5 := Lib.hid hb5
  have HB5 := Lib.hid (HB4.out.trans hB5)
  have hs5 : w1.heap.size < w5.heap.size := Nat.lt_of_lt_of_le hs4 hB5.size
  have d1 : w5.cell? ⟨w.heap.size, 1, none⟩ = some (.slice a vs.length cap) := (HB5.out.cell (p := ⟨w.heap.size, 1, none⟩) hsz).trans c1
  clear hb5 hB5 HBl4 HB4 hs4 hr0
  go_wp2_with fail
  go_loopw [23] (fun i wr => ∃ k : Nat, i = .int .i64 (k : Int) ∧ k ≤ vs.length ∧ Hid (Bld w1.heap.size w1.heap.size (RO k) wr) ∧ Hid (Below w1.heap.size w1 wr) ∧ w1.heap.size < wr.heap.size) (fun i _ => vs.length - (intOf i).toNat)
  case atStart => exact ⟨0, rfl, Nat.zero_le _, HBl5, HB5, hs5⟩
  case round =>
    clear hs5 HBl5 HB5 d1
    obtain ⟨k, rfl, hk, hBl, hB, hsr⟩ := hrel
    by_cases hlt : k < vs.length
    · obtain ⟨b, off, rfl, hc⟩ := hx1.out.resolve_left (fun e => by subst e; simp at hlt)
      obtain ⟨q0, u1, q1, hu1⟩ := hc k hlt
      obtain ⟨hn3, hb3, hsp⟩ := HV.out k hlt
      have HLk := Lib.hid (HLV.out k)
      have HSk := Lib.hid (fun j h => HS.out k j h)
      have HAk := Lib.hid (HA.out k hlt)
      have HBk := Lib.hid (fun j hj => HBs.out k j hlt hj)
      have HP := Lib.hid hsp
      have hRz := HRs.out k hk
      clear hc hsp
      generalize vs.getD k vol0 = q at q0 hu1 hn3 hb3 HLk HSk HAk HBk HP
      obtain ⟨nm, qs⟩ := q
      simp only at q0 hu1 hn3 hb3 HLk HSk HAk HBk HP
      rw [hb3] at HAk HBk HSk HP
      obtain ⟨a1, cap1, rfl, hcap1, hcm1, hat1⟩ := hu1
      rw [hb3] at q1
      have HU := Lib.hid hat1
      clear hat1 hcap1 hcm1
      generalize RB k = RBk at HLk HSk HAk HBk
      have hRk1 : Hid (RBk 3 = RO (k + 1)) := HAk
      clear HAk
      generalize RO k = Rk at hRz HLk hBl
      have q0' := cell_below hB.out q0
      have q1' := cell_below hB.out q1
      have hk0 : (0 : Int) ≤ (k : Int) := by omega
      have hk1 : (k : Int) < (vs.length : Int) := by omega
      have hBv : Below wr.heap.size wr (wr.alloc (.cells #[.string nm, .slice a1 3 cap1] 62)) := (Below.refl _ _).alloc (Nat.le_refl _) _
      have hbox : BoxAt (wr.alloc (.cells #[.string nm, .slice a1 3 cap1] 62)) wr.heap.size #[.string nm, .slice a1 3 cap1] 62 := heap_alloc_new wr _
      have HBlv := Lib.hid (hBl.out.below hBv)
      have HBv := Lib.hid (hB.out.trans (hBv.mono hB.out.size))
      have Hbx := Lib.hid hbox
      have HLn := Lib.hid (line2 (wr.alloc (.cells #[.string nm, .slice a1 3 cap1] 62)) ⟨#[118, 111, 108]⟩ nm (wr.heap.size + 1) (by simp) (by show 3 + _ ≤ _; omega))
      have hlv := line_two_size ⟨#[118, 111, 108]⟩ nm
      have hlv3 : (⟨#[118, 111, 108]⟩ : ByteArray).size = 3 := rfl
      rw [hlv3] at hlv
      generalize lineT [⟨#[118, 111, 108]⟩, nm] = LV at HLk HLn hlv
      have hsv : wr.heap.size < (wr.alloc (.cells #[.string nm, .slice a1 3 cap1] 62)).heap.size := by simp
      clear hBv hbox hlv3 hBl hB
      go_wp2_with fail
      generalize wr.alloc (.cells #[.string nm, .slice a1 3 cap1] 62) = wv at HBlv HBv Hbx HLn hsv ⊢
      refine HLn.out.mono ?_
      rintro e w6 ⟨rfl, hB6⟩
      have HBl6 := Lib.hid (HBlv.out.below hB6)
      have HB6 := Lib.hid (HBv.out.trans (hB6.mono HBv.out.size))
      have Hbx6 := Lib.hid (Hbx.out.below hB6)
      have hs6 : w1.heap.size < w6.heap.size := by have := hB6.size; omega
      clear hB6 HBlv HBv Hbx HLn q0' q1'
      go_wp2_with fail
      refine (WriteString_any w1.heap.size w1.heap.size Rk LV w6 HBl6.out (by omega) HB6.out.size).mono ?_
      rintro e w7 ⟨rfl, hb7, hB7, ho7⟩
      rw [HLk.out] at hb7
      have HBl7 := Lib.hid hb7
      have HB7 := Lib.hid (HB6.out.trans hB7)
      have hs7 : w1.heap.size < w7.heap.size := Nat.lt_of_lt_of_le hs6 hB7.size
      have bx := (box_others Hbx6.out (by omega) (by decide) ho7).cell 1
      have bx1 : w7.cell? ⟨wr.heap.size, 1, none⟩ = some (.slice a1 3 cap1) := bx
      clear hb7 hB7 ho7 bx HBl6 HB6 Hbx6 hs6
      go_wp2_with fail
      go_loopw [35] (fun i wx => ∃ j : Nat, i = .int .i64 (j : Int) ∧ j ≤ 3 ∧ Hid (Bld w1.heap.size w1.heap.size (RBk j) wx) ∧ Hid (Below w1.heap.size w1 wx) ∧ w1.heap.size < wx.heap.size) (fun i _ => 3 - (intOf i).toNat)
      case atStart => exact ⟨0, rfl, by omega, HBl7, HB7, hs7⟩
      case round =>
        clear hs7 HBl7 HB7 bx1
        obtain ⟨j, rfl, hj, hBl, hB, hsx⟩ := hrel
        have hjz := HBk.out j hj
        by_cases hjl : j < 3
        · obtain ⟨b1, o1, rfl, hc1⟩ := HU.out.resolve_left (fun e => by subst e; simp at hb3)
          obtain ⟨p0, p1, u2, p2, a3, cap3, rfl, _, _, hat3⟩ := hc1 j (by omega)
          have HSj := Lib.hid (HSk.out j hjl)
          obtain ⟨hpf, hps⟩ := HP.out j hjl
          have hpl := ptrTx_length _ hps
          rw [← tx_size] at hpl
          have HL := Lib.hid (fun W hx hT => ptrLine_any n (qs.getD j ptr0) a3 cap3 W HPl.out hpf hx hT)
          have HX3 := Lib.hid hat3
          have p0' := cell_below hB.out p0
          have p1' := cell_below hB.out p1
          have p2' := cell_below hB.out p2
          clear hc1 hat3 p0 p1 p2 hps hpf
          generalize tx (ptrTx (qs.getD j ptr0)) = TP at HSj hpl HL
          generalize qs.getD j ptr0 = pp at p0' p1' p2' HL HX3
          obtain ⟨z, sm, pls⟩ := pp
          simp only at p0' p1' p2' HL HX3
          have hj0 : (0 : Int) ≤ (j : Int) := by omega
          have hj1 : (j : Int) < (3 : Int) := by omega
          have hBp : Below wr.heap.size wr (wr.alloc (.cells #[.int .i64 z, .int .i64 sm, .slice a3 pls.length cap3] 65)) := (Below.refl _ _).alloc (Nat.le_refl _) _
          have HBlp := Lib.hid (hBl.out.below hBp)
          have HBp := Lib.hid (hB.out.trans (hBp.mono hB.out.size))
          have hsp : w1.heap.size < (wr.alloc (.cells #[.int .i64 z, .int .i64 sm, .slice a3 pls.length cap3] 65)).heap.size := by simp; omega
          clear hBp hBl hB
          go_wp2_with fail
          generalize wr.alloc (.cells #[.int .i64 z, .int .i64 sm, .slice a3 pls.length cap3] 65) = wp at HBlp HBp hsp ⊢
          refine (HL.out _ (HX3.out.below HBp.out) (hT1.out.below HBp.out)).mono ?_
          rintro e w8 ⟨rfl, hB8⟩
          have HBl8 := Lib.hid (HBlp.out.below hB8)
          have HB8 := Lib.hid (HBp.out.trans (hB8.mono HBp.out.size))
          have hs8 : w1.heap.size < w8.heap.size := Nat.lt_of_lt_of_le hsp hB8.size
          clear hB8 HBlp HBp hsp HL p0' p1' p2'
          go_wp2_with fail
          refine (WriteString_any w1.heap.size w1.heap.size (RBk j) TP w8 HBl8.out (by omega) HB8.out.size).mono ?_
          rintro e w9 ⟨rfl, hb9, hB9, _⟩
          rw [HSj.out] at hb9
          have HBl9 := Lib.hid hb9
          have HB9 := Lib.hid (HB8.out.trans hB9)
          have hs9 : w1.heap.size < w9.heap.size := Nat.lt_of_lt_of_le hs8 hB9.size
          clear hb9 hB9 HBl8 HB8 hs8
          go_wp2_with fail
          go_roundw
          case rel => exact ⟨j + 1, by simp, by omega, HBl9, HB9, hs9⟩
          case measure => simp [intOf]; omega
        · obtain rfl : j = 3 := by omega
          have hBl' : Hid (Bld w1.heap.size w1.heap.size (RO (k + 1)) wr) := by rw [← hRk1.out]; exact hBl
          clear hBl
          go_wp2_with fail
          go_roundw
          case rel => exact ⟨k + 1, by simp, by omega, hBl', hB, hsx⟩
          case measure => simp [intOf]; omega
    · obtain rfl : k = vs.length := by omega
      rw [HBd.out] at hBl
      go_wp2_with fail
      refine (String_any w1.heap.size w1.heap.size BT wr hBl.out hB.out.size).mono ?_
      rintro e w6 ⟨rfl, hb6, hB6, _⟩
      have HBl6 := Lib.hid hb6
      have HB6 := Lib.hid (hB.out.trans hB6)
      clear hb6 hB6 hBl hB
      go_wp2_with fail
      refine (HW.out _).mono ?_
      rintro e w7 ⟨rfl, hB7⟩
      have HBl7 := Lib.hid (HBl6.out.below hB7)
      have HB7 := Lib.hid (HB6.out.trans (hB7.mono HB6.out.size))
      clear hB7 HBl6 HB6 HW
      go_wp2_with fail
      refine (HI2.out _ (hT1.out.below HB7.out)).mono ?_
      rintro e w8 ⟨rfl, hB8⟩
      have HBl8 := Lib.hid (HBl7.out.below hB8)
      have HB8 := Lib.hid (HB7.out.trans (hB8.mono HB7.out.size))
      clear hB8 HBl7 HB7 HI2
      have HLn := Lib.hid (line2 w8 ⟨#[115, 117, 109]⟩ T2 w8.heap.size rfl (by show 3 + _ ≤ _; omega))
      have hlv := line_two_size ⟨#[115, 117, 109]⟩ T2
      have hlv3 : (⟨#[115, 117, 109]⟩ : ByteArray).size = 3 := rfl
      rw [hlv3] at hlv
      generalize lineT [⟨#[115, 117, 109]⟩, T2] = LV at HLS HLn hlv
      clear hlv3
      go_wp2_with fail
      refine HLn.out.mono ?_
      rintro e w9 ⟨rfl, hB9⟩
      have HBl9 := Lib.hid (HBl8.out.below hB9)
      have HB9 := Lib.hid (HB8.out.trans (hB9.mono HB8.out.size))
      clear hB9 HBl8 HB8 HLn
      go_wp2_with fail
      refine (WriteString_any w1.heap.size w1.heap.size BT LV w9 HBl9.out (by omega) HB9.out.size).mono ?_
      rintro e w10 ⟨rfl, hb10, hB10, _⟩
      rw [HLS.out] at hb10
      have HBl10 := Lib.hid hb10
      have HB10 := Lib.hid (HB9.out.trans hB10)
      clear hb10 hB10 HBl9 HB9
      go_wp2_with fail
      refine (String_any w1.heap.size w1.heap.size FT w10 HBl10.out HB10.out.size).mono ?_
      rintro e w11 ⟨rfl, _, hB11, _⟩
      have HB11 := Lib.hid (HB10.out.trans hB11)
      clear hB11 HB10 HBl10
      go_wp2_with fail
      go_ret
      exact ⟨rfl, HB1.out.trans (HB11.out.mono HB1.out.size)⟩

set_option maxRecDepth 100000 in
set_option maxHeartbeats 2000000 in
theorem implText_any (n : Int) (r : RootD) (a : Option Addr) (cap : Nat) (w : World) (hl : r.vols.length ≤ cap) (hnm : Hid (∀ j, j < r.vols.length → (r.vols.getD j vol0).name.size ≤ maxLen)) (hx : Hid (VolsAt w a r.vols)) (hT : Hid (Tab w)) :
    Calls Tryz.prog 15 #[.int .i64 n, .agg #[.int .i64 r.txg, .slice a r.vols.length cap]] w fun e w' => e = .returned (.string (rootT n r)) ∧ Below w.heap.size w w' := by
  by_cases hok : RootOkP n r
  · rw [rootT_ok hok]
    exact implText_ok n r a cap w hok hl hnm hx hT
  · have hB0 : Below w.heap.size w (w.alloc (.cells #[.int .i64 r.txg, .slice a r.vols.length cap] 25)) := (Below.refl _ _).alloc (Nat.le_refl _) _
    have HO := Lib.hid (implRoot_any n r a cap _ hl hnm (hx.out.below hB0))
    rw [tt_false hok] at HO
    have HB0 := Lib.hid hB0
    have HR := Lib.hid (rootT_no hok)
    generalize rootT n r = R at HR ⊢
    obtain ⟨t, vs⟩ := r
    simp only at HO HB0 ⊢
    clear hl hnm hok hB0
    go_enter Tryz.func15, Tryz.ntmps15
    go_wp2_with fail
    refine HO.out.mono ?_
    rintro e w1 ⟨rfl, hB1⟩
    have HB1 := Lib.hid (HB0.out.trans (hB1.mono HB0.out.size))
    clear hB1 HB0 HO
    go_wp2_with fail
    go_ret
    exact ⟨ret_text HR.out.symm, HB1.out⟩

end Go.Proofs.YtceielkcplcccaaGreatDoor
