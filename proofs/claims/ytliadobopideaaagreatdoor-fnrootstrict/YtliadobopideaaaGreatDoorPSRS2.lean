/- The text of any root that is not large, as the specification writes it. Conditions: at most ten places, three blocks, five volumes. -/
import Derived.Test.YtliadobopideaaaGreatDoorPSRS
import Derived.Test.YtliadobopideaaaGreatDoorPKQ4
namespace Go.Proofs.YtliadobopideaaaGreatDoor
open Go.RowKit Go.Sort

noncomputable def ptG (p : PtrD) : Nat → ByteArray
  | 0 => ⟨#[112, 116, 114, 32]⟩ ++ dzI p.size ++ ⟨#[32]⟩ ++ dzI p.sum
  | k + 1 => ptG p k ++ ⟨#[32]⟩ ++ dzI (p.places.getD k pl0).1 ++ ⟨#[46]⟩ ++ dzI (p.places.getD k pl0).2
noncomputable def ptrG (p : PtrD) : ByteArray := if p.size = 0 then ⟨#[110, 111, 110, 101, 10]⟩ else ptG p p.places.length ++ ⟨#[10]⟩
theorem ptG_size (p : PtrD) (k : Nat) : (ptG p k).size ≤ 47 + 44 * k := by
  have s4 : (⟨#[112, 116, 114, 32]⟩ : ByteArray).size = 4 := rfl
  have s1 : (⟨#[32]⟩ : ByteArray).size = 1 := rfl
  have s2 : (⟨#[46]⟩ : ByteArray).size = 1 := rfl
  induction k with
  | zero =>
    unfold ptG
    have := dzI_size p.size
    have := dzI_size p.sum
    simp only [ByteArray.size_append]
    omega
  | succ k ih =>
    unfold ptG
    have := dzI_size (p.places.getD k pl0).1
    have := dzI_size (p.places.getD k pl0).2
    simp only [ByteArray.size_append]
    omega
theorem ptrG_size (p : PtrD) (h : p.places.length ≤ 10) : (ptrG p).size ≤ 488 := by
  unfold ptrG
  split
  · decide
  · have := ptG_size p p.places.length
    have s1 : (⟨#[10]⟩ : ByteArray).size = 1 := rfl
    rw [ByteArray.size_append]
    omega

set_option maxRecDepth 100000 in
set_option maxHeartbeats 2000000 in
theorem l2PtrText_gen (p : PtrD) (a : Option Addr) (cap : Nat) (w : World) (hl : p.places.length ≤ 10) (hx : Hid (PlacesAt w a p.places)) :
    Calls Tryz.prog 57 #[.agg #[.int .i64 p.size, .int .i64 p.sum, .slice a p.places.length cap]] w fun e w' => e = .returned (.string (ptrG p)) ∧ Below w.heap.size w w' := by
  by_cases hz : p.size = 0
  · have HT : Hid (ptrG p = ⟨#[110, 111, 110, 101, 10]⟩) := by unfold Hid; rw [ptrG, if_pos hz]
    generalize ptrG p = T at HT ⊢
    obtain ⟨z, s, ps⟩ := p
    simp only at hz hx ⊢
    subst hz
    go_enter Tryz.func57, Tryz.ntmps57
    go_wp2_with fail
    go_ret
    exact ⟨ret_text HT.out.symm, (Below.refl _ _).alloc (Nat.le_refl _) _⟩
  · have HT : Hid (ptG p p.places.length ++ ⟨#[10]⟩ = ptrG p) := by unfold Hid ptrG; rw [if_neg hz]
    have HS : Hid (∀ k, k < p.places.length → ptG p k ++ ⟨#[32]⟩ ++ dzI (p.places.getD k pl0).1 ++ ⟨#[46]⟩ ++ dzI (p.places.getD k pl0).2 = ptG p (k + 1)) := fun _ _ => rfl
    have H0 : Hid ((⟨#[112, 116, 114, 32]⟩ : ByteArray) ++ dzI p.size ++ ⟨#[32]⟩ ++ dzI p.sum = ptG p 0) := rfl
    have HZ : Hid (∀ k, k ≤ p.places.length → (ptG p k).size ≤ 487) := fun k hk => by have := ptG_size p k; omega
    have HD1 := Lib.hid (fun W => l6Dec_all p.size W)
    have HD2 := Lib.hid (fun W => l6Dec_all p.sum W)
    have z1 := dzI_size p.size
    have z2 := dzI_size p.sum
    generalize ptG p = PT at HT HS H0 HZ
    generalize ptrG p = T at HT ⊢
    generalize dzI p.size = T1 at HD1 H0 z1
    generalize dzI p.sum = T2 at HD2 H0 z2
    obtain ⟨z, s, ps⟩ := p
    simp only at HT HS HZ hl HD1 HD2 hx hz ⊢
    have e0 : ((z : Int) == 0) = false := by simp; exact hz
    clear hz
    go_enter Tryz.func57, Tryz.ntmps57
    go_wp2_with fail
    have c0 : (w.alloc (.cells #[.int .i64 z, .int .i64 s, .slice a ps.length cap] 54)).cell? ⟨w.heap.size, 0, none⟩ = some (.int .i64 z) := by rw [World.cell?_alloc_mark]; rfl
    have c1 : (w.alloc (.cells #[.int .i64 z, .int .i64 s, .slice a ps.length cap] 54)).cell? ⟨w.heap.size, 1, none⟩ = some (.int .i64 s) := by rw [World.cell?_alloc_mark]; rfl
    have c2 : (w.alloc (.cells #[.int .i64 z, .int .i64 s, .slice a ps.length cap] 54)).cell? ⟨w.heap.size, 2, none⟩ = some (.slice a ps.length cap) := by rw [World.cell?_alloc_mark]; rfl
    have HB0 : Hid (Below w.heap.size w (w.alloc (.cells #[.int .i64 z, .int .i64 s, .slice a ps.length cap] 54))) := (Below.refl _ _).alloc (Nat.le_refl _) _
    have hsz : w.heap.size < (w.alloc (.cells #[.int .i64 z, .int .i64 s, .slice a ps.length cap] 54)).heap.size := by simp
    generalize w.alloc (.cells #[.int .i64 z, .int .i64 s, .slice a ps.length cap] 54) = w1 at c0 c1 c2 HB0 hsz ⊢
    have g0 := cell_regrown c0
    have g1 := cell_regrown c1
    refine wp_region_quiet_below (by kernel_rfl) (by kernel_rfl) ?_
    repeat (go_big_quiet_step (first | ((go_at_call 28); with_reducible exact Calls.regrown_of (HD1.out _)) | ((go_at_call 28); with_reducible exact Calls.regrown_of (HD2.out _))))
    refine wpQuiet_nil ?_
    intro w2 hw2
    have hb12 : Below w1.heap.size w1 w2 := by obtain ⟨q, rfl⟩ := hw2; exact below_regrown _ _ _
    have k2 : w2.cell? ⟨w.heap.size, 2, none⟩ = some (.slice a ps.length cap) := (hb12.cell (p := ⟨w.heap.size, 2, none⟩) hsz).trans c2
    have HB2 := Lib.hid (HB0.out.trans (hb12.mono HB0.out.size))
    have hsz2 : w.heap.size < w2.heap.size := Nat.lt_of_lt_of_le hsz hb12.size
    clear hw2 g0 g1 c0 c1 c2 HB0 hb12 hsz HD1 HD2
    have H0' := H0.out
    generalize hT0 : (({ data := #[112, 116, 114, 32] } : ByteArray) ++ T1 ++ { data := #[32] } ++ T2) = T0 at H0' ⊢
    subst H0'
    clear hT0 H0
    go_wp2_with fail
    go_loopw [3, 4] (fun o i wr => ∃ k : Nat, o = .string (PT k) ∧ i = .int .i64 (k : Int) ∧ k ≤ ps.length ∧ Hid (Below w.heap.size w wr) ∧ w.heap.size < wr.heap.size ∧ wr.cell? ⟨w.heap.size, 2, none⟩ = some (.slice a ps.length cap)) (fun _ i _ => ps.length - (intOf i).toNat)
    case atStart => exact ⟨0, rfl, rfl, Nat.zero_le _, HB2, hsz2, k2⟩
    case round =>
      obtain ⟨k, rfl, rfl, hk, hB, hsw, hcw⟩ := hrel
      have hPz := HZ.out k hk
      have HSk := Lib.hid (fun h => HS.out k h)
      have HT' := Lib.hid (show k = ps.length → PT k ++ ⟨#[10]⟩ = T from fun e => by rw [e]; exact HT.out)
      generalize PT k = O at hPz HSk HT' ⊢
      by_cases hlt : k < ps.length
      · have y1 := dzI_size (ps.getD k pl0).1
        have y2 := dzI_size (ps.getD k pl0).2
        have HD1 := Lib.hid (fun W => l6Dec_all (ps.getD k pl0).1 W)
        have HD2 := Lib.hid (fun W => l6Dec_all (ps.getD k pl0).2 W)
        have HS1 := Lib.hid (HSk.out hlt)
        clear HSk
        obtain ⟨b, off, rfl, hc⟩ := hx.out.resolve_left (fun e => by subst e; simp at hlt)
        obtain ⟨q0, q1⟩ := hc k hlt
        have q0' := cell_below hB.out q0
        have q1' := cell_below hB.out q1
        clear hc q0 q1
        generalize dzI (ps.getD k pl0).1 = U1 at HD1 HS1 y1
        generalize dzI (ps.getD k pl0).2 = U2 at HD2 HS1 y2
        generalize (ps.getD k pl0).1 = pd at q0' HD1
        generalize (ps.getD k pl0).2 = pss at q1' HD2
        have hk0 : (0 : Int) ≤ (k : Int) := by omega
        have hk1 : (k : Int) < (ps.length : Int) := by omega
        go_wp2_with fail
        have g0 := cell_regrown q0'
        have g1 := cell_regrown q1'
        have g2 := cell_regrown hcw
        refine wp_region_quiet_below (by kernel_rfl) (by kernel_rfl) ?_
        repeat (go_big_quiet_step (first | ((go_at_call 28); with_reducible exact Calls.regrown_of (HD1.out _)) | ((go_at_call 28); with_reducible exact Calls.regrown_of (HD2.out _))))
        refine wpQuiet_nil ?_
        intro w9 hw9
        have hb : Below wr.heap.size wr w9 := by obtain ⟨q, rfl⟩ := hw9; exact below_regrown _ _ _
        have k2 : w9.cell? ⟨w.heap.size, 2, none⟩ = some (.slice (some ⟨b, off, none⟩) ps.length cap) := (hb.cell (p := ⟨w.heap.size, 2, none⟩) hsw).trans hcw
        have HB9 := Lib.hid (hB.out.trans (hb.mono hB.out.size))
        have hs9 : w.heap.size < w9.heap.size := Nat.lt_of_lt_of_le hsw hb.size
        clear hw9 g0 g1 g2 q0' q1' hb HD1 HD2
        go_wp2_with fail
        go_roundw
        case rel => exact ⟨k + 1, congrArg Value.string HS1.out, by simp, by omega, HB9, hs9, k2⟩
        case measure => simp [intOf]; omega
      · obtain rfl : k = ps.length := by omega
        go_wp2_with fail
        go_ret
        exact ⟨ret_text (HT'.out trivial), hB.out⟩

/-! ### a root -/
noncomputable def blG (O : ByteArray) (bs : List PtrD) : Nat → ByteArray
  | 0 => O
  | j + 1 => blG O bs j ++ ptrG (bs.getD j ptr0)
noncomputable def roG (r : RootD) : Nat → ByteArray
  | 0 => ⟨#[114, 111, 111, 116, 32]⟩ ++ dzI r.txg ++ ⟨#[10]⟩
  | k + 1 => blG (roG r k ++ ⟨#[118, 111, 108, 32]⟩ ++ (r.vols.getD k vol0).name ++ ⟨#[10]⟩) (r.vols.getD k vol0).blocks (r.vols.getD k vol0).blocks.length
noncomputable def rbG (r : RootD) (k j : Nat) : ByteArray := blG (roG r k ++ ⟨#[118, 111, 108, 32]⟩ ++ (r.vols.getD k vol0).name ++ ⟨#[10]⟩) (r.vols.getD k vol0).blocks j
/-- How much there is. -/
def FewD (vs : List VolD) : Prop := ∀ i, i < vs.length → ((vs.getD i vol0).name.size ≤ 3 ∧ (vs.getD i vol0).blocks.length ≤ 3) ∧ ∀ j, j < (vs.getD i vol0).blocks.length → ((vs.getD i vol0).blocks.getD j ptr0).places.length ≤ 10
theorem blG_size (O : ByteArray) (bs : List PtrD) (h : ∀ j, j < bs.length → (bs.getD j ptr0).places.length ≤ 10) (j : Nat) (hj : j ≤ bs.length) : (blG O bs j).size ≤ O.size + 488 * j := by
  induction j with
  | zero => unfold blG; omega
  | succ j ih =>
    unfold blG
    have := ih (by omega)
    have := ptrG_size _ (h j (by omega))
    rw [ByteArray.size_append]
    omega
theorem roG_size (r : RootD) (h : FewD r.vols) (k : Nat) (hk : k ≤ r.vols.length) : (roG r k).size ≤ 27 + 1472 * k := by
  have s5 : (⟨#[114, 111, 111, 116, 32]⟩ : ByteArray).size = 5 := rfl
  have s1 : (⟨#[10]⟩ : ByteArray).size = 1 := rfl
  have s4 : (⟨#[118, 111, 108, 32]⟩ : ByteArray).size = 4 := rfl
  induction k with
  | zero =>
    unfold roG
    have := dzI_size r.txg
    simp only [ByteArray.size_append]
    omega
  | succ k ih =>
    unfold roG
    have h1 := ih (by omega)
    obtain ⟨h2, h3⟩ := h k (by omega)
    have h4 := blG_size (roG r k ++ ⟨#[118, 111, 108, 32]⟩ ++ (r.vols.getD k vol0).name ++ ⟨#[10]⟩) _ h3 _ (Nat.le_refl _)
    simp only [ByteArray.size_append] at h4
    omega
theorem rbG_size (r : RootD) (h : FewD r.vols) (k j : Nat) (hk : k < r.vols.length) (hj : j ≤ (r.vols.getD k vol0).blocks.length) : (rbG r k j).size ≤ 27 + 1472 * k + 1472 := by
  have s1 : (⟨#[10]⟩ : ByteArray).size = 1 := rfl
  have s4 : (⟨#[118, 111, 108, 32]⟩ : ByteArray).size = 4 := rfl
  have h1 := roG_size r h k (by omega)
  obtain ⟨h2, h3⟩ := h k hk
  have h4 := blG_size (roG r k ++ ⟨#[118, 111, 108, 32]⟩ ++ (r.vols.getD k vol0).name ++ ⟨#[10]⟩) _ h3 j hj
  simp only [ByteArray.size_append] at h4
  unfold rbG
  omega

set_option maxRecDepth 100000 in
set_option maxHeartbeats 2000000 in
theorem l2Text_gen (r : RootD) (a : Option Addr) (cap : Nat) (w : World) (hv5 : r.vols.length ≤ 5) (hr : Hid (FewD r.vols)) (hx : Hid (VolsAt w a r.vols)) :
    Calls Tryz.prog 27 #[.agg #[.int .i64 r.txg, .slice a r.vols.length cap]] w fun e w' => e = .returned (.string (roG r r.vols.length)) ∧ Below w.heap.size w w' := by
  have H0 : Hid ((⟨#[114, 111, 111, 116, 32]⟩ : ByteArray) ++ dzI r.txg ++ ⟨#[10]⟩ = roG r 0) := rfl
  have HD := Lib.hid (fun W => l6Dec_all r.txg W)
  have hd := dzI_size r.txg
  have HZ0 : Hid (∀ k, roG r k ++ ⟨#[118, 111, 108, 32]⟩ ++ (r.vols.getD k vol0).name ++ ⟨#[10]⟩ = rbG r k 0) := fun _ => rfl
  have HS : Hid (∀ k j, j < (r.vols.getD k vol0).blocks.length → rbG r k j ++ ptrG ((r.vols.getD k vol0).blocks.getD j ptr0) = rbG r k (j + 1)) := fun _ _ _ => rfl
  have HA : Hid (∀ k, k < r.vols.length → rbG r k (r.vols.getD k vol0).blocks.length = roG r (k + 1)) := fun _ _ => rfl
  have HRs : Hid (∀ k, k ≤ r.vols.length → (roG r k).size ≤ 8000) := fun k hk => by have := roG_size r hr.out k hk; omega
  have HBs : Hid (∀ k j, k < r.vols.length → j ≤ (r.vols.getD k vol0).blocks.length → (rbG r k j).size ≤ 9000) := fun k j hk hj => by have := rbG_size r hr.out k j hk hj; omega
  have HV := Lib.hid hr.out
  generalize roG r = RO at H0 HZ0 HA HRs ⊢
  generalize rbG r = RB at HZ0 HS HA HBs
  generalize dzI r.txg = T1 at H0 HD hd
  obtain ⟨t, vs⟩ := r
  simp only at HD HZ0 HS HA HRs HBs HV hv5 hx ⊢
  clear hr
  go_enter Tryz.func27, Tryz.ntmps27
  go_wp2_with fail
  refine (HD.out _).mono ?_
  rintro e w1 ⟨rfl, hB1⟩
  have hB0 : Below w.heap.size w (w.alloc (.cells #[.int .i64 t, .slice a vs.length cap] 25)) := (Below.refl _ _).alloc (Nat.le_refl _) _
  have c1 : w1.cell? ⟨w.heap.size, 1, none⟩ = some (.slice a vs.length cap) := (hB1.cell (p := ⟨w.heap.size, 1, none⟩) (by simp)).trans (by rw [World.cell?_alloc_mark]; rfl)
  have HB1 := Lib.hid (hB0.trans (hB1.mono hB0.size))
  have hsz : w.heap.size < w1.heap.size := by have := hB1.size; simp at this; omega
  clear hB1 hB0 HD
  have H0' := H0.out
  go_wp2_with fail
  generalize hT0 : (({ data := #[114, 111, 111, 116, 32] } : ByteArray) ++ T1 ++ { data := #[10] }) = T0 at H0' ⊢
  subst H0'
  clear hT0 H0
  go_loopw [3, 4] (fun o i wr => ∃ k : Nat, o = .string (RO k) ∧ i = .int .i64 (k : Int) ∧ k ≤ vs.length ∧ Hid (Below w.heap.size w wr) ∧ w.heap.size < wr.heap.size ∧ wr.cell? ⟨w.heap.size, 1, none⟩ = some (.slice a vs.length cap)) (fun _ i _ => vs.length - (intOf i).toNat)
  case atStart => exact ⟨0, rfl, rfl, Nat.zero_le _, HB1, hsz, c1⟩
  case round =>
    obtain ⟨k, rfl, rfl, hk, hB, hsw, hcw⟩ := hrel
    have hRz := HRs.out k hk
    by_cases hlt : k < vs.length
    · obtain ⟨b, off, rfl, hc⟩ := hx.out.resolve_left (fun e => by subst e; simp at hlt)
      obtain ⟨q0, u1, q1, hu1⟩ := hc k hlt
      obtain ⟨⟨hn3, hb3⟩, hsp⟩ := HV.out k hlt
      have HZk := Lib.hid (HZ0.out k)
      have HSk := Lib.hid (fun j h => HS.out k j h)
      have HAk := Lib.hid (HA.out k hlt)
      have HBk := Lib.hid (fun j hj => HBs.out k j hlt hj)
      have HP := Lib.hid hsp
      clear hc hsp
      generalize vs.getD k vol0 = q at q0 hu1 hn3 hb3 HZk HSk HAk HBk HP
      obtain ⟨nm, qs⟩ := q
      simp only at q0 hu1 hn3 hb3 HZk HSk HAk HBk HP
      obtain ⟨a1, cap1, rfl, hcap1, hcm1, hat1⟩ := hu1
      have HU := Lib.hid hat1
      clear hat1 hcap1 hcm1
      generalize RB k = RBk at HZk HSk HAk HBk
      have hRk1 : Hid (RBk qs.length = RO (k + 1)) := HAk
      clear HAk
      generalize RO k = Rk at hRz HZk ⊢
      have q0' := cell_below hB.out q0
      have q1' := cell_below hB.out q1
      have hk0 : (0 : Int) ≤ (k : Int) := by omega
      have hk1 : (k : Int) < (vs.length : Int) := by omega
      go_wp2_with fail
      go_loopw [3, 5] (fun o i wx => ∃ j : Nat, o = .string (RBk j) ∧ i = .int .i64 (j : Int) ∧ j ≤ qs.length ∧ Hid (Below w.heap.size w wx) ∧ w.heap.size < wx.heap.size ∧ wx.cell? ⟨w.heap.size, 1, none⟩ = some (.slice (some ⟨b, off, none⟩) vs.length cap)) (fun _ i _ => qs.length - (intOf i).toNat)
      case atStart => exact ⟨0, congrArg Value.string HZk.out, rfl, by omega, hB, hsw, hcw⟩
      case round =>
        clear hsw hcw q0' q1'
        obtain ⟨j, rfl, rfl, hj, hBx, hsx, hcx⟩ := hrel
        have q0' := cell_below hBx.out q0
        have q1' := cell_below hBx.out q1
        have hjz := HBk.out j hj
        by_cases hjl : j < qs.length
        · obtain ⟨b1, o1, rfl, hc1⟩ := HU.out.resolve_left (fun e => by rw [e] at hjl; simp at hjl)
          obtain ⟨p0, p1, u2, p2, a3, cap3, rfl, _, _, hat3⟩ := hc1 j (by omega)
          have HSj := Lib.hid (HSk.out j hjl)
          have hpl := ptrG_size _ (HP.out j hjl)
          have HL := Lib.hid (fun W h => l2PtrText_gen (qs.getD j ptr0) a3 cap3 W (HP.out j hjl) h)
          have HX3 := Lib.hid hat3
          have p0' := cell_below hBx.out p0
          have p1' := cell_below hBx.out p1
          have p2' := cell_below hBx.out p2
          clear hc1 hat3 p0 p1 p2
          generalize ptrG (qs.getD j ptr0) = TP at HSj hpl HL
          generalize qs.getD j ptr0 = pp at p0' p1' p2' HL HX3
          obtain ⟨z, sm, pls⟩ := pp
          simp only at p0' p1' p2' HL HX3
          have hj0 : (0 : Int) ≤ (j : Int) := by omega
          have hj1 : (j : Int) < (qs.length : Int) := by omega
          go_wp2_with fail
          refine (HL.out _ (HX3.out.below hBx.out)).mono ?_
          rintro e w5 ⟨rfl, hB5⟩
          have HB5 := Lib.hid (hBx.out.trans (hB5.mono hBx.out.size))
          have hs5 : w.heap.size < w5.heap.size := Nat.lt_of_lt_of_le hsx hB5.size
          have hc5 := cell_below hB5 hcx
          clear hB5 HL hcx hsx p0' p1' p2' q0' q1'
          go_wp2_with fail
          go_roundw
          case rel => exact ⟨j + 1, congrArg Value.string HSj.out, by simp, by omega, HB5, hs5, hc5⟩
          case measure => simp [intOf]; omega
        · obtain rfl : j = qs.length := by omega
          go_wp2_with fail
          go_roundw
          case rel => exact ⟨k + 1, congrArg Value.string hRk1.out, by simp, by omega, hBx, hsx, hcx⟩
          case measure => simp [intOf]; omega
    · obtain rfl : k = vs.length := by omega
      go_wp2_with fail
      go_ret
      exact ⟨rfl, hB.out⟩

end Go.Proofs.YtliadobopideaaaGreatDoor
