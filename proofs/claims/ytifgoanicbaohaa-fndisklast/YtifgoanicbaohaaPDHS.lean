/- A byte of a drive's slot is spoilt. Conditions: the disk has all that it must, and the byte is one of the slot's. -/
import Derived.Test.YtifgoanicbaohaaPDH6
import Derived.Test.YtifgoanicbaohaaPDN0
import Derived.Test.YtifgoanicbaohaaPDY3
namespace Go.Proofs.Ytifgoanicbaohaa
open Go.RowKit Go.Sort Go.Shelf

/-- The row of a text's bytes with one byte stored, read back as a text. -/
theorem conv_at (W : World) (H : Nat) (s : ByteArray) (k : Nat) (x : Int) (cap : Nat) (hc : ∀ i, i < s.size → W.cell? ⟨H, i, none⟩ = some (.int .u8 (((nums s).set k x).getD i 0))) :
    (convert 22 9 (.slice (some ⟨H, 0, none⟩) s.size cap)).run Try.prog W = .ok (.string (withAt s k x)) W :=
  run_convert_bytes_arg _ 22 5 Try.underlying22 Try.underlying5 H 0 s.size cap ((nums s).set k x) (by rw [List.length_set, nums_length]) (fun i hi => by rw [Nat.zero_add]; exact hc i hi) 9 Try.underlying9
theorem turned_cells (w : World) (s : ByteArray) (k : Nat) (x : Int) (hk : k < s.size) : ∀ i, i < s.size → ((Lib.bytesWorld w 5 s).setCell ⟨w.heap.size, k, none⟩ (.int .u8 x)).cell? ⟨w.heap.size, i, none⟩ = some (.int .u8 (((nums s).set k x).getD i 0)) := by
  intro i hi
  rw [withAt_get s k x hk i]
  by_cases e : i = k
  · subst e
    rw [if_pos rfl]
    exact World.cell?_setCell_same' _ _ _ (by rw [Lib.bytesWorld_cell w _ s i hk]; rfl)
  · rw [if_neg e, World.cell?_setCell_other _ _ _ _ (fun e2 => e (by cases e2; rfl)), Lib.bytesWorld_cell w _ s i hi]
    rfl
/-- WHAT IS KNOWN of a world with a text's bytes, one of them turned. -/
theorem turned_world (w : World) (s : ByteArray) (k : Nat) (x : Int) (hk : k < s.size) : ∃ W1 cap, (convert 9 22 (.string s)).run Try.prog w = .ok (.slice (some ⟨w.heap.size, 0, none⟩) s.size cap) W1 ∧ W1.cell? ⟨w.heap.size, k, none⟩ = some (.int .u8 (byteAt s k)) ∧ W1.frozen? ⟨w.heap.size, k, none⟩ = false ∧
    Hid (Below w.heap.size w (W1.setCell ⟨w.heap.size, k, none⟩ (.int .u8 x)) ∧ w.heap.size < (W1.setCell ⟨w.heap.size, k, none⟩ (.int .u8 x)).heap.size ∧ ∀ i, i < s.size → (W1.setCell ⟨w.heap.size, k, none⟩ (.int .u8 x)).cell? ⟨w.heap.size, i, none⟩ = some (.int .u8 (((nums s).set k x).getD i 0))) := by
  refine ⟨Lib.bytesWorld w 5 s, grownCap w s.size 0 5, Lib.run_convert_string_bytes (P := Try.prog) w 9 22 5 s Try.underlying9 Try.underlying22 Try.underlying5, Lib.bytesWorld_cell w _ s k hk, ?_, (bytesWorld_below w 5 s).setCell (p := ⟨w.heap.size, k, none⟩) (Nat.le_refl _) _, ?_, turned_cells w s k x hk⟩
  · simp [World.frozen?, Lib.bytesWorld_at_new, Lib.bytesCells]
    omega
  · rw [World.size_setCell, Lib.bytesWorld_size]
    omega

set_option maxRecDepth 100000 in
set_option maxHeartbeats 2000000 in
theorem spoilOn_any (base D : Nat) (d : DiskD) (ids : List Nat) (k b : Nat) (c : Int) (w : World) (hb : base ≤ w.heap.size) (hr : HasRows d) (hk : k < 12) (hcs : CanSpoil d k) (hbs : b < (d.slots.getD k ByteArray.empty).size) (hD : Drive w base D d ids) :
    Calls Try.prog 39 #[.pointer (some ⟨D, 0, none⟩), .int .i64 (k : Int), .int .i64 (b : Int), .int .u8 c] w fun e w' => (∃ v, e = .returned v) ∧ Drive w' base D (spoilOn d k b c) ids ∧ Below base w w' := by
  obtain ⟨st, xs, ys, bs, ps⟩ := d
  obtain ⟨v1, v2, v3, hbD, hkk, h3, hc⟩ := hD
  have hcs2 : bs.getD k false = false := hcs.2
  have hcs1 : (xs.getD k ByteArray.empty).size ≠ 0 := hcs.1
  simp only at h3 hc hbs
  have hl1 : xs.length = 12 := hr.1
  have hl3 : bs.length = 12 := hr.2.2
  obtain ⟨g, cap, cur, rfl, hbg, hG⟩ := own_form h3.1 (show xs.length ≠ 0 by omega)
  obtain ⟨g3, cap3, cur3, rfl, hbg3, hG3⟩ := own_form h3.2.2.1 (show bs.length ≠ 0 by omega)
  obtain ⟨x0, f0, _, hxl⟩ := own_cell h3.1 k (by rw [hl1]; omega)
  rw [txC_get xs k (by omega)] at x0
  obtain ⟨x3, f3, _, hxl3⟩ := own_cell h3.2.2.1 k (by rw [hl3]; omega)
  rw [boC_get bs k (by omega), hcs2] at x3
  have k1 : w.cell? ⟨D, 1, none⟩ = some (.slice (some ⟨g3, 0, none⟩) bs.length cap3) := hkk.cell 1
  have k2 : w.cell? ⟨D, 2, none⟩ = some (.slice (some ⟨g, 0, none⟩) xs.length cap) := hkk.cell 2
  show Calls _ _ _ _ fun e w' => _ ∧ Drive w' base D ⟨st, xs.set k (turnS (xs.getD k ByteArray.empty) b c), ys, bs.set k true, ps⟩ ids ∧ _
  have HE := Lib.hid (fun W => isEmpty_any (xs.getD k ByteArray.empty) W)
  rw [tt_false (show ¬Empty0 (xs.getD k ByteArray.empty) from hcs1)] at HE
  generalize xs.getD k ByteArray.empty = s at x0 hbs hcs1 HE ⊢
  obtain ⟨s2, hs2⟩ : ∃ s2, Hid (s2 = turnS s b c) := ⟨_, rfl⟩
  rw [← hs2.out]
  have i1 : (k : Int) < (xs.length : Int) := by omega
  have i3 : (k : Int) < (bs.length : Int) := by omega
  have i0 : (0 : Int) ≤ (k : Int) := by omega
  have hgD : g ≠ D := fun e => absurd (Blk.type hG (by rw [e]; exact hkk)) (by decide)
  have hg3D : g3 ≠ D := fun e => absurd (Blk.type hG3 (by rw [e]; exact hkk)) (by decide)
  have hg3g : g3 ≠ g := fun e => absurd (Blk.type hG3 (by rw [e]; exact hG)) (by decide)
  have hgl := hG.lt
  have hgl3 := hG3.lt
  have hDl := hkk.lt
  have KK := Lib.hid hkk
  have HR3 := Lib.hid h3
  have HCh := Lib.hid hc
  have HG := Lib.hid hG
  have HG3 := Lib.hid hG3
  have Hl1 := Lib.hid hl1
  have Hl3 := Lib.hid hl3
  have Hcs1 := Lib.hid hcs1
  clear hkk h3 hc hxl hxl3 hG hG3 hr hcs hcs2 hl1 hl3 hcs1 f0 f3
  go_enter Try.func39, Try.ntmps39
  go_wp2_with fail
  refine (HE.out _).mono ?_
  rintro e w1 ⟨rfl, rfl⟩
  obtain ⟨W1, cp, hcv, hce, hfr, HW⟩ := turned_world w s b (bits .xor .u8 (byteAt s b) c) hbs
  have ib : (b : Int) < (s.size : Int) := by omega
  have ib0 : (0 : Int) ≤ (b : Int) := by omega
  go_wp2_with fail
  generalize W1.setCell ⟨w.heap.size, b, none⟩ (.int .u8 (bits .xor .u8 (byteAt s b) c)) = W at HW ⊢
  have hBW := HW.out.1
  have hWs := HW.out.2.1
  have cv := conv_at W.drew w.heap.size s b (bits .xor .u8 (byteAt s b) c) cp HW.out.2.2
  have K0 := Lib.hid (KK.out.below hBW KK.out.lt)
  have R0 := Lib.hid (HR3.out.below hBW)
  have C0 := Lib.hid (HCh.out.below hBW)
  have G0 := Lib.hid (HG.out.below hBW hgl)
  have G3 := Lib.hid (HG3.out.below hBW hgl3)
  have HBW := Lib.hid (hBW.mono hb)
  have y0 := cell_below hBW x0
  have y3 := cell_below hBW x3
  have yf : W.frozen? ⟨g, k, none⟩ = false := G0.out.frozen k
  have m2 : W.cell? ⟨D, 2, none⟩ = some (.slice (some ⟨g, 0, none⟩) xs.length cap) := K0.out.cell 2
  clear hBW HW hcv hce hfr k1 k2 x0 x3 HE
  rw [show withAt s b (bits .xor .u8 (byteAt s b) c) = s2 from hs2.out.symm] at cv
  clear hs2
  have q2 : v2.ownBlock ≠ some g := R0.out.2.2.2 g rfl
  have hK1 := (K0.out.other g k (.string s2) hgD).drew
  have hR1 := own_below (OwnTx.set R0.out.1 rfl k s2) (Below.refl _ _).drew
  have hR2 := own_below (own_other R0.out.2.1 g k (.string s2) q2) (Below.refl _ _).drew
  have hR3 := own_below (own_other R0.out.2.2.1 g k (.string s2) (own_blk_ne R0.out.2.2.1 G0.out (by decide))) (Below.refl _ _).drew
  have hC1 := (C0.out.set G0.out (by decide) k (.string s2)).below (Below.refl _ _).drew
  have hB1 : Below base w (W.setCell ⟨g, k, none⟩ (.string s2)).drew := (HBW.out.setCell (p := ⟨g, k, none⟩) hbg _).drew
  have hG3' := (G3.out.other g k (.string s2) (by omega)).drew
  have hx3 : (W.setCell ⟨g, k, none⟩ (.string s2)).drew.cell? ⟨g3, k, none⟩ = some (.bool false) := (hG3'.cell k).trans ((G3.out.cell k).symm.trans y3)
  have HR4 := Lib.hid R0.out.2.2.2
  go_region
  generalize (W.setCell ⟨g, k, none⟩ (.string s2)).drew = W1 at hK1 hR1 hR2 hR3 hC1 hB1 hG3' hx3 ⊢
  have k1 : W1.cell? ⟨D, 1, none⟩ = some (.slice (some ⟨g3, 0, none⟩) bs.length cap3) := hK1.cell 1
  have f3 := hG3'.frozen k
  have K1 := Lib.hid hK1
  have R1 := Lib.hid hR1
  have R2 := Lib.hid hR2
  have R3 := Lib.hid hR3
  have C1 := Lib.hid hC1
  have B1 := Lib.hid hB1
  have GG := Lib.hid hG3'
  clear hK1 hR1 hR2 hR3 hC1 hB1 hG3' K0 C0 R0 HBW G0 G3 m2 y0 yf cv
  go_wp2
  go_end0
  refine ⟨⟨_, rfl⟩, ⟨.slice (some ⟨g, 0, none⟩) xs.length cap, v2, .slice (some ⟨g3, 0, none⟩) bs.length cap3, hbD, ?_, ⟨?_, ?_, ?_, HR4.out⟩, ?_⟩, ?_⟩
  · exact K1.out.other g3 k (.bool true) hg3D
  · exact own_other R1.out g3 k (.bool true) (own_blk_ne R1.out GG.out (by decide))
  · exact own_other R2.out g3 k (.bool true) (own_blk_ne R2.out GG.out (by decide))
  · exact OwnBo.set R3.out rfl k true
  · exact C1.out.set GG.out (by decide) k (.bool true)
  · exact B1.out.setCell (p := ⟨g3, k, none⟩) hbg3 _

set_option maxRecDepth 100000 in
set_option maxHeartbeats 2000000 in
theorem spoilNot_any (base D : Nat) (d : DiskD) (ids : List Nat) (k b : Nat) (c : Int) (w : World) (hr : HasRows d) (hk : k < 12) (hcs : ¬CanSpoil d k) (hD : Drive w base D d ids) :
    Calls Try.prog 39 #[.pointer (some ⟨D, 0, none⟩), .int .i64 (k : Int), .int .i64 (b : Int), .int .u8 c] w fun e w' => (∃ v, e = .returned v) ∧ Drive w' base D d ids ∧ Below base w w' := by
  have HD := Lib.hid hD
  obtain ⟨st, xs, ys, bs, ps⟩ := d
  obtain ⟨v1, v2, v3, hbD, hkk, h3, hc⟩ := hD
  simp only at h3 hc
  have hl1 : xs.length = 12 := hr.1
  have hl3 : bs.length = 12 := hr.2.2
  obtain ⟨g, cap, cur, rfl, hbg, hG⟩ := own_form h3.1 (show xs.length ≠ 0 by omega)
  obtain ⟨g3, cap3, cur3, rfl, hbg3, hG3⟩ := own_form h3.2.2.1 (show bs.length ≠ 0 by omega)
  obtain ⟨x0, f0, _, hxl⟩ := own_cell h3.1 k (by rw [hl1]; omega)
  rw [txC_get xs k (by omega)] at x0
  obtain ⟨x3, f3, _, hxl3⟩ := own_cell h3.2.2.1 k (by rw [hl3]; omega)
  rw [boC_get bs k (by omega)] at x3
  have k1 : w.cell? ⟨D, 1, none⟩ = some (.slice (some ⟨g3, 0, none⟩) bs.length cap3) := hkk.cell 1
  have k2 : w.cell? ⟨D, 2, none⟩ = some (.slice (some ⟨g, 0, none⟩) xs.length cap) := hkk.cell 2
  have HE := Lib.hid (fun W => isEmpty_any (xs.getD k ByteArray.empty) W)
  have hcs' : (xs.getD k ByteArray.empty).size = 0 ∨ ((xs.getD k ByteArray.empty).size ≠ 0 ∧ bs.getD k false = true) := by
    by_cases hz : (xs.getD k ByteArray.empty).size = 0
    · exact .inl hz
    · refine .inr ⟨hz, ?_⟩
      cases hs : bs.getD k false
      · exact absurd ⟨hz, hs⟩ hcs
      · rfl
  have i1 : (k : Int) < (xs.length : Int) := by omega
  have i3 : (k : Int) < (bs.length : Int) := by omega
  have i0 : (0 : Int) ≤ (k : Int) := by omega
  clear hkk h3 hc hxl hxl3 hG hG3 hr hcs hl1 hl3 f0 f3
  generalize xs.getD k ByteArray.empty = s at x0 HE hcs'
  rcases hcs' with hz | ⟨hz, hb3⟩
  · rw [tt_true (show Empty0 s from hz)] at HE
    clear hz
    go_enter Try.func39, Try.ntmps39
    go_wp2_with fail
    refine (HE.out _).mono ?_
    rintro e w1 ⟨rfl, rfl⟩
    go_wp2
    refine bodyPost_ret (results_none rfl _ _ _) rfl ?_
    exact ⟨⟨_, rfl⟩, HD.out, Below.refl _ _⟩
  · rw [tt_false (show ¬Empty0 s from hz)] at HE
    rw [hb3] at x3
    clear hz hb3
    go_enter Try.func39, Try.ntmps39
    go_wp2_with fail
    refine (HE.out _).mono ?_
    rintro e w1 ⟨rfl, rfl⟩
    go_wp2
    refine bodyPost_ret (results_none rfl _ _ _) rfl ?_
    exact ⟨⟨_, rfl⟩, HD.out, Below.refl _ _⟩

theorem spoil_any (base D : Nat) (d : DiskD) (ids : List Nat) (k b : Nat) (c : Int) (w : World) (hb : base ≤ w.heap.size) (hr : HasRows d) (hk : k < 12) (hbs : CanSpoil d k → b < (d.slots.getD k ByteArray.empty).size) (hD : Drive w base D d ids) :
    Calls Try.prog 39 #[.pointer (some ⟨D, 0, none⟩), .int .i64 (k : Int), .int .i64 (b : Int), .int .u8 c] w fun e w' => (∃ v, e = .returned v) ∧ Drive w' base D (spoilD d k b c) ids ∧ Below base w w' := by
  by_cases h : CanSpoil d k
  · rw [spoil_yes h]; exact spoilOn_any base D d ids k b c w hb hr hk h (hbs h) hD
  · rw [spoil_no h]; exact spoilNot_any base D d ids k b c w hr hk h hD

end Go.Proofs.Ytifgoanicbaohaa
