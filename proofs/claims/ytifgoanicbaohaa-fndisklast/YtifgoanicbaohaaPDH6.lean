/- A write that comes to a drive. Conditions: the write is one, and the disk has all that it must. -/
import Derived.Test.YtifgoanicbaohaaPDH3
namespace Go.Proofs.Ytifgoanicbaohaa
open Go.RowKit Go.Sort Go.Shelf

theorem Blk.drew {w : World} {D : Nat} {cs : Array Value} {t : TypeId} (h : Blk w D cs t) : Blk w.drew D cs t := h
/-- A WRITE THAT COMES, on plain data. -/
def comeD (d : DiskD) (p : PutD) : DiskD :=
  if p.ring then ⟨d.state, d.slots, d.rings.set p.pos.toNat p.text, d.spoilt, d.wait⟩ else ⟨d.state, d.slots.set p.pos.toNat p.text, d.rings, d.spoilt.set p.pos.toNat false, d.wait⟩
def HasRows (d : DiskD) : Prop := d.slots.length = 12 ∧ d.rings.length = 2 ∧ d.spoilt.length = 12
theorem comeD_rows {d : DiskD} (h : HasRows d) (p : PutD) : HasRows (comeD d p) := by
  unfold comeD; split
  · exact ⟨h.1, by simpa using h.2.1, h.2.2⟩
  · exact ⟨by simpa using h.1, h.2.1, by simpa using h.2.2⟩
theorem comeD_wait (d : DiskD) (p : PutD) : (comeD d p).wait = d.wait ∧ (comeD d p).state = d.state := by unfold comeD; split <;> exact ⟨rfl, rfl⟩

theorem txC_set (xs : List ByteArray) (k : Nat) (x : ByteArray) : (txC xs).set k (.string x) = txC (xs.set k x) := by simp [txC, List.map_set]
theorem boC_set (xs : List Bool) (k : Nat) (x : Bool) : (boC xs).set k (.bool x) = boC (xs.set k x) := by simp [boC, List.map_set]
theorem OwnTx.set {w : World} {base g n cap : Nat} {xs : List ByteArray} (h : OwnTx w base (.slice (some ⟨g, 0, none⟩) n cap) xs) (hn : n = xs.length) (k : Nat) (x : ByteArray) : OwnTx (w.setCell ⟨g, k, none⟩ (.string x)) base (.slice (some ⟨g, 0, none⟩) n cap) (xs.set k x) := by
  subst hn
  have := own_set h k (.string x)
  rw [txC_set] at this
  unfold OwnTx
  rw [List.length_set]; exact this
theorem OwnBo.set {w : World} {base g n cap : Nat} {xs : List Bool} (h : OwnBo w base (.slice (some ⟨g, 0, none⟩) n cap) xs) (hn : n = xs.length) (k : Nat) (x : Bool) : OwnBo (w.setCell ⟨g, k, none⟩ (.bool x)) base (.slice (some ⟨g, 0, none⟩) n cap) (xs.set k x) := by
  subst hn
  have := own_set h k (.bool x)
  rw [boC_set] at this
  unfold OwnBo
  rw [List.length_set]; exact this
/-- A row that has something is a slice from the head of a block. -/
theorem own_form {w : World} {base K : Nat} {e : TypeId} {v : Value} {n : Nat} {xs : List Value} (h : w.ownsRow base e K v n xs) (h0 : n ≠ 0) : ∃ g cap cur, v = .slice (some ⟨g, 0, none⟩) n cap ∧ base ≤ g ∧ Blk w g cur e := by
  rcases h.2 with ⟨_, hk⟩ | ⟨g, cap, cur, rfl, hb, hg, _⟩
  · exact absurd hk h0
  · exact ⟨g, cap, cur, rfl, hb, hg⟩

set_option maxRecDepth 100000 in
set_option maxHeartbeats 2000000 in
theorem comeRing_any (base D : Nat) (d : DiskD) (ids : List Nat) (k : Nat) (s : ByteArray) (w : World) (hb : base ≤ w.heap.size) (hr : HasRows d) (hk : k < 2) (hD : Drive w base D d ids) :
    Calls Try.prog 52 #[.pointer (some ⟨D, 0, none⟩), .agg #[.bool true, .int .i64 (k : Int), .string s]] w fun e w' => (∃ v, e = .returned v) ∧ Drive w' base D ⟨d.state, d.slots, d.rings.set k s, d.spoilt, d.wait⟩ ids ∧ Below base w w' := by
  obtain ⟨st, xs, ys, bs, ps⟩ := d
  obtain ⟨v1, v2, v3, hbD, hkk, h3, hc⟩ := hD
  simp only at h3 hc ⊢
  have hl2 : ys.length = 2 := hr.2.1
  obtain ⟨g, cap, cur, rfl, hbg, hG⟩ := own_form h3.2.1 (show ys.length ≠ 0 by omega)
  obtain ⟨x0, f0, _, hxl⟩ := own_cell h3.2.1 k (by rw [hl2]; omega)
  have hkl : k < (txC ys).length := by rw [txC_length]; omega
  rw [List.getElem?_eq_getElem hkl] at x0
  generalize (txC ys)[k]'hkl = y0 at x0
  have hB0 : Below w.heap.size w (w.alloc (.cells #[.bool true, .int .i64 (k : Int), .string s] 33)) := (Below.refl _ _).alloc (Nat.le_refl _) _
  have HB0 := Lib.hid hB0
  have K0 := Lib.hid (hkk.below hB0 hkk.lt)
  have R0 := Lib.hid (h3.below hB0)
  have C0 := Lib.hid (hc.below hB0)
  have P0 := Lib.hid (Blk.new w #[.bool true, .int .i64 (k : Int), .string s] 33)
  have G0 := Lib.hid (hG.below hB0 hG.lt)
  have x0 := cell_below hB0 x0
  have f0 : (w.alloc (.cells #[.bool true, .int .i64 (k : Int), .string s] 33)).frozen? ⟨g, k, none⟩ = false := G0.out.frozen k
  have hgD : g ≠ D := fun e => absurd (Blk.type hG (by rw [e]; exact hkk)) (by decide)
  have hgl := hG.lt
  have hDl := hkk.lt
  clear hkk h3 hc hB0 hxl hG hr
  go_enter Try.func52, Try.ntmps52
  go_wp2_with fail
  generalize w.alloc (.cells #[.bool true, .int .i64 (k : Int), .string s] 33) = W at HB0 K0 R0 C0 P0 G0 x0 f0 ⊢
  have k3 : W.cell? ⟨D, 3, none⟩ = some (.slice (some ⟨g, 0, none⟩) ys.length cap) := K0.out.cell 3
  have p1 : W.cell? ⟨w.heap.size, 1, none⟩ = some (.int .i64 (k : Int)) := P0.out.cell 1
  have p2 : W.cell? ⟨w.heap.size, 2, none⟩ = some (.string s) := P0.out.cell 2
  have i1 : (k : Int) < (ys.length : Int) := by omega
  have i0 : (0 : Int) ≤ (k : Int) := by omega
  have Hl2 := Lib.hid hl2
  clear hl2
  go_region
  go_wp2
  refine bodyPost_ret (results_none rfl _ _ _) rfl ?_
  have n2 : ∀ i, (Value.slice (some ⟨g, 0, none⟩) ys.length cap).ownBlock = some i → i = g := fun i e => by simp only [Value.ownBlock, Option.some.injEq] at e; omega
  have q1 : v1.ownBlock ≠ some g := fun e => R0.out.2.2.2 g e rfl
  have q3 : v3.ownBlock ≠ some g := own_blk_ne R0.out.2.2.1 G0.out (by decide)
  refine ⟨⟨_, rfl⟩, ⟨v1, _, v3, hbD, ?_, ⟨?_, ?_, ?_, R0.out.2.2.2⟩, ?_⟩, ?_⟩
  · exact (K0.out.other g k (.string s) hgD).drew
  · exact own_below (own_other R0.out.1 g k (.string s) q1) (Below.refl _ _).drew
  · exact own_below (OwnTx.set R0.out.2.1 rfl k s) (Below.refl _ _).drew
  · exact own_below (own_other R0.out.2.2.1 g k (.string s) q3) (Below.refl _ _).drew
  · exact (C0.out.set G0.out (by decide) k (.string s)).below (Below.refl _ _).drew
  · exact ((HB0.out.mono hb).setCell (p := ⟨g, k, none⟩) hbg _).drew

set_option maxRecDepth 100000 in
set_option maxHeartbeats 2000000 in
theorem comeSlot_any (base D : Nat) (d : DiskD) (ids : List Nat) (k : Nat) (s : ByteArray) (w : World) (hb : base ≤ w.heap.size) (hr : HasRows d) (hk : k < 12) (hD : Drive w base D d ids) :
    Calls Try.prog 52 #[.pointer (some ⟨D, 0, none⟩), .agg #[.bool false, .int .i64 (k : Int), .string s]] w fun e w' => (∃ v, e = .returned v) ∧ Drive w' base D ⟨d.state, d.slots.set k s, d.rings, d.spoilt.set k false, d.wait⟩ ids ∧ Below base w w' := by
  obtain ⟨st, xs, ys, bs, ps⟩ := d
  obtain ⟨v1, v2, v3, hbD, hkk, h3, hc⟩ := hD
  simp only at h3 hc ⊢
  have hl1 : xs.length = 12 := hr.1
  have hl3 : bs.length = 12 := hr.2.2
  obtain ⟨g, cap, cur, rfl, hbg, hG⟩ := own_form h3.1 (show xs.length ≠ 0 by omega)
  obtain ⟨g3, cap3, cur3, rfl, hbg3, hG3⟩ := own_form h3.2.2.1 (show bs.length ≠ 0 by omega)
  obtain ⟨x0, f0, _, hxl⟩ := own_cell h3.1 k (by rw [hl1]; omega)
  have hkl : k < (txC xs).length := by rw [txC_length]; omega
  rw [List.getElem?_eq_getElem hkl] at x0
  generalize (txC xs)[k]'hkl = y0 at x0
  obtain ⟨x3, f3, _, hxl3⟩ := own_cell h3.2.2.1 k (by rw [hl3]; omega)
  have hkl3 : k < (boC bs).length := by rw [boC_length]; omega
  rw [List.getElem?_eq_getElem hkl3] at x3
  generalize (boC bs)[k]'hkl3 = y3 at x3
  have hB0 : Below w.heap.size w (w.alloc (.cells #[.bool false, .int .i64 (k : Int), .string s] 33)) := (Below.refl _ _).alloc (Nat.le_refl _) _
  have HB0 := Lib.hid hB0
  have K0 := Lib.hid (hkk.below hB0 hkk.lt)
  have R0 := Lib.hid (h3.below hB0)
  have C0 := Lib.hid (hc.below hB0)
  have P0 := Lib.hid (Blk.new w #[.bool false, .int .i64 (k : Int), .string s] 33)
  have G0 := Lib.hid (hG.below hB0 hG.lt)
  have G3 := Lib.hid (hG3.below hB0 hG3.lt)
  have x0 := cell_below hB0 x0
  have x3 := cell_below hB0 x3
  have f0 : (w.alloc (.cells #[.bool false, .int .i64 (k : Int), .string s] 33)).frozen? ⟨g, k, none⟩ = false := G0.out.frozen k
  have hgD : g ≠ D := fun e => absurd (Blk.type hG (by rw [e]; exact hkk)) (by decide)
  have hg3D : g3 ≠ D := fun e => absurd (Blk.type hG3 (by rw [e]; exact hkk)) (by decide)
  have hg3g : g3 ≠ g := fun e => absurd (Blk.type hG3 (by rw [e]; exact hG)) (by decide)
  have hgl := hG.lt
  have hgl3 := hG3.lt
  have hDl := hkk.lt
  clear hkk h3 hc hB0 hxl hxl3 hG hG3 hr f3
  go_enter Try.func52, Try.ntmps52
  go_wp2_with fail
  generalize w.alloc (.cells #[.bool false, .int .i64 (k : Int), .string s] 33) = W at HB0 K0 R0 C0 P0 G0 G3 x0 x3 f0 ⊢
  have k3 : W.cell? ⟨D, 2, none⟩ = some (.slice (some ⟨g, 0, none⟩) xs.length cap) := K0.out.cell 2
  have p1 : W.cell? ⟨w.heap.size, 1, none⟩ = some (.int .i64 (k : Int)) := P0.out.cell 1
  have p2 : W.cell? ⟨w.heap.size, 2, none⟩ = some (.string s) := P0.out.cell 2
  have i1 : (k : Int) < (xs.length : Int) := by omega
  have i3 : (k : Int) < (bs.length : Int) := by omega
  have i0 : (0 : Int) ≤ (k : Int) := by omega
  have q2 : v2.ownBlock ≠ some g := R0.out.2.2.2 g rfl
  -- behind the first store
  have hK1 := (K0.out.other g k (.string s) hgD).drew
  have hP1 := (P0.out.other g k (.string s) (by omega)).drew
  have hR1 := own_below (OwnTx.set R0.out.1 rfl k s) (Below.refl _ _).drew
  have hR2 := own_below (own_other R0.out.2.1 g k (.string s) q2) (Below.refl _ _).drew
  have hR3 := own_below (own_other R0.out.2.2.1 g k (.string s) (own_blk_ne R0.out.2.2.1 G0.out (by decide))) (Below.refl _ _).drew
  have hC1 := (C0.out.set G0.out (by decide) k (.string s)).below (Below.refl _ _).drew
  have hB1 : Below base w (W.setCell ⟨g, k, none⟩ (.string s)).drew := ((HB0.out.mono hb).setCell (p := ⟨g, k, none⟩) hbg _).drew
  have hG3' := (G3.out.other g k (.string s) (by omega)).drew
  have hx3 : (W.setCell ⟨g, k, none⟩ (.string s)).drew.cell? ⟨g3, k, none⟩ = some y3 := (hG3'.cell k).trans ((G3.out.cell k).symm.trans x3)
  have Hl1 := Lib.hid hl1
  have Hl3 := Lib.hid hl3
  have HR4 := Lib.hid R0.out.2.2.2
  clear hl1 hl3 x3
  go_region
  generalize (W.setCell ⟨g, k, none⟩ (.string s)).drew = W1 at hK1 hP1 hR1 hR2 hR3 hC1 hB1 hG3' hx3 ⊢
  have k1 : W1.cell? ⟨D, 1, none⟩ = some (.slice (some ⟨g3, 0, none⟩) bs.length cap3) := hK1.cell 1
  have p1' : W1.cell? ⟨w.heap.size, 1, none⟩ = some (.int .i64 (k : Int)) := hP1.cell 1
  have f3 := hG3'.frozen k
  have K1 := Lib.hid hK1
  have R1 := Lib.hid hR1
  have R2 := Lib.hid hR2
  have R3 := Lib.hid hR3
  have C1 := Lib.hid hC1
  have B1 := Lib.hid hB1
  have GG := Lib.hid hG3'
  clear hK1 hR1 hR2 hR3 hC1 hB1 hG3' K0 C0 R0 HB0 G0 G3 P0 p1 p2 k3 x0 f0 hP1
  go_wp2_with fail
  go_region
  go_end0
  refine ⟨⟨_, rfl⟩, ⟨.slice (some ⟨g, 0, none⟩) xs.length cap, v2, .slice (some ⟨g3, 0, none⟩) bs.length cap3, hbD, ?_, ⟨?_, ?_, ?_, HR4.out⟩, ?_⟩, ?_⟩
  · exact (K1.out.other g3 k (.bool false) hg3D).drew
  · exact own_below (own_other R1.out g3 k (.bool false) (own_blk_ne R1.out GG.out (by decide))) (Below.refl _ _).drew
  · exact own_below (own_other R2.out g3 k (.bool false) (own_blk_ne R2.out GG.out (by decide))) (Below.refl _ _).drew
  · exact own_below (OwnBo.set R3.out rfl k false) (Below.refl _ _).drew
  · exact (C1.out.set GG.out (by decide) k (.bool false)).below (Below.refl _ _).drew
  · exact (B1.out.setCell (p := ⟨g3, k, none⟩) hbg3 _).drew

theorem come_any (base D : Nat) (d : DiskD) (ids : List Nat) (p : PutD) (w : World) (hb : base ≤ w.heap.size) (hr : HasRows d) (hp : PutOk p) (hD : Drive w base D d ids) :
    Calls Try.prog 52 #[.pointer (some ⟨D, 0, none⟩), .agg #[.bool p.ring, .int .i64 p.pos, .string p.text]] w fun e w' => (∃ v, e = .returned v) ∧ Drive w' base D (comeD d p) ids ∧ Below base w w' := by
  obtain ⟨r, z, s⟩ := p
  cases r
  · have hp' : SlotOk z ∧ s.size = 3 := by simpa [PutOk] using hp
    obtain ⟨k, rfl⟩ := Int.eq_ofNat_of_zero_le hp'.1.1
    have := hp'.1.2
    exact comeSlot_any base D d ids k s w hb hr (by omega) hD
  · have hp' : (0 ≤ z ∧ z ≤ 1) ∧ s.size ≤ 700 := by simpa [PutOk] using hp
    obtain ⟨k, rfl⟩ := Int.eq_ofNat_of_zero_le hp'.1.1
    have := hp'.1.2
    exact comeRing_any base D d ids k s w hb hr (by omega) hD

end Go.Proofs.Ytifgoanicbaohaa
