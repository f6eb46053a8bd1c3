/- A write that comes to a drive. Conditions: the write is one, and the disk has all that it must. What waits comes to a drive, as its bits say; nothing waits then. Conditions: the disk is ok. -/
import Derived.Test.YtcdiengbmjkglaaGreatPKH3
import Derived.Laws.BitsAllLaws
namespace Go.Proofs.YtcdiengbmjkglaaGreat
open Go.RowKit Go.Sort Go.Shelf

theorem Blk.drew {w : World} {D : Nat} {cs : Array Value} {t : TypeId} (h : Blk w D cs t) : Blk w.drew D cs t := h
/-- A WRITE THAT COMES, on plain data. -/
def comeD (d : DiskD) (p : PutD) : DiskD :=
  if p.ring then ⟨d.state, d.slots, d.rings.set p.pos.toNat p.text, d.spoilt, d.wait⟩ else ⟨d.state, d.slots.set p.pos.toNat p.text, d.rings, d.spoilt.set p.pos.toNat false, d.wait⟩
def HasRows (d : DiskD) : Prop := d.slots.length = 12 ∧ d.rings.length = 2 ∧ d.spoilt.length = 12
theorem comeD_rows {d : DiskD} (h : HasRows d) (p : PutD) : HasRows (comeD d p) := by
  unfold comeD; split
  · exact ⟨h.1, by simpa using h.2.1, h.2.2⟩
  · exact ⟨by simpa using h.1, h.2.1, by simpa using h.2.2⟩
theorem comeD_wait (d : DiskD) (p : PutD) : (comeD d p).wait = d.wait ∧ (comeD d p).state = d.state := by unfold comeD; split <;> exact ⟨rfl, rfl⟩

theorem txC_set (xs : List ByteArray) (k : Nat) (x : ByteArray) : (txC xs).set k (.string x) = txC (xs.set k x) := by simp [txC, List.map_set]
theorem boC_set (xs : List Bool) (k : Nat) (x : Bool) : (boC xs).set k (.bool x) = boC (xs.set k x) := by simp [boC, List.map_set]
theorem OwnTx.set {w : World} {base g n cap : Nat} {xs : List ByteArray} (h : OwnTx w base (.slice (some ⟨g, 0, none⟩) n cap) xs) (hn : n = xs.length) (k : Nat) (x : ByteArray) : OwnTx (w.setCell ⟨g, k, none⟩ (.string x)) base (.slice (some ⟨g, 0, none⟩) n cap) (xs.set k x) := by
  subst hn
  have := own_set h k (.string x)
  rw [txC_set] at this
  unfold OwnTx
  rw [List.length_set]; exact this
theorem OwnBo.set {w : World} {base g n cap : Nat} {xs : List Bool} (h : OwnBo w base (.slice (some ⟨g, 0, none⟩) n cap) xs) (hn : n = xs.length) (k : Nat) (x : Bool) : OwnBo (w.setCell ⟨g, k, none⟩ (.bool x)) base (.slice (some ⟨g, 0, none⟩) n cap) (xs.set k x) := by
  subst hn
  have := own_set h k (.bool x)
  rw [boC_set] at this
  unfold OwnBo
  rw [List.length_set]; exact this
/-- A row that has something is a slice from the head of a block. -/
theorem own_form {w : World} {base K : Nat} {e : TypeId} {v : Value} {n : Nat} {xs : List Value} (h : w.ownsRow base e K v n xs) (h0 : n ≠ 0) : ∃ g cap cur, v = .slice (some ⟨g, 0, none⟩) n cap ∧ base ≤ g ∧ Blk w g cur e := by
  rcases h.2 with ⟨_, hk⟩ | ⟨g, cap, cur, rfl, hb, hg, _⟩
  · exact absurd hk h0
  · exact ⟨g, cap, cur, rfl, hb, hg⟩

set_option maxRecDepth 100000 in
set_option maxHeartbeats 2000000 in
theorem comeRing_any (base D : Nat) (d : DiskD) (ids : List Nat) (k : Nat) (s : ByteArray) (w : World) (hb : base ≤ w.heap.size) (hr : HasRows d) (hk : k < 2) (hD : Drive w base D d ids) :
    Calls Tryz.prog 92 #[.pointer (some ⟨D, 0, none⟩), .agg #[.bool true, .int .i64 (k : Int), .string s]] w fun e w' => (∃ v, e = .returned v) ∧ Drive w' base D ⟨d.state, d.slots, d.rings.set k s, d.spoilt, d.wait⟩ ids ∧ Below base w w' := by
  obtain ⟨st, xs, ys, bs, ps⟩ := d
  obtain ⟨v1, v2, v3, hbD, hkk, h3, hc⟩ := hD
  simp only at h3 hc ⊢
  have hl2 : ys.length = 2 := hr.2.1
  obtain ⟨g, cap, cur, rfl, hbg, hG⟩ := own_form h3.2.1 (show ys.length ≠ 0 by omega)
  obtain ⟨x0, f0, _, hxl⟩ := own_cell h3.2.1 k (by rw [hl2]; omega)
  have hkl : k < (txC ys).length := by rw [txC_length]; omega
  rw [List.getElem?_eq_getElem hkl] at x0
  generalize (txC ys)[k]'hkl = y0 at x0
  have hB0 : Below w.heap.size w (w.alloc (.cells #[.bool true, .int .i64 (k : Int), .string s] 101)) := (Below.refl _ _).alloc (Nat.le_refl _) _
  have HB0 := Lib.hid hB0
  have K0 := Lib.hid (hkk.below hB0 hkk.lt)
  have R0 := Lib.hid (h3.below hB0)
  have C0 := Lib.hid (hc.below hB0)
  have P0 := Lib.hid (Blk.new w #[.bool true, .int .i64 (k : Int), .string s] 101)
  have G0 := Lib.hid (hG.below hB0 hG.lt)
  have x0 := cell_below hB0 x0
  have f0 : (w.alloc (.cells #[.bool true, .int .i64 (k : Int), .string s] 101)).frozen? ⟨g, k, none⟩ = false := G0.out.frozen k
  have hgD : g ≠ D := fun e => absurd (Blk.type hG (by rw [e]; exact hkk)) (by decide)
  have hgl := hG.lt
  have hDl := hkk.lt
  clear hkk h3 hc hB0 hxl hG hr
  go_enter Tryz.func92, Tryz.ntmps92
  go_wp2_with fail
  generalize w.alloc (.cells #[.bool true, .int .i64 (k : Int), .string s] 101) = W at HB0 K0 R0 C0 P0 G0 x0 f0 ⊢
  have k3 : W.cell? ⟨D, 3, none⟩ = some (.slice (some ⟨g, 0, none⟩) ys.length cap) := K0.out.cell 3
  have p1 : W.cell? ⟨w.heap.size, 1, none⟩ = some (.int .i64 (k : Int)) := P0.out.cell 1
  have p2 : W.cell? ⟨w.heap.size, 2, none⟩ = some (.string s) := P0.out.cell 2
  have i1 : (k : Int) < (ys.length : Int) := by omega
  have i0 : (0 : Int) ≤ (k : Int) := by omega
  have Hl2 := Lib.hid hl2
  clear hl2
  go_region
  go_wp2
  refine bodyPost_ret (results_none rfl _ _ _) rfl ?_
  have n2 : ∀ i, (Value.slice (some ⟨g, 0, none⟩) ys.length cap).ownBlock = some i → i = g := fun i e => by simp only [Value.ownBlock, Option.some.injEq] at e; omega
  have q1 : v1.ownBlock ≠ some g := fun e => R0.out.2.2.2 g e rfl
  have q3 : v3.ownBlock ≠ some g := own_blk_ne R0.out.2.2.1 G0.out (by decide)
  refine ⟨⟨_, rfl⟩, ⟨v1, _, v3, hbD, ?_, ⟨?_, ?_, ?_, R0.out.2.2.2⟩, ?_⟩, ?_⟩
  · exact (K0.out.other g k (.string s) hgD).drew
  · exact own_below (own_other R0.out.1 g k (.string s) q1) (Below.refl _ _).drew
  · exact own_below (OwnTx.set R0.out.2.1 rfl k s) (Below.refl _ _).drew
  · exact own_below (own_other R0.out.2.2.1 g k (.string s) q3) (Below.refl _ _).drew
  · exact (C0.out.set G0.out (by decide) k (.string s)).below (Below.refl _ _).drew
  · exact ((HB0.out.mono hb).setCell (p := ⟨g, k, none⟩) hbg _).drew

set_option maxRecDepth 100000 in
set_option maxHeartbeats 2000000 in
theorem comeSlot_any (base D : Nat) (d : DiskD) (ids : List Nat) (k : Nat) (s : ByteArray) (w : World) (hb : base ≤ w.heap.size) (hr : HasRows d) (hk : k < 12) (hD : Drive w base D d ids) :
    Calls Tryz.prog 92 #[.pointer (some ⟨D, 0, none⟩), .agg #[.bool false, .int .i64 (k : Int), .string s]] w fun e w' => (∃ v, e = .returned v) ∧ Drive w' base D ⟨d.state, d.slots.set k s, d.rings, d.spoilt.set k false, d.wait⟩ ids ∧ Below base w w' := by
  obtain ⟨st, xs, ys, bs, ps⟩ := d
  obtain ⟨v1, v2, v3, hbD, hkk, h3, hc⟩ := hD
  simp only at h3 hc ⊢
  have hl1 : xs.length = 12 := hr.1
  have hl3 : bs.length = 12 := hr.2.2
  obtain ⟨g, cap, cur, rfl, hbg, hG⟩ := own_form h3.1 (show xs.length ≠ 0 by omega)
  obtain ⟨g3, cap3, cur3, rfl, hbg3, hG3⟩ := own_form h3.2.2.1 (show bs.length ≠ 0 by omega)
  obtain ⟨x0, f0, _, hxl⟩ := own_cell h3.1 k (by rw [hl1]; omega)
  have hkl : k < (txC xs).length := by rw [txC_length]; omega
  rw [List.getElem?_eq_getElem hkl] at x0
  generalize (txC xs)[k]'hkl = y0 at x0
  obtain ⟨x3, f3, _, hxl3⟩ := own_cell h3.2.2.1 k (by rw [hl3]; omega)
  have hkl3 : k < (boC bs).length := by rw [boC_length]; omega
  rw [List.getElem?_eq_getElem hkl3] at x3
  generalize (boC bs)[k]'hkl3 = y3 at x3
  have hB0 : Below w.heap.size w (w.alloc (.cells #[.bool false, .int .i64 (k : Int), .string s] 101)) := (Below.refl _ _).alloc (Nat.le_refl _) _
  have HB0 := Lib.hid hB0
  have K0 := Lib.hid (hkk.below hB0 hkk.lt)
  have R0 := Lib.hid (h3.below hB0)
  have C0 := Lib.hid (hc.below hB0)
  have P0 := Lib.hid (Blk.new w #[.bool false, .int .i64 (k : Int), .string s] 101)
  have G0 := Lib.hid (hG.below hB0 hG.lt)
  have G3 := Lib.hid (hG3.below hB0 hG3.lt)
  have x0 := cell_below hB0 x0
  have x3 := cell_below hB0 x3
  have f0 : (w.alloc (.cells #[.bool false, .int .i64 (k : Int), .string s] 101)).frozen? ⟨g, k, none⟩ = false := G0.out.frozen k
  have hgD : g ≠ D := fun e => absurd (Blk.type hG (by rw [e]; exact hkk)) (by decide)
  have hg3D : g3 ≠ D := fun e => absurd (Blk.type hG3 (by rw [e]; exact hkk)) (by decide)
  have hg3g : g3 ≠ g := fun e => absurd (Blk.type hG3 (by rw [e]; exact hG)) (by decide)
  have hgl := hG.lt
  have hgl3 := hG3.lt
  have hDl := hkk.lt
  clear hkk h3 hc hB0 hxl hxl3 hG hG3 hr f3
  go_enter Tryz.func92, Tryz.ntmps92
  go_wp2_with fail
  generalize w.alloc (.cells #[.bool false, .int .i64 (k : Int), .string s] 101) = W at HB0 K0 R0 C0 P0 G0 G3 x0 x3 f0 ⊢
  have k3 : W.cell? ⟨D, 2, none⟩ = some (.slice (some ⟨g, 0, none⟩) xs.length cap) := K0.out.cell 2
  have p1 : W.cell? ⟨w.heap.size, 1, none⟩ = some (.int .i64 (k : Int)) := P0.out.cell 1
  have p2 : W.cell? ⟨w.heap.size, 2, none⟩ = some (.string s) := P0.out.cell 2
  have i1 : (k : Int) < (xs.length : Int) := by omega
  have i3 : (k : Int) < (bs.length : Int) := by omega
  have i0 : (0 : Int) ≤ (k : Int) := by omega
  have q2 : v2.ownBlock ≠ some g := R0.out.2.2.2 g rfl
  -- behind the first store
  have hK1 := (K0.out.other g k (.string s) hgD).drew
  have hP1 := (P0.out.other g k (.string s) (by omega)).drew
  have hR1 := own_below (OwnTx.set R0.out.1 rfl k s) (Below.refl _ _).drew
  have hR2 := own_below (own_other R0.out.2.1 g k (.string s) q2) (Below.refl _ _).drew
  have hR3 := own_below (own_other R0.out.2.2.1 g k (.string s) (own_blk_ne R0.out.2.2.1 G0.out (by decide))) (Below.refl _ _).drew
  have hC1 := (C0.out.set G0.out (by decide) k (.string s)).below (Below.refl _ _).drew
  have hB1 : Below base w (W.setCell ⟨g, k, none⟩ (.string s)).drew := ((HB0.out.mono hb).setCell (p := ⟨g, k, none⟩) hbg _).drew
  have hG3' := (G3.out.other g k (.string s) (by omega)).drew
  have hx3 : (W.setCell ⟨g, k, none⟩ (.string s)).drew.cell? ⟨g3, k, none⟩ = some y3 := (hG3'.cell k).trans ((G3.out.cell k).symm.trans x3)
  have Hl1 := Lib.hid hl1
  have Hl3 := Lib.hid hl3
  have HR4 := Lib.hid R0.out.2.2.2
  clear hl1 hl3 x3
  go_region
  generalize (W.setCell ⟨g, k, none⟩ (.string s)).drew = W1 at hK1 hP1 hR1 hR2 hR3 hC1 hB1 hG3' hx3 ⊢
  have k1 : W1.cell? ⟨D, 1, none⟩ = some (.slice (some ⟨g3, 0, none⟩) bs.length cap3) := hK1.cell 1
  have p1' : W1.cell? ⟨w.heap.size, 1, none⟩ = some (.int .i64 (k : Int)) := hP1.cell 1
  have f3 := hG3'.frozen k
  have K1 := Lib.hid hK1
  have R1 := Lib.hid hR1
  have R2 := Lib.hid hR2
  have R3 := Lib.hid hR3
  have C1 := Lib.hid hC1
  have B1 := Lib.hid hB1
  have GG := Lib.hid hG3'
  clear hK1 hR1 hR2 hR3 hC1 hB1 hG3' K0 C0 R0 HB0 G0 G3 P0 p1 p2 k3 x0 f0 hP1
  go_wp2_with fail
  go_region
  go_end0
  refine ⟨⟨_, rfl⟩, ⟨.slice (some ⟨g, 0, none⟩) xs.length cap, v2, .slice (some ⟨g3, 0, none⟩) bs.length cap3, hbD, ?_, ⟨?_, ?_, ?_, HR4.out⟩, ?_⟩, ?_⟩
  · exact (K1.out.other g3 k (.bool false) hg3D).drew
  · exact own_below (own_other R1.out g3 k (.bool false) (own_blk_ne R1.out GG.out (by decide))) (Below.refl _ _).drew
  · exact own_below (own_other R2.out g3 k (.bool false) (own_blk_ne R2.out GG.out (by decide))) (Below.refl _ _).drew
  · exact own_below (OwnBo.set R3.out rfl k false) (Below.refl _ _).drew
  · exact (C1.out.set GG.out (by decide) k (.bool false)).below (Below.refl _ _).drew
  · exact (B1.out.setCell (p := ⟨g3, k, none⟩) hbg3 _).drew

theorem come_any (base D : Nat) (d : DiskD) (ids : List Nat) (p : PutD) (w : World) (hb : base ≤ w.heap.size) (hr : HasRows d) (hp : PutOk p) (hD : Drive w base D d ids) :
    Calls Tryz.prog 92 #[.pointer (some ⟨D, 0, none⟩), .agg #[.bool p.ring, .int .i64 p.pos, .string p.text]] w fun e w' => (∃ v, e = .returned v) ∧ Drive w' base D (comeD d p) ids ∧ Below base w w' := by
  obtain ⟨r, z, s⟩ := p
  cases r
  · have hp' : SlotOk z ∧ s.size = 3 := by simpa [PutOk] using hp
    obtain ⟨k, rfl⟩ := Int.eq_ofNat_of_zero_le hp'.1.1
    have := hp'.1.2
    exact comeSlot_any base D d ids k s w hb hr (by omega) hD
  · have hp' : (0 ≤ z ∧ z ≤ 1) ∧ s.size ≤ 700 := by simpa [PutOk] using hp
    obtain ⟨k, rfl⟩ := Int.eq_ofNat_of_zero_le hp'.1.1
    have := hp'.1.2
    exact comeRing_any base D d ids k s w hb hr (by omega) hD

end Go.Proofs.YtcdiengbmjkglaaGreat

namespace Go.Proofs.YtcdiengbmjkglaaGreat
open Go.RowKit Go.Sort Go.Shelf

/-- WHAT COMES OF WRITES, by the bits of a number: the first one's is the lowest. -/
def crashTo : DiskD → Int → List PutD → DiskD
  | d, _, [] => d
  | d, keep, p :: ps => crashTo (if keep % 2 = 1 then comeD d p else d) (keep / 2) ps
def crashD (d : DiskD) (keep : Int) : DiskD := let e := crashTo d keep d.wait; ⟨e.state, e.slots, e.rings, e.spoilt, []⟩
theorem crashTo_snoc (d : DiskD) (keep : Int) (ps : List PutD) (p : PutD) : crashTo d keep (ps ++ [p]) = (if (keep / 2 ^ ps.length) % 2 = 1 then comeD (crashTo d keep ps) p else crashTo d keep ps) := by
  induction ps generalizing d keep with
  | nil => simp [crashTo]
  | cons q ps ih =>
    show crashTo _ _ (ps ++ [p]) = _
    rw [ih]
    show _ = if keep / 2 ^ (ps.length + 1) % 2 = 1 then _ else _
    rw [Int.pow_succ, Int.mul_comm, Int.ediv_ediv_of_nonneg (by decide)]
    rfl
theorem crashTo_rows {d : DiskD} (h : HasRows d) (keep : Int) (ps : List PutD) : HasRows (crashTo d keep ps) := by
  induction ps generalizing d keep with
  | nil => exact h
  | cons q ps ih =>
    refine ih ?_ _
    split
    · exact comeD_rows h q
    · exact h
theorem crashTo_wait (d : DiskD) (keep : Int) (ps : List PutD) : (crashTo d keep ps).wait = d.wait ∧ (crashTo d keep ps).state = d.state := by
  induction ps generalizing d keep with
  | nil => exact ⟨rfl, rfl⟩
  | cons q ps ih =>
    have := ih (if keep % 2 = 1 then comeD d q else d) (keep / 2)
    have e : (if keep % 2 = 1 then comeD d q else d).wait = d.wait ∧ (if keep % 2 = 1 then comeD d q else d).state = d.state := by
      split
      · exact comeD_wait d q
      · exact ⟨rfl, rfl⟩
    exact ⟨this.1.trans e.1, this.2.trans e.2⟩

theorem filt_le {l : List Nat} {p q : Nat → Bool} (h : ∀ x ∈ l, p x = true → q x = true) : (l.filter p).length ≤ (l.filter q).length := by
  induction l with
  | nil => exact Nat.le_refl _
  | cons y l ih =>
    have ih' := ih (fun x hx => h x (List.mem_cons_of_mem _ hx))
    simp only [List.filter_cons]
    cases hp : p y
    · cases hq : q y
      · simpa using ih'
      · simp; omega
    · rw [h y List.mem_cons_self hp]
      simp; omega
theorem filt_lt {l : List Nat} {p q : Nat → Bool} (h : ∀ x ∈ l, p x = true → q x = true) (x : Nat) (hx : x ∈ l) (hq : q x = true) (hp : p x = false) : (l.filter p).length < (l.filter q).length := by
  induction l with
  | nil => cases hx
  | cons y l ih =>
    have h' : ∀ x ∈ l, p x = true → q x = true := fun x hx => h x (List.mem_cons_of_mem _ hx)
    simp only [List.filter_cons]
    rcases List.mem_cons.1 hx with e | hx'
    · subst e
      rw [hp, hq]
      have := filt_le h'
      simp; omega
    · have ih' := ih h' hx'
      cases hpy : p y
      · cases hqy : q y
        · simpa using ih'
        · simp; omega
      · rw [h y List.mem_cons_self hpy]
        simp; omega
/-- HOW FAR a pointer is from the end of a chain. -/
def rank (ids : List Nat) : Value → Nat
  | .pointer (some a) => (ids.filter fun i => decide (a.block ≤ i)).length
  | _ => 0
theorem rank_lt {ids : List Nat} (hs : ∀ i j, i < j → j < ids.length → ids.getD i 0 < ids.getD j 0) {k : Nat} (hk : k < ids.length) : rank ids (linkTo ids[k + 1]?) < rank ids (linkTo ids[k]?) := by
  have hmem : ids.getD k 0 ∈ ids := by rw [List.getD, List.getElem?_eq_getElem hk]; exact List.getElem_mem hk
  rw [ptrTo_lt hk]
  by_cases h1 : k + 1 < ids.length
  · rw [ptrTo_lt h1]
    have hh := hs k (k + 1) (by omega) h1
    generalize ids.getD k 0 = a at hmem hh ⊢
    generalize ids.getD (k + 1) 0 = b at hh ⊢
    exact filt_lt (fun x _ hx => by simp at hx ⊢; omega) _ hmem (by simp) (by simp; omega)
  · rw [ptrTo_ge (by omega)]
    show 0 < (ids.filter _).length
    exact List.length_pos_iff.2 (fun e => by
      have : ids.getD k 0 ∈ ids.filter (fun i => decide (ids.getD k 0 ≤ i)) := List.mem_filter.2 ⟨hmem, by simp⟩
      rw [e] at this; cases this)

theorem and_one (k : Int) : bits .and .i64 k 1 = k % 2 := by
  have h2 : (((k % 18446744073709551616).toNat &&& 1 : Nat) : Int) = k % 2 := by
    rw [Nat.and_one_is_mod]
    omega
  have h3 : IntKind.i64.wrap (((k % 18446744073709551616).toNat &&& 1 : Nat) : Int) = k % 2 := by
    rw [h2]
    exact IntWalk.i64_in _ (by omega)
  unfold bits
  simp
  exact h3

set_option maxRecDepth 100000 in
set_option maxHeartbeats 2000000 in
theorem settle_any (base D : Nat) (d : DiskD) (ids : List Nat) (keep : Int) (w : World) (hb : base ≤ w.heap.size) (hk1 : -9223372036854775808 ≤ keep) (hk2 : keep ≤ 9223372036854775807) (hr : HasRows d) (hps : AllPu PutOk d.wait) (hD : Drive w base D d ids) :
    Calls Tryz.prog 54 #[.pointer (some ⟨D, 0, none⟩), .int .i64 keep] w fun e w' => (∃ v, e = .returned v) ∧ Drive w' base D (crashD d keep) [] ∧ Below base w w' := by
  have HD := Lib.hid hD
  obtain ⟨v1, v2, v3, hbD, hk, h3, hc⟩ := hD
  have hil := hc.1
  have k4 : w.cell? ⟨D, 4, none⟩ = some (linkTo ids[0]?) := hk.cell 4
  have HR := Lib.hid hr
  have HPS := Lib.hid hps
  have Hil := Lib.hid hil
  have HSo := Lib.hid (show ∀ i j, i < j → j < ids.length → ids.getD i 0 < ids.getD j 0 from fun i j h1 h2 => hc.2.2 i j h1 (by omega))
  clear hk h3 hc hr hps hil
  obtain ⟨pa, hpa⟩ : ∃ pa, linkTo ids[0]? = .pointer pa := by
    cases ids[0]? with
    | none => exact ⟨_, rfl⟩
    | some b => exact ⟨_, rfl⟩
  rw [hpa] at k4
  have Hpa := Lib.hid hpa
  clear hpa
  go_enter Tryz.func54, Tryz.ntmps54
  go_wp2_with fail
  go_loopw [1, 4] (fun kv one wr => ∃ (k : Nat) (kk : Int), k ≤ d.wait.length ∧ kv = .int .i64 kk ∧ (-9223372036854775808 ≤ kk ∧ kk ≤ 9223372036854775807) ∧ Hid (kk = keep / 2 ^ k) ∧ Hid (one = linkTo ids[k]?) ∧ Hid (Drive wr base D (crashTo d keep (d.wait.take k)) ids) ∧ Hid (Below base w wr)) (fun _ one _ => rank ids one)
  case atStart => exact ⟨0, keep, by omega, rfl, ⟨hk1, hk2⟩, by show _ = _; simp, Hpa.out.symm, HD.out, Below.refl _ _⟩
  case round =>
    obtain ⟨k, kk, hk, rfl, hkk, hdiv, hone, hdr, hB⟩ := hrel
    by_cases hlt : k < d.wait.length
    · have hone' := hone.out.trans (ptrTo_lt (by rw [Hil.out]; exact hlt))
      have hdr0 := hdr.out
      obtain ⟨y1, y2, y3, _, hkD, hR3, hch⟩ := hdr0
      rw [(crashTo_wait d keep (d.wait.take k)).1] at hch
      obtain ⟨c1, c2⟩ := hch.2.1 k hlt
      have htk := Lib.hid (take_snocA d.wait put0 k hlt)
      have hpk := HPS.out k hlt
      have HPk := Lib.hid hpk
      generalize hq : d.wait.getD k put0 = q at c2 htk HPk
      generalize hid : ids.getD k 0 = id at c1 c2 hone'
      obtain ⟨nx, hnx⟩ : ∃ x, linkTo ids[k + 1]? = .pointer x := by
        cases ids[k + 1]? with
        | none => exact ⟨_, rfl⟩
        | some b => exact ⟨_, rfl⟩
      rw [hnx] at c2
      have HN := Lib.hid hnx
      have Hid' := Lib.hid hid
      subst hone'
      have b0 : wr.cell? ⟨id, 0, none⟩ = some (.bool q.ring) := c2.cell 0
      have b1 : wr.cell? ⟨id, 1, none⟩ = some (.int .i64 q.pos) := c2.cell 1
      have b2 : wr.cell? ⟨id, 2, none⟩ = some (.string q.text) := c2.cell 2
      have b3 : wr.cell? ⟨id, 3, none⟩ = some (.pointer nx) := c2.cell 3
      have HM := Lib.hid (rank_lt HSo.out (k := k) (by rw [Hil.out]; exact hlt))
      rw [HN.out, ← hone.out] at HM
      have HK2 := Lib.hid (show kk / 2 = keep / 2 ^ (k + 1) by rw [hdiv.out, Int.pow_succ, Int.ediv_ediv_of_nonneg (Int.pow_nonneg (by decide))])
      have HT := Lib.hid (crashTo_snoc d keep (d.wait.take k) q)
      rw [← htk.out, List.length_take, Nat.min_eq_left (Nat.le_of_lt hlt), ← hdiv.out] at HT
      clear hnx hid hq hpk c1 hkD hR3 hch
      by_cases hbit : kk % 2 = 1
      · have e1 : (bits .and .i64 kk 1 == 1) = true := by rw [and_one]; exact beq_iff_eq.2 hbit
        rw [if_pos hbit] at HT
        clear hbit
        go_wp2_with fail
        refine (come_any base D _ ids q _ (Nat.le_trans hb hB.out.size) (crashTo_rows HR.out _ _) HPk.out hdr.out).mono ?_
        rintro e w2 ⟨⟨v, rfl⟩, hd2, hB2⟩
        have b3' : w2.cell? ⟨id, 3, none⟩ = some (.pointer nx) := by
          obtain ⟨_, _, _, _, _, _, hch⟩ := hd2
          rw [(comeD_wait _ q).1, (crashTo_wait d keep (d.wait.take k)).1] at hch
          have := (hch.2.1 k hlt).2
          rw [Hid'.out, HN.out] at this
          exact this.cell 3
        have HD2 := Lib.hid hd2
        have HB2 := Lib.hid (hB.out.trans hB2)
        clear hd2 hB2 b0 b1 b2 b3
        go_wp2
        exact ⟨⟨k + 1, kk / 2, by omega, rfl, by omega, HK2, HN.out.symm, by rw [HT.out]; exact HD2, HB2⟩, HM.out⟩
      · have e1 : (bits .and .i64 kk 1 == 1) = false := by rw [and_one]; exact beq_eq_false_iff_ne.2 hbit
        rw [if_neg hbit] at HT
        clear hbit
        go_wp2
        exact ⟨⟨k + 1, kk / 2, by omega, rfl, by omega, HK2, HN.out.symm, by rw [HT.out]; exact hdr, hB⟩, HM.out⟩
    · obtain rfl : k = d.wait.length := by omega
      have hone' := hone.out.trans (ptrTo_ge (by rw [Hil.out]; exact Nat.le_refl _))
      subst hone'
      have hdr0 := hdr.out
      rw [List.take_length] at hdr0
      obtain ⟨y1, y2, y3, _, hkD, hR3, hch⟩ := hdr0
      have HKD := Lib.hid hkD
      have q4 : ∃ u, wr.cell? ⟨D, 4, none⟩ = some u := ⟨_, hkD.cell 4⟩
      have q5 : ∃ u, wr.cell? ⟨D, 5, none⟩ = some u := ⟨_, hkD.cell 5⟩
      have q6 : ∃ u, wr.cell? ⟨D, 6, none⟩ = some u := ⟨_, hkD.cell 6⟩
      obtain ⟨u4', q4⟩ := q4
      obtain ⟨u5', q5⟩ := q5
      obtain ⟨u6', q6⟩ := q6
      have g4 := hkD.frozen 4
      have g5 := hkD.frozen 5
      have g6 := hkD.frozen 6
      clear hkD hch
      go_wp2_with fail
      go_end0
      refine ⟨⟨_, rfl⟩, ⟨y1, y2, y3, hbD, ?_, ?_, ?_⟩, ?_⟩
      · exact ((HKD.out.set 4 (.pointer none)).set 5 (.pointer none)).set 6 (.int .i64 0)
      · have a1 := hR3.set HKD.out (by decide) (by decide) 4 (.pointer none)
        have k1 := HKD.out.set 4 (.pointer none)
        have a2 := a1.set k1 (by decide) (by decide) 5 (.pointer none)
        have k2 := k1.set 5 (.pointer none)
        exact a2.set k2 (by decide) (by decide) 6 (.int .i64 0)
      · exact ⟨rfl, fun j hj => by simp [crashD] at hj, fun i j h1 h2 => by simp [crashD] at h2⟩
      · exact ((hB.out.setCell (p := ⟨D, 4, none⟩) hbD _).setCell (p := ⟨D, 5, none⟩) hbD _).setCell (p := ⟨D, 6, none⟩) hbD _

end Go.Proofs.YtcdiengbmjkglaaGreat
