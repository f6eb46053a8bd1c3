/- DiskRead of the program and of the specification. Conditions: none but the row's own bound on sizes. -/
import Derived.Test.YthhmpimnagnjfaaH7
import Derived.Test.YthhmpimnagnjfaaH8
namespace Go.Proofs.Ythhmpimnagnjfaa
open Go.RowKit Go.Sort Go.Shelf

/-- WHAT A SLOT HAS, as if all that waits had come. -/
def lastTo (k : Nat) (t : ByteArray) (ps : List PutD) : ByteArray := ps.foldl (fun t p => if p.ring = false ∧ p.pos = (k : Int) then p.text else t) t
theorem lastTo_snoc (k : Nat) (t : ByteArray) (ps : List PutD) (p : PutD) : lastTo k t (ps ++ [p]) = if p.ring = false ∧ p.pos = (k : Int) then p.text else lastTo k t ps := by
  unfold lastTo; rw [List.foldl_append]; rfl
theorem allPu_cons {P : PutD → Prop} {p : PutD} {ps : List PutD} (h : AllPu P (p :: ps)) : P p ∧ AllPu P ps := ⟨h 0 (by simp), fun j hj => h (j + 1) (by simpa using hj)⟩
theorem set_getD {α : Type} (l : List α) (x d : α) (i k : Nat) (hi : i < l.length) : (l.set i x).getD k d = if i = k then x else l.getD k d := by
  by_cases e : i = k
  · subst e; rw [if_pos rfl, List.getD, List.getElem?_set_self hi]; rfl
  · rw [if_neg e, List.getD, List.getElem?_set_ne e]; rfl
theorem crash_last (d : DiskD) (ps : List PutD) (k : Nat) (hr : HasRows d) (hp : AllPu PutOk ps) : (crashTo d (-1) ps).slots.getD k ByteArray.empty = lastTo k (d.slots.getD k ByteArray.empty) ps := by
  induction ps generalizing d with
  | nil => rfl
  | cons p ps ih =>
    obtain ⟨h1, h2⟩ := allPu_cons hp
    show (crashTo (if (-1 : Int) % 2 = 1 then comeD d p else d) ((-1 : Int) / 2) ps).slots.getD k ByteArray.empty = _
    rw [if_pos (by decide), show (-1 : Int) / 2 = -1 by decide, ih _ (comeD_rows hr p) h2]
    show lastTo k _ ps = lastTo k (if p.ring = false ∧ p.pos = (k : Int) then p.text else d.slots.getD k ByteArray.empty) ps
    congr 1
    obtain ⟨r, z, s⟩ := p
    cases r
    · have hp' : SlotOk z ∧ s.size = 3 := by simpa [PutOk] using h1
      obtain ⟨m, rfl⟩ := Int.eq_ofNat_of_zero_le hp'.1.1
      have hm := hp'.1.2
      have hlen := hr.1
      show (d.slots.set m s).getD k ByteArray.empty = _
      rw [set_getD _ _ _ _ _ (by omega)]
      by_cases e : m = k
      · subst e; simp
      · rw [if_neg e, if_neg (fun h => e (by have := h.2; simp only at this; omega))]
    · show d.slots.getD k ByteArray.empty = _
      simp
theorem ret_2 {a b : ByteArray} {p q : Bool} (h : a = b) (k : p = q) : Ending.returned (.tuple #[.string a, .bool p]) = .returned (.tuple #[.string b, .bool q]) := by rw [h, k]

/-- WHAT DiskRead ANSWERS. -/
noncomputable def readD (d : DiskD) (z : Int) : ByteArray := if tt (DiskFine d ∧ SlotOk z) then (crashD d (-1)).slots.getD z.toNat ByteArray.empty else ByteArray.empty
noncomputable def isThere (t : ByteArray) : Bool := !tt (Empty0 t)
theorem isThere_empty : isThere ByteArray.empty = false := by unfold isThere; rw [tt_true (show Empty0 ByteArray.empty from rfl)]; rfl

set_option maxRecDepth 100000 in
set_option maxHeartbeats 2000000 in
theorem implRead_ok (v : Value) (d : DiskD) (k : Nat) (w : World) (hf : DiskFine d) (hk : k < 12) (hv : DiskV w v d) :
    Calls Try.prog 22 #[v, .int .i64 (k : Int)] w fun e w' => e = .returned (.tuple #[.string ((crashD d (-1)).slots.getD k ByteArray.empty), .bool (isThere ((crashD d (-1)).slots.getD k ByteArray.empty))]) ∧ Below w.heap.size w w' := by
  obtain ⟨z0, z1, _⟩ := fine_sizes hf
  have HDr := Lib.hid (fun W (h : Below w.heap.size w W) => driveOf_ok v d W hf (hv.below h))
  have HSe := Lib.hid (fun base D ids W h1 hD => settle_any base D d ids (-1) W h1 (by omega) (by omega) z0 hf.2.2.2.2.1 hD)
  have hlen : (crashD d (-1)).slots.length = 12 := (crashTo_rows z0 (-1) d.wait).1
  generalize crashD d (-1) = de at HSe hlen
  have hsl := Lib.hid (fun W => isSlot_any (k : Int) W)
  rw [tt_true (show SlotOk (k : Int) by unfold SlotOk; omega)] at hsl
  obtain ⟨st, xs, ys, bs, ps⟩ := d
  obtain ⟨v1, v2, v3, v4, rfl, ⟨a1, c1, rfl, _⟩, ⟨a2, c2, rfl, _⟩, ⟨a3, c3, rfl, _⟩, ⟨a4, c4, rfl, _⟩⟩ := hv
  simp only at HDr HSe
  clear hf z0 z1
  have HB := Lib.hid (show Below w.heap.size w (w.alloc (.cells #[.int .i64 st, .slice a1 xs.length c1, .slice a2 ys.length c2, .slice a3 bs.length c3, .slice a4 ps.length c4] 28)) from (Below.refl _ _).alloc (Nat.le_refl _) _)
  go_enter Try.func22, Try.ntmps22
  go_wp2_with fail
  generalize (w.alloc (.cells #[.int .i64 st, .slice a1 xs.length c1, .slice a2 ys.length c2, .slice a3 bs.length c3, .slice a4 ps.length c4] 28)) = W at HB ⊢
  refine (HDr.out _ HB.out).mono ?_
  rintro e w1 ⟨DD, ids, rfl, hD1, hB1⟩
  have B1 := Lib.hid (below_trans HB.out hB1 HB.out.size)
  have z1 := hB1.size
  have hWs := HB.out.size
  have HD1 := Lib.hid hD1
  clear hD1 hB1
  go_wp2_with fail
  refine (hsl.out _).mono ?_
  rintro e w1' ⟨rfl, rfl⟩
  go_wp2_with fail
  refine (HSe.out _ _ _ _ z1 HD1.out).mono ?_
  rintro e w2 ⟨⟨vv, rfl⟩, hD2, hB2⟩
  have B2 := Lib.hid (B1.out.trans (hB2.mono hWs))
  obtain ⟨y1, y2, y3, _, hkD, hR3, _⟩ := hD2
  obtain ⟨g, cap, cur, rfl, hbg, hG⟩ := own_form hR3.1 (show de.slots.length ≠ 0 by omega)
  obtain ⟨x0, _⟩ := own_cell hR3.1 k (by omega)
  rw [txC_get de.slots k (by omega)] at x0
  have k2 : w2.cell? ⟨DD, 2, none⟩ = some (.slice (some ⟨g, 0, none⟩) de.slots.length cap) := hkD.cell 2
  generalize hgt : de.slots.getD k ByteArray.empty = t at x0
  have Hgt := Lib.hid hgt
  clear hgt
  have HE := Lib.hid (fun W => isEmpty_any t W)
  have HT := Lib.hid (show isThere t = !tt (Empty0 t) from rfl)
  generalize tt (Empty0 t) = be at HE HT
  have i1 : (k : Int) < (de.slots.length : Int) := by omega
  clear hB2 hkD hR3 hG
  go_wp2_with fail
  refine (HE.out _).mono ?_
  rintro e w3 ⟨rfl, rfl⟩
  go_wp2
  go_ret2
  exact ⟨by rw [Hgt.out]; exact ret_2 rfl HT.out.symm, B2.out⟩

set_option maxRecDepth 100000 in
set_option maxHeartbeats 2000000 in
theorem implRead_no (v : Value) (d : DiskD) (z : Int) (w : World) (hf : ¬(DiskFine d ∧ SlotOk z)) (hv : DiskV w v d) :
    Calls Try.prog 22 #[v, .int .i64 z] w fun e w' => e = .returned (.tuple #[.string ByteArray.empty, .bool false]) ∧ Below w.heap.size w w' := by
  by_cases h : DiskFine d
  · have hz : ¬SlotOk z := fun k => hf ⟨h, k⟩
    have HDr := Lib.hid (fun W (hh : Below w.heap.size w W) => driveOf_ok v d W h (hv.below hh))
    have hsl := Lib.hid (fun W => isSlot_any z W)
    rw [tt_false hz] at hsl
    obtain ⟨st, xs, ys, bs, ps⟩ := d
    obtain ⟨v1, v2, v3, v4, rfl, ⟨a1, c1, rfl, _⟩, ⟨a2, c2, rfl, _⟩, ⟨a3, c3, rfl, _⟩, ⟨a4, c4, rfl, _⟩⟩ := hv
    simp only at HDr
    clear hf h hz
    have HB := Lib.hid (show Below w.heap.size w (w.alloc (.cells #[.int .i64 st, .slice a1 xs.length c1, .slice a2 ys.length c2, .slice a3 bs.length c3, .slice a4 ps.length c4] 28)) from (Below.refl _ _).alloc (Nat.le_refl _) _)
    go_enter Try.func22, Try.ntmps22
    go_wp2_with fail
    refine (HDr.out _ HB.out).mono ?_
    rintro e w1 ⟨DD, ids, rfl, _, hB1⟩
    go_wp2_with fail
    refine (hsl.out _).mono ?_
    rintro e w1' ⟨rfl, rfl⟩
    go_wp2
    go_ret2
    exact ⟨rfl, below_trans HB.out hB1 HB.out.size⟩
  · have HDr := Lib.hid (fun W (hh : Below w.heap.size w W) => driveOf_no v d W h (hv.below hh))
    obtain ⟨st, xs, ys, bs, ps⟩ := d
    obtain ⟨v1, v2, v3, v4, rfl, ⟨a1, c1, rfl, _⟩, ⟨a2, c2, rfl, _⟩, ⟨a3, c3, rfl, _⟩, ⟨a4, c4, rfl, _⟩⟩ := hv
    simp only at HDr
    clear hf h
    have HB := Lib.hid (show Below w.heap.size w (w.alloc (.cells #[.int .i64 st, .slice a1 xs.length c1, .slice a2 ys.length c2, .slice a3 bs.length c3, .slice a4 ps.length c4] 28)) from (Below.refl _ _).alloc (Nat.le_refl _) _)
    go_enter Try.func22, Try.ntmps22
    go_wp2_with fail
    refine (HDr.out _ HB.out).mono ?_
    rintro e w1 ⟨rfl, hB1⟩
    go_wp2
    go_ret2
    exact ⟨rfl, below_trans HB.out hB1 HB.out.size⟩

theorem implRead_any (v : Value) (d : DiskD) (z : Int) (w : World) (hv : DiskV w v d) :
    Calls Try.prog 22 #[v, .int .i64 z] w fun e w' => e = .returned (.tuple #[.string (readD d z), .bool (isThere (readD d z))]) ∧ Below w.heap.size w w' := by
  by_cases h : DiskFine d ∧ SlotOk z
  · obtain ⟨k, rfl⟩ := Int.eq_ofNat_of_zero_le h.2.1
    have := h.2.2
    unfold readD
    rw [tt_true h]
    exact implRead_ok v d k w h.1 (by omega) hv
  · unfold readD
    rw [tt_false h, if_neg (by simp), isThere_empty]
    exact implRead_no v d z w h hv

set_option maxRecDepth 100000 in
set_option maxHeartbeats 2000000 in
theorem l3Read_any (v : Value) (d : DiskD) (k : Nat) (w : World) (hf : DiskFine d) (hk : k < 12) (hv : DiskV w v d) :
    Calls Try.prog 88 #[v, .int .i64 (k : Int)] w fun e w' => e = .returned (.tuple #[.string ((crashD d (-1)).slots.getD k ByteArray.empty), .bool (isThere ((crashD d (-1)).slots.getD k ByteArray.empty))]) ∧ Below w.heap.size w w' := by
  obtain ⟨z0, z1, _⟩ := fine_sizes hf
  have hE := crash_last d d.wait k z0 hf.2.2.2.2.1
  rw [show (crashD d (-1)).slots.getD k ByteArray.empty = lastTo k (d.slots.getD k ByteArray.empty) d.wait from hE]
  have hgone := hf.2.2.2.2.2
  obtain ⟨st, xs, ys, bs, ps⟩ := d
  obtain ⟨v1, v2, v3, v4, rfl, ⟨a1, c1, rfl, _, _, x1⟩, ⟨a2, c2, rfl, _⟩, ⟨a3, c3, rfl, _⟩, ⟨a4, c4, rfl, _, _, x4⟩⟩ := hv
  simp only at hgone z1 x1 x4 ⊢
  have hl1 : xs.length = 12 := z0.1
  have hB := (show Below w.heap.size w (w.alloc (.cells #[.int .i64 st, .slice a1 xs.length c1, .slice a2 ys.length c2, .slice a3 bs.length c3, .slice a4 ps.length c4] 28)) from (Below.refl _ _).alloc (Nat.le_refl _) _)
  have HB := Lib.hid hB
  have HK := Lib.hid (Blk.new w #[.int .i64 st, .slice a1 xs.length c1, .slice a2 ys.length c2, .slice a3 bs.length c3, .slice a4 ps.length c4] 28)
  have X4 := Lib.hid (x4.below hB)
  obtain ⟨b1, o1, rfl, hc1⟩ := (x1.below hB).resolve_left (fun e => by rw [e] at hl1; simp at hl1)
  have hck := hc1 k (by omega)
  have Hl1 := Lib.hid hl1
  have i1 : (k : Int) < (xs.length : Int) := by omega
  clear hf hE z0 x1 x4 hB hc1 hl1
  by_cases hs : st = 1
  · obtain ⟨g1, _, g3⟩ := hgone hs
    have e1 : (xs.getD k ByteArray.empty) = ByteArray.empty := tx_none (g1 k (show k < xs.length by have := Hl1.out; omega))
    have e2 : ps = [] := List.eq_nil_of_length_eq_zero g3
    subst e2
    have HF := Lib.hid (show lastTo k (xs.getD k ByteArray.empty) [] = ByteArray.empty from e1)
    rw [HF.out, isThere_empty]
    subst hs
    clear g1 g3 e1 hgone
    go_enter Try.func88, Try.ntmps88
    go_wp2
    go_ret2
    exact ⟨rfl, HB.out⟩
  · have es : (st == 1) = false := beq_eq_false_iff_ne.2 hs
    clear hs hgone
    generalize hgt : xs.getD k ByteArray.empty = t0 at hck ⊢
    clear hgt
    go_enter Try.func88, Try.ntmps88
    go_wp2_with fail
    generalize (w.alloc (.cells #[.int .i64 st, .slice (some ⟨b1, o1, none⟩) xs.length c1, .slice a2 ys.length c2, .slice a3 bs.length c3, .slice a4 ps.length c4] 28)) = W at HB HK X4 hck ⊢
    have p4 : W.cell? ⟨w.heap.size, 4, none⟩ = some (.slice a4 ps.length c4) := HK.out.cell 4
    go_loop [6, 7] (fun tv i => ∃ j : Nat, i = .int .i64 (j : Int) ∧ j ≤ ps.length ∧ tv = .string (lastTo k t0 (ps.take j))) (fun _ i => ps.length - (intOf i).toNat)
    case atStart => exact ⟨0, rfl, by omega, rfl⟩
    case round =>
      obtain ⟨j, rfl, hj, rfl⟩ := hrel
      by_cases hlt : j < ps.length
      · obtain ⟨b, off, rfl, hc⟩ := X4.out.resolve_left (fun e => by subst e; simp at hlt)
        obtain ⟨q0, q1, q2⟩ := hc j hlt
        have HT := Lib.hid (take_snoc ps put0 j hlt)
        generalize ps.getD j put0 = q at q0 q1 q2 HT
        obtain ⟨r, z, s⟩ := q
        simp only at q0 q1 q2
        have HS := Lib.hid (lastTo_snoc k t0 (ps.take j) ⟨r, z, s⟩)
        rw [← HT.out] at HS
        generalize lastTo k t0 (ps.take j) = told at HS ⊢
        clear hc HT
        cases r
        · by_cases hz : z = (k : Int)
          · rw [if_pos ⟨rfl, hz⟩] at HS
            have dz : (z == (k : Int)) = true := beq_iff_eq.2 hz
            subst hz
            go_wp2
            exact ⟨⟨j + 1, by go_num, by omega, by rw [HS.out]⟩, by simp [intOf]; omega⟩
          · rw [if_neg (fun h => hz h.2)] at HS
            have dz : (z == (k : Int)) = false := beq_eq_false_iff_ne.2 hz
            clear hz
            go_wp2
            exact ⟨⟨j + 1, by go_num, by omega, by rw [HS.out]⟩, by simp [intOf]; omega⟩
        · rw [if_neg (fun h => by cases h.1)] at HS
          go_wp2
          exact ⟨⟨j + 1, by go_num, by omega, by rw [HS.out]⟩, by simp [intOf]; omega⟩
      · obtain rfl : j = ps.length := by omega
        rw [List.take_length]
        generalize hgt : lastTo k t0 ps = t
        have Hgt := Lib.hid hgt
        clear hgt
        by_cases h0 : t.size = 0
        · obtain rfl := tx_none h0
          clear h0
          go_wp2
          go_ret2
          exact ⟨by rw [Hgt.out, isThere_empty]; rfl, HB.out⟩
        · have hne := tx_some h0
          have HT := Lib.hid (show isThere t = true by unfold isThere; rw [tt_false (show ¬Empty0 t from h0)]; rfl)
          clear h0
          go_wp2
          go_ret2
          exact ⟨by rw [Hgt.out]; exact ret_2 rfl HT.out.symm, HB.out⟩

set_option maxRecDepth 100000 in
set_option maxHeartbeats 2000000 in
theorem specRead_any (v : Value) (d : DiskD) (z : Int) (w : World) (hv : DiskV w v d) :
    Calls Try.prog 44 #[v, .int .i64 z] w fun e w' => e = .returned (.tuple #[.string (readD d z), .bool (isThere (readD d z))]) ∧ Below w.heap.size w w' := by
  have HO := Lib.hid (fun W (h : Below w.heap.size w W) => specOk_any v d W (hv.below h))
  have HI := Lib.hid (fun W => l6_any z 0 11 W)
  have HR := Lib.hid (fun k hk hf W (h : Below w.heap.size w W) => l3Read_any v d k W hf hk (hv.below h))
  by_cases h : DiskFine d
  · rw [tt_true h] at HO
    by_cases hz : SlotOk z
    · obtain ⟨k, rfl⟩ := Int.eq_ofNat_of_zero_le hz.1
      have hk12 := hz.2
      rw [tt_true (show (0 : Int) ≤ (k : Int) ∧ (k : Int) ≤ 11 from hz)] at HI
      have HR2 := Lib.hid (HR.out k (by omega) h)
      have HE := Lib.hid (show readD d (k : Int) = (crashD d (-1)).slots.getD k ByteArray.empty by unfold readD; rw [tt_true ⟨h, hz⟩]; rfl)
      rw [HE.out]
      generalize (crashD d (-1)).slots.getD k ByteArray.empty = t at HR2 ⊢
      generalize isThere t = bt at HR2 ⊢
      obtain ⟨st, xs, ys, bs, ps⟩ := d
      obtain ⟨v1, v2, v3, v4, rfl, ⟨a1, c1, rfl, _⟩, ⟨a2, c2, rfl, _⟩, ⟨a3, c3, rfl, _⟩, ⟨a4, c4, rfl, _⟩⟩ := hv
      simp only at HO HR2
      clear h hz hk12 HR HE
      have HB := Lib.hid (show Below w.heap.size w (w.alloc (.cells #[.int .i64 st, .slice a1 xs.length c1, .slice a2 ys.length c2, .slice a3 bs.length c3, .slice a4 ps.length c4] 28)) from (Below.refl _ _).alloc (Nat.le_refl _) _)
      have HK := Lib.hid (Blk.new w #[.int .i64 st, .slice a1 xs.length c1, .slice a2 ys.length c2, .slice a3 bs.length c3, .slice a4 ps.length c4] 28)
      go_enter Try.func44, Try.ntmps44
      go_wp2_with fail
      generalize (w.alloc (.cells #[.int .i64 st, .slice a1 xs.length c1, .slice a2 ys.length c2, .slice a3 bs.length c3, .slice a4 ps.length c4] 28)) = W at HB HK ⊢
      refine (HO.out _ HB.out).mono ?_
      rintro e w1 ⟨rfl, hB1⟩
      have K1 := Lib.hid (HK.out.below hB1 HK.out.lt)
      have B1 := Lib.hid (below_trans HB.out hB1 HB.out.size)
      obtain ⟨p0, p1, p2, p3, p4⟩ : w1.cell? ⟨w.heap.size, 0, none⟩ = some (.int .i64 st) ∧ w1.cell? ⟨w.heap.size, 1, none⟩ = some (.slice a1 xs.length c1) ∧ w1.cell? ⟨w.heap.size, 2, none⟩ = some (.slice a2 ys.length c2) ∧ w1.cell? ⟨w.heap.size, 3, none⟩ = some (.slice a3 bs.length c3) ∧ w1.cell? ⟨w.heap.size, 4, none⟩ = some (.slice a4 ps.length c4) := ⟨(K1.out.cell 0), (K1.out.cell 1), (K1.out.cell 2), (K1.out.cell 3), (K1.out.cell 4)⟩
      clear hB1
      go_wp2_with fail
      refine (HI.out _).mono ?_
      rintro e w1' ⟨rfl, rfl⟩
      go_wp2_with fail
      refine (HR2.out _ B1.out).mono ?_
      rintro e w2 ⟨rfl, hB2⟩
      go_wp2
      go_ret2
      exact ⟨rfl, below_trans B1.out hB2 B1.out.size⟩
    · rw [tt_false (show ¬((0 : Int) ≤ z ∧ z ≤ 11) from hz)] at HI
      have HE := Lib.hid (show readD d z = ByteArray.empty by unfold readD; rw [tt_false (fun k => hz k.2)]; rfl)
      rw [HE.out, isThere_empty]
      obtain ⟨st, xs, ys, bs, ps⟩ := d
      obtain ⟨v1, v2, v3, v4, rfl, ⟨a1, c1, rfl, _⟩, ⟨a2, c2, rfl, _⟩, ⟨a3, c3, rfl, _⟩, ⟨a4, c4, rfl, _⟩⟩ := hv
      simp only at HO
      clear h hz HR HE
      have HB := Lib.hid (show Below w.heap.size w (w.alloc (.cells #[.int .i64 st, .slice a1 xs.length c1, .slice a2 ys.length c2, .slice a3 bs.length c3, .slice a4 ps.length c4] 28)) from (Below.refl _ _).alloc (Nat.le_refl _) _)
      go_enter Try.func44, Try.ntmps44
      go_wp2_with fail
      refine (HO.out _ HB.out).mono ?_
      rintro e w1 ⟨rfl, hB1⟩
      go_wp2_with fail
      refine (HI.out _).mono ?_
      rintro e w1' ⟨rfl, rfl⟩
      go_wp2
      go_ret2
      exact ⟨rfl, below_trans HB.out hB1 HB.out.size⟩
  · rw [tt_false h] at HO
    have HE := Lib.hid (show readD d z = ByteArray.empty by unfold readD; rw [tt_false (fun k => h k.1)]; rfl)
    rw [HE.out, isThere_empty]
    obtain ⟨st, xs, ys, bs, ps⟩ := d
    obtain ⟨v1, v2, v3, v4, rfl, ⟨a1, c1, rfl, _⟩, ⟨a2, c2, rfl, _⟩, ⟨a3, c3, rfl, _⟩, ⟨a4, c4, rfl, _⟩⟩ := hv
    simp only at HO
    clear h HR HE
    have HB := Lib.hid (show Below w.heap.size w (w.alloc (.cells #[.int .i64 st, .slice a1 xs.length c1, .slice a2 ys.length c2, .slice a3 bs.length c3, .slice a4 ps.length c4] 28)) from (Below.refl _ _).alloc (Nat.le_refl _) _)
    go_enter Try.func44, Try.ntmps44
    go_wp2_with fail
    refine (HO.out _ HB.out).mono ?_
    rintro e w1 ⟨rfl, hB1⟩
    go_wp2
    go_ret2
    exact ⟨rfl, below_trans HB.out hB1 HB.out.size⟩

end Go.Proofs.Ythhmpimnagnjfaa
