/- DiskRead of the program and of the specification. Conditions: none but the row's own bound on sizes. DiskNew of the program and of the specification. Conditions: none. -/
import Derived.Test.YtcdiengbmjkglaaGreatPKH6
import Derived.Test.YtcdiengbmjkglaaGreatPKH8
import Derived.Test.YtcdiengbmjkglaaGreatPKG7
import Derived.Test.YtcdiengbmjkglaaGreatPKG3
import Derived.Deep.RegionWith
namespace Go.Proofs.YtcdiengbmjkglaaGreat
open Go.RowKit Go.Sort Go.Shelf

/-- WHAT A SLOT HAS, as if all that waits had come. -/
def lastTo (k : Nat) (t : ByteArray) (ps : List PutD) : ByteArray := ps.foldl (fun t p => if p.ring = false ∧ p.pos = (k : Int) then p.text else t) t
theorem lastTo_snoc (k : Nat) (t : ByteArray) (ps : List PutD) (p : PutD) : lastTo k t (ps ++ [p]) = if p.ring = false ∧ p.pos = (k : Int) then p.text else lastTo k t ps := by
  unfold lastTo; rw [List.foldl_append]; rfl
theorem allPu_cons {P : PutD → Prop} {p : PutD} {ps : List PutD} (h : AllPu P (p :: ps)) : P p ∧ AllPu P ps := ⟨h 0 (by simp), fun j hj => h (j + 1) (by simpa using hj)⟩
theorem set_getD {α : Type} (l : List α) (x d : α) (i k : Nat) (hi : i < l.length) : (l.set i x).getD k d = if i = k then x else l.getD k d := by
  by_cases e : i = k
  · subst e; rw [if_pos rfl, List.getD, List.getElem?_set_self hi]; rfl
  · rw [if_neg e, List.getD, List.getElem?_set_ne e]; rfl
theorem crash_last (d : DiskD) (ps : List PutD) (k : Nat) (hr : HasRows d) (hp : AllPu PutOk ps) : (crashTo d (-1) ps).slots.getD k ByteArray.empty = lastTo k (d.slots.getD k ByteArray.empty) ps := by
  induction ps generalizing d with
  | nil => rfl
  | cons p ps ih =>
    obtain ⟨h1, h2⟩ := allPu_cons hp
    show (crashTo (if (-1 : Int) % 2 = 1 then comeD d p else d) ((-1 : Int) / 2) ps).slots.getD k ByteArray.empty = _
    rw [if_pos (by decide), show (-1 : Int) / 2 = -1 by decide, ih _ (comeD_rows hr p) h2]
    show lastTo k _ ps = lastTo k (if p.ring = false ∧ p.pos = (k : Int) then p.text else d.slots.getD k ByteArray.empty) ps
    congr 1
    obtain ⟨r, z, s⟩ := p
    cases r
    · have hp' : SlotOk z ∧ s.size = 3 := by simpa [PutOk] using h1
      obtain ⟨m, rfl⟩ := Int.eq_ofNat_of_zero_le hp'.1.1
      have hm := hp'.1.2
      have hlen := hr.1
      show (d.slots.set m s).getD k ByteArray.empty = _
      rw [set_getD _ _ _ _ _ (by omega)]
      by_cases e : m = k
      · subst e; simp
      · rw [if_neg e, if_neg (fun h => e (by have := h.2; simp only at this; omega))]
    · show d.slots.getD k ByteArray.empty = _
      simp
theorem ret_2 {a b : ByteArray} {p q : Bool} (h : a = b) (k : p = q) : Ending.returned (.tuple #[.string a, .bool p]) = .returned (.tuple #[.string b, .bool q]) := by rw [h, k]

/-- WHAT DiskRead ANSWERS. -/
noncomputable def readD (d : DiskD) (z : Int) : ByteArray := if tt (DiskFine d ∧ SlotOk z) then (crashD d (-1)).slots.getD z.toNat ByteArray.empty else ByteArray.empty
noncomputable def isThere (t : ByteArray) : Bool := !tt (Empty0 t)
theorem isThere_empty : isThere ByteArray.empty = false := by unfold isThere; rw [tt_true (show Empty0 ByteArray.empty from rfl)]; rfl

set_option maxRecDepth 100000 in
set_option maxHeartbeats 2000000 in
theorem implRead_ok (v : Value) (d : DiskD) (k : Nat) (w : World) (hf : DiskFine d) (hk : k < 12) (hv : DiskV w v d) :
    Calls Tryz.prog 18 #[v, .int .i64 (k : Int)] w fun e w' => e = .returned (.tuple #[.string ((crashD d (-1)).slots.getD k ByteArray.empty), .bool (isThere ((crashD d (-1)).slots.getD k ByteArray.empty))]) ∧ Below w.heap.size w w' := by
  obtain ⟨z0, z1, _⟩ := fine_sizes hf
  have HDr := Lib.hid (fun W (h : Below w.heap.size w W) => driveOf_ok v d W hf (hv.below h))
  have HSe := Lib.hid (fun base D ids W h1 hD => settle_any base D d ids (-1) W h1 (by omega) (by omega) z0 hf.2.2.2.2.1 hD)
  have hlen : (crashD d (-1)).slots.length = 12 := (crashTo_rows z0 (-1) d.wait).1
  generalize crashD d (-1) = de at HSe hlen
  have hsl := Lib.hid (fun W => isSlot_any (k : Int) W)
  rw [tt_true (show SlotOk (k : Int) by unfold SlotOk; omega)] at hsl
  obtain ⟨st, xs, ys, bs, ps⟩ := d
  obtain ⟨v1, v2, v3, v4, rfl, ⟨a1, c1, rfl, _⟩, ⟨a2, c2, rfl, _⟩, ⟨a3, c3, rfl, _⟩, ⟨a4, c4, rfl, _⟩⟩ := hv
  simp only at HDr HSe
  clear hf z0 z1
  have HB := Lib.hid (show Below w.heap.size w (w.alloc (.cells #[.int .i64 st, .slice a1 xs.length c1, .slice a2 ys.length c2, .slice a3 bs.length c3, .slice a4 ps.length c4] 50)) from (Below.refl _ _).alloc (Nat.le_refl _) _)
  go_enter Tryz.func18, Tryz.ntmps18
  go_wp2_with fail
  generalize (w.alloc (.cells #[.int .i64 st, .slice a1 xs.length c1, .slice a2 ys.length c2, .slice a3 bs.length c3, .slice a4 ps.length c4] 50)) = W at HB ⊢
  refine (HDr.out _ HB.out).mono ?_
  rintro e w1 ⟨DD, ids, rfl, hD1, hB1⟩
  have B1 := Lib.hid (below_trans HB.out hB1 HB.out.size)
  have z1 := hB1.size
  have hWs := HB.out.size
  have HD1 := Lib.hid hD1
  clear hD1 hB1
  go_wp2_with fail
  refine (hsl.out _).mono ?_
  rintro e w1' ⟨rfl, rfl⟩
  go_wp2_with fail
  refine (HSe.out _ _ _ _ z1 HD1.out).mono ?_
  rintro e w2 ⟨⟨vv, rfl⟩, hD2, hB2⟩
  have B2 := Lib.hid (B1.out.trans (hB2.mono hWs))
  obtain ⟨y1, y2, y3, _, hkD, hR3, _⟩ := hD2
  obtain ⟨g, cap, cur, rfl, hbg, hG⟩ := own_form hR3.1 (show de.slots.length ≠ 0 by omega)
  obtain ⟨x0, _⟩ := own_cell hR3.1 k (by omega)
  rw [txC_get de.slots k (by omega)] at x0
  have k2 : w2.cell? ⟨DD, 2, none⟩ = some (.slice (some ⟨g, 0, none⟩) de.slots.length cap) := hkD.cell 2
  generalize hgt : de.slots.getD k ByteArray.empty = t at x0
  have Hgt := Lib.hid hgt
  clear hgt
  have HE := Lib.hid (fun W => isEmpty_any t W)
  have HT := Lib.hid (show isThere t = !tt (Empty0 t) from rfl)
  generalize tt (Empty0 t) = be at HE HT
  have i1 : (k : Int) < (de.slots.length : Int) := by omega
  clear hB2 hkD hR3 hG
  go_wp2_with fail
  refine (HE.out _).mono ?_
  rintro e w3 ⟨rfl, rfl⟩
  go_wp2
  go_ret2
  exact ⟨by rw [Hgt.out]; exact ret_2 rfl HT.out.symm, B2.out⟩

set_option maxRecDepth 100000 in
set_option maxHeartbeats 2000000 in
theorem implRead_no (v : Value) (d : DiskD) (z : Int) (w : World) (hf : ¬(DiskFine d ∧ SlotOk z)) (hv : DiskV w v d) :
    Calls Tryz.prog 18 #[v, .int .i64 z] w fun e w' => e = .returned (.tuple #[.string ByteArray.empty, .bool false]) ∧ Below w.heap.size w w' := by
  by_cases h : DiskFine d
  · have hz : ¬SlotOk z := fun k => hf ⟨h, k⟩
    have HDr := Lib.hid (fun W (hh : Below w.heap.size w W) => driveOf_ok v d W h (hv.below hh))
    have hsl := Lib.hid (fun W => isSlot_any z W)
    rw [tt_false hz] at hsl
    obtain ⟨st, xs, ys, bs, ps⟩ := d
    obtain ⟨v1, v2, v3, v4, rfl, ⟨a1, c1, rfl, _⟩, ⟨a2, c2, rfl, _⟩, ⟨a3, c3, rfl, _⟩, ⟨a4, c4, rfl, _⟩⟩ := hv
    simp only at HDr
    clear hf h hz
    have HB := Lib.hid (show Below w.heap.size w (w.alloc (.cells #[.int .i64 st, .slice a1 xs.length c1, .slice a2 ys.length c2, .slice a3 bs.length c3, .slice a4 ps.length c4] 50)) from (Below.refl _ _).alloc (Nat.le_refl _) _)
    go_enter Tryz.func18, Tryz.ntmps18
    go_wp2_with fail
    refine (HDr.out _ HB.out).mono ?_
    rintro e w1 ⟨DD, ids, rfl, _, hB1⟩
    go_wp2_with fail
    refine (hsl.out _).mono ?_
    rintro e w1' ⟨rfl, rfl⟩
    go_wp2
    go_ret2
    exact ⟨rfl, below_trans HB.out hB1 HB.out.size⟩
  · have HDr := Lib.hid (fun W (hh : Below w.heap.size w W) => driveOf_no v d W h (hv.below hh))
    obtain ⟨st, xs, ys, bs, ps⟩ := d
    obtain ⟨v1, v2, v3, v4, rfl, ⟨a1, c1, rfl, _⟩, ⟨a2, c2, rfl, _⟩, ⟨a3, c3, rfl, _⟩, ⟨a4, c4, rfl, _⟩⟩ := hv
    simp only at HDr
    clear hf h
    have HB := Lib.hid (show Below w.heap.size w (w.alloc (.cells #[.int .i64 st, .slice a1 xs.length c1, .slice a2 ys.length c2, .slice a3 bs.length c3, .slice a4 ps.length c4] 50)) from (Below.refl _ _).alloc (Nat.le_refl _) _)
    go_enter Tryz.func18, Tryz.ntmps18
    go_wp2_with fail
    refine (HDr.out _ HB.out).mono ?_
    rintro e w1 ⟨rfl, hB1⟩
    go_wp2
    go_ret2
    exact ⟨rfl, below_trans HB.out hB1 HB.out.size⟩

theorem implRead_any (v : Value) (d : DiskD) (z : Int) (w : World) (hv : DiskV w v d) :
    Calls Tryz.prog 18 #[v, .int .i64 z] w fun e w' => e = .returned (.tuple #[.string (readD d z), .bool (isThere (readD d z))]) ∧ Below w.heap.size w w' := by
  by_cases h : DiskFine d ∧ SlotOk z
  · obtain ⟨k, rfl⟩ := Int.eq_ofNat_of_zero_le h.2.1
    have := h.2.2
    unfold readD
    rw [tt_true h]
    exact implRead_ok v d k w h.1 (by omega) hv
  · unfold readD
    rw [tt_false h, if_neg (by simp), isThere_empty]
    exact implRead_no v d z w h hv

end Go.Proofs.YtcdiengbmjkglaaGreat

namespace Go.Proofs.YtcdiengbmjkglaaGreat
open Go.RowKit Go.Sort

def twelve : List ByteArray := List.replicate 12 ByteArray.empty
def two2 : List ByteArray := List.replicate 2 ByteArray.empty
def twelveB : List Bool := List.replicate 12 false
/-- **DiskNew**, as the document has it. -/
noncomputable def diskNew (st : Int) : DiskD := if tt (StateOk st) then ⟨st, twelve, two2, twelveB, []⟩ else disk0
theorem diskNew_yes {st : Int} (h : StateOk st) : diskNew st = ⟨st, twelve, two2, twelveB, []⟩ := by unfold diskNew; rw [tt_true h]; rfl
theorem diskNew_no {st : Int} (h : ¬StateOk st) : diskNew st = disk0 := by unfold diskNew; rw [tt_false h]; rfl

theorem mk12 (w : World) : (Instr.makeSlice 46 (.int .i64 12) (.int .i64 12)).run Tryz.prog w = .ok (.slice (some ⟨w.heap.size, 0, none⟩) 12 12) (w.alloc (.cells (txC twelve).toArray 9)) := by kernel_rfl
theorem mk2 (w : World) : (Instr.makeSlice 46 (.int .i64 2) (.int .i64 2)).run Tryz.prog w = .ok (.slice (some ⟨w.heap.size, 0, none⟩) 2 2) (w.alloc (.cells (txC two2).toArray 9)) := by kernel_rfl
theorem mk12b (w : World) : (Instr.makeSlice 47 (.int .i64 12) (.int .i64 12)).run Tryz.prog w = .ok (.slice (some ⟨w.heap.size, 0, none⟩) 12 12) (w.alloc (.cells (boC twelveB).toArray 4)) := by kernel_rfl

theorem own_of_blk {w : World} {base g n K : Nat} {cs : Array Value} {t : TypeId} (h : Blk w g cs t) (hb : base ≤ g) (hs : cs.size = n * K) (hm : n ≤ maxLen) : w.ownsRow base t K (.slice (some ⟨g, 0, none⟩) n n) n cs.toList :=
  ⟨by rw [Array.length_toList]; exact hs, .inr ⟨g, n, cs, rfl, hb, h, Nat.le_refl _, hm, hs, List.take_of_length_le (by rw [Array.length_toList, hs]; exact Nat.le_refl _)⟩⟩

theorem blk4 (w : World) (o : Obj) (A B C : Array Value) (tA tB tC : TypeId) :
    Blk ((((w.alloc o).alloc (.cells A tA)).alloc (.cells B tB)).alloc (.cells C tC)).drew (w.heap.size + 1) A tA ∧ Blk ((((w.alloc o).alloc (.cells A tA)).alloc (.cells B tB)).alloc (.cells C tC)).drew (w.heap.size + 1 + 1) B tB ∧ Blk ((((w.alloc o).alloc (.cells A tA)).alloc (.cells B tB)).alloc (.cells C tC)).drew (w.heap.size + 1 + 1 + 1) C tC := by
  have h1 := Blk.new (w.alloc o) A tA
  have h2 := Blk.new ((w.alloc o).alloc (.cells A tA)) B tB
  have h3 := Blk.new (((w.alloc o).alloc (.cells A tA)).alloc (.cells B tB)) C tC
  have g1 := h1.below ((Below.refl _ _).alloc (Nat.le_refl _) (.cells B tB)) h1.lt
  have g1 := g1.below ((Below.refl _ _).alloc (Nat.le_refl _) (.cells C tC)) g1.lt
  have g1 := g1.below (Below.refl _ _).drew g1.lt
  have g2 := h2.below ((Below.refl _ _).alloc (Nat.le_refl _) (.cells C tC)) h2.lt
  have g2 := g2.below (Below.refl _ _).drew g2.lt
  have g3 := h3.below (Below.refl _ _).drew h3.lt
  simp only [World.size_alloc] at g1 g2 g3
  exact ⟨g1, g2, g3⟩
theorem own_new {W : World} {base b1 b2 b3 : Nat} {A1 A2 A3 : Array Value} {st : Int} (e1 : (txC twelve).toArray = A1) (e2 : (txC two2).toArray = A2) (e3 : (boC twelveB).toArray = A3) (h1 : Blk W b1 A1 9) (h2 : Blk W b2 A2 9) (h3 : Blk W b3 A3 4)
    (k1 : base ≤ b1) (k2 : base ≤ b2) (k3 : base ≤ b3) (hne : b1 ≠ b2) :
    OwnDisk W base (.agg #[.int .i64 st, .slice (some ⟨b1, 0, none⟩) 12 12, .slice (some ⟨b2, 0, none⟩) 2 2, .slice (some ⟨b3, 0, none⟩) 12 12, .slice none 0 0]) ⟨st, twelve, two2, twelveB, []⟩ := by
  subst e1 e2 e3
  have o1 := own_of_blk (n := 12) (K := 1) h1 k1 (by simp [txC, twelve]) (by simp [maxLen])
  have o2 := own_of_blk (n := 2) (K := 1) h2 k2 (by simp [txC, two2]) (by simp [maxLen])
  have o3 := own_of_blk (n := 12) (K := 1) h3 k3 (by simp [boC, twelveB]) (by simp [maxLen])
  refine ⟨_, _, _, _, rfl, o1, o2, o3, ⟨rfl, .inl ⟨rfl, rfl⟩⟩, fun i h k => hne ?_⟩
  simp only [Value.ownBlock, Option.some.injEq] at h k
  omega

end Go.Proofs.YtcdiengbmjkglaaGreat
