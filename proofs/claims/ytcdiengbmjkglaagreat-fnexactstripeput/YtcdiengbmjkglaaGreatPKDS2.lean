/- Lists of disks in new memory: of the exact laws, and of the program. Conditions: sizes of at most 2^20; the program's: the disks are ok. -/
import Derived.Test.YtcdiengbmjkglaaGreatPKDS1
namespace Go.Proofs.YtcdiengbmjkglaaGreat
open Go.RowKit Go.Sort

theorem set_same (ds : List DiskD) (k : Nat) (hlt : k < ds.length) : ds.set k (ds.getD k disk0) = ds := by
  refine List.ext_getElem? fun j => ?_
  rw [List.getElem?_set]
  by_cases e : k = j
  · subst e
    rw [if_pos rfl, if_pos hlt, List.getD, List.getElem?_eq_getElem hlt]
    rfl
  · rw [if_neg e]
/-- What a store of a disk finds in a row. -/
theorem own_cells5 {w : World} {base g n cap : Nat} {ys : List Value} (h : w.ownsRow base 50 5 (.slice (some ⟨g, 0, none⟩) n cap) n ys) (k : Nat) (hk : k < n) :
    ∃ y0 y1 y2 y3 y4, w.cell? ⟨g, k * 5, none⟩ = some y0 ∧ w.cell? ⟨g, k * 5 + 1, none⟩ = some y1 ∧ w.cell? ⟨g, k * 5 + 2, none⟩ = some y2 ∧ w.cell? ⟨g, k * 5 + 3, none⟩ = some y3 ∧ w.cell? ⟨g, k * 5 + 4, none⟩ = some y4 ∧
      w.frozen? ⟨g, k * 5, none⟩ = false ∧ w.frozen? ⟨g, k * 5 + 1, none⟩ = false ∧ w.frozen? ⟨g, k * 5 + 2, none⟩ = false ∧ w.frozen? ⟨g, k * 5 + 3, none⟩ = false ∧ w.frozen? ⟨g, k * 5 + 4, none⟩ = false := by
  have hl := h.1
  obtain ⟨x0, f0, _, _⟩ := own_cell h (k * 5) (by omega)
  obtain ⟨x1, f1, _, _⟩ := own_cell h (k * 5 + 1) (by omega)
  obtain ⟨x2, f2, _, _⟩ := own_cell h (k * 5 + 2) (by omega)
  obtain ⟨x3, f3, _, _⟩ := own_cell h (k * 5 + 3) (by omega)
  obtain ⟨x4, f4, _, _⟩ := own_cell h (k * 5 + 4) (by omega)
  rw [List.getElem?_eq_getElem (by omega)] at x0 x1 x2 x3 x4
  exact ⟨_, _, _, _, _, x0, x1, x2, x3, x4, f0, f1, f2, f3, f4⟩

set_option maxRecDepth 100000 in
set_option maxHeartbeats 2000000 in
theorem toDiskS_own (a : Option Addr) (cap : Nat) (ds : List DiskD) (w : World) (hs : Hid (DksSmall ds)) (hx : Hid (DksAt w a ds)) :
    Calls Tryz.prog 8 #[.slice a ds.length cap] w fun e w' => ∃ g c, e = .returned (.slice (some ⟨g, 0, none⟩) ds.length c) ∧ OwnDks w' w.heap.size (.slice (some ⟨g, 0, none⟩) ds.length c) ds ∧ Below w.heap.size w w' := by
  obtain ⟨i0, hi0, hz0, hz1, hz2⟩ := info_parts infoDk
  have hl := hs.out.1
  go_enter Tryz.func8, Tryz.ntmps8
  go_wp2_with (at_make; refine wpList_make_full _ rfl _ _ 28 rfl w.heap.size 50 i0 _ 5 Tryz.underlying28 hi0 hz0 hz1 .i64 .i64 _ _ ds.length rfl rfl rfl rfl (by rw [hz2]; omega) (by unfold maxLen; omega) (Nat.le_refl _) ?_; intro w1 hown hgrow)
  generalize (madeCells (Value.agg #[.int .i64 0, .slice none 0 0, .slice none 0 0, .slice none 0 0, .slice none 0 0]).cells (ds.length * 5)).toList = ys0 at hown
  have HB1 : Hid (Below w.heap.size w w1) := ⟨hgrow.os, hgrow.tape, hgrow.output, hgrow.size, fun k hk => hgrow.block k hk (by simp)⟩
  have Hown := Lib.hid (OwnDk.made hown)
  clear hown hgrow
  go_loopw [4] (fun i wr => ∃ k : Nat, i = .int .i64 (k : Int) ∧ k ≤ ds.length ∧ Hid (Below w.heap.size w wr ∧ OwnDk wr w.heap.size (.slice (some ⟨w.heap.size, 0, none⟩) ds.length ds.length) ds k)) (fun i _ => ds.length - (intOf i).toNat)
  case atStart => exact ⟨0, rfl, by omega, HB1.out, Hown.out⟩
  case round =>
    obtain ⟨k, rfl, hk, hI⟩ := hrel
    by_cases hlt : k < ds.length
    · obtain ⟨hB, ho⟩ := hI.out
      obtain ⟨b, off, a1, n1, c1, a2, n2, c2, a3, n3, c3, a4, n4, c4, rfl, e0, e1, e2, e3, e4, hv⟩ := (hx.out.below hB).at k hlt
      have HC := Lib.hid (toDisk_any _ _ _ (hs.out.2 k hlt) hv)
      have Ho := Lib.hid ho
      have HB := Lib.hid hB
      have HS := Lib.hid (set_same ds k hlt)
      generalize hg : ds.getD k disk0 = q at e0 HC HS
      clear hg hv ho hB hI
      obtain ⟨st, xs, yys, bs, ps⟩ := q
      simp only at e0 HC
      go_wp2_with fail
      refine HC.out.mono ?_
      rintro e w2 ⟨v2, rfl, ho2, hB2⟩
      have HO2 := Lib.hid ho2
      have HB2' := Lib.hid hB2
      obtain ⟨ys, h1, _, _⟩ := Ho.out.below hB2
      obtain ⟨y0, y1, y2, y3, y4, x0, x1, x2, x3, x4, f0, f1, f2, f3, f4⟩ := own_cells5 h1 k hlt
      obtain ⟨u1, u2, u3, u4, rfl, ⟨z1, m1, rfl, _⟩, ⟨z2, m2, rfl, _⟩, ⟨z3, m3, rfl, _⟩, ⟨z4, m4, rfl, _⟩⟩ := ho2.reads
      have HN : Hid (∀ W, W = setW w2 w.heap.size k (.int .i64 st) (.slice z1 xs.length m1) (.slice z2 yys.length m2) (.slice z3 bs.length m3) (.slice z4 ps.length m4) →
          Below w.heap.size w W ∧ OwnDk W w.heap.size (.slice (some ⟨w.heap.size, 0, none⟩) ds.length ds.length) ds (k + 1)) := fun W hW => by
        subst hW
        refine ⟨setW_below (HB.out.trans (HB2'.out.mono HB.out.size)) (Nat.le_refl _) _ _ _ _ _ _, ?_⟩
        have := Ho.out.put (k := k) rfl hlt (Nat.le_refl _) HB2'.out HO2.out (Nat.le_refl _) HB.out.size rfl
        rw [HS.out, if_pos rfl] at this
        exact this
      clear hB2 ho2 h1
      go_wp2
      exact ⟨⟨k + 1, by go_num, by omega, HN.out _ rfl⟩, by simp [intOf]; omega⟩
    · obtain rfl : k = ds.length := by omega
      go_wp2
      go_ret
      obtain ⟨hB, ho⟩ := hI.out
      exact ⟨_, _, rfl, ho, hB⟩

set_option maxRecDepth 100000 in
set_option maxHeartbeats 4000000 in
theorem disksCopy_any (a : Option Addr) (cap : Nat) (ds : List DiskD) (w : World) (hl : ds.length ≤ 1000) (hf : Hid (AllDk ds)) (hx : Hid (DksAt w a ds)) :
    Calls Tryz.prog 30 #[.slice a ds.length cap] w fun e w' => ∃ g c, e = .returned (.slice (some ⟨g, 0, none⟩) ds.length c) ∧ OwnDks w' w.heap.size (.slice (some ⟨g, 0, none⟩) ds.length c) ds ∧ Below w.heap.size w w' := by
  obtain ⟨i0, hi0, hz0, hz1, hz2⟩ := info_parts infoDk
  go_enter Tryz.func30, Tryz.ntmps30
  go_wp2_with (at_make; refine wpList_make_full _ rfl _ _ 28 rfl w.heap.size 50 i0 _ 5 Tryz.underlying28 hi0 hz0 hz1 .i64 .i64 _ _ ds.length rfl rfl rfl rfl (by rw [hz2]; omega) (by unfold maxLen; omega) (Nat.le_refl _) ?_; intro w1 hown hgrow)
  generalize (madeCells (Value.agg #[.int .i64 0, .slice none 0 0, .slice none 0 0, .slice none 0 0, .slice none 0 0]).cells (ds.length * 5)).toList = ys0 at hown
  have HB1 : Hid (Below w.heap.size w w1) := ⟨hgrow.os, hgrow.tape, hgrow.output, hgrow.size, fun k hk => hgrow.block k hk (by simp)⟩
  have Hown := Lib.hid (OwnDk.made hown)
  clear hown hgrow
  go_wp2_with fail
  go_loopw [13] (fun i wr => ∃ k : Nat, i = .int .i64 (k : Int) ∧ k ≤ ds.length ∧ Hid (Below w.heap.size w wr ∧ OwnDk wr w.heap.size (.slice (some ⟨w.heap.size, 0, none⟩) ds.length ds.length) ds k)) (fun i _ => ds.length - (intOf i).toNat)
  case atStart => exact ⟨0, rfl, by omega, HB1.out, Hown.out⟩
  case round =>
    obtain ⟨k, rfl, hk, hI⟩ := hrel
    by_cases hlt : k < ds.length
    · have i0' : (0 : Int) ≤ (k : Int) := by omega
      have i1' : (k : Int) < (ds.length : Int) := by omega
      obtain ⟨hB, ho⟩ := hI.out
      obtain ⟨b, off, a1, n1, c1, a2, n2, c2, a3, n3, c3, a4, n4, c4, rfl, e0, e1, e2, e3, e4, hv⟩ := (hx.out.below hB).at k hlt
      have hfk := hf.out k hlt
      have hwl : (ds.getD k disk0).wait.length ≤ 40 := hfk.2.1.2.2.2
      have Ho := Lib.hid ho
      have HB := Lib.hid hB
      have HS := Lib.hid (set_same ds k hlt)
      have hBa : Below wr.heap.size wr (wr.alloc (.cells #[.int .i64 (ds.getD k disk0).state, .slice a1 n1 c1, .slice a2 n2 c2, .slice a3 n3 c3, .slice a4 n4 c4] 50)) := (Below.refl _ _).alloc (Nat.le_refl _) _
      have HBa := Lib.hid hBa
      have KB := Lib.hid (Blk.new wr #[.int .i64 (ds.getD k disk0).state, .slice a1 n1 c1, .slice a2 n2 c2, .slice a3 n3 c3, .slice a4 n4 c4] 50)
      have HD := Lib.hid (driveOf_ok _ _ _ hfk (hv.below hBa))
      generalize hg : ds.getD k disk0 = q at e0 HD HS hwl HBa KB
      have hsa : wr.heap.size ≤ (wr.alloc (.cells #[.int .i64 q.state, .slice a1 n1 c1, .slice a2 n2 c2, .slice a3 n3 c3, .slice a4 n4 c4] 50)).heap.size := HBa.out.size
      clear hg hv ho hB hI hBa hfk
      go_wp2_with fail
      generalize wr.alloc (.cells #[.int .i64 q.state, .slice a1 n1 c1, .slice a2 n2 c2, .slice a3 n3 c3, .slice a4 n4 c4] 50) = wa at HBa KB HD hsa ⊢
      have k0 : wa.cell? ⟨wr.heap.size, 0, none⟩ = some (.int .i64 q.state) := KB.out.cell 0
      have k1 : wa.cell? ⟨wr.heap.size, 1, none⟩ = some (.slice a1 n1 c1) := KB.out.cell 1
      have k2 : wa.cell? ⟨wr.heap.size, 2, none⟩ = some (.slice a2 n2 c2) := KB.out.cell 2
      have k3 : wa.cell? ⟨wr.heap.size, 3, none⟩ = some (.slice a3 n3 c3) := KB.out.cell 3
      have k4 : wa.cell? ⟨wr.heap.size, 4, none⟩ = some (.slice a4 n4 c4) := KB.out.cell 4
      go_wp2_with fail
      refine HD.out.mono ?_
      rintro e w2 ⟨D, ids, rfl, hdr, hB2⟩
      have HDr := Lib.hid hdr
      have HB2 := Lib.hid (HBa.out.trans (hB2.mono HBa.out.size))
      have HP := Lib.hid (disk_any wr.heap.size D q ids w2 HB2.out.size (by omega) (hdr.mono hsa))
      clear hdr hB2 HDr
      go_wp2_with fail
      refine HP.out.mono ?_
      rintro e w3 ⟨v2, rfl, ho2, hB3⟩
      have HB3 := Lib.hid (HB2.out.trans (hB3.mono HB2.out.size))
      have HO2 := Lib.hid ho2
      obtain ⟨ys, h1, _, _⟩ := Ho.out.below HB3.out
      obtain ⟨y0, y1, y2, y3, y4, x0, x1, x2, x3, x4, f0, f1, f2, f3, f4⟩ := own_cells5 h1 k hlt
      obtain ⟨u1, u2, u3, u4, rfl, ⟨z1, m1, rfl, _⟩, ⟨z2, m2, rfl, _⟩, ⟨z3, m3, rfl, _⟩, ⟨z4, m4, rfl, _⟩⟩ := ho2.reads
      have HN : Hid (∀ W, W = setW w3 w.heap.size k (.int .i64 q.state) (.slice z1 q.slots.length m1) (.slice z2 q.rings.length m2) (.slice z3 q.spoilt.length m3) (.slice z4 q.wait.length m4) →
          Below w.heap.size w W ∧ OwnDk W w.heap.size (.slice (some ⟨w.heap.size, 0, none⟩) ds.length ds.length) ds (k + 1)) := fun W hW => by
        subst hW
        refine ⟨setW_below (HB.out.trans (HB3.out.mono HB.out.size)) (Nat.le_refl _) _ _ _ _ _ _, ?_⟩
        have := Ho.out.put (k := k) rfl hlt (Nat.le_refl _) HB3.out HO2.out (Nat.le_refl _) HB.out.size rfl
        rw [HS.out, if_pos rfl] at this
        exact this
      clear hB3 ho2 h1 HP HB2 HD
      go_wp2
      exact ⟨⟨k + 1, by go_num, by omega, HN.out _ rfl⟩, by simp [intOf]; omega⟩
    · obtain rfl : k = ds.length := by omega
      go_wp2
      go_ret
      obtain ⟨hB, ho⟩ := hI.out
      exact ⟨_, _, rfl, ho, hB⟩

end Go.Proofs.YtcdiengbmjkglaaGreat
