/- The specification's copy of a disk. Conditions: the disk is ok. -/
import Derived.Test.YtcdiengbmjkglaaGreatPKV0
import Derived.Test.YtcdiengbmjkglaaGreatPKHA
import Derived.Test.YtcdiengbmjkglaaGreatPKH8
import Derived.Deep.RegionLawGrows
namespace Go.Proofs.YtcdiengbmjkglaaGreat
open Go.RowKit Go.Sort Go.Shelf

/-- WHAT HAS BEEN DONE of a copy, and what it has given. -/
def CopyJ (w W0 : World) (B : Nat) (st : Int) (a1 a2 a3 a4 : Option Addr) (c1 c2 c3 c4 : Nat) (xs ys : List ByteArray) (bs : List Bool) (ps : List PutD) (l : Array Bool) (a : Act) (wx : World) : Prop :=
  l.size = 20 ∧ ∃ u3 u4 u5 u6 u7 u8 u9 u10 u11 u12 u13 u14 u15 u16 u17 u18 u19 u20 u21 : Value, a = { tmps := #[.agg #[.int .i64 st, .slice a1 xs.length c1, .slice a2 ys.length c2, .slice a3 bs.length c3, .slice a4 ps.length c4], .pointer (some ⟨w.heap.size, 0, none⟩), .pointer (some ⟨w.heap.size + 1, 0, none⟩), u3, u4, u5, u6, u7, u8, u9, u10, u11, u12, u13, u14, u15, u16, u17, u18, u19, u20, u21], defers := [] } ∧
  ((l.getD 19 false = true ∧ (∀ j, j < 20 → l.getD j false = true) ∧ ∃ p1 p2 p3 p4, Blk wx (w.heap.size + 1) #[.int .i64 st, p1, p2, p3, p4] 50 ∧ Own4 wx B p1 p2 p3 p4 ⟨st, xs, ys, bs, ps⟩ ∧ Below (w.heap.size + 1) W0 wx) ∨
   (l.getD 19 false = false ∧ Below B W0 wx ∧ B ≤ wx.heap.size ∧ (l.getD 0 false = true → u3 = .pointer (some ⟨w.heap.size, 0, none⟩)) ∧ (l.getD 1 false = true → l.getD 0 false = true ∧ u4 = .int .i64 st) ∧ (l.getD 2 false = true → (∃ g, u5 = .slice (some ⟨g, 0, none⟩) 0 0)) ∧ (l.getD 3 false = true → u6 = .pointer (some ⟨w.heap.size, 1, none⟩)) ∧ (l.getD 4 false = true → l.getD 3 false = true ∧ u7 = .slice a1 xs.length c1) ∧ (l.getD 5 false = true → l.getD 2 false = true ∧ l.getD 4 false = true ∧ OwnTx wx B u8 xs) ∧ (l.getD 6 false = true → (∃ g, u9 = .slice (some ⟨g, 0, none⟩) 0 0)) ∧ (l.getD 7 false = true → u10 = .pointer (some ⟨w.heap.size, 2, none⟩)) ∧ (l.getD 8 false = true → l.getD 7 false = true ∧ u11 = .slice a2 ys.length c2) ∧ (l.getD 9 false = true → l.getD 6 false = true ∧ l.getD 8 false = true ∧ OwnTx wx B u12 ys) ∧ (l.getD 10 false = true → (∃ g, u13 = .slice (some ⟨g, 0, none⟩) 0 0)) ∧ (l.getD 11 false = true → u14 = .pointer (some ⟨w.heap.size, 3, none⟩)) ∧ (l.getD 12 false = true → l.getD 11 false = true ∧ u15 = .slice a3 bs.length c3) ∧ (l.getD 13 false = true → l.getD 10 false = true ∧ l.getD 12 false = true ∧ OwnBo wx B u16 bs) ∧ (l.getD 14 false = true → (∃ g, u17 = .slice (some ⟨g, 0, none⟩) 0 0 ∧ B ≤ g ∧ Blk wx g #[] 101)) ∧ (l.getD 15 false = true → u18 = .pointer (some ⟨w.heap.size, 4, none⟩)) ∧ (l.getD 16 false = true → l.getD 15 false = true ∧ u19 = .slice a4 ps.length c4) ∧ (l.getD 17 false = true → l.getD 14 false = true ∧ l.getD 16 false = true ∧ OwnPu wx B u20 ps) ∧ (l.getD 18 false = true → l.getD 1 false = true ∧ l.getD 5 false = true ∧ l.getD 9 false = true ∧ l.getD 13 false = true ∧ l.getD 17 false = true ∧ u21 = .agg #[.int .i64 st, u8, u12, u16, u20]) ∧ (l.getD 5 false = true → l.getD 9 false = true → ∀ i, u8.ownBlock = some i → u12.ownBlock ≠ some i)))

theorem txC_one (bs : List ByteArray) : ∀ u ∈ txC bs, u.oneCell' = true := by
  intro u hu
  obtain ⟨b, _, rfl⟩ := List.mem_map.1 hu
  rfl
theorem puC_one (bs : List PutD) : ∀ u ∈ puC bs, u.oneCell' = true := by
  intro u hu
  obtain ⟨b, _, h⟩ := List.mem_flatMap.1 hu
  simp only [List.mem_cons, List.not_mem_nil, or_false] at h
  rcases h with rfl | rfl | rfl <;> rfl
theorem add_none (b off k : Nat) : (⟨b, off, none⟩ : Addr).add k = ⟨b, off + k, none⟩ := by
  unfold Addr.add
  by_cases e : k = 0
  · subst e; rfl
  · rw [if_neg e]
/-- append of nothing, as one step of a region that draws. -/
theorem step_append_none {P : Program} {ops : Array Oper} {o : Oper} {a : Act} {w : World} {K : Act → World → Prop} {Q : Exit → Act → World → Prop} {E : Prop}
    (hg : o.guard = none) (s x : Operand) (t : TypeId) (hop : o.op = Op.call { callee := Callee.builtin Builtin.append, args := #[s, x], argTypes := #[t, t] })
    (e : TypeId) (i : TypeInfo) (h1 : P.underlying t = some (.slice e)) (h2 : P.info? e = some i) (ao : Option Addr) (n : Nat) (hs : a.eval s = .slice ao n n) (ax : Option Addr) (c : Nat) (hx : a.eval x = .slice ax 0 c)
    (hK : K (a.put o.dst (.slice ao n n)) w) : if Region.wanted o (yielded ops a.tmps) = true then Oper.wp P o a w K Q else E := by
  have hw : Region.wanted o (yielded ops a.tmps) = true := by simp [Region.wanted, hg]
  rw [if_pos hw]
  have hrun : (Builtin.append_ #[t, t] o.type #[.slice ao n n, .slice ax 0 c]).run P w = .ok (.slice ao n n) w := by
    cases ao <;> cases ax <;> simp [Builtin.append_, run_underlying h1, sizeOf, typeInfo, h2, Builtin.lenOf, Builtin.firstCells, loadCells, loadCellsFrom, storeCells]
  unfold Oper.wp
  simp [execOp, hop, resolve, invoke, builtin, hs, hx, hrun, Result.andThen]
  exact hK
/-- The cells of writes, to be appended. -/
theorem puNews {w : World} {b off : Nat} {ps : List PutD} (hc : ∀ j, j < ps.length → w.cell? ⟨b, off + j * 3, none⟩ = some (.bool (ps.getD j put0).ring) ∧ w.cell? ⟨b, off + j * 3 + 1, none⟩ = some (.int .i64 (ps.getD j put0).pos) ∧ w.cell? ⟨b, off + j * 3 + 2, none⟩ = some (.string (ps.getD j put0).text)) :
    ∀ j u, (puC ps)[j]? = some u → w.cell? ((⟨b, off, none⟩ : Addr).add j) = some u := by
  intro j u hu
  have hj : j < ps.length * 3 := by have := (List.getElem?_eq_some_iff.1 hu).1; rw [puC_length] at this; exact this
  obtain ⟨q, r, rfl, hr⟩ : ∃ q r, j = q * 3 + r ∧ r < 3 := ⟨j / 3, j % 3, by omega, by omega⟩
  obtain ⟨h0, h1, h2⟩ := puC_get ps q (by omega)
  obtain ⟨c0, c1, c2⟩ := hc q (by omega)
  rw [add_none, ← Nat.add_assoc]
  match r, hr with
  | 0, _ => rw [Nat.add_zero] at hu ⊢; rw [h0] at hu; rw [c0]; exact hu
  | 1, _ => rw [h1] at hu; rw [c1]; exact hu
  | 2, _ => rw [h2] at hu; rw [c2]; exact hu

set_option maxRecDepth 100000 in
set_option maxHeartbeats 16000000 in
theorem l3Copy_ok (v : Value) (d : DiskD) (w : World) (hf : DiskFine d) (hv : DiskV w v d) :
    Calls Tryz.prog 63 #[v] w (NewDisk d w) := by
  obtain ⟨z0, z1, _⟩ := fine_sizes hf
  obtain ⟨st, xs, ys, bs, ps⟩ := d
  obtain ⟨v1, v2, v3, v4, rfl, ⟨a1, c1, rfl, _, _, x1⟩, ⟨a2, c2, rfl, _, _, x2⟩, ⟨a3, c3, rfl, _, _, x3⟩, ⟨a4, c4, rfl, _, _, x4⟩⟩ := hv
  simp only at x1 x2 x3 x4 z1 ⊢
  have hl1 : xs.length = 12 := z0.1
  have hl2 : ys.length = 2 := z0.2.1
  have hl3 : bs.length = 12 := z0.2.2
  clear hf z0
  obtain ⟨b1, o1, rfl, k1⟩ := x1.resolve_left (fun e => by rw [e] at hl1; simp at hl1)
  obtain ⟨b2, o2, rfl, k2⟩ := x2.resolve_left (fun e => by rw [e] at hl2; simp at hl2)
  obtain ⟨b3, o3, rfl, k3⟩ := x3.resolve_left (fun e => by rw [e] at hl3; simp at hl3)
  have hB0 : Below w.heap.size w ((w.alloc (.cells #[.int .i64 st, .slice (some ⟨b1, o1, none⟩) xs.length c1, .slice (some ⟨b2, o2, none⟩) ys.length c2, .slice (some ⟨b3, o3, none⟩) bs.length c3, .slice a4 ps.length c4] 50)).alloc (.cells #[.int .i64 0, .slice none 0 0, .slice none 0 0, .slice none 0 0, .slice none 0 0] 50)).drew := (((Below.refl _ _).alloc (Nat.le_refl _) _).alloc (by simp) _).drew
  have hKb : Blk ((w.alloc (.cells #[.int .i64 st, .slice (some ⟨b1, o1, none⟩) xs.length c1, .slice (some ⟨b2, o2, none⟩) ys.length c2, .slice (some ⟨b3, o3, none⟩) bs.length c3, .slice a4 ps.length c4] 50)).alloc (.cells #[.int .i64 0, .slice none 0 0, .slice none 0 0, .slice none 0 0, .slice none 0 0] 50)).drew w.heap.size #[.int .i64 st, .slice (some ⟨b1, o1, none⟩) xs.length c1, .slice (some ⟨b2, o2, none⟩) ys.length c2, .slice (some ⟨b3, o3, none⟩) bs.length c3, .slice a4 ps.length c4] 50 := ((Blk.new w _ _).below (n := w.heap.size + 1) ((Below.refl _ _).alloc (by simp) _) (by omega)).below (n := w.heap.size + 1) (Below.refl _ _).drew (by omega)
  have hZb : Blk ((w.alloc (.cells #[.int .i64 st, .slice (some ⟨b1, o1, none⟩) xs.length c1, .slice (some ⟨b2, o2, none⟩) ys.length c2, .slice (some ⟨b3, o3, none⟩) bs.length c3, .slice a4 ps.length c4] 50)).alloc (.cells #[.int .i64 0, .slice none 0 0, .slice none 0 0, .slice none 0 0, .slice none 0 0] 50)).drew (w.heap.size + 1) #[.int .i64 0, .slice none 0 0, .slice none 0 0, .slice none 0 0, .slice none 0 0] 50 := by
    have := Blk.new (w.alloc (.cells #[.int .i64 st, .slice (some ⟨b1, o1, none⟩) xs.length c1, .slice (some ⟨b2, o2, none⟩) ys.length c2, .slice (some ⟨b3, o3, none⟩) bs.length c3, .slice a4 ps.length c4] 50)) #[.int .i64 0, .slice none 0 0, .slice none 0 0, .slice none 0 0, .slice none 0 0] 50
    rw [World.size_alloc] at this
    exact this.below (n := w.heap.size + 2) (Below.refl _ _).drew (by omega)
  have hs2 : ((w.alloc (.cells #[.int .i64 st, .slice (some ⟨b1, o1, none⟩) xs.length c1, .slice (some ⟨b2, o2, none⟩) ys.length c2, .slice (some ⟨b3, o3, none⟩) bs.length c3, .slice a4 ps.length c4] 50)).alloc (.cells #[.int .i64 0, .slice none 0 0, .slice none 0 0, .slice none 0 0, .slice none 0 0] 50)).drew.heap.size = w.heap.size + 2 := by simp
  have Hl1 := Lib.hid hl1
  have Hl2 := Lib.hid hl2
  have Hl3 := Lib.hid hl3
  have Hs2 := Lib.hid hs2
  clear hl1 hl2 hl3 hs2
  go_enter Tryz.func63, Tryz.ntmps63
  go_wp2_with fail
  refine wp_region_any (by kernel_rfl) ?_
  change wpAny _ _ _ _ _ _ _ ((w.alloc (.cells #[.int .i64 st, .slice (some ⟨b1, o1, none⟩) xs.length c1, .slice (some ⟨b2, o2, none⟩) ys.length c2, .slice (some ⟨b3, o3, none⟩) bs.length c3, .slice a4 ps.length c4] 50)).alloc (.cells #[.int .i64 0, .slice none 0 0, .slice none 0 0, .slice none 0 0, .slice none 0 0] 50)).drew
  generalize ((w.alloc (.cells #[.int .i64 st, .slice (some ⟨b1, o1, none⟩) xs.length c1, .slice (some ⟨b2, o2, none⟩) ys.length c2, .slice (some ⟨b3, o3, none⟩) bs.length c3, .slice a4 ps.length c4] 50)).alloc (.cells #[.int .i64 0, .slice none 0 0, .slice none 0 0, .slice none 0 0, .slice none 0 0] 50)).drew = W0 at hB0 hKb hZb Hs2 ⊢
  have hl1 : 0 < xs.length ∧ xs.length ≤ 100 := by have := Hl1.out; omega
  have hl2 : 0 < ys.length ∧ ys.length ≤ 100 := by have := Hl2.out; omega
  have hl3 : 0 < bs.length ∧ bs.length ≤ 100 := by have := Hl3.out; omega
  obtain ⟨B, hBB⟩ : ∃ B, W0.heap.size = B := ⟨_, rfl⟩
  have hs2 : w.heap.size + 2 ≤ B ∧ B ≤ w.heap.size + 2 ∧ B ≤ W0.heap.size := by have := Hs2.out; omega
  clear hBB
  have HK := Lib.hid hKb
  have HZ := Lib.hid hZb
  clear hKb hZb x1 x2 x3
  have hn1 := fun wx (h : Below B W0 wx) => (show ∀ j u, (txC xs)[j]? = some u → wx.cell? ((⟨b1, o1, none⟩ : Addr).add j) = some u from fun j u hu => by
    have hj : j < xs.length := by have := (List.getElem?_eq_some_iff.1 hu).1; rw [txC_length] at this; exact this
    rw [txC_get xs j hj] at hu
    rw [add_none, ← hu]
    exact cell_below (hB0.trans (h.mono (by omega))) (k1 j hj))
  have hn2 := fun wx (h : Below B W0 wx) => (show ∀ j u, (txC ys)[j]? = some u → wx.cell? ((⟨b2, o2, none⟩ : Addr).add j) = some u from fun j u hu => by
    have hj : j < ys.length := by have := (List.getElem?_eq_some_iff.1 hu).1; rw [txC_length] at this; exact this
    rw [txC_get ys j hj] at hu
    rw [add_none, ← hu]
    exact cell_below (hB0.trans (h.mono (by omega))) (k2 j hj))
  have hn3 := fun wx (h : Below B W0 wx) => (show ∀ j u, (boC bs)[j]? = some u → wx.cell? ((⟨b3, o3, none⟩ : Addr).add j) = some u from fun j u hu => by
    have hj : j < bs.length := by have := (List.getElem?_eq_some_iff.1 hu).1; rw [boC_length] at this; exact this
    rw [boC_get bs j hj] at hu
    rw [add_none, ← hu]
    exact cell_below (hB0.trans (h.mono (by omega))) (k3 j hj))
  have hn4 := fun wx (h : Below B W0 wx) (hps : ps ≠ []) => (show ∃ gb go, a4 = some ⟨gb, go, none⟩ ∧ ∀ j u, (puC ps)[j]? = some u → wx.cell? ((⟨gb, go, none⟩ : Addr).add j) = some u from by
    obtain ⟨gb, go, e, hc⟩ := (x4.below (hB0.trans (h.mono (by omega)))).resolve_left hps
    exact ⟨gb, go, e, puNews hc⟩)
  refine wpAny_inv (CopyJ w W0 B st (some ⟨b1, o1, none⟩) (some ⟨b2, o2, none⟩) (some ⟨b3, o3, none⟩) a4 c1 c2 c3 c4 xs ys bs ps) ?_ ?_ _ _ _ _ (by decide) ?_
  · -- all is done
    intro l a wx hJ hr
    obtain ⟨hsz, u3, u4, u5, u6, u7, u8, u9, u10, u11, u12, u13, u14, u15, u16, u17, u18, u19, u20, u21, rfl, hJ⟩ := hJ
    have hall := ready_nil (by kernel_rfl) hr 19 (by decide)
    rcases hJ with ⟨_, _, p1, p2, p3, p4, hb, ho, hBw⟩ | ⟨h19, _⟩
    · obtain ⟨r1, s1, rfl, _⟩ := OwnTx.reads ho.1
      obtain ⟨r2, s2, rfl, _⟩ := OwnTx.reads ho.2.1
      obtain ⟨r3, s3, rfl, _⟩ := OwnBo.reads ho.2.2.1
      obtain ⟨r4, s4, rfl, _⟩ := OwnPu.reads ho.2.2.2.1
      obtain ⟨y0, y1, y2, y3, y4⟩ : wx.cell? ⟨w.heap.size + 1, 0, none⟩ = some (.int .i64 st) ∧ wx.cell? ⟨w.heap.size + 1, 1, none⟩ = some (.slice r1 xs.length s1) ∧ wx.cell? ⟨w.heap.size + 1, 2, none⟩ = some (.slice r2 ys.length s2) ∧ wx.cell? ⟨w.heap.size + 1, 3, none⟩ = some (.slice r3 bs.length s3) ∧ wx.cell? ⟨w.heap.size + 1, 4, none⟩ = some (.slice r4 ps.length s4) := ⟨hb.cell 0, hb.cell 1, hb.cell 2, hb.cell 3, hb.cell 4⟩
      go_wp2
      refine bodyPost_ret (v := .agg #[.int .i64 st, .slice r1 xs.length s1, .slice r2 ys.length s2, .slice r3 bs.length s3, .slice r4 ps.length s4]) (by simp [results, Tryz.results63, go_sem, y0, y1, y2, y3, y4]) rfl ⟨_, rfl, ⟨_, _, _, _, rfl, ho.mono (by omega)⟩, hB0.trans (hBw.mono (by omega))⟩
    · rcases hall with h | h
      · rw [h19] at h; cases h
      · rw [Array.getD_eq_getD_getElem?, Array.getElem?_eq_getElem (by omega)] at h h19
        simp only [Option.getD_some] at h h19
        rw [h19] at h; cases h
  · -- one operation
    intro l a wx i hJ hi
    obtain ⟨hlt, hnl, _⟩ := ready_spec hi
    obtain ⟨hsz, u3, u4, u5, u6, u7, u8, u9, u10, u11, u12, u13, u14, u15, u16, u17, u18, u19, u20, u21, rfl, hJ⟩ := hJ
    rcases hJ with ⟨_, hall, _⟩ | ⟨hl19, hBx, hBl, f0, f1, f2, f3, f4, f5, f6, f7, f8, f9, f10, f11, f12, f13, f14, f15, f16, f17, f18, fap⟩
    · exact absurd (hall i hlt) (by rw [gd_not hnl]; decide)
    have G0 := Lib.hid f0
    have G1 := Lib.hid f1
    have G2 := Lib.hid f2
    have G3 := Lib.hid f3
    have G4 := Lib.hid f4
    have G5 := Lib.hid f5
    have G6 := Lib.hid f6
    have G7 := Lib.hid f7
    have G8 := Lib.hid f8
    have G9 := Lib.hid f9
    have G10 := Lib.hid f10
    have G11 := Lib.hid f11
    have G12 := Lib.hid f12
    have G13 := Lib.hid f13
    have G14 := Lib.hid f14
    have G15 := Lib.hid f15
    have G16 := Lib.hid f16
    have G17 := Lib.hid f17
    have G18 := Lib.hid f18
    clear f0 f1 f2 f3 f4 f5 f6 f7 f8 f9 f10 f11 f12 f13 f14 f15 f16 f17 f18
    have hi20 : i = 0 ∨ i = 1 ∨ i = 2 ∨ i = 3 ∨ i = 4 ∨ i = 5 ∨ i = 6 ∨ i = 7 ∨ i = 8 ∨ i = 9 ∨ i = 10 ∨ i = 11 ∨ i = 12 ∨ i = 13 ∨ i = 14 ∨ i = 15 ∨ i = 16 ∨ i = 17 ∨ i = 18 ∨ i = 19 := by have : i < 20 := hlt; omega
    rcases hi20 with rfl | rfl | rfl | rfl | rfl | rfl | rfl | rfl | rfl | rfl | rfl | rfl | rfl | rfl | rfl | rfl | rfl | rfl | rfl | rfl
    · -- operation 0
      refine wpOp_step (show _ = some _ from rfl) ?_
      intro K' hK'
      go_simp
      refine hK' _ _ ?_
      have hA : Below wx.heap.size wx wx := Below.refl _ _
      refine ⟨by simpa using hsz, .pointer (some ⟨w.heap.size, 0, none⟩), u4, u5, u6, u7, u8, u9, u10, u11, u12, u13, u14, u15, u16, u17, u18, u19, u20, u21, rfl, .inr ⟨by rw [gd_ne (by decide)]; exact hl19, hBx.trans (hA.mono hBl), Nat.le_trans hBl hA.size, ?_, ?_, ?_, ?_, ?_, ?_, ?_, ?_, ?_, ?_, ?_, ?_, ?_, ?_, ?_, ?_, ?_, ?_, ?_, ?_⟩⟩
      · intro _; exact rfl
      · exact fun h => have x := G1.out ((gd_ne (by decide)).symm.trans h); ⟨gd_up x.1, x.2⟩
      · exact fun h => have x := G2.out ((gd_ne (by decide)).symm.trans h); x
      · exact fun h => have x := G3.out ((gd_ne (by decide)).symm.trans h); x
      · exact fun h => have x := G4.out ((gd_ne (by decide)).symm.trans h); ⟨gd_up x.1, x.2⟩
      · exact fun h => have x := G5.out ((gd_ne (by decide)).symm.trans h); ⟨gd_up x.1, gd_up x.2.1, own_below x.2.2 hA⟩
      · exact fun h => have x := G6.out ((gd_ne (by decide)).symm.trans h); x
      · exact fun h => have x := G7.out ((gd_ne (by decide)).symm.trans h); x
      · exact fun h => have x := G8.out ((gd_ne (by decide)).symm.trans h); ⟨gd_up x.1, x.2⟩
      · exact fun h => have x := G9.out ((gd_ne (by decide)).symm.trans h); ⟨gd_up x.1, gd_up x.2.1, own_below x.2.2 hA⟩
      · exact fun h => have x := G10.out ((gd_ne (by decide)).symm.trans h); x
      · exact fun h => have x := G11.out ((gd_ne (by decide)).symm.trans h); x
      · exact fun h => have x := G12.out ((gd_ne (by decide)).symm.trans h); ⟨gd_up x.1, x.2⟩
      · exact fun h => have x := G13.out ((gd_ne (by decide)).symm.trans h); ⟨gd_up x.1, gd_up x.2.1, own_below x.2.2 hA⟩
      · exact fun h => have x := G14.out ((gd_ne (by decide)).symm.trans h); (by obtain ⟨g, e, hg, hb⟩ := x; exact ⟨g, e, hg, hb.below hA hb.lt⟩)
      · exact fun h => have x := G15.out ((gd_ne (by decide)).symm.trans h); x
      · exact fun h => have x := G16.out ((gd_ne (by decide)).symm.trans h); ⟨gd_up x.1, x.2⟩
      · exact fun h => have x := G17.out ((gd_ne (by decide)).symm.trans h); ⟨gd_up x.1, gd_up x.2.1, own_below x.2.2 hA⟩
      · exact fun h => have x := G18.out ((gd_ne (by decide)).symm.trans h); ⟨gd_up x.1, gd_up x.2.1, gd_up x.2.2.1, gd_up x.2.2.2.1, gd_up x.2.2.2.2.1, x.2.2.2.2.2⟩
      · intro h5 h9; rw [gd_ne (by decide)] at h5 h9; exact fap h5 h9
    · -- operation 1
      have hd0 : l.getD 0 false = true := by first | exact dep_at 0 hi (show _ = some _ from rfl) rfl rfl | exact dep_at 1 hi (show _ = some _ from rfl) rfl rfl | exact dep_at 2 hi (show _ = some _ from rfl) rfl rfl | exact dep_at 3 hi (show _ = some _ from rfl) rfl rfl | exact dep_at 4 hi (show _ = some _ from rfl) rfl rfl
      have e0 := G0.out hd0
      subst e0
      have c0 : wx.cell? ⟨w.heap.size, 0, none⟩ = some (.int .i64 st) := (HK.out.below hBx (by omega)).cell 0
      refine wpOp_step (show _ = some _ from rfl) ?_
      intro K' hK'
      go_simp
      refine hK' _ _ ?_
      have hA : Below wx.heap.size wx wx := Below.refl _ _
      refine ⟨by simpa using hsz, .pointer (some ⟨w.heap.size, 0, none⟩), .int .i64 st, u5, u6, u7, u8, u9, u10, u11, u12, u13, u14, u15, u16, u17, u18, u19, u20, u21, rfl, .inr ⟨by rw [gd_ne (by decide)]; exact hl19, hBx.trans (hA.mono hBl), Nat.le_trans hBl hA.size, ?_, ?_, ?_, ?_, ?_, ?_, ?_, ?_, ?_, ?_, ?_, ?_, ?_, ?_, ?_, ?_, ?_, ?_, ?_, ?_⟩⟩
      · exact fun h => have x := G0.out ((gd_ne (by decide)).symm.trans h); x
      · intro _; exact ⟨gd_up hd0, rfl⟩
      · exact fun h => have x := G2.out ((gd_ne (by decide)).symm.trans h); x
      · exact fun h => have x := G3.out ((gd_ne (by decide)).symm.trans h); x
      · exact fun h => have x := G4.out ((gd_ne (by decide)).symm.trans h); ⟨gd_up x.1, x.2⟩
      · exact fun h => have x := G5.out ((gd_ne (by decide)).symm.trans h); ⟨gd_up x.1, gd_up x.2.1, own_below x.2.2 hA⟩
      · exact fun h => have x := G6.out ((gd_ne (by decide)).symm.trans h); x
      · exact fun h => have x := G7.out ((gd_ne (by decide)).symm.trans h); x
      · exact fun h => have x := G8.out ((gd_ne (by decide)).symm.trans h); ⟨gd_up x.1, x.2⟩
      · exact fun h => have x := G9.out ((gd_ne (by decide)).symm.trans h); ⟨gd_up x.1, gd_up x.2.1, own_below x.2.2 hA⟩
      · exact fun h => have x := G10.out ((gd_ne (by decide)).symm.trans h); x
      · exact fun h => have x := G11.out ((gd_ne (by decide)).symm.trans h); x
      · exact fun h => have x := G12.out ((gd_ne (by decide)).symm.trans h); ⟨gd_up x.1, x.2⟩
      · exact fun h => have x := G13.out ((gd_ne (by decide)).symm.trans h); ⟨gd_up x.1, gd_up x.2.1, own_below x.2.2 hA⟩
      · exact fun h => have x := G14.out ((gd_ne (by decide)).symm.trans h); (by obtain ⟨g, e, hg, hb⟩ := x; exact ⟨g, e, hg, hb.below hA hb.lt⟩)
      · exact fun h => have x := G15.out ((gd_ne (by decide)).symm.trans h); x
      · exact fun h => have x := G16.out ((gd_ne (by decide)).symm.trans h); ⟨gd_up x.1, x.2⟩
      · exact fun h => have x := G17.out ((gd_ne (by decide)).symm.trans h); ⟨gd_up x.1, gd_up x.2.1, own_below x.2.2 hA⟩
      · intro h; rw [gd_ne (by decide)] at h; have x := G18.out h; have hn := gd_not hnl; first | exact absurd x.1 (by rw [hn]; decide) | exact absurd x.2.1 (by rw [hn]; decide) | exact absurd x.2.2.1 (by rw [hn]; decide) | exact absurd x.2.2.2.1 (by rw [hn]; decide) | exact absurd x.2.2.2.2.1 (by rw [hn]; decide)
      · intro h5 h9; rw [gd_ne (by decide)] at h5 h9; exact fap h5 h9
    · -- operation 2
      refine wpOp_step (show _ = some _ from rfl) ?_
      intro K' hK'
      go_simp
      refine hK' _ _ ?_
      have hA : Below wx.heap.size wx (wx.alloc (.cells #[] 9)) := (Below.refl _ _).alloc (Nat.le_refl _) _
      refine ⟨by simpa using hsz, u3, u4, .slice (some ⟨wx.heap.size, 0, none⟩) 0 0, u6, u7, u8, u9, u10, u11, u12, u13, u14, u15, u16, u17, u18, u19, u20, u21, rfl, .inr ⟨by rw [gd_ne (by decide)]; exact hl19, hBx.trans (hA.mono hBl), Nat.le_trans hBl hA.size, ?_, ?_, ?_, ?_, ?_, ?_, ?_, ?_, ?_, ?_, ?_, ?_, ?_, ?_, ?_, ?_, ?_, ?_, ?_, ?_⟩⟩
      · exact fun h => have x := G0.out ((gd_ne (by decide)).symm.trans h); x
      · exact fun h => have x := G1.out ((gd_ne (by decide)).symm.trans h); ⟨gd_up x.1, x.2⟩
      · intro _; exact ⟨_, rfl⟩
      · exact fun h => have x := G3.out ((gd_ne (by decide)).symm.trans h); x
      · exact fun h => have x := G4.out ((gd_ne (by decide)).symm.trans h); ⟨gd_up x.1, x.2⟩
      · exact fun h => have x := G5.out ((gd_ne (by decide)).symm.trans h); ⟨gd_up x.1, gd_up x.2.1, own_below x.2.2 hA⟩
      · exact fun h => have x := G6.out ((gd_ne (by decide)).symm.trans h); x
      · exact fun h => have x := G7.out ((gd_ne (by decide)).symm.trans h); x
      · exact fun h => have x := G8.out ((gd_ne (by decide)).symm.trans h); ⟨gd_up x.1, x.2⟩
      · exact fun h => have x := G9.out ((gd_ne (by decide)).symm.trans h); ⟨gd_up x.1, gd_up x.2.1, own_below x.2.2 hA⟩
      · exact fun h => have x := G10.out ((gd_ne (by decide)).symm.trans h); x
      · exact fun h => have x := G11.out ((gd_ne (by decide)).symm.trans h); x
      · exact fun h => have x := G12.out ((gd_ne (by decide)).symm.trans h); ⟨gd_up x.1, x.2⟩
      · exact fun h => have x := G13.out ((gd_ne (by decide)).symm.trans h); ⟨gd_up x.1, gd_up x.2.1, own_below x.2.2 hA⟩
      · exact fun h => have x := G14.out ((gd_ne (by decide)).symm.trans h); (by obtain ⟨g, e, hg, hb⟩ := x; exact ⟨g, e, hg, hb.below hA hb.lt⟩)
      · exact fun h => have x := G15.out ((gd_ne (by decide)).symm.trans h); x
      · exact fun h => have x := G16.out ((gd_ne (by decide)).symm.trans h); ⟨gd_up x.1, x.2⟩
      · exact fun h => have x := G17.out ((gd_ne (by decide)).symm.trans h); ⟨gd_up x.1, gd_up x.2.1, own_below x.2.2 hA⟩
      · exact fun h => have x := G18.out ((gd_ne (by decide)).symm.trans h); ⟨gd_up x.1, gd_up x.2.1, gd_up x.2.2.1, gd_up x.2.2.2.1, gd_up x.2.2.2.2.1, x.2.2.2.2.2⟩
      · intro h5 h9; rw [gd_ne (by decide)] at h5 h9; exact fap h5 h9
    · -- operation 3
      refine wpOp_step (show _ = some _ from rfl) ?_
      intro K' hK'
      go_simp
      refine hK' _ _ ?_
      have hA : Below wx.heap.size wx wx := Below.refl _ _
      refine ⟨by simpa using hsz, u3, u4, u5, .pointer (some ⟨w.heap.size, 1, none⟩), u7, u8, u9, u10, u11, u12, u13, u14, u15, u16, u17, u18, u19, u20, u21, rfl, .inr ⟨by rw [gd_ne (by decide)]; exact hl19, hBx.trans (hA.mono hBl), Nat.le_trans hBl hA.size, ?_, ?_, ?_, ?_, ?_, ?_, ?_, ?_, ?_, ?_, ?_, ?_, ?_, ?_, ?_, ?_, ?_, ?_, ?_, ?_⟩⟩
      · exact fun h => have x := G0.out ((gd_ne (by decide)).symm.trans h); x
      · exact fun h => have x := G1.out ((gd_ne (by decide)).symm.trans h); ⟨gd_up x.1, x.2⟩
      · exact fun h => have x := G2.out ((gd_ne (by decide)).symm.trans h); x
      · intro _; exact rfl
      · exact fun h => have x := G4.out ((gd_ne (by decide)).symm.trans h); ⟨gd_up x.1, x.2⟩
      · exact fun h => have x := G5.out ((gd_ne (by decide)).symm.trans h); ⟨gd_up x.1, gd_up x.2.1, own_below x.2.2 hA⟩
      · exact fun h => have x := G6.out ((gd_ne (by decide)).symm.trans h); x
      · exact fun h => have x := G7.out ((gd_ne (by decide)).symm.trans h); x
      · exact fun h => have x := G8.out ((gd_ne (by decide)).symm.trans h); ⟨gd_up x.1, x.2⟩
      · exact fun h => have x := G9.out ((gd_ne (by decide)).symm.trans h); ⟨gd_up x.1, gd_up x.2.1, own_below x.2.2 hA⟩
      · exact fun h => have x := G10.out ((gd_ne (by decide)).symm.trans h); x
      · exact fun h => have x := G11.out ((gd_ne (by decide)).symm.trans h); x
      · exact fun h => have x := G12.out ((gd_ne (by decide)).symm.trans h); ⟨gd_up x.1, x.2⟩
      · exact fun h => have x := G13.out ((gd_ne (by decide)).symm.trans h); ⟨gd_up x.1, gd_up x.2.1, own_below x.2.2 hA⟩
      · exact fun h => have x := G14.out ((gd_ne (by decide)).symm.trans h); (by obtain ⟨g, e, hg, hb⟩ := x; exact ⟨g, e, hg, hb.below hA hb.lt⟩)
      · exact fun h => have x := G15.out ((gd_ne (by decide)).symm.trans h); x
      · exact fun h => have x := G16.out ((gd_ne (by decide)).symm.trans h); ⟨gd_up x.1, x.2⟩
      · exact fun h => have x := G17.out ((gd_ne (by decide)).symm.trans h); ⟨gd_up x.1, gd_up x.2.1, own_below x.2.2 hA⟩
      · exact fun h => have x := G18.out ((gd_ne (by decide)).symm.trans h); ⟨gd_up x.1, gd_up x.2.1, gd_up x.2.2.1, gd_up x.2.2.2.1, gd_up x.2.2.2.2.1, x.2.2.2.2.2⟩
      · intro h5 h9; rw [gd_ne (by decide)] at h5 h9; exact fap h5 h9
    · -- operation 4
      have hd3 : l.getD 3 false = true := by first | exact dep_at 0 hi (show _ = some _ from rfl) rfl rfl | exact dep_at 1 hi (show _ = some _ from rfl) rfl rfl | exact dep_at 2 hi (show _ = some _ from rfl) rfl rfl | exact dep_at 3 hi (show _ = some _ from rfl) rfl rfl | exact dep_at 4 hi (show _ = some _ from rfl) rfl rfl
      have e3 := G3.out hd3
      subst e3
      have c0 : wx.cell? ⟨w.heap.size, 1, none⟩ = some (.slice (some ⟨b1, o1, none⟩) xs.length c1) := (HK.out.below hBx (by omega)).cell 1
      refine wpOp_step (show _ = some _ from rfl) ?_
      intro K' hK'
      go_simp
      refine hK' _ _ ?_
      have hA : Below wx.heap.size wx wx := Below.refl _ _
      refine ⟨by simpa using hsz, u3, u4, u5, .pointer (some ⟨w.heap.size, 1, none⟩), .slice (some ⟨b1, o1, none⟩) xs.length c1, u8, u9, u10, u11, u12, u13, u14, u15, u16, u17, u18, u19, u20, u21, rfl, .inr ⟨by rw [gd_ne (by decide)]; exact hl19, hBx.trans (hA.mono hBl), Nat.le_trans hBl hA.size, ?_, ?_, ?_, ?_, ?_, ?_, ?_, ?_, ?_, ?_, ?_, ?_, ?_, ?_, ?_, ?_, ?_, ?_, ?_, ?_⟩⟩
      · exact fun h => have x := G0.out ((gd_ne (by decide)).symm.trans h); x
      · exact fun h => have x := G1.out ((gd_ne (by decide)).symm.trans h); ⟨gd_up x.1, x.2⟩
      · exact fun h => have x := G2.out ((gd_ne (by decide)).symm.trans h); x
      · exact fun h => have x := G3.out ((gd_ne (by decide)).symm.trans h); x
      · intro _; exact ⟨gd_up hd3, rfl⟩
      · exact fun h => have x := G5.out ((gd_ne (by decide)).symm.trans h); ⟨gd_up x.1, gd_up x.2.1, own_below x.2.2 hA⟩
      · exact fun h => have x := G6.out ((gd_ne (by decide)).symm.trans h); x
      · exact fun h => have x := G7.out ((gd_ne (by decide)).symm.trans h); x
      · exact fun h => have x := G8.out ((gd_ne (by decide)).symm.trans h); ⟨gd_up x.1, x.2⟩
      · exact fun h => have x := G9.out ((gd_ne (by decide)).symm.trans h); ⟨gd_up x.1, gd_up x.2.1, own_below x.2.2 hA⟩
      · exact fun h => have x := G10.out ((gd_ne (by decide)).symm.trans h); x
      · exact fun h => have x := G11.out ((gd_ne (by decide)).symm.trans h); x
      · exact fun h => have x := G12.out ((gd_ne (by decide)).symm.trans h); ⟨gd_up x.1, x.2⟩
      · exact fun h => have x := G13.out ((gd_ne (by decide)).symm.trans h); ⟨gd_up x.1, gd_up x.2.1, own_below x.2.2 hA⟩
      · exact fun h => have x := G14.out ((gd_ne (by decide)).symm.trans h); (by obtain ⟨g, e, hg, hb⟩ := x; exact ⟨g, e, hg, hb.below hA hb.lt⟩)
      · exact fun h => have x := G15.out ((gd_ne (by decide)).symm.trans h); x
      · exact fun h => have x := G16.out ((gd_ne (by decide)).symm.trans h); ⟨gd_up x.1, x.2⟩
      · exact fun h => have x := G17.out ((gd_ne (by decide)).symm.trans h); ⟨gd_up x.1, gd_up x.2.1, own_below x.2.2 hA⟩
      · exact fun h => have x := G18.out ((gd_ne (by decide)).symm.trans h); ⟨gd_up x.1, gd_up x.2.1, gd_up x.2.2.1, gd_up x.2.2.2.1, gd_up x.2.2.2.2.1, x.2.2.2.2.2⟩
      · intro h5 h9; rw [gd_ne (by decide)] at h5 h9; exact fap h5 h9
    · -- operation 5
      have hd2 : l.getD 2 false = true := by first | exact dep_at 0 hi (show _ = some _ from rfl) rfl rfl | exact dep_at 1 hi (show _ = some _ from rfl) rfl rfl | exact dep_at 2 hi (show _ = some _ from rfl) rfl rfl | exact dep_at 3 hi (show _ = some _ from rfl) rfl rfl | exact dep_at 4 hi (show _ = some _ from rfl) rfl rfl
      have e2 := G2.out hd2
      have hd4 : l.getD 4 false = true := by first | exact dep_at 0 hi (show _ = some _ from rfl) rfl rfl | exact dep_at 1 hi (show _ = some _ from rfl) rfl rfl | exact dep_at 2 hi (show _ = some _ from rfl) rfl rfl | exact dep_at 3 hi (show _ = some _ from rfl) rfl rfl | exact dep_at 4 hi (show _ = some _ from rfl) rfl rfl
      have e4 := G4.out hd4
      obtain ⟨g, rfl⟩ := e2
      obtain ⟨_, rfl⟩ := e4
      refine wpOp_step (show _ = some _ from rfl) ?_
      intro K' hK'
      obtain ⟨i0, hi0, hz0, hz1, hz2⟩ := info_parts infoTx
      have hn := hn1 wx hBx
      refine step_append_grows rfl (.tmp 5) (.tmp 7) 46 rfl 9 i0 _ 1 16 Tryz.underlying46 hi0 hz0 hz1 hz2 rfl (by decide) (some ⟨g, 0, none⟩) 0 0 [] rfl (by intro h; cases h) rfl (fun b _ j u h => by simp at h) ⟨b1, o1, none⟩ xs.length _ (txC xs) rfl (by rw [txC_length]; omega) hn (txC_one xs) (by omega) (by unfold maxLen; omega) (by omega) ?_
      intro v' w' hown hgrow
      have hA : Below wx.heap.size wx w' := ⟨hgrow.os, hgrow.tape, hgrow.output, hgrow.size, fun k hk => hgrow.block k hk (by simp)⟩
      rw [Nat.zero_add, List.nil_append] at hown
      refine hK' _ _ ?_
      refine ⟨by simpa using hsz, u3, u4, .slice (some ⟨g, 0, none⟩) 0 0, u6, .slice (some ⟨b1, o1, none⟩) xs.length c1, v', u9, u10, u11, u12, u13, u14, u15, u16, u17, u18, u19, u20, u21, rfl, .inr ⟨by rw [gd_ne (by decide)]; exact hl19, hBx.trans (hA.mono hBl), Nat.le_trans hBl hA.size, ?_, ?_, ?_, ?_, ?_, ?_, ?_, ?_, ?_, ?_, ?_, ?_, ?_, ?_, ?_, ?_, ?_, ?_, ?_, ?_⟩⟩
      · exact fun h => have x := G0.out ((gd_ne (by decide)).symm.trans h); x
      · exact fun h => have x := G1.out ((gd_ne (by decide)).symm.trans h); ⟨gd_up x.1, x.2⟩
      · exact fun h => have x := G2.out ((gd_ne (by decide)).symm.trans h); x
      · exact fun h => have x := G3.out ((gd_ne (by decide)).symm.trans h); x
      · exact fun h => have x := G4.out ((gd_ne (by decide)).symm.trans h); ⟨gd_up x.1, x.2⟩
      · intro _; exact ⟨gd_up hd2, gd_up hd4, own_mono hown hBl⟩
      · exact fun h => have x := G6.out ((gd_ne (by decide)).symm.trans h); x
      · exact fun h => have x := G7.out ((gd_ne (by decide)).symm.trans h); x
      · exact fun h => have x := G8.out ((gd_ne (by decide)).symm.trans h); ⟨gd_up x.1, x.2⟩
      · exact fun h => have x := G9.out ((gd_ne (by decide)).symm.trans h); ⟨gd_up x.1, gd_up x.2.1, own_below x.2.2 hA⟩
      · exact fun h => have x := G10.out ((gd_ne (by decide)).symm.trans h); x
      · exact fun h => have x := G11.out ((gd_ne (by decide)).symm.trans h); x
      · exact fun h => have x := G12.out ((gd_ne (by decide)).symm.trans h); ⟨gd_up x.1, x.2⟩
      · exact fun h => have x := G13.out ((gd_ne (by decide)).symm.trans h); ⟨gd_up x.1, gd_up x.2.1, own_below x.2.2 hA⟩
      · exact fun h => have x := G14.out ((gd_ne (by decide)).symm.trans h); (by obtain ⟨g, e, hg, hb⟩ := x; exact ⟨g, e, hg, hb.below hA hb.lt⟩)
      · exact fun h => have x := G15.out ((gd_ne (by decide)).symm.trans h); x
      · exact fun h => have x := G16.out ((gd_ne (by decide)).symm.trans h); ⟨gd_up x.1, x.2⟩
      · exact fun h => have x := G17.out ((gd_ne (by decide)).symm.trans h); ⟨gd_up x.1, gd_up x.2.1, own_below x.2.2 hA⟩
      · intro h; rw [gd_ne (by decide)] at h; have x := G18.out h; have hn := gd_not hnl; first | exact absurd x.1 (by rw [hn]; decide) | exact absurd x.2.1 (by rw [hn]; decide) | exact absurd x.2.2.1 (by rw [hn]; decide) | exact absurd x.2.2.2.1 (by rw [hn]; decide) | exact absurd x.2.2.2.2.1 (by rw [hn]; decide)
      · intro _ h9; rw [gd_ne (by decide)] at h9; exact fun m h k => apart_new (G9.out h9).2.2 hown (Nat.le_refl _) m k h
    · -- operation 6
      refine wpOp_step (show _ = some _ from rfl) ?_
      intro K' hK'
      go_simp
      refine hK' _ _ ?_
      have hA : Below wx.heap.size wx (wx.alloc (.cells #[] 9)) := (Below.refl _ _).alloc (Nat.le_refl _) _
      refine ⟨by simpa using hsz, u3, u4, u5, u6, u7, u8, .slice (some ⟨wx.heap.size, 0, none⟩) 0 0, u10, u11, u12, u13, u14, u15, u16, u17, u18, u19, u20, u21, rfl, .inr ⟨by rw [gd_ne (by decide)]; exact hl19, hBx.trans (hA.mono hBl), Nat.le_trans hBl hA.size, ?_, ?_, ?_, ?_, ?_, ?_, ?_, ?_, ?_, ?_, ?_, ?_, ?_, ?_, ?_, ?_, ?_, ?_, ?_, ?_⟩⟩
      · exact fun h => have x := G0.out ((gd_ne (by decide)).symm.trans h); x
      · exact fun h => have x := G1.out ((gd_ne (by decide)).symm.trans h); ⟨gd_up x.1, x.2⟩
      · exact fun h => have x := G2.out ((gd_ne (by decide)).symm.trans h); x
      · exact fun h => have x := G3.out ((gd_ne (by decide)).symm.trans h); x
      · exact fun h => have x := G4.out ((gd_ne (by decide)).symm.trans h); ⟨gd_up x.1, x.2⟩
      · exact fun h => have x := G5.out ((gd_ne (by decide)).symm.trans h); ⟨gd_up x.1, gd_up x.2.1, own_below x.2.2 hA⟩
      · intro _; exact ⟨_, rfl⟩
      · exact fun h => have x := G7.out ((gd_ne (by decide)).symm.trans h); x
      · exact fun h => have x := G8.out ((gd_ne (by decide)).symm.trans h); ⟨gd_up x.1, x.2⟩
      · exact fun h => have x := G9.out ((gd_ne (by decide)).symm.trans h); ⟨gd_up x.1, gd_up x.2.1, own_below x.2.2 hA⟩
      · exact fun h => have x := G10.out ((gd_ne (by decide)).symm.trans h); x
      · exact fun h => have x := G11.out ((gd_ne (by decide)).symm.trans h); x
      · exact fun h => have x := G12.out ((gd_ne (by decide)).symm.trans h); ⟨gd_up x.1, x.2⟩
      · exact fun h => have x := G13.out ((gd_ne (by decide)).symm.trans h); ⟨gd_up x.1, gd_up x.2.1, own_below x.2.2 hA⟩
      · exact fun h => have x := G14.out ((gd_ne (by decide)).symm.trans h); (by obtain ⟨g, e, hg, hb⟩ := x; exact ⟨g, e, hg, hb.below hA hb.lt⟩)
      · exact fun h => have x := G15.out ((gd_ne (by decide)).symm.trans h); x
      · exact fun h => have x := G16.out ((gd_ne (by decide)).symm.trans h); ⟨gd_up x.1, x.2⟩
      · exact fun h => have x := G17.out ((gd_ne (by decide)).symm.trans h); ⟨gd_up x.1, gd_up x.2.1, own_below x.2.2 hA⟩
      · exact fun h => have x := G18.out ((gd_ne (by decide)).symm.trans h); ⟨gd_up x.1, gd_up x.2.1, gd_up x.2.2.1, gd_up x.2.2.2.1, gd_up x.2.2.2.2.1, x.2.2.2.2.2⟩
      · intro h5 h9; rw [gd_ne (by decide)] at h5 h9; exact fap h5 h9
    · -- operation 7
      refine wpOp_step (show _ = some _ from rfl) ?_
      intro K' hK'
      go_simp
      refine hK' _ _ ?_
      have hA : Below wx.heap.size wx wx := Below.refl _ _
      refine ⟨by simpa using hsz, u3, u4, u5, u6, u7, u8, u9, .pointer (some ⟨w.heap.size, 2, none⟩), u11, u12, u13, u14, u15, u16, u17, u18, u19, u20, u21, rfl, .inr ⟨by rw [gd_ne (by decide)]; exact hl19, hBx.trans (hA.mono hBl), Nat.le_trans hBl hA.size, ?_, ?_, ?_, ?_, ?_, ?_, ?_, ?_, ?_, ?_, ?_, ?_, ?_, ?_, ?_, ?_, ?_, ?_, ?_, ?_⟩⟩
      · exact fun h => have x := G0.out ((gd_ne (by decide)).symm.trans h); x
      · exact fun h => have x := G1.out ((gd_ne (by decide)).symm.trans h); ⟨gd_up x.1, x.2⟩
      · exact fun h => have x := G2.out ((gd_ne (by decide)).symm.trans h); x
      · exact fun h => have x := G3.out ((gd_ne (by decide)).symm.trans h); x
      · exact fun h => have x := G4.out ((gd_ne (by decide)).symm.trans h); ⟨gd_up x.1, x.2⟩
      · exact fun h => have x := G5.out ((gd_ne (by decide)).symm.trans h); ⟨gd_up x.1, gd_up x.2.1, own_below x.2.2 hA⟩
      · exact fun h => have x := G6.out ((gd_ne (by decide)).symm.trans h); x
      · intro _; exact rfl
      · exact fun h => have x := G8.out ((gd_ne (by decide)).symm.trans h); ⟨gd_up x.1, x.2⟩
      · exact fun h => have x := G9.out ((gd_ne (by decide)).symm.trans h); ⟨gd_up x.1, gd_up x.2.1, own_below x.2.2 hA⟩
      · exact fun h => have x := G10.out ((gd_ne (by decide)).symm.trans h); x
      · exact fun h => have x := G11.out ((gd_ne (by decide)).symm.trans h); x
      · exact fun h => have x := G12.out ((gd_ne (by decide)).symm.trans h); ⟨gd_up x.1, x.2⟩
      · exact fun h => have x := G13.out ((gd_ne (by decide)).symm.trans h); ⟨gd_up x.1, gd_up x.2.1, own_below x.2.2 hA⟩
      · exact fun h => have x := G14.out ((gd_ne (by decide)).symm.trans h); (by obtain ⟨g, e, hg, hb⟩ := x; exact ⟨g, e, hg, hb.below hA hb.lt⟩)
      · exact fun h => have x := G15.out ((gd_ne (by decide)).symm.trans h); x
      · exact fun h => have x := G16.out ((gd_ne (by decide)).symm.trans h); ⟨gd_up x.1, x.2⟩
      · exact fun h => have x := G17.out ((gd_ne (by decide)).symm.trans h); ⟨gd_up x.1, gd_up x.2.1, own_below x.2.2 hA⟩
      · exact fun h => have x := G18.out ((gd_ne (by decide)).symm.trans h); ⟨gd_up x.1, gd_up x.2.1, gd_up x.2.2.1, gd_up x.2.2.2.1, gd_up x.2.2.2.2.1, x.2.2.2.2.2⟩
      · intro h5 h9; rw [gd_ne (by decide)] at h5 h9; exact fap h5 h9
    · -- operation 8
      have hd7 : l.getD 7 false = true := by first | exact dep_at 0 hi (show _ = some _ from rfl) rfl rfl | exact dep_at 1 hi (show _ = some _ from rfl) rfl rfl | exact dep_at 2 hi (show _ = some _ from rfl) rfl rfl | exact dep_at 3 hi (show _ = some _ from rfl) rfl rfl | exact dep_at 4 hi (show _ = some _ from rfl) rfl rfl
      have e7 := G7.out hd7
      subst e7
      have c0 : wx.cell? ⟨w.heap.size, 2, none⟩ = some (.slice (some ⟨b2, o2, none⟩) ys.length c2) := (HK.out.below hBx (by omega)).cell 2
      refine wpOp_step (show _ = some _ from rfl) ?_
      intro K' hK'
      go_simp
      refine hK' _ _ ?_
      have hA : Below wx.heap.size wx wx := Below.refl _ _
      refine ⟨by simpa using hsz, u3, u4, u5, u6, u7, u8, u9, .pointer (some ⟨w.heap.size, 2, none⟩), .slice (some ⟨b2, o2, none⟩) ys.length c2, u12, u13, u14, u15, u16, u17, u18, u19, u20, u21, rfl, .inr ⟨by rw [gd_ne (by decide)]; exact hl19, hBx.trans (hA.mono hBl), Nat.le_trans hBl hA.size, ?_, ?_, ?_, ?_, ?_, ?_, ?_, ?_, ?_, ?_, ?_, ?_, ?_, ?_, ?_, ?_, ?_, ?_, ?_, ?_⟩⟩
      · exact fun h => have x := G0.out ((gd_ne (by decide)).symm.trans h); x
      · exact fun h => have x := G1.out ((gd_ne (by decide)).symm.trans h); ⟨gd_up x.1, x.2⟩
      · exact fun h => have x := G2.out ((gd_ne (by decide)).symm.trans h); x
      · exact fun h => have x := G3.out ((gd_ne (by decide)).symm.trans h); x
      · exact fun h => have x := G4.out ((gd_ne (by decide)).symm.trans h); ⟨gd_up x.1, x.2⟩
      · exact fun h => have x := G5.out ((gd_ne (by decide)).symm.trans h); ⟨gd_up x.1, gd_up x.2.1, own_below x.2.2 hA⟩
      · exact fun h => have x := G6.out ((gd_ne (by decide)).symm.trans h); x
      · exact fun h => have x := G7.out ((gd_ne (by decide)).symm.trans h); x
      · intro _; exact ⟨gd_up hd7, rfl⟩
      · exact fun h => have x := G9.out ((gd_ne (by decide)).symm.trans h); ⟨gd_up x.1, gd_up x.2.1, own_below x.2.2 hA⟩
      · exact fun h => have x := G10.out ((gd_ne (by decide)).symm.trans h); x
      · exact fun h => have x := G11.out ((gd_ne (by decide)).symm.trans h); x
      · exact fun h => have x := G12.out ((gd_ne (by decide)).symm.trans h); ⟨gd_up x.1, x.2⟩
      · exact fun h => have x := G13.out ((gd_ne (by decide)).symm.trans h); ⟨gd_up x.1, gd_up x.2.1, own_below x.2.2 hA⟩
      · exact fun h => have x := G14.out ((gd_ne (by decide)).symm.trans h); (by obtain ⟨g, e, hg, hb⟩ := x; exact ⟨g, e, hg, hb.below hA hb.lt⟩)
      · exact fun h => have x := G15.out ((gd_ne (by decide)).symm.trans h); x
      · exact fun h => have x := G16.out ((gd_ne (by decide)).symm.trans h); ⟨gd_up x.1, x.2⟩
      · exact fun h => have x := G17.out ((gd_ne (by decide)).symm.trans h); ⟨gd_up x.1, gd_up x.2.1, own_below x.2.2 hA⟩
      · exact fun h => have x := G18.out ((gd_ne (by decide)).symm.trans h); ⟨gd_up x.1, gd_up x.2.1, gd_up x.2.2.1, gd_up x.2.2.2.1, gd_up x.2.2.2.2.1, x.2.2.2.2.2⟩
      · intro h5 h9; rw [gd_ne (by decide)] at h5 h9; exact fap h5 h9
    · -- operation 9
      have hd6 : l.getD 6 false = true := by first | exact dep_at 0 hi (show _ = some _ from rfl) rfl rfl | exact dep_at 1 hi (show _ = some _ from rfl) rfl rfl | exact dep_at 2 hi (show _ = some _ from rfl) rfl rfl | exact dep_at 3 hi (show _ = some _ from rfl) rfl rfl | exact dep_at 4 hi (show _ = some _ from rfl) rfl rfl
      have e6 := G6.out hd6
      have hd8 : l.getD 8 false = true := by first | exact dep_at 0 hi (show _ = some _ from rfl) rfl rfl | exact dep_at 1 hi (show _ = some _ from rfl) rfl rfl | exact dep_at 2 hi (show _ = some _ from rfl) rfl rfl | exact dep_at 3 hi (show _ = some _ from rfl) rfl rfl | exact dep_at 4 hi (show _ = some _ from rfl) rfl rfl
      have e8 := G8.out hd8
      obtain ⟨g, rfl⟩ := e6
      obtain ⟨_, rfl⟩ := e8
      refine wpOp_step (show _ = some _ from rfl) ?_
      intro K' hK'
      obtain ⟨i0, hi0, hz0, hz1, hz2⟩ := info_parts infoTx
      have hn := hn2 wx hBx
      refine step_append_grows rfl (.tmp 9) (.tmp 11) 46 rfl 9 i0 _ 1 16 Tryz.underlying46 hi0 hz0 hz1 hz2 rfl (by decide) (some ⟨g, 0, none⟩) 0 0 [] rfl (by intro h; cases h) rfl (fun b _ j u h => by simp at h) ⟨b2, o2, none⟩ ys.length _ (txC ys) rfl (by rw [txC_length]; omega) hn (txC_one ys) (by omega) (by unfold maxLen; omega) (by omega) ?_
      intro v' w' hown hgrow
      have hA : Below wx.heap.size wx w' := ⟨hgrow.os, hgrow.tape, hgrow.output, hgrow.size, fun k hk => hgrow.block k hk (by simp)⟩
      rw [Nat.zero_add, List.nil_append] at hown
      refine hK' _ _ ?_
      refine ⟨by simpa using hsz, u3, u4, u5, u6, u7, u8, .slice (some ⟨g, 0, none⟩) 0 0, u10, .slice (some ⟨b2, o2, none⟩) ys.length c2, v', u13, u14, u15, u16, u17, u18, u19, u20, u21, rfl, .inr ⟨by rw [gd_ne (by decide)]; exact hl19, hBx.trans (hA.mono hBl), Nat.le_trans hBl hA.size, ?_, ?_, ?_, ?_, ?_, ?_, ?_, ?_, ?_, ?_, ?_, ?_, ?_, ?_, ?_, ?_, ?_, ?_, ?_, ?_⟩⟩
      · exact fun h => have x := G0.out ((gd_ne (by decide)).symm.trans h); x
      · exact fun h => have x := G1.out ((gd_ne (by decide)).symm.trans h); ⟨gd_up x.1, x.2⟩
      · exact fun h => have x := G2.out ((gd_ne (by decide)).symm.trans h); x
      · exact fun h => have x := G3.out ((gd_ne (by decide)).symm.trans h); x
      · exact fun h => have x := G4.out ((gd_ne (by decide)).symm.trans h); ⟨gd_up x.1, x.2⟩
      · exact fun h => have x := G5.out ((gd_ne (by decide)).symm.trans h); ⟨gd_up x.1, gd_up x.2.1, own_below x.2.2 hA⟩
      · exact fun h => have x := G6.out ((gd_ne (by decide)).symm.trans h); x
      · exact fun h => have x := G7.out ((gd_ne (by decide)).symm.trans h); x
      · exact fun h => have x := G8.out ((gd_ne (by decide)).symm.trans h); ⟨gd_up x.1, x.2⟩
      · intro _; exact ⟨gd_up hd6, gd_up hd8, own_mono hown hBl⟩
      · exact fun h => have x := G10.out ((gd_ne (by decide)).symm.trans h); x
      · exact fun h => have x := G11.out ((gd_ne (by decide)).symm.trans h); x
      · exact fun h => have x := G12.out ((gd_ne (by decide)).symm.trans h); ⟨gd_up x.1, x.2⟩
      · exact fun h => have x := G13.out ((gd_ne (by decide)).symm.trans h); ⟨gd_up x.1, gd_up x.2.1, own_below x.2.2 hA⟩
      · exact fun h => have x := G14.out ((gd_ne (by decide)).symm.trans h); (by obtain ⟨g, e, hg, hb⟩ := x; exact ⟨g, e, hg, hb.below hA hb.lt⟩)
      · exact fun h => have x := G15.out ((gd_ne (by decide)).symm.trans h); x
      · exact fun h => have x := G16.out ((gd_ne (by decide)).symm.trans h); ⟨gd_up x.1, x.2⟩
      · exact fun h => have x := G17.out ((gd_ne (by decide)).symm.trans h); ⟨gd_up x.1, gd_up x.2.1, own_below x.2.2 hA⟩
      · intro h; rw [gd_ne (by decide)] at h; have x := G18.out h; have hn := gd_not hnl; first | exact absurd x.1 (by rw [hn]; decide) | exact absurd x.2.1 (by rw [hn]; decide) | exact absurd x.2.2.1 (by rw [hn]; decide) | exact absurd x.2.2.2.1 (by rw [hn]; decide) | exact absurd x.2.2.2.2.1 (by rw [hn]; decide)
      · intro h5 _; rw [gd_ne (by decide)] at h5; exact apart_new (G5.out h5).2.2 hown (Nat.le_refl _)
    · -- operation 10
      refine wpOp_step (show _ = some _ from rfl) ?_
      intro K' hK'
      go_simp
      refine hK' _ _ ?_
      have hA : Below wx.heap.size wx (wx.alloc (.cells #[] 4)) := (Below.refl _ _).alloc (Nat.le_refl _) _
      refine ⟨by simpa using hsz, u3, u4, u5, u6, u7, u8, u9, u10, u11, u12, .slice (some ⟨wx.heap.size, 0, none⟩) 0 0, u14, u15, u16, u17, u18, u19, u20, u21, rfl, .inr ⟨by rw [gd_ne (by decide)]; exact hl19, hBx.trans (hA.mono hBl), Nat.le_trans hBl hA.size, ?_, ?_, ?_, ?_, ?_, ?_, ?_, ?_, ?_, ?_, ?_, ?_, ?_, ?_, ?_, ?_, ?_, ?_, ?_, ?_⟩⟩
      · exact fun h => have x := G0.out ((gd_ne (by decide)).symm.trans h); x
      · exact fun h => have x := G1.out ((gd_ne (by decide)).symm.trans h); ⟨gd_up x.1, x.2⟩
      · exact fun h => have x := G2.out ((gd_ne (by decide)).symm.trans h); x
      · exact fun h => have x := G3.out ((gd_ne (by decide)).symm.trans h); x
      · exact fun h => have x := G4.out ((gd_ne (by decide)).symm.trans h); ⟨gd_up x.1, x.2⟩
      · exact fun h => have x := G5.out ((gd_ne (by decide)).symm.trans h); ⟨gd_up x.1, gd_up x.2.1, own_below x.2.2 hA⟩
      · exact fun h => have x := G6.out ((gd_ne (by decide)).symm.trans h); x
      · exact fun h => have x := G7.out ((gd_ne (by decide)).symm.trans h); x
      · exact fun h => have x := G8.out ((gd_ne (by decide)).symm.trans h); ⟨gd_up x.1, x.2⟩
      · exact fun h => have x := G9.out ((gd_ne (by decide)).symm.trans h); ⟨gd_up x.1, gd_up x.2.1, own_below x.2.2 hA⟩
      · intro _; exact ⟨_, rfl⟩
      · exact fun h => have x := G11.out ((gd_ne (by decide)).symm.trans h); x
      · exact fun h => have x := G12.out ((gd_ne (by decide)).symm.trans h); ⟨gd_up x.1, x.2⟩
      · exact fun h => have x := G13.out ((gd_ne (by decide)).symm.trans h); ⟨gd_up x.1, gd_up x.2.1, own_below x.2.2 hA⟩
      · exact fun h => have x := G14.out ((gd_ne (by decide)).symm.trans h); (by obtain ⟨g, e, hg, hb⟩ := x; exact ⟨g, e, hg, hb.below hA hb.lt⟩)
      · exact fun h => have x := G15.out ((gd_ne (by decide)).symm.trans h); x
      · exact fun h => have x := G16.out ((gd_ne (by decide)).symm.trans h); ⟨gd_up x.1, x.2⟩
      · exact fun h => have x := G17.out ((gd_ne (by decide)).symm.trans h); ⟨gd_up x.1, gd_up x.2.1, own_below x.2.2 hA⟩
      · exact fun h => have x := G18.out ((gd_ne (by decide)).symm.trans h); ⟨gd_up x.1, gd_up x.2.1, gd_up x.2.2.1, gd_up x.2.2.2.1, gd_up x.2.2.2.2.1, x.2.2.2.2.2⟩
      · intro h5 h9; rw [gd_ne (by decide)] at h5 h9; exact fap h5 h9
    · -- operation 11
      refine wpOp_step (show _ = some _ from rfl) ?_
      intro K' hK'
      go_simp
      refine hK' _ _ ?_
      have hA : Below wx.heap.size wx wx := Below.refl _ _
      refine ⟨by simpa using hsz, u3, u4, u5, u6, u7, u8, u9, u10, u11, u12, u13, .pointer (some ⟨w.heap.size, 3, none⟩), u15, u16, u17, u18, u19, u20, u21, rfl, .inr ⟨by rw [gd_ne (by decide)]; exact hl19, hBx.trans (hA.mono hBl), Nat.le_trans hBl hA.size, ?_, ?_, ?_, ?_, ?_, ?_, ?_, ?_, ?_, ?_, ?_, ?_, ?_, ?_, ?_, ?_, ?_, ?_, ?_, ?_⟩⟩
      · exact fun h => have x := G0.out ((gd_ne (by decide)).symm.trans h); x
      · exact fun h => have x := G1.out ((gd_ne (by decide)).symm.trans h); ⟨gd_up x.1, x.2⟩
      · exact fun h => have x := G2.out ((gd_ne (by decide)).symm.trans h); x
      · exact fun h => have x := G3.out ((gd_ne (by decide)).symm.trans h); x
      · exact fun h => have x := G4.out ((gd_ne (by decide)).symm.trans h); ⟨gd_up x.1, x.2⟩
      · exact fun h => have x := G5.out ((gd_ne (by decide)).symm.trans h); ⟨gd_up x.1, gd_up x.2.1, own_below x.2.2 hA⟩
      · exact fun h => have x := G6.out ((gd_ne (by decide)).symm.trans h); x
      · exact fun h => have x := G7.out ((gd_ne (by decide)).symm.trans h); x
      · exact fun h => have x := G8.out ((gd_ne (by decide)).symm.trans h); ⟨gd_up x.1, x.2⟩
      · exact fun h => have x := G9.out ((gd_ne (by decide)).symm.trans h); ⟨gd_up x.1, gd_up x.2.1, own_below x.2.2 hA⟩
      · exact fun h => have x := G10.out ((gd_ne (by decide)).symm.trans h); x
      · intro _; exact rfl
      · exact fun h => have x := G12.out ((gd_ne (by decide)).symm.trans h); ⟨gd_up x.1, x.2⟩
      · exact fun h => have x := G13.out ((gd_ne (by decide)).symm.trans h); ⟨gd_up x.1, gd_up x.2.1, own_below x.2.2 hA⟩
      · exact fun h => have x := G14.out ((gd_ne (by decide)).symm.trans h); (by obtain ⟨g, e, hg, hb⟩ := x; exact ⟨g, e, hg, hb.below hA hb.lt⟩)
      · exact fun h => have x := G15.out ((gd_ne (by decide)).symm.trans h); x
      · exact fun h => have x := G16.out ((gd_ne (by decide)).symm.trans h); ⟨gd_up x.1, x.2⟩
      · exact fun h => have x := G17.out ((gd_ne (by decide)).symm.trans h); ⟨gd_up x.1, gd_up x.2.1, own_below x.2.2 hA⟩
      · exact fun h => have x := G18.out ((gd_ne (by decide)).symm.trans h); ⟨gd_up x.1, gd_up x.2.1, gd_up x.2.2.1, gd_up x.2.2.2.1, gd_up x.2.2.2.2.1, x.2.2.2.2.2⟩
      · intro h5 h9; rw [gd_ne (by decide)] at h5 h9; exact fap h5 h9
    · -- operation 12
      have hd11 : l.getD 11 false = true := by first | exact dep_at 0 hi (show _ = some _ from rfl) rfl rfl | exact dep_at 1 hi (show _ = some _ from rfl) rfl rfl | exact dep_at 2 hi (show _ = some _ from rfl) rfl rfl | exact dep_at 3 hi (show _ = some _ from rfl) rfl rfl | exact dep_at 4 hi (show _ = some _ from rfl) rfl rfl
      have e11 := G11.out hd11
      subst e11
      have c0 : wx.cell? ⟨w.heap.size, 3, none⟩ = some (.slice (some ⟨b3, o3, none⟩) bs.length c3) := (HK.out.below hBx (by omega)).cell 3
      refine wpOp_step (show _ = some _ from rfl) ?_
      intro K' hK'
      go_simp
      refine hK' _ _ ?_
      have hA : Below wx.heap.size wx wx := Below.refl _ _
      refine ⟨by simpa using hsz, u3, u4, u5, u6, u7, u8, u9, u10, u11, u12, u13, .pointer (some ⟨w.heap.size, 3, none⟩), .slice (some ⟨b3, o3, none⟩) bs.length c3, u16, u17, u18, u19, u20, u21, rfl, .inr ⟨by rw [gd_ne (by decide)]; exact hl19, hBx.trans (hA.mono hBl), Nat.le_trans hBl hA.size, ?_, ?_, ?_, ?_, ?_, ?_, ?_, ?_, ?_, ?_, ?_, ?_, ?_, ?_, ?_, ?_, ?_, ?_, ?_, ?_⟩⟩
      · exact fun h => have x := G0.out ((gd_ne (by decide)).symm.trans h); x
      · exact fun h => have x := G1.out ((gd_ne (by decide)).symm.trans h); ⟨gd_up x.1, x.2⟩
      · exact fun h => have x := G2.out ((gd_ne (by decide)).symm.trans h); x
      · exact fun h => have x := G3.out ((gd_ne (by decide)).symm.trans h); x
      · exact fun h => have x := G4.out ((gd_ne (by decide)).symm.trans h); ⟨gd_up x.1, x.2⟩
      · exact fun h => have x := G5.out ((gd_ne (by decide)).symm.trans h); ⟨gd_up x.1, gd_up x.2.1, own_below x.2.2 hA⟩
      · exact fun h => have x := G6.out ((gd_ne (by decide)).symm.trans h); x
      · exact fun h => have x := G7.out ((gd_ne (by decide)).symm.trans h); x
      · exact fun h => have x := G8.out ((gd_ne (by decide)).symm.trans h); ⟨gd_up x.1, x.2⟩
      · exact fun h => have x := G9.out ((gd_ne (by decide)).symm.trans h); ⟨gd_up x.1, gd_up x.2.1, own_below x.2.2 hA⟩
      · exact fun h => have x := G10.out ((gd_ne (by decide)).symm.trans h); x
      · exact fun h => have x := G11.out ((gd_ne (by decide)).symm.trans h); x
      · intro _; exact ⟨gd_up hd11, rfl⟩
      · exact fun h => have x := G13.out ((gd_ne (by decide)).symm.trans h); ⟨gd_up x.1, gd_up x.2.1, own_below x.2.2 hA⟩
      · exact fun h => have x := G14.out ((gd_ne (by decide)).symm.trans h); (by obtain ⟨g, e, hg, hb⟩ := x; exact ⟨g, e, hg, hb.below hA hb.lt⟩)
      · exact fun h => have x := G15.out ((gd_ne (by decide)).symm.trans h); x
      · exact fun h => have x := G16.out ((gd_ne (by decide)).symm.trans h); ⟨gd_up x.1, x.2⟩
      · exact fun h => have x := G17.out ((gd_ne (by decide)).symm.trans h); ⟨gd_up x.1, gd_up x.2.1, own_below x.2.2 hA⟩
      · exact fun h => have x := G18.out ((gd_ne (by decide)).symm.trans h); ⟨gd_up x.1, gd_up x.2.1, gd_up x.2.2.1, gd_up x.2.2.2.1, gd_up x.2.2.2.2.1, x.2.2.2.2.2⟩
      · intro h5 h9; rw [gd_ne (by decide)] at h5 h9; exact fap h5 h9
    · -- operation 13
      have hd10 : l.getD 10 false = true := by first | exact dep_at 0 hi (show _ = some _ from rfl) rfl rfl | exact dep_at 1 hi (show _ = some _ from rfl) rfl rfl | exact dep_at 2 hi (show _ = some _ from rfl) rfl rfl | exact dep_at 3 hi (show _ = some _ from rfl) rfl rfl | exact dep_at 4 hi (show _ = some _ from rfl) rfl rfl
      have e10 := G10.out hd10
      have hd12 : l.getD 12 false = true := by first | exact dep_at 0 hi (show _ = some _ from rfl) rfl rfl | exact dep_at 1 hi (show _ = some _ from rfl) rfl rfl | exact dep_at 2 hi (show _ = some _ from rfl) rfl rfl | exact dep_at 3 hi (show _ = some _ from rfl) rfl rfl | exact dep_at 4 hi (show _ = some _ from rfl) rfl rfl
      have e12 := G12.out hd12
      obtain ⟨g, rfl⟩ := e10
      obtain ⟨_, rfl⟩ := e12
      refine wpOp_step (show _ = some _ from rfl) ?_
      intro K' hK'
      obtain ⟨i0, hi0, hz0, hz1, hz2⟩ := info_parts infoBo
      have hn := hn3 wx hBx
      refine step_append_grows rfl (.tmp 13) (.tmp 15) 47 rfl 4 i0 _ 1 1 Tryz.underlying47 hi0 hz0 hz1 hz2 rfl (by decide) (some ⟨g, 0, none⟩) 0 0 [] rfl (by intro h; cases h) rfl (fun b _ j u h => by simp at h) ⟨b3, o3, none⟩ bs.length _ (boC bs) rfl (by rw [boC_length]; omega) hn (boC_one bs) (by omega) (by unfold maxLen; omega) (by omega) ?_
      intro v' w' hown hgrow
      have hA : Below wx.heap.size wx w' := ⟨hgrow.os, hgrow.tape, hgrow.output, hgrow.size, fun k hk => hgrow.block k hk (by simp)⟩
      rw [Nat.zero_add, List.nil_append] at hown
      refine hK' _ _ ?_
      refine ⟨by simpa using hsz, u3, u4, u5, u6, u7, u8, u9, u10, u11, u12, .slice (some ⟨g, 0, none⟩) 0 0, u14, .slice (some ⟨b3, o3, none⟩) bs.length c3, v', u17, u18, u19, u20, u21, rfl, .inr ⟨by rw [gd_ne (by decide)]; exact hl19, hBx.trans (hA.mono hBl), Nat.le_trans hBl hA.size, ?_, ?_, ?_, ?_, ?_, ?_, ?_, ?_, ?_, ?_, ?_, ?_, ?_, ?_, ?_, ?_, ?_, ?_, ?_, ?_⟩⟩
      · exact fun h => have x := G0.out ((gd_ne (by decide)).symm.trans h); x
      · exact fun h => have x := G1.out ((gd_ne (by decide)).symm.trans h); ⟨gd_up x.1, x.2⟩
      · exact fun h => have x := G2.out ((gd_ne (by decide)).symm.trans h); x
      · exact fun h => have x := G3.out ((gd_ne (by decide)).symm.trans h); x
      · exact fun h => have x := G4.out ((gd_ne (by decide)).symm.trans h); ⟨gd_up x.1, x.2⟩
      · exact fun h => have x := G5.out ((gd_ne (by decide)).symm.trans h); ⟨gd_up x.1, gd_up x.2.1, own_below x.2.2 hA⟩
      · exact fun h => have x := G6.out ((gd_ne (by decide)).symm.trans h); x
      · exact fun h => have x := G7.out ((gd_ne (by decide)).symm.trans h); x
      · exact fun h => have x := G8.out ((gd_ne (by decide)).symm.trans h); ⟨gd_up x.1, x.2⟩
      · exact fun h => have x := G9.out ((gd_ne (by decide)).symm.trans h); ⟨gd_up x.1, gd_up x.2.1, own_below x.2.2 hA⟩
      · exact fun h => have x := G10.out ((gd_ne (by decide)).symm.trans h); x
      · exact fun h => have x := G11.out ((gd_ne (by decide)).symm.trans h); x
      · exact fun h => have x := G12.out ((gd_ne (by decide)).symm.trans h); ⟨gd_up x.1, x.2⟩
      · intro _; exact ⟨gd_up hd10, gd_up hd12, own_mono hown hBl⟩
      · exact fun h => have x := G14.out ((gd_ne (by decide)).symm.trans h); (by obtain ⟨g, e, hg, hb⟩ := x; exact ⟨g, e, hg, hb.below hA hb.lt⟩)
      · exact fun h => have x := G15.out ((gd_ne (by decide)).symm.trans h); x
      · exact fun h => have x := G16.out ((gd_ne (by decide)).symm.trans h); ⟨gd_up x.1, x.2⟩
      · exact fun h => have x := G17.out ((gd_ne (by decide)).symm.trans h); ⟨gd_up x.1, gd_up x.2.1, own_below x.2.2 hA⟩
      · intro h; rw [gd_ne (by decide)] at h; have x := G18.out h; have hn := gd_not hnl; first | exact absurd x.1 (by rw [hn]; decide) | exact absurd x.2.1 (by rw [hn]; decide) | exact absurd x.2.2.1 (by rw [hn]; decide) | exact absurd x.2.2.2.1 (by rw [hn]; decide) | exact absurd x.2.2.2.2.1 (by rw [hn]; decide)
      · intro h5 h9; rw [gd_ne (by decide)] at h5 h9; exact fap h5 h9
    · -- operation 14
      refine wpOp_step (show _ = some _ from rfl) ?_
      intro K' hK'
      go_simp
      refine hK' _ _ ?_
      have hA : Below wx.heap.size wx (wx.alloc (.cells #[] 101)) := (Below.refl _ _).alloc (Nat.le_refl _) _
      refine ⟨by simpa using hsz, u3, u4, u5, u6, u7, u8, u9, u10, u11, u12, u13, u14, u15, u16, .slice (some ⟨wx.heap.size, 0, none⟩) 0 0, u18, u19, u20, u21, rfl, .inr ⟨by rw [gd_ne (by decide)]; exact hl19, hBx.trans (hA.mono hBl), Nat.le_trans hBl hA.size, ?_, ?_, ?_, ?_, ?_, ?_, ?_, ?_, ?_, ?_, ?_, ?_, ?_, ?_, ?_, ?_, ?_, ?_, ?_, ?_⟩⟩
      · exact fun h => have x := G0.out ((gd_ne (by decide)).symm.trans h); x
      · exact fun h => have x := G1.out ((gd_ne (by decide)).symm.trans h); ⟨gd_up x.1, x.2⟩
      · exact fun h => have x := G2.out ((gd_ne (by decide)).symm.trans h); x
      · exact fun h => have x := G3.out ((gd_ne (by decide)).symm.trans h); x
      · exact fun h => have x := G4.out ((gd_ne (by decide)).symm.trans h); ⟨gd_up x.1, x.2⟩
      · exact fun h => have x := G5.out ((gd_ne (by decide)).symm.trans h); ⟨gd_up x.1, gd_up x.2.1, own_below x.2.2 hA⟩
      · exact fun h => have x := G6.out ((gd_ne (by decide)).symm.trans h); x
      · exact fun h => have x := G7.out ((gd_ne (by decide)).symm.trans h); x
      · exact fun h => have x := G8.out ((gd_ne (by decide)).symm.trans h); ⟨gd_up x.1, x.2⟩
      · exact fun h => have x := G9.out ((gd_ne (by decide)).symm.trans h); ⟨gd_up x.1, gd_up x.2.1, own_below x.2.2 hA⟩
      · exact fun h => have x := G10.out ((gd_ne (by decide)).symm.trans h); x
      · exact fun h => have x := G11.out ((gd_ne (by decide)).symm.trans h); x
      · exact fun h => have x := G12.out ((gd_ne (by decide)).symm.trans h); ⟨gd_up x.1, x.2⟩
      · exact fun h => have x := G13.out ((gd_ne (by decide)).symm.trans h); ⟨gd_up x.1, gd_up x.2.1, own_below x.2.2 hA⟩
      · intro _; exact ⟨_, rfl, hBl, Blk.new wx #[] 101⟩
      · exact fun h => have x := G15.out ((gd_ne (by decide)).symm.trans h); x
      · exact fun h => have x := G16.out ((gd_ne (by decide)).symm.trans h); ⟨gd_up x.1, x.2⟩
      · exact fun h => have x := G17.out ((gd_ne (by decide)).symm.trans h); ⟨gd_up x.1, gd_up x.2.1, own_below x.2.2 hA⟩
      · exact fun h => have x := G18.out ((gd_ne (by decide)).symm.trans h); ⟨gd_up x.1, gd_up x.2.1, gd_up x.2.2.1, gd_up x.2.2.2.1, gd_up x.2.2.2.2.1, x.2.2.2.2.2⟩
      · intro h5 h9; rw [gd_ne (by decide)] at h5 h9; exact fap h5 h9
    · -- operation 15
      refine wpOp_step (show _ = some _ from rfl) ?_
      intro K' hK'
      go_simp
      refine hK' _ _ ?_
      have hA : Below wx.heap.size wx wx := Below.refl _ _
      refine ⟨by simpa using hsz, u3, u4, u5, u6, u7, u8, u9, u10, u11, u12, u13, u14, u15, u16, u17, .pointer (some ⟨w.heap.size, 4, none⟩), u19, u20, u21, rfl, .inr ⟨by rw [gd_ne (by decide)]; exact hl19, hBx.trans (hA.mono hBl), Nat.le_trans hBl hA.size, ?_, ?_, ?_, ?_, ?_, ?_, ?_, ?_, ?_, ?_, ?_, ?_, ?_, ?_, ?_, ?_, ?_, ?_, ?_, ?_⟩⟩
      · exact fun h => have x := G0.out ((gd_ne (by decide)).symm.trans h); x
      · exact fun h => have x := G1.out ((gd_ne (by decide)).symm.trans h); ⟨gd_up x.1, x.2⟩
      · exact fun h => have x := G2.out ((gd_ne (by decide)).symm.trans h); x
      · exact fun h => have x := G3.out ((gd_ne (by decide)).symm.trans h); x
      · exact fun h => have x := G4.out ((gd_ne (by decide)).symm.trans h); ⟨gd_up x.1, x.2⟩
      · exact fun h => have x := G5.out ((gd_ne (by decide)).symm.trans h); ⟨gd_up x.1, gd_up x.2.1, own_below x.2.2 hA⟩
      · exact fun h => have x := G6.out ((gd_ne (by decide)).symm.trans h); x
      · exact fun h => have x := G7.out ((gd_ne (by decide)).symm.trans h); x
      · exact fun h => have x := G8.out ((gd_ne (by decide)).symm.trans h); ⟨gd_up x.1, x.2⟩
      · exact fun h => have x := G9.out ((gd_ne (by decide)).symm.trans h); ⟨gd_up x.1, gd_up x.2.1, own_below x.2.2 hA⟩
      · exact fun h => have x := G10.out ((gd_ne (by decide)).symm.trans h); x
      · exact fun h => have x := G11.out ((gd_ne (by decide)).symm.trans h); x
      · exact fun h => have x := G12.out ((gd_ne (by decide)).symm.trans h); ⟨gd_up x.1, x.2⟩
      · exact fun h => have x := G13.out ((gd_ne (by decide)).symm.trans h); ⟨gd_up x.1, gd_up x.2.1, own_below x.2.2 hA⟩
      · exact fun h => have x := G14.out ((gd_ne (by decide)).symm.trans h); (by obtain ⟨g, e, hg, hb⟩ := x; exact ⟨g, e, hg, hb.below hA hb.lt⟩)
      · intro _; exact rfl
      · exact fun h => have x := G16.out ((gd_ne (by decide)).symm.trans h); ⟨gd_up x.1, x.2⟩
      · exact fun h => have x := G17.out ((gd_ne (by decide)).symm.trans h); ⟨gd_up x.1, gd_up x.2.1, own_below x.2.2 hA⟩
      · exact fun h => have x := G18.out ((gd_ne (by decide)).symm.trans h); ⟨gd_up x.1, gd_up x.2.1, gd_up x.2.2.1, gd_up x.2.2.2.1, gd_up x.2.2.2.2.1, x.2.2.2.2.2⟩
      · intro h5 h9; rw [gd_ne (by decide)] at h5 h9; exact fap h5 h9
    · -- operation 16
      have hd15 : l.getD 15 false = true := by first | exact dep_at 0 hi (show _ = some _ from rfl) rfl rfl | exact dep_at 1 hi (show _ = some _ from rfl) rfl rfl | exact dep_at 2 hi (show _ = some _ from rfl) rfl rfl | exact dep_at 3 hi (show _ = some _ from rfl) rfl rfl | exact dep_at 4 hi (show _ = some _ from rfl) rfl rfl
      have e15 := G15.out hd15
      subst e15
      have c0 : wx.cell? ⟨w.heap.size, 4, none⟩ = some (.slice a4 ps.length c4) := (HK.out.below hBx (by omega)).cell 4
      refine wpOp_step (show _ = some _ from rfl) ?_
      intro K' hK'
      go_simp
      refine hK' _ _ ?_
      have hA : Below wx.heap.size wx wx := Below.refl _ _
      refine ⟨by simpa using hsz, u3, u4, u5, u6, u7, u8, u9, u10, u11, u12, u13, u14, u15, u16, u17, .pointer (some ⟨w.heap.size, 4, none⟩), .slice a4 ps.length c4, u20, u21, rfl, .inr ⟨by rw [gd_ne (by decide)]; exact hl19, hBx.trans (hA.mono hBl), Nat.le_trans hBl hA.size, ?_, ?_, ?_, ?_, ?_, ?_, ?_, ?_, ?_, ?_, ?_, ?_, ?_, ?_, ?_, ?_, ?_, ?_, ?_, ?_⟩⟩
      · exact fun h => have x := G0.out ((gd_ne (by decide)).symm.trans h); x
      · exact fun h => have x := G1.out ((gd_ne (by decide)).symm.trans h); ⟨gd_up x.1, x.2⟩
      · exact fun h => have x := G2.out ((gd_ne (by decide)).symm.trans h); x
      · exact fun h => have x := G3.out ((gd_ne (by decide)).symm.trans h); x
      · exact fun h => have x := G4.out ((gd_ne (by decide)).symm.trans h); ⟨gd_up x.1, x.2⟩
      · exact fun h => have x := G5.out ((gd_ne (by decide)).symm.trans h); ⟨gd_up x.1, gd_up x.2.1, own_below x.2.2 hA⟩
      · exact fun h => have x := G6.out ((gd_ne (by decide)).symm.trans h); x
      · exact fun h => have x := G7.out ((gd_ne (by decide)).symm.trans h); x
      · exact fun h => have x := G8.out ((gd_ne (by decide)).symm.trans h); ⟨gd_up x.1, x.2⟩
      · exact fun h => have x := G9.out ((gd_ne (by decide)).symm.trans h); ⟨gd_up x.1, gd_up x.2.1, own_below x.2.2 hA⟩
      · exact fun h => have x := G10.out ((gd_ne (by decide)).symm.trans h); x
      · exact fun h => have x := G11.out ((gd_ne (by decide)).symm.trans h); x
      · exact fun h => have x := G12.out ((gd_ne (by decide)).symm.trans h); ⟨gd_up x.1, x.2⟩
      · exact fun h => have x := G13.out ((gd_ne (by decide)).symm.trans h); ⟨gd_up x.1, gd_up x.2.1, own_below x.2.2 hA⟩
      · exact fun h => have x := G14.out ((gd_ne (by decide)).symm.trans h); (by obtain ⟨g, e, hg, hb⟩ := x; exact ⟨g, e, hg, hb.below hA hb.lt⟩)
      · exact fun h => have x := G15.out ((gd_ne (by decide)).symm.trans h); x
      · intro _; exact ⟨gd_up hd15, rfl⟩
      · exact fun h => have x := G17.out ((gd_ne (by decide)).symm.trans h); ⟨gd_up x.1, gd_up x.2.1, own_below x.2.2 hA⟩
      · exact fun h => have x := G18.out ((gd_ne (by decide)).symm.trans h); ⟨gd_up x.1, gd_up x.2.1, gd_up x.2.2.1, gd_up x.2.2.2.1, gd_up x.2.2.2.2.1, x.2.2.2.2.2⟩
      · intro h5 h9; rw [gd_ne (by decide)] at h5 h9; exact fap h5 h9
    · -- operation 17
      have hd14 : l.getD 14 false = true := by first | exact dep_at 0 hi (show _ = some _ from rfl) rfl rfl | exact dep_at 1 hi (show _ = some _ from rfl) rfl rfl | exact dep_at 2 hi (show _ = some _ from rfl) rfl rfl | exact dep_at 3 hi (show _ = some _ from rfl) rfl rfl | exact dep_at 4 hi (show _ = some _ from rfl) rfl rfl
      have e14 := G14.out hd14
      have hd16 : l.getD 16 false = true := by first | exact dep_at 0 hi (show _ = some _ from rfl) rfl rfl | exact dep_at 1 hi (show _ = some _ from rfl) rfl rfl | exact dep_at 2 hi (show _ = some _ from rfl) rfl rfl | exact dep_at 3 hi (show _ = some _ from rfl) rfl rfl | exact dep_at 4 hi (show _ = some _ from rfl) rfl rfl
      have e16 := G16.out hd16
      obtain ⟨g, rfl, hBg, hGb⟩ := e14
      obtain ⟨_, rfl⟩ := e16
      refine wpOp_step (show _ = some _ from rfl) ?_
      intro K' hK'
      obtain ⟨i0, hi0, hz0, hz1, hz2⟩ := info_parts infoPu
      by_cases hps : ps = []
      · subst hps
        have hA : Below wx.heap.size wx wx := Below.refl _ _
        have hown : OwnPu wx B (.slice (some ⟨g, 0, none⟩) 0 0) [] := own_of_blk (n := 0) (K := 3) hGb hBg rfl (by simp [maxLen])
        refine step_append_none rfl (.tmp 17) (.tmp 19) 48 rfl 101 i0 Tryz.underlying48 hi0 (some ⟨g, 0, none⟩) 0 rfl a4 c4 rfl ?_
        refine hK' _ _ ?_
        refine ⟨by simpa using hsz, u3, u4, u5, u6, u7, u8, u9, u10, u11, u12, u13, u14, u15, u16, .slice (some ⟨g, 0, none⟩) 0 0, u18, .slice a4 0 c4, .slice (some ⟨g, 0, none⟩) 0 0, u21, rfl, .inr ⟨by rw [gd_ne (by decide)]; exact hl19, hBx.trans (hA.mono hBl), Nat.le_trans hBl hA.size, ?_, ?_, ?_, ?_, ?_, ?_, ?_, ?_, ?_, ?_, ?_, ?_, ?_, ?_, ?_, ?_, ?_, ?_, ?_, ?_⟩⟩
        · exact fun h => have x := G0.out ((gd_ne (by decide)).symm.trans h); x
        · exact fun h => have x := G1.out ((gd_ne (by decide)).symm.trans h); ⟨gd_up x.1, x.2⟩
        · exact fun h => have x := G2.out ((gd_ne (by decide)).symm.trans h); x
        · exact fun h => have x := G3.out ((gd_ne (by decide)).symm.trans h); x
        · exact fun h => have x := G4.out ((gd_ne (by decide)).symm.trans h); ⟨gd_up x.1, x.2⟩
        · exact fun h => have x := G5.out ((gd_ne (by decide)).symm.trans h); ⟨gd_up x.1, gd_up x.2.1, own_below x.2.2 hA⟩
        · exact fun h => have x := G6.out ((gd_ne (by decide)).symm.trans h); x
        · exact fun h => have x := G7.out ((gd_ne (by decide)).symm.trans h); x
        · exact fun h => have x := G8.out ((gd_ne (by decide)).symm.trans h); ⟨gd_up x.1, x.2⟩
        · exact fun h => have x := G9.out ((gd_ne (by decide)).symm.trans h); ⟨gd_up x.1, gd_up x.2.1, own_below x.2.2 hA⟩
        · exact fun h => have x := G10.out ((gd_ne (by decide)).symm.trans h); x
        · exact fun h => have x := G11.out ((gd_ne (by decide)).symm.trans h); x
        · exact fun h => have x := G12.out ((gd_ne (by decide)).symm.trans h); ⟨gd_up x.1, x.2⟩
        · exact fun h => have x := G13.out ((gd_ne (by decide)).symm.trans h); ⟨gd_up x.1, gd_up x.2.1, own_below x.2.2 hA⟩
        · exact fun h => have x := G14.out ((gd_ne (by decide)).symm.trans h); (by obtain ⟨g, e, hg, hb⟩ := x; exact ⟨g, e, hg, hb.below hA hb.lt⟩)
        · exact fun h => have x := G15.out ((gd_ne (by decide)).symm.trans h); x
        · exact fun h => have x := G16.out ((gd_ne (by decide)).symm.trans h); ⟨gd_up x.1, x.2⟩
        · intro _; exact ⟨gd_up hd14, gd_up hd16, hown⟩
        · intro h; rw [gd_ne (by decide)] at h; have x := G18.out h; have hn := gd_not hnl; first | exact absurd x.1 (by rw [hn]; decide) | exact absurd x.2.1 (by rw [hn]; decide) | exact absurd x.2.2.1 (by rw [hn]; decide) | exact absurd x.2.2.2.1 (by rw [hn]; decide) | exact absurd x.2.2.2.2.1 (by rw [hn]; decide)
        · intro h5 h9; rw [gd_ne (by decide)] at h5 h9; exact fap h5 h9
      · obtain ⟨gb, go, he, hn⟩ := hn4 wx hBx hps
        subst he
        refine step_append_grows rfl (.tmp 17) (.tmp 19) 48 rfl 101 i0 _ 3 32 Tryz.underlying48 hi0 hz0 hz1 hz2 rfl (by decide) (some ⟨g, 0, none⟩) 0 0 [] rfl (by intro h; cases h) rfl (fun b _ j u h => by simp at h) ⟨gb, go, none⟩ ps.length _ (puC ps) rfl (by rw [puC_length]) hn (puC_one ps) (by have := List.length_pos_iff.2 hps; omega) (by unfold maxLen; omega) (by omega) ?_
        intro v' w' hown hgrow
        have hA : Below wx.heap.size wx w' := ⟨hgrow.os, hgrow.tape, hgrow.output, hgrow.size, fun k hk => hgrow.block k hk (by simp)⟩
        rw [Nat.zero_add, List.nil_append] at hown
        refine hK' _ _ ?_
        refine ⟨by simpa using hsz, u3, u4, u5, u6, u7, u8, u9, u10, u11, u12, u13, u14, u15, u16, .slice (some ⟨g, 0, none⟩) 0 0, u18, .slice (some ⟨gb, go, none⟩) ps.length c4, v', u21, rfl, .inr ⟨by rw [gd_ne (by decide)]; exact hl19, hBx.trans (hA.mono hBl), Nat.le_trans hBl hA.size, ?_, ?_, ?_, ?_, ?_, ?_, ?_, ?_, ?_, ?_, ?_, ?_, ?_, ?_, ?_, ?_, ?_, ?_, ?_, ?_⟩⟩
        · exact fun h => have x := G0.out ((gd_ne (by decide)).symm.trans h); x
        · exact fun h => have x := G1.out ((gd_ne (by decide)).symm.trans h); ⟨gd_up x.1, x.2⟩
        · exact fun h => have x := G2.out ((gd_ne (by decide)).symm.trans h); x
        · exact fun h => have x := G3.out ((gd_ne (by decide)).symm.trans h); x
        · exact fun h => have x := G4.out ((gd_ne (by decide)).symm.trans h); ⟨gd_up x.1, x.2⟩
        · exact fun h => have x := G5.out ((gd_ne (by decide)).symm.trans h); ⟨gd_up x.1, gd_up x.2.1, own_below x.2.2 hA⟩
        · exact fun h => have x := G6.out ((gd_ne (by decide)).symm.trans h); x
        · exact fun h => have x := G7.out ((gd_ne (by decide)).symm.trans h); x
        · exact fun h => have x := G8.out ((gd_ne (by decide)).symm.trans h); ⟨gd_up x.1, x.2⟩
        · exact fun h => have x := G9.out ((gd_ne (by decide)).symm.trans h); ⟨gd_up x.1, gd_up x.2.1, own_below x.2.2 hA⟩
        · exact fun h => have x := G10.out ((gd_ne (by decide)).symm.trans h); x
        · exact fun h => have x := G11.out ((gd_ne (by decide)).symm.trans h); x
        · exact fun h => have x := G12.out ((gd_ne (by decide)).symm.trans h); ⟨gd_up x.1, x.2⟩
        · exact fun h => have x := G13.out ((gd_ne (by decide)).symm.trans h); ⟨gd_up x.1, gd_up x.2.1, own_below x.2.2 hA⟩
        · exact fun h => have x := G14.out ((gd_ne (by decide)).symm.trans h); (by obtain ⟨g, e, hg, hb⟩ := x; exact ⟨g, e, hg, hb.below hA hb.lt⟩)
        · exact fun h => have x := G15.out ((gd_ne (by decide)).symm.trans h); x
        · exact fun h => have x := G16.out ((gd_ne (by decide)).symm.trans h); ⟨gd_up x.1, x.2⟩
        · intro _; exact ⟨gd_up hd14, gd_up hd16, own_mono hown hBl⟩
        · intro h; rw [gd_ne (by decide)] at h; have x := G18.out h; have hn := gd_not hnl; first | exact absurd x.1 (by rw [hn]; decide) | exact absurd x.2.1 (by rw [hn]; decide) | exact absurd x.2.2.1 (by rw [hn]; decide) | exact absurd x.2.2.2.1 (by rw [hn]; decide) | exact absurd x.2.2.2.2.1 (by rw [hn]; decide)
        · intro h5 h9; rw [gd_ne (by decide)] at h5 h9; exact fap h5 h9
    · -- operation 18
      have hd1 : l.getD 1 false = true := by first | exact dep_at 0 hi (show _ = some _ from rfl) rfl rfl | exact dep_at 1 hi (show _ = some _ from rfl) rfl rfl | exact dep_at 2 hi (show _ = some _ from rfl) rfl rfl | exact dep_at 3 hi (show _ = some _ from rfl) rfl rfl | exact dep_at 4 hi (show _ = some _ from rfl) rfl rfl
      have e1 := G1.out hd1
      have hd5 : l.getD 5 false = true := by first | exact dep_at 0 hi (show _ = some _ from rfl) rfl rfl | exact dep_at 1 hi (show _ = some _ from rfl) rfl rfl | exact dep_at 2 hi (show _ = some _ from rfl) rfl rfl | exact dep_at 3 hi (show _ = some _ from rfl) rfl rfl | exact dep_at 4 hi (show _ = some _ from rfl) rfl rfl
      have e5 := G5.out hd5
      have hd9 : l.getD 9 false = true := by first | exact dep_at 0 hi (show _ = some _ from rfl) rfl rfl | exact dep_at 1 hi (show _ = some _ from rfl) rfl rfl | exact dep_at 2 hi (show _ = some _ from rfl) rfl rfl | exact dep_at 3 hi (show _ = some _ from rfl) rfl rfl | exact dep_at 4 hi (show _ = some _ from rfl) rfl rfl
      have e9 := G9.out hd9
      have hd13 : l.getD 13 false = true := by first | exact dep_at 0 hi (show _ = some _ from rfl) rfl rfl | exact dep_at 1 hi (show _ = some _ from rfl) rfl rfl | exact dep_at 2 hi (show _ = some _ from rfl) rfl rfl | exact dep_at 3 hi (show _ = some _ from rfl) rfl rfl | exact dep_at 4 hi (show _ = some _ from rfl) rfl rfl
      have e13 := G13.out hd13
      have hd17 : l.getD 17 false = true := by first | exact dep_at 0 hi (show _ = some _ from rfl) rfl rfl | exact dep_at 1 hi (show _ = some _ from rfl) rfl rfl | exact dep_at 2 hi (show _ = some _ from rfl) rfl rfl | exact dep_at 3 hi (show _ = some _ from rfl) rfl rfl | exact dep_at 4 hi (show _ = some _ from rfl) rfl rfl
      have e17 := G17.out hd17
      obtain ⟨_, rfl⟩ := e1
      obtain ⟨r5, s5, rfl, _⟩ := OwnTx.reads e5.2.2
      obtain ⟨r9, s9, rfl, _⟩ := OwnTx.reads e9.2.2
      obtain ⟨r13, s13, rfl, _⟩ := OwnBo.reads e13.2.2
      obtain ⟨r17, s17, rfl, _⟩ := OwnPu.reads e17.2.2
      refine wpOp_step (show _ = some _ from rfl) ?_
      intro K' hK'
      go_simp
      refine hK' _ _ ?_
      have hA : Below wx.heap.size wx wx := Below.refl _ _
      refine ⟨by simpa using hsz, u3, .int .i64 st, u5, u6, u7, .slice r5 xs.length s5, u9, u10, u11, .slice r9 ys.length s9, u13, u14, u15, .slice r13 bs.length s13, u17, u18, u19, .slice r17 ps.length s17, .agg #[.int .i64 st, .slice r5 xs.length s5, .slice r9 ys.length s9, .slice r13 bs.length s13, .slice r17 ps.length s17], rfl, .inr ⟨by rw [gd_ne (by decide)]; exact hl19, hBx.trans (hA.mono hBl), Nat.le_trans hBl hA.size, ?_, ?_, ?_, ?_, ?_, ?_, ?_, ?_, ?_, ?_, ?_, ?_, ?_, ?_, ?_, ?_, ?_, ?_, ?_, ?_⟩⟩
      · exact fun h => have x := G0.out ((gd_ne (by decide)).symm.trans h); x
      · exact fun h => have x := G1.out ((gd_ne (by decide)).symm.trans h); ⟨gd_up x.1, x.2⟩
      · exact fun h => have x := G2.out ((gd_ne (by decide)).symm.trans h); x
      · exact fun h => have x := G3.out ((gd_ne (by decide)).symm.trans h); x
      · exact fun h => have x := G4.out ((gd_ne (by decide)).symm.trans h); ⟨gd_up x.1, x.2⟩
      · exact fun h => have x := G5.out ((gd_ne (by decide)).symm.trans h); ⟨gd_up x.1, gd_up x.2.1, own_below x.2.2 hA⟩
      · exact fun h => have x := G6.out ((gd_ne (by decide)).symm.trans h); x
      · exact fun h => have x := G7.out ((gd_ne (by decide)).symm.trans h); x
      · exact fun h => have x := G8.out ((gd_ne (by decide)).symm.trans h); ⟨gd_up x.1, x.2⟩
      · exact fun h => have x := G9.out ((gd_ne (by decide)).symm.trans h); ⟨gd_up x.1, gd_up x.2.1, own_below x.2.2 hA⟩
      · exact fun h => have x := G10.out ((gd_ne (by decide)).symm.trans h); x
      · exact fun h => have x := G11.out ((gd_ne (by decide)).symm.trans h); x
      · exact fun h => have x := G12.out ((gd_ne (by decide)).symm.trans h); ⟨gd_up x.1, x.2⟩
      · exact fun h => have x := G13.out ((gd_ne (by decide)).symm.trans h); ⟨gd_up x.1, gd_up x.2.1, own_below x.2.2 hA⟩
      · exact fun h => have x := G14.out ((gd_ne (by decide)).symm.trans h); (by obtain ⟨g, e, hg, hb⟩ := x; exact ⟨g, e, hg, hb.below hA hb.lt⟩)
      · exact fun h => have x := G15.out ((gd_ne (by decide)).symm.trans h); x
      · exact fun h => have x := G16.out ((gd_ne (by decide)).symm.trans h); ⟨gd_up x.1, x.2⟩
      · exact fun h => have x := G17.out ((gd_ne (by decide)).symm.trans h); ⟨gd_up x.1, gd_up x.2.1, own_below x.2.2 hA⟩
      · intro _; exact ⟨gd_up hd1, gd_up hd5, gd_up hd9, gd_up hd13, gd_up hd17, rfl⟩
      · intro h5 h9; rw [gd_ne (by decide)] at h5 h9; exact fap h5 h9
    · -- operation 19
      have hd18 : l.getD 18 false = true := by first | exact dep_at 0 hi (show _ = some _ from rfl) rfl rfl | exact dep_at 1 hi (show _ = some _ from rfl) rfl rfl | exact dep_at 2 hi (show _ = some _ from rfl) rfl rfl | exact dep_at 3 hi (show _ = some _ from rfl) rfl rfl | exact dep_at 4 hi (show _ = some _ from rfl) rfl rfl
      have e18 := G18.out hd18
      obtain ⟨q1, q5, q9, q13, q17, rfl⟩ := e18
      have e5 := G5.out q5
      obtain ⟨r5, s5, rfl, _⟩ := OwnTx.reads e5.2.2
      have e9 := G9.out q9
      obtain ⟨r9, s9, rfl, _⟩ := OwnTx.reads e9.2.2
      have e13 := G13.out q13
      obtain ⟨r13, s13, rfl, _⟩ := OwnBo.reads e13.2.2
      have e17 := G17.out q17
      obtain ⟨r17, s17, rfl, _⟩ := OwnPu.reads e17.2.2
      have hZ := HZ.out.below hBx (by omega)
      have z0 : wx.cell? ⟨w.heap.size + 1, 0, none⟩ = some (.int .i64 0) := hZ.cell 0
      have y0 := hZ.frozen 0
      have z1 : wx.cell? ⟨w.heap.size + 1, 1, none⟩ = some (.slice none 0 0) := hZ.cell 1
      have y1 := hZ.frozen 1
      have z2 : wx.cell? ⟨w.heap.size + 1, 2, none⟩ = some (.slice none 0 0) := hZ.cell 2
      have y2 := hZ.frozen 2
      have z3 : wx.cell? ⟨w.heap.size + 1, 3, none⟩ = some (.slice none 0 0) := hZ.cell 3
      have y3 := hZ.frozen 3
      have z4 : wx.cell? ⟨w.heap.size + 1, 4, none⟩ = some (.slice none 0 0) := hZ.cell 4
      have y4 := hZ.frozen 4
      refine wpOp_step (show _ = some _ from rfl) ?_
      intro K' hK'
      go_simp
      refine hK' _ _ ?_
      refine ⟨by simpa using hsz, u3, u4, u5, u6, u7, .slice r5 xs.length s5, u9, u10, u11, .slice r9 ys.length s9, u13, u14, u15, .slice r13 bs.length s13, u17, u18, u19, .slice r17 ps.length s17, .agg #[.int .i64 st, .slice r5 xs.length s5, .slice r9 ys.length s9, .slice r13 bs.length s13, .slice r17 ps.length s17], rfl, .inl ⟨gd_eq (by omega), ?_, .slice r5 xs.length s5, .slice r9 ys.length s9, .slice r13 bs.length s13, .slice r17 ps.length s17, ((((hZ.set 0 _).set 1 _).set 2 _).set 3 _).set 4 _, ?_, ?_⟩⟩
      · intro j hj
        have hj' : j = 0 ∨ j = 1 ∨ j = 2 ∨ j = 3 ∨ j = 4 ∨ j = 5 ∨ j = 6 ∨ j = 7 ∨ j = 8 ∨ j = 9 ∨ j = 10 ∨ j = 11 ∨ j = 12 ∨ j = 13 ∨ j = 14 ∨ j = 15 ∨ j = 16 ∨ j = 17 ∨ j = 18 ∨ j = 19 := by omega
        have t0 := (G1.out q1).1
        have t3 := (G4.out e5.2.1).1
        have t7 := (G8.out e9.2.1).1
        have t11 := (G12.out e13.2.1).1
        have t15 := (G16.out e17.2.1).1
        rcases hj' with rfl | rfl | rfl | rfl | rfl | rfl | rfl | rfl | rfl | rfl | rfl | rfl | rfl | rfl | rfl | rfl | rfl | rfl | rfl | rfl
        all_goals first | exact gd_eq (by omega) | exact gd_up t0 | exact gd_up q1 | exact gd_up e5.1 | exact gd_up t3 | exact gd_up e5.2.1 | exact gd_up q5 | exact gd_up e9.1 | exact gd_up t7 | exact gd_up e9.2.1 | exact gd_up q9 | exact gd_up e13.1 | exact gd_up t11 | exact gd_up e13.2.1 | exact gd_up q13 | exact gd_up e17.1 | exact gd_up t15 | exact gd_up e17.2.1 | exact gd_up q17 | exact gd_up hd18
      · have h4 : Own4 wx B _ _ _ _ ⟨st, xs, ys, bs, ps⟩ := ⟨e5.2.2, e9.2.2, e13.2.2, e17.2.2, fap q5 q9⟩
        exact ((((h4.far _ _ _ (by omega)).far _ _ _ (by omega)).far _ _ _ (by omega)).far _ _ _ (by omega)).far _ _ _ (by omega)
      · have hb := hBx.mono (show w.heap.size + 1 ≤ B by omega)
        exact ((((hb.setCell (p := ⟨w.heap.size + 1, 0, none⟩) (Nat.le_refl _) _).setCell (p := ⟨w.heap.size + 1, 1, none⟩) (Nat.le_refl _) _).setCell (p := ⟨w.heap.size + 1, 2, none⟩) (Nat.le_refl _) _).setCell (p := ⟨w.heap.size + 1, 3, none⟩) (Nat.le_refl _) _).setCell (p := ⟨w.heap.size + 1, 4, none⟩) (Nat.le_refl _) _

  · -- nothing is done
    have hz : ∀ j, (Array.replicate 20 false).getD j false = false := fun j => by
      rw [Array.getD_eq_getD_getElem?, Array.getElem?_replicate]; split <;> rfl
    refine ⟨by simp, undef, undef, undef, undef, undef, undef, undef, undef, undef, undef, undef, undef, undef, undef, undef, undef, undef, undef, undef, rfl, .inr ⟨hz 19, Below.refl _ _, by omega, ?_, ?_, ?_, ?_, ?_, ?_, ?_, ?_, ?_, ?_, ?_, ?_, ?_, ?_, ?_, ?_, ?_, ?_, ?_, ?_⟩⟩
    all_goals (intro h; exact absurd ((hz _).symm.trans h) (by decide))

end Go.Proofs.YtcdiengbmjkglaaGreat
