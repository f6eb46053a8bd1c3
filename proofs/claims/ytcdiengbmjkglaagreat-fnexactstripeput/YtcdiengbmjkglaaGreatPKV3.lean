/- DiskFlush and DiskCrash of the specification, on a disk of one's own. Conditions: the disk is ok. DiskFlush and DiskCrash of the specification. Conditions: none. -/
import Derived.Test.YtcdiengbmjkglaaGreatPKV2
import Derived.Test.YtcdiengbmjkglaaGreatPKH6
namespace Go.Proofs.YtcdiengbmjkglaaGreat
open Go.RowKit Go.Sort Go.Shelf

theorem Others.trans {a b c : World} (h : Others a b) (k : Others b c) : Others a c := fun D cs t h1 h2 h3 hb => k D cs t h1 h2 h3 (h D cs t h1 h2 h3 hb)
theorem others_below {w w' : World} (h : Below w.heap.size w w') : Others w w' := fun _ _ _ _ _ _ hb => hb.below h hb.lt
theorem others_drew (w : World) : Others w w.drew := others_below (Below.refl _ _).drew
theorem Others.set_new {w w1 : World} (h : Others w w1) {p : Nat} (hp : w.heap.size ≤ p) (o : Nat) (u : Value) : Others w (w1.setCell ⟨p, o, none⟩ u) := fun D cs t h1 h2 h3 hb => (h D cs t h1 h2 h3 hb).other p o u (by have := hb.lt; omega)
theorem OthersS.trans {a b c : World} (h : OthersS a b) (k : OthersS b c) : OthersS a c := fun D cs t h1 h2 hb => k D cs t h1 h2 (h D cs t h1 h2 hb)
theorem othersS_below {w w' : World} (h : Below w.heap.size w w') : OthersS w w' := fun _ _ _ _ _ hb => hb.below h hb.lt
theorem othersS_drew (w : World) : OthersS w w.drew := othersS_below (Below.refl _ _).drew
theorem OthersS.set_new {w w1 : World} (h : OthersS w w1) {p : Nat} (hp : w.heap.size ≤ p) (o : Nat) (u : Value) : OthersS w (w1.setCell ⟨p, o, none⟩ u) := fun D cs t h1 h2 hb => (h D cs t h1 h2 hb).other p o u (by have := hb.lt; omega)
theorem OthersS.others {a b : World} (h : OthersS a b) : Others a b := fun D cs t h1 h2 _ hb => h D cs t h1 h2 hb
theorem own4_set {w : World} {base : Nat} {v1 v2 v3 v4 : Value} {d : DiskD} (h : Own4 w base v1 v2 v3 v4 d) {p : Nat} {cs : Array Value} {t : TypeId} (hb : Blk w p cs t) (n1 : 9 ≠ t) (n2 : 4 ≠ t) (n3 : 101 ≠ t) (o : Nat) (u : Value) : Own4 (w.setCell ⟨p, o, none⟩ u) base v1 v2 v3 v4 d :=
  ⟨own_other h.1 p o u (own_blk_ne h.1 hb n1), own_other h.2.1 p o u (own_blk_ne h.2.1 hb n1), own_other h.2.2.1 p o u (own_blk_ne h.2.2.1 hb n2), own_other h.2.2.2.1 p o u (own_blk_ne h.2.2.2.1 hb n3), h.2.2.2.2⟩
theorem same5 {w : World} {n : Nat} {x0 x1 x2 x3 x4 : Value} {t : TypeId} (h : Blk w n #[x0, x1, x2, x3, x4] t) : Blk (((((w.setCell ⟨n, 0, none⟩ x0).setCell ⟨n, 1, none⟩ x1).setCell ⟨n, 2, none⟩ x2).setCell ⟨n, 3, none⟩ x3).setCell ⟨n, 4, none⟩ x4) n #[x0, x1, x2, x3, x4] t := ((((h.set 0 x0).set 1 x1).set 2 x2).set 3 x3).set 4 x4
theorem other5 {w : World} {n b o : Nat} {x0 x1 x2 x3 x4 v : Value} (hne : n ≠ b) (h : w.cell? ⟨b, o, none⟩ = some v) : (((((w.setCell ⟨n, 0, none⟩ x0).setCell ⟨n, 1, none⟩ x1).setCell ⟨n, 2, none⟩ x2).setCell ⟨n, 3, none⟩ x3).setCell ⟨n, 4, none⟩ x4).cell? ⟨b, o, none⟩ = some v := by
  have hs : ∀ (W : World) (k : Nat) (u : Value), (W.setCell ⟨n, k, none⟩ u).cell? ⟨b, o, none⟩ = W.cell? ⟨b, o, none⟩ := fun W k u => World.cell?_of_block (Below.heap_setCell _ _ _ _ (fun e => hne e.symm))
  rw [hs, hs, hs, hs, hs]
  exact h
theorem bit_all (k : Nat) : ((-1 : Int) / 2 ^ k) % 2 = 1 := by
  have h : (-1 : Int) / 2 ^ k = -1 := by
    induction k with
    | zero => rfl
    | succ k ih => rw [Int.pow_succ, ← Int.ediv_ediv_of_nonneg (Int.pow_nonneg (by decide)), ih]; rfl
  rw [h]; rfl

set_option maxRecDepth 100000 in
set_option maxHeartbeats 4000000 in
theorem l3Flush_any (base : Nat) (v1 v2 v3 v4 : Value) (d : DiskD) (w : World) (hb : base ≤ w.heap.size) (hr : HasRows d) (hp : AllPu PutOk d.wait) (hlen : d.wait.length ≤ 1000) (ho : Own4 w base v1 v2 v3 v4 d) :
    Calls Tryz.prog 84 #[.agg #[.int .i64 d.state, v1, v2, v3, v4]] w fun e w' => ∃ v, e = .returned v ∧ OwnDisk w' base v (crashD d (-1)) ∧ Below base w w' ∧ OthersS w w' := by
  obtain ⟨st, xs, ys, bs, ps⟩ := d
  have HR := Lib.hid hr
  have HP := Lib.hid hp
  have hl1 : xs.length = 12 := hr.1
  have hl2 : ys.length = 2 := hr.2.1
  have hl3 : bs.length = 12 := hr.2.2
  obtain ⟨g1, c1, cur1, rfl, hbg1, hG1⟩ := own_form ho.1 (show xs.length ≠ 0 by omega)
  obtain ⟨g2, c2, cur2, rfl, hbg2, hG2⟩ := own_form ho.2.1 (show ys.length ≠ 0 by omega)
  obtain ⟨g3, c3, cur3, rfl, hbg3, hG3⟩ := own_form ho.2.2.1 (show bs.length ≠ 0 by omega)
  obtain ⟨a4, c4, rfl, _⟩ := OwnPu.reads ho.2.2.2.1
  simp only at ho hlen ⊢
  have HB0 := Lib.hid (show Below w.heap.size w ((w.alloc (.cells #[.int .i64 st, .slice (some ⟨g1, 0, none⟩) xs.length c1, .slice (some ⟨g2, 0, none⟩) ys.length c2, .slice (some ⟨g3, 0, none⟩) bs.length c3, .slice a4 ps.length c4] 50)).alloc (.cells #[.int .i64 0, .slice none 0 0, .slice none 0 0, .slice none 0 0, .slice none 0 0] 50)) from ((Below.refl _ _).alloc (Nat.le_refl _) _).alloc (by simp) _)
  have Hs := Lib.hid (show ((w.alloc (.cells #[.int .i64 st, .slice (some ⟨g1, 0, none⟩) xs.length c1, .slice (some ⟨g2, 0, none⟩) ys.length c2, .slice (some ⟨g3, 0, none⟩) bs.length c3, .slice a4 ps.length c4] 50)).alloc (.cells #[.int .i64 0, .slice none 0 0, .slice none 0 0, .slice none 0 0, .slice none 0 0] 50)).heap.size = w.heap.size + 2 by simp)
  have HKd := Lib.hid (show Blk ((w.alloc (.cells #[.int .i64 st, .slice (some ⟨g1, 0, none⟩) xs.length c1, .slice (some ⟨g2, 0, none⟩) ys.length c2, .slice (some ⟨g3, 0, none⟩) bs.length c3, .slice a4 ps.length c4] 50)).alloc (.cells #[.int .i64 0, .slice none 0 0, .slice none 0 0, .slice none 0 0, .slice none 0 0] 50)) w.heap.size #[.int .i64 st, .slice (some ⟨g1, 0, none⟩) xs.length c1, .slice (some ⟨g2, 0, none⟩) ys.length c2, .slice (some ⟨g3, 0, none⟩) bs.length c3, .slice a4 ps.length c4] 50 from ((Blk.new w _ _).below (n := w.heap.size + 1) ((Below.refl _ _).alloc (by simp) _) (by omega)))
  have HKz := Lib.hid (show Blk ((w.alloc (.cells #[.int .i64 st, .slice (some ⟨g1, 0, none⟩) xs.length c1, .slice (some ⟨g2, 0, none⟩) ys.length c2, .slice (some ⟨g3, 0, none⟩) bs.length c3, .slice a4 ps.length c4] 50)).alloc (.cells #[.int .i64 0, .slice none 0 0, .slice none 0 0, .slice none 0 0, .slice none 0 0] 50)) (w.heap.size + 1) #[.int .i64 0, .slice none 0 0, .slice none 0 0, .slice none 0 0, .slice none 0 0] 50 by
    have := Blk.new (w.alloc (.cells #[.int .i64 st, .slice (some ⟨g1, 0, none⟩) xs.length c1, .slice (some ⟨g2, 0, none⟩) ys.length c2, .slice (some ⟨g3, 0, none⟩) bs.length c3, .slice a4 ps.length c4] 50)) #[.int .i64 0, .slice none 0 0, .slice none 0 0, .slice none 0 0, .slice none 0 0] 50
    rw [World.size_alloc] at this
    exact this)
  have HO := Lib.hid (ho.below HB0.out)
  have HOt := Lib.hid (othersS_below HB0.out)
  clear ho hl1 hl2 hl3 hr hp hG1 hG2 hG3
  go_enter Tryz.func84, Tryz.ntmps84
  go_wp2_with fail
  generalize ((w.alloc (.cells #[.int .i64 st, .slice (some ⟨g1, 0, none⟩) xs.length c1, .slice (some ⟨g2, 0, none⟩) ys.length c2, .slice (some ⟨g3, 0, none⟩) bs.length c3, .slice a4 ps.length c4] 50)).alloc (.cells #[.int .i64 0, .slice none 0 0, .slice none 0 0, .slice none 0 0, .slice none 0 0] 50)) = W at HB0 Hs HKd HKz HO HOt ⊢
  go_loopw [3] (fun i wr => ∃ k : Nat, i = .int .i64 (k : Int) ∧ k ≤ ps.length ∧ Hid (Own4 wr base (.slice (some ⟨g1, 0, none⟩) xs.length c1) (.slice (some ⟨g2, 0, none⟩) ys.length c2) (.slice (some ⟨g3, 0, none⟩) bs.length c3) (.slice a4 ps.length c4) (crashTo ⟨st, xs, ys, bs, ps⟩ (-1) (ps.take k))) ∧ Hid (Blk wr w.heap.size #[.int .i64 st, .slice (some ⟨g1, 0, none⟩) xs.length c1, .slice (some ⟨g2, 0, none⟩) ys.length c2, .slice (some ⟨g3, 0, none⟩) bs.length c3, .slice a4 ps.length c4] 50) ∧ Hid (Blk wr (w.heap.size + 1) #[.int .i64 0, .slice none 0 0, .slice none 0 0, .slice none 0 0, .slice none 0 0] 50) ∧ Hid (Below base w wr) ∧ Hid (OthersS w wr) ∧ w.heap.size + 2 ≤ wr.heap.size) (fun i _ => ps.length - (intOf i).toNat)
  case atStart => exact ⟨0, rfl, by omega, HO.out, HKd.out, HKz.out, HB0.out.mono hb, HOt.out, by have := Hs.out; omega⟩
  case round =>
    obtain ⟨k, rfl, hk, hOw, hKd, hKz, hBw, hOt, hsz⟩ := hrel
    by_cases hlt : k < ps.length
    · have HTk := Lib.hid (crashTo_snoc ⟨st, xs, ys, bs, ps⟩ (-1) (ps.take k) (ps.getD k put0))
      rw [← take_snocA ps put0 k hlt, List.length_take, Nat.min_eq_left (Nat.le_of_lt hlt)] at HTk
      have HPk := Lib.hid (HP.out k hlt)
      have hOP : OwnPu wr base (.slice a4 ps.length c4) ps := by
        have := hOw.out.2.2.2.1
        rw [(crashTo_wait _ _ _).1] at this
        exact this
      obtain ⟨a', c', he, _, _, hpa⟩ := OwnPu.reads hOP
      cases he
      obtain ⟨b4, o4, rfl, hc⟩ := hpa.resolve_left (fun e => by rw [e] at hlt; simp at hlt)
      obtain ⟨q0, q1, q2⟩ := hc k hlt
      have HPw := Lib.hid (show ∀ (w5 : World) (pp : List PutD), OwnPu w5 base (.slice (some ⟨b4, o4, none⟩) ps.length c4) pp → pp = ps → w5.cell? ⟨b4, o4 + k * 3, none⟩ = some (.bool (ps.getD k put0).ring) ∧ w5.cell? ⟨b4, o4 + k * 3 + 1, none⟩ = some (.int .i64 (ps.getD k put0).pos) ∧ w5.cell? ⟨b4, o4 + k * 3 + 2, none⟩ = some (.string (ps.getD k put0).text) from fun w5 pp h e => by
        subst e
        obtain ⟨a', c', he, _, _, hpa⟩ := OwnPu.reads h
        cases he
        obtain ⟨b4', o4', he, hc⟩ := hpa.resolve_left (fun e => by rw [e] at hlt; simp at hlt)
        cases he
        exact hc k hlt)
      have hb4w : b4 < wr.heap.size := World.block_lt_of_cell? wr _ q0
      have hb4n : b4 ≠ w.heap.size := fun e => by
        rcases hOP.2 with ⟨h, _⟩ | ⟨g, cap, cur, h, _, hg, _⟩
        · cases h
        · cases h
          have hg' : Blk wr b4 cur 101 := hg
          rw [e] at hg'
          exact absurd (hg'.type hKd.out) (by decide)
      have hb4n' : w.heap.size ≠ b4 := fun e => hb4n e.symm
      clear hc hpa hOP
      generalize ps.getD k put0 = q at q0 q1 q2 HPk HTk HPw
      obtain ⟨r, z, s⟩ := q
      simp only at q0 q1 q2 HPw
      · skip
        rw [show ((-1 : Int) / 2 ^ k) % 2 = 1 from bit_all k, if_pos rfl] at HTk
        · skip
          have HBd : Hid (base ≤ wr.drew.heap.size) := (show base ≤ wr.heap.size by omega)
          have HOd : Hid (Own4 wr.drew base (.slice (some ⟨g1, 0, none⟩) xs.length c1) (.slice (some ⟨g2, 0, none⟩) ys.length c2) (.slice (some ⟨g3, 0, none⟩) bs.length c3) (.slice (some ⟨b4, o4, none⟩) ps.length c4) (crashTo ⟨st, xs, ys, bs, ps⟩ (-1) (ps.take k))) := hOw.out.below (Below.refl _ _).drew
          have HC := Lib.hid (l3Come_any base (.slice (some ⟨g1, 0, none⟩) xs.length c1) (.slice (some ⟨g2, 0, none⟩) ys.length c2) (.slice (some ⟨g3, 0, none⟩) bs.length c3) (.slice (some ⟨b4, o4, none⟩) ps.length c4) _ ⟨r, z, s⟩ wr.drew HBd.out (crashTo_rows HR.out _ _) HPk.out HOd.out)
          rw [(crashTo_wait _ _ _).2] at HC
          obtain ⟨p0, p1, p2, p3, p4⟩ : wr.cell? ⟨w.heap.size, 0, none⟩ = some (.int .i64 st) ∧ wr.cell? ⟨w.heap.size, 1, none⟩ = some (.slice (some ⟨g1, 0, none⟩) xs.length c1) ∧ wr.cell? ⟨w.heap.size, 2, none⟩ = some (.slice (some ⟨g2, 0, none⟩) ys.length c2) ∧ wr.cell? ⟨w.heap.size, 3, none⟩ = some (.slice (some ⟨g3, 0, none⟩) bs.length c3) ∧ wr.cell? ⟨w.heap.size, 4, none⟩ = some (.slice (some ⟨b4, o4, none⟩) ps.length c4) := ⟨(hKd.out.cell 0), (hKd.out.cell 1), (hKd.out.cell 2), (hKd.out.cell 3), (hKd.out.cell 4)⟩
          have f0 := hKd.out.frozen 0
          have f1 := hKd.out.frozen 1
          have f2 := hKd.out.frozen 2
          have f3 := hKd.out.frozen 3
          have f4 := hKd.out.frozen 4
          have i1 : (k : Int) < (ps.length : Int) := by omega
          have i0 : (0 : Int) ≤ (k : Int) := by omega
          go_wp2_with fail
          go_region_held3 (fun w' => w'.cell? ⟨w.heap.size, 0, none⟩ = some (.int .i64 st) ∧ w'.cell? ⟨w.heap.size, 1, none⟩ = some (.slice (some ⟨g1, 0, none⟩) xs.length c1) ∧ w'.cell? ⟨w.heap.size, 2, none⟩ = some (.slice (some ⟨g2, 0, none⟩) ys.length c2) ∧ w'.cell? ⟨w.heap.size, 3, none⟩ = some (.slice (some ⟨g3, 0, none⟩) bs.length c3) ∧ w'.cell? ⟨w.heap.size, 4, none⟩ = some (.slice (some ⟨b4, o4, none⟩) ps.length c4) ∧ w'.cell? ⟨b4, o4 + k * 3, none⟩ = some (.bool r) ∧ w'.cell? ⟨b4, o4 + k * 3 + 1, none⟩ = some (.int .i64 z) ∧ w'.cell? ⟨b4, o4 + k * 3 + 2, none⟩ = some (.string s)) (first | with_reducible exact mm | (have h5 := same5 KD5.out; exact ⟨h5.cell 0, h5.cell 1, h5.cell 2, h5.cell 3, h5.cell 4, other5 hb4n' mm.2.2.2.2.2.1, other5 hb4n' mm.2.2.2.2.2.2.1, other5 hb4n' mm.2.2.2.2.2.2.2⟩) | go_keep)
            (first
              | (go_at_call 114; refine HC.out.mono ?_; rintro e w5 ⟨rfl, ho5, hB5, hOt5⟩; have KD5 := Lib.hid (hOt5 _ _ _ (by decide) (by decide) (hKd.out.below (Below.refl _ _).drew hKd.out.lt)); have KZ5 := Lib.hid (hOt5 _ _ _ (by decide) (by decide) (hKz.out.below (Below.refl _ _).drew hKz.out.lt)); have HO5 := Lib.hid ho5; have HB5 := Lib.hid hB5; have HT5 := Lib.hid hOt5; obtain ⟨p0', p1', p2', p3', p4'⟩ : w5.cell? ⟨w.heap.size, 0, none⟩ = some (.int .i64 st) ∧ w5.cell? ⟨w.heap.size, 1, none⟩ = some (.slice (some ⟨g1, 0, none⟩) xs.length c1) ∧ w5.cell? ⟨w.heap.size, 2, none⟩ = some (.slice (some ⟨g2, 0, none⟩) ys.length c2) ∧ w5.cell? ⟨w.heap.size, 3, none⟩ = some (.slice (some ⟨g3, 0, none⟩) bs.length c3) ∧ w5.cell? ⟨w.heap.size, 4, none⟩ = some (.slice (some ⟨b4, o4, none⟩) ps.length c4) := ⟨(KD5.out.cell 0), (KD5.out.cell 1), (KD5.out.cell 2), (KD5.out.cell 3), (KD5.out.cell 4)⟩; obtain ⟨n0, n1, n2⟩ := HPw.out w5 _ ho5.2.2.2.1 ((comeD_wait _ _).1.trans (crashTo_wait _ _ _).1); have mm := (⟨p0', p1', p2', p3', p4', n0, n1, n2⟩ : w5.cell? ⟨w.heap.size, 0, none⟩ = some (.int .i64 st) ∧ w5.cell? ⟨w.heap.size, 1, none⟩ = some (.slice (some ⟨g1, 0, none⟩) xs.length c1) ∧ w5.cell? ⟨w.heap.size, 2, none⟩ = some (.slice (some ⟨g2, 0, none⟩) ys.length c2) ∧ w5.cell? ⟨w.heap.size, 3, none⟩ = some (.slice (some ⟨g3, 0, none⟩) bs.length c3) ∧ w5.cell? ⟨w.heap.size, 4, none⟩ = some (.slice (some ⟨b4, o4, none⟩) ps.length c4) ∧ w5.cell? ⟨b4, o4 + k * 3, none⟩ = some (.bool r) ∧ w5.cell? ⟨b4, o4 + k * 3 + 1, none⟩ = some (.int .i64 z) ∧ w5.cell? ⟨b4, o4 + k * 3 + 2, none⟩ = some (.string s)); have f0 := KD5.out.frozen 0; have f1 := KD5.out.frozen 1; have f2 := KD5.out.frozen 2; have f3 := KD5.out.frozen 3; have f4 := KD5.out.frozen 4; clear ho5 hB5 hOt5))
          all_goals
            have b1 := KD5.out.set 0 (.int .i64 st)
            have b2 := b1.set 1 (.slice (some ⟨g1, 0, none⟩) xs.length c1)
            have b3 := b2.set 2 (.slice (some ⟨g2, 0, none⟩) ys.length c2)
            have b4' := b3.set 3 (.slice (some ⟨g3, 0, none⟩) bs.length c3)
            have b5 := b4'.set 4 (.slice (some ⟨b4, o4, none⟩) ps.length c4)
            have HX := Lib.hid (own4_set (own4_set (own4_set (own4_set (own4_set HO5.out KD5.out (by decide) (by decide) (by decide) 0 (.int .i64 st)) b1 (by decide) (by decide) (by decide) 1 (.slice (some ⟨g1, 0, none⟩) xs.length c1)) b2 (by decide) (by decide) (by decide) 2 (.slice (some ⟨g2, 0, none⟩) ys.length c2)) b3 (by decide) (by decide) (by decide) 3 (.slice (some ⟨g3, 0, none⟩) bs.length c3)) b4' (by decide) (by decide) (by decide) 4 (.slice (some ⟨b4, o4, none⟩) ps.length c4))
            have HKX := Lib.hid b5
            have HZX := Lib.hid (((((KZ5.out.other w.heap.size 0 (.int .i64 st) (by omega)).other w.heap.size 1 (.slice (some ⟨g1, 0, none⟩) xs.length c1) (by omega)).other w.heap.size 2 (.slice (some ⟨g2, 0, none⟩) ys.length c2) (by omega)).other w.heap.size 3 (.slice (some ⟨g3, 0, none⟩) bs.length c3) (by omega)).other w.heap.size 4 (.slice (some ⟨b4, o4, none⟩) ps.length c4) (by omega))
            have HBX := Lib.hid ((((((hBw.out.drew.trans HB5.out).setCell (p := ⟨w.heap.size, 0, none⟩) hb (.int .i64 st)).setCell (p := ⟨w.heap.size, 1, none⟩) hb (.slice (some ⟨g1, 0, none⟩) xs.length c1)).setCell (p := ⟨w.heap.size, 2, none⟩) hb (.slice (some ⟨g2, 0, none⟩) ys.length c2)).setCell (p := ⟨w.heap.size, 3, none⟩) hb (.slice (some ⟨g3, 0, none⟩) bs.length c3)).setCell (p := ⟨w.heap.size, 4, none⟩) hb (.slice (some ⟨b4, o4, none⟩) ps.length c4))
            have HTX := Lib.hid ((((((hOt.out.trans (othersS_drew _)).trans HT5.out).set_new (Nat.le_refl _) 0 (.int .i64 st)).set_new (Nat.le_refl _) 1 (.slice (some ⟨g1, 0, none⟩) xs.length c1)).set_new (Nat.le_refl _) 2 (.slice (some ⟨g2, 0, none⟩) ys.length c2)).set_new (Nat.le_refl _) 3 (.slice (some ⟨g3, 0, none⟩) bs.length c3) |>.set_new (Nat.le_refl _) 4 (.slice (some ⟨b4, o4, none⟩) ps.length c4))
            have hz5 := KZ5.out.lt
            clear b1 b2 b3 b4' b5
            go_wp2
            exact ⟨⟨k + 1, by go_num, by omega, by rw [HTk.out]; exact HX, HKX, HZX, HBX, HTX, by simp; omega⟩, by simp [intOf]; omega⟩
    · obtain rfl : k = ps.length := by omega
      have hO := hOw.out
      rw [List.take_length] at hO
      have HOf := Lib.hid hO
      obtain ⟨p0, p1, p2, p3, p4⟩ : wr.cell? ⟨w.heap.size, 0, none⟩ = some (.int .i64 st) ∧ wr.cell? ⟨w.heap.size, 1, none⟩ = some (.slice (some ⟨g1, 0, none⟩) xs.length c1) ∧ wr.cell? ⟨w.heap.size, 2, none⟩ = some (.slice (some ⟨g2, 0, none⟩) ys.length c2) ∧ wr.cell? ⟨w.heap.size, 3, none⟩ = some (.slice (some ⟨g3, 0, none⟩) bs.length c3) ∧ wr.cell? ⟨w.heap.size, 4, none⟩ = some (.slice a4 ps.length c4) := ⟨(hKd.out.cell 0), (hKd.out.cell 1), (hKd.out.cell 2), (hKd.out.cell 3), (hKd.out.cell 4)⟩
      have hA : Below wr.heap.size wr (wr.alloc (.cells #[] 101)) := (Below.refl _ _).alloc (Nat.le_refl _) _
      have KX := Lib.hid (hKd.out.below hA hKd.out.lt)
      have ZX := Lib.hid (hKz.out.below hA hKz.out.lt)
      have EX := Lib.hid (Blk.new wr #[] 101)
      have OX := Lib.hid (HOf.out.below hA)
      have BX := Lib.hid (hBw.out.alloc (show base ≤ wr.heap.size by omega) (.cells #[] 101))
      have TX := Lib.hid (hOt.out.trans (othersS_below hA))
      obtain ⟨x0, x1, x2, x3, x4⟩ : (wr.alloc (.cells #[] 101)).cell? ⟨w.heap.size, 0, none⟩ = some (.int .i64 st) ∧ (wr.alloc (.cells #[] 101)).cell? ⟨w.heap.size, 1, none⟩ = some (.slice (some ⟨g1, 0, none⟩) xs.length c1) ∧ (wr.alloc (.cells #[] 101)).cell? ⟨w.heap.size, 2, none⟩ = some (.slice (some ⟨g2, 0, none⟩) ys.length c2) ∧ (wr.alloc (.cells #[] 101)).cell? ⟨w.heap.size, 3, none⟩ = some (.slice (some ⟨g3, 0, none⟩) bs.length c3) ∧ (wr.alloc (.cells #[] 101)).cell? ⟨w.heap.size, 4, none⟩ = some (.slice a4 ps.length c4) := ⟨(KX.out.cell 0), (KX.out.cell 1), (KX.out.cell 2), (KX.out.cell 3), (KX.out.cell 4)⟩
      have f4 := KX.out.frozen 4
      obtain ⟨z0, z1, z2, z3, z4⟩ : (wr.alloc (.cells #[] 101)).cell? ⟨w.heap.size + 1, 0, none⟩ = some (.int .i64 0) ∧ (wr.alloc (.cells #[] 101)).cell? ⟨w.heap.size + 1, 1, none⟩ = some (.slice none 0 0) ∧ (wr.alloc (.cells #[] 101)).cell? ⟨w.heap.size + 1, 2, none⟩ = some (.slice none 0 0) ∧ (wr.alloc (.cells #[] 101)).cell? ⟨w.heap.size + 1, 3, none⟩ = some (.slice none 0 0) ∧ (wr.alloc (.cells #[] 101)).cell? ⟨w.heap.size + 1, 4, none⟩ = some (.slice none 0 0) := ⟨(ZX.out.cell 0), (ZX.out.cell 1), (ZX.out.cell 2), (ZX.out.cell 3), (ZX.out.cell 4)⟩
      have y0 := ZX.out.frozen 0
      have y1 := ZX.out.frozen 1
      have y2 := ZX.out.frozen 2
      have y3 := ZX.out.frozen 3
      have y4 := ZX.out.frozen 4
      clear hO hA
      go_wp2
      refine bodyPost_ret (v := .agg #[.int .i64 st, .slice (some ⟨g1, 0, none⟩) xs.length c1, .slice (some ⟨g2, 0, none⟩) ys.length c2, .slice (some ⟨g3, 0, none⟩) bs.length c3, .slice (some ⟨wr.heap.size, 0, none⟩) 0 0]) (by simp [results, Tryz.results84, go_sem, z0, z1, z2, z3, z4]) rfl ⟨_, rfl, ⟨_, _, _, _, (by rw [show (crashD ⟨st, xs, ys, bs, ps⟩ (-1)).state = st from (crashTo_wait _ _ _).2]), ?_⟩, ?_, ?_⟩
      · have m0 := own4_set OX.out KX.out (by decide) (by decide) (by decide) 4 (.slice (some ⟨wr.heap.size, 0, none⟩) 0 0)
        have e0 := EX.out.other w.heap.size 4 (.slice (some ⟨wr.heap.size, 0, none⟩) 0 0) (by omega)
        have k0 := ZX.out.other w.heap.size 4 (.slice (some ⟨wr.heap.size, 0, none⟩) 0 0) (by omega)
        have k1 := k0.set 0 (.int .i64 st)
        have k2 := k1.set 1 (.slice (some ⟨g1, 0, none⟩) xs.length c1)
        have k3 := k2.set 2 (.slice (some ⟨g2, 0, none⟩) ys.length c2)
        have k4 := k3.set 3 (.slice (some ⟨g3, 0, none⟩) bs.length c3)
        have m1 := own4_set m0 k0 (by decide) (by decide) (by decide) 0 (.int .i64 st)
        have m2 := own4_set m1 k1 (by decide) (by decide) (by decide) 1 (.slice (some ⟨g1, 0, none⟩) xs.length c1)
        have m3 := own4_set m2 k2 (by decide) (by decide) (by decide) 2 (.slice (some ⟨g2, 0, none⟩) ys.length c2)
        have m4 := own4_set m3 k3 (by decide) (by decide) (by decide) 3 (.slice (some ⟨g3, 0, none⟩) bs.length c3)
        have m5 := own4_set m4 k4 (by decide) (by decide) (by decide) 4 (.slice (some ⟨wr.heap.size, 0, none⟩) 0 0)
        have e5 := ((((e0.other (w.heap.size + 1) 0 (.int .i64 st) (by omega)).other (w.heap.size + 1) 1 (.slice (some ⟨g1, 0, none⟩) xs.length c1) (by omega)).other (w.heap.size + 1) 2 (.slice (some ⟨g2, 0, none⟩) ys.length c2) (by omega)).other (w.heap.size + 1) 3 (.slice (some ⟨g3, 0, none⟩) bs.length c3) (by omega)).other (w.heap.size + 1) 4 (.slice (some ⟨wr.heap.size, 0, none⟩) 0 0) (by omega)
        exact ⟨m5.1, m5.2.1, m5.2.2.1, own_of_blk (n := 0) (K := 3) e5 (by omega) rfl (by simp [maxLen]), m5.2.2.2.2⟩
      · exact (((((BX.out.setCell (p := ⟨w.heap.size, 4, none⟩) hb _).setCell (p := ⟨w.heap.size + 1, 0, none⟩) (by simp; omega) _).setCell (p := ⟨w.heap.size + 1, 1, none⟩) (by simp; omega) _).setCell (p := ⟨w.heap.size + 1, 2, none⟩) (by simp; omega) _).setCell (p := ⟨w.heap.size + 1, 3, none⟩) (by simp; omega) _).setCell (p := ⟨w.heap.size + 1, 4, none⟩) (by simp; omega) _
      · exact (((((TX.out.set_new (Nat.le_refl _) 4 _).set_new (by omega) 0 _).set_new (by omega) 1 _).set_new (by omega) 2 _).set_new (by omega) 3 _).set_new (by omega) 4 _

end Go.Proofs.YtcdiengbmjkglaaGreat

namespace Go.Proofs.YtcdiengbmjkglaaGreat
open Go.RowKit Go.Sort Go.Shelf

end Go.Proofs.YtcdiengbmjkglaaGreat
