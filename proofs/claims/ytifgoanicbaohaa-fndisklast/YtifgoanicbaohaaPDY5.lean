/- What is drawn: a disk. Conditions: the reader's place is below a bound. -/
import Derived.Test.YtifgoanicbaohaaPDY4
namespace Go.Proofs.Ytifgoanicbaohaa
open Go.RowKit Go.Sort

theorem own_up {w w' : World} {n K : Nat} {e : TypeId} {v : Value} {k : Nat} {xs : List Value} (h : w.ownsRow n e K v k xs) (hne : v.ownBlock ≠ some n) (hk : ∀ E, n < E → E < w.heap.size → w'.heap[E]? = w.heap[E]?) : w'.ownsRow n e K v k xs := by
  refine ⟨h.1, ?_⟩
  have hlt := h.lt
  rcases h.2 with h | ⟨g, cap, cur, rfl, hg, hr, rest⟩
  · exact .inl h
  · have : g ≠ n := fun e => hne (by rw [e]; rfl)
    exact .inr ⟨g, cap, cur, rfl, hg, (hk g (by omega) (hlt g rfl).2).trans hr, rest⟩
/-- The rows of a disk stay where the blocks behind the answer's box do. -/
theorem own4_far {w w' : World} {n : Nat} {v1 v2 v3 v4 : Value} {d : DiskD} {cs : Array Value} (h : Own4 w n v1 v2 v3 v4 d) (K : Blk w n cs 27) (hk : ∀ E, n < E → E < w.heap.size → w'.heap[E]? = w.heap[E]?) : Own4 w' n v1 v2 v3 v4 d :=
  ⟨own_up h.1 (own_blk_ne h.1 K (by decide)) hk, own_up h.2.1 (own_blk_ne h.2.1 K (by decide)) hk, own_up h.2.2.1 (own_blk_ne h.2.2.1 K (by decide)) hk, own_up h.2.2.2.1 (own_blk_ne h.2.2.2.1 K (by decide)) hk, h.2.2.2.2⟩
theorem far_own {n₀ B q : Nat} {w : World} {D : Nat} {cs : Array Value} {wx : World} {v1 v2 v3 v4 : Value} {d : DiskD} (h : Own4 wx w.heap.size v1 v2 v3 v4 d) (F : FrY n₀ B q w D cs wx) : FarV w.heap.size wx (.agg #[.int .i64 d.state, v1, v2, v3, v4]) d :=
  fun _ hk => OwnDisk.reads ⟨_, _, _, _, rfl, own4_far h F.2.2.2.2.1 hk⟩
theorem FarV.set {n : Nat} {w : World} {v : Value} {d : DiskD} (h : FarV n w v d) {R : Nat} (hR : R ≤ n) (j : Nat) (u : Value) : FarV n (w.setCell ⟨R, j, none⟩ u) v d :=
  fun w' hk => h w' (fun E h1 h2 => (hk E h1 (by rw [World.size_setCell]; exact h2)).trans (Below.heap_setCell _ _ _ _ (by show E ≠ R; omega)))
theorem fin_end {n₀ B p q : Nat} {w : World} {D : Nat} {x0 x1 x2 x3 x4 : Value} {wx : World} {d : DiskD} (h : FrY n₀ B q w D #[x0, x1, x2, x3, x4] wx) (hV : FarV w.heap.size wx (.agg #[x0, x1, x2, x3, x4]) d) (hq : q ≤ p + 2000) :
    DiskDrawn n₀ B p w (.returned (.agg #[x0, x1, x2, x3, x4])) (((((wx.setCell ⟨w.heap.size, 0, none⟩ x0).setCell ⟨w.heap.size, 1, none⟩ x1).setCell ⟨w.heap.size, 2, none⟩ x2).setCell ⟨w.heap.size, 3, none⟩ x3).setCell ⟨w.heap.size, 4, none⟩ x4) :=
  ⟨d, _, q, rfl, ((((hV.set (Nat.le_refl _) 0 x0).set (Nat.le_refl _) 1 x1).set (Nat.le_refl _) 2 x2).set (Nat.le_refl _) 3 x3).set (Nat.le_refl _) 4 x4, hq, ((((h.2.2.1.set h.1 0 x0).set h.1 1 x1).set h.1 2 x2).set h.1 3 x3).set h.1 4 x4,
    grown_set (grown_set (grown_set (grown_set (grown_set h.2.2.2.1 (Nat.le_refl _) 0 x0) (Nat.le_refl _) 1 x1) (Nat.le_refl _) 2 x2) (Nat.le_refl _) 3 x3) (Nat.le_refl _) 4 x4⟩
theorem zero5 {w : World} {D : Nat} {t : TypeId} (K : Blk w D zeroC t) :
    w.cell? ⟨D, 0, none⟩ = some (.int .i64 0) ∧ w.cell? ⟨D, 1, none⟩ = some (.slice none 0 0) ∧ w.cell? ⟨D, 2, none⟩ = some (.slice none 0 0) ∧ w.cell? ⟨D, 3, none⟩ = some (.slice none 0 0) ∧ w.cell? ⟨D, 4, none⟩ = some (.slice none 0 0) ∧
      w.frozen? ⟨D, 0, none⟩ = false ∧ w.frozen? ⟨D, 1, none⟩ = false ∧ w.frozen? ⟨D, 2, none⟩ = false ∧ w.frozen? ⟨D, 3, none⟩ = false ∧ w.frozen? ⟨D, 4, none⟩ = false :=
  ⟨K.cell 0, K.cell 1, K.cell 2, K.cell 3, K.cell 4, K.frozen 0, K.frozen 1, K.frozen 2, K.frozen 3, K.frozen 4⟩

/-- A disk in its box, whatever waits. -/
def DrO (n₀ B q : Nat) (w : World) (D : Nat) (d : DiskD) (wx : World) : Prop := ∃ v1 v2 v3 v4, FrY n₀ B q w D #[.int .i64 d.state, v1, v2, v3, v4] wx ∧ Own4 wx w.heap.size v1 v2 v3 v4 d
set_option maxRecDepth 100000 in
set_option maxHeartbeats 4000000 in
theorem l71Disk_any (n₀ B p : Nat) (w : World) (hp : p ≤ 800000) (hR : Rd n₀ B p w) :
    Calls Try.prog 22 #[.pointer (some ⟨B, 0, none⟩)] w (DiskDrawn n₀ B p w) := by
  have hBl := hR.lt
  have HR := Lib.hid ((hR.alloc (.cells #[.int .i64 0, .slice none 0 0, .slice none 0 0, .slice none 0 0, .slice none 0 0] 27)).alloc (.cells #[.int .i64 0, .int .i64 0, .int .i64 2, .int .i64 1] 3))
  have G := Lib.hid ((World.grownBy_alloc w (.cells #[.int .i64 0, .slice none 0 0, .slice none 0 0, .slice none 0 0, .slice none 0 0] 27) (some B)).trans (World.grownBy_alloc _ (.cells #[.int .i64 0, .int .i64 0, .int .i64 2, .int .i64 1] 3) (some B)))
  have KZ := Lib.hid (show Blk ((w.alloc (.cells #[.int .i64 0, .slice none 0 0, .slice none 0 0, .slice none 0 0, .slice none 0 0] 27)).alloc (.cells #[.int .i64 0, .int .i64 0, .int .i64 2, .int .i64 1] 3)) w.heap.size zeroC 27 from (Blk.new w #[.int .i64 0, .slice none 0 0, .slice none 0 0, .slice none 0 0, .slice none 0 0] 27).below (n := w.heap.size + 1) ((Below.refl _ _).alloc (by simp) _) (by omega))
  have KT := Lib.hid (show Blk ((w.alloc (.cells #[.int .i64 0, .slice none 0 0, .slice none 0 0, .slice none 0 0, .slice none 0 0] 27)).alloc (.cells #[.int .i64 0, .int .i64 0, .int .i64 2, .int .i64 1] 3)) (w.heap.size + 1) #[.int .i64 0, .int .i64 0, .int .i64 2, .int .i64 1] 3 by
    have := Blk.new (w.alloc (.cells #[.int .i64 0, .slice none 0 0, .slice none 0 0, .slice none 0 0, .slice none 0 0] 27)) #[.int .i64 0, .int .i64 0, .int .i64 2, .int .i64 1] 3
    rw [World.size_alloc] at this
    exact this)
  clear hR
  go_enter Try.func22, Try.ntmps22
  go_wp2_with fail
  generalize ((w.alloc (.cells #[.int .i64 0, .slice none 0 0, .slice none 0 0, .slice none 0 0, .slice none 0 0] 27)).alloc (.cells #[.int .i64 0, .int .i64 0, .int .i64 2, .int .i64 1] 3)) = W at HR G KZ KT ⊢
  refine (pick_any n₀ B p 4 _ (by omega) HR.out).mono ?_
  rintro e w1 ⟨v, rfl, hv0, hvn, hR1, hg1⟩
  have hv4 := hvn (by omega)
  have KZ := Lib.hid (KZ.out.grown hg1 (by omega))
  have KT := Lib.hid (KT.out.grown hg1 (by omega))
  have G := Lib.hid (G.out.trans hg1)
  have HR := Lib.hid hR1
  have ht : w1.cell? ⟨w.heap.size + 1, v.toNat, none⟩ = some (.int .i64 (tabs v)) := (KT.out.cell _).trans (tabs_cell v hv0 hv4)
  clear hR1 hg1 hvn
  have HN := Lib.hid (fun W => specNew_any (tabs v) W)
  have HGd := Lib.hid (good_new (tabs_ok v))
  generalize diskNew (tabs v) = dn at HN HGd
  generalize tabs v = tv at ht HN
  go_wp2_with fail
  refine (HN.out _).mono ?_
  rintro e w2 ⟨vd, rfl, ho, hB2⟩
  obtain ⟨y1, y2, y3, y4, rfl, ho4⟩ := ho
  obtain ⟨a1, c1, rfl, _⟩ := OwnTx.reads ho4.1
  obtain ⟨a2, c2, rfl, _⟩ := OwnTx.reads ho4.2.1
  obtain ⟨a3, c3, rfl, _⟩ := OwnBo.reads ho4.2.2.1
  obtain ⟨a4, c4, rfl, _⟩ := OwnPu.reads ho4.2.2.2.1
  have hA : Below w2.heap.size w2 (w2.alloc (.cells #[.int .i64 dn.state, .slice a1 dn.slots.length c1, .slice a2 dn.rings.length c2, .slice a3 dn.spoilt.length c3, .slice a4 dn.wait.length c4] 27)) := (Below.refl _ _).alloc (Nat.le_refl _) _
  have hGs := G.out.size
  have HD : Hid (Dr n₀ B (p + 1) w w2.heap.size dn (w2.alloc (.cells #[.int .i64 dn.state, .slice a1 dn.slots.length c1, .slice a2 dn.rings.length c2, .slice a3 dn.spoilt.length c3, .slice a4 dn.wait.length c4] 27))) := by
    refine ⟨_, _, _, _, ⟨hBl, by have := hB2.size; have := KT.out.lt; omega, (HR.out.below hB2).below hA, ?_, (KZ.out.below hB2 KZ.out.lt).below hA (by have := hB2.size; have := KT.out.lt; omega), Blk.new w2 _ _⟩, (ho4.below hA).mono hGs, HGd.out⟩
    exact grown_bel (grown_bel G.out (hB2.mono hGs)) (hA.mono (Nat.le_trans hGs hB2.size))
  have hDl : w2.heap.size < (w2.alloc (.cells #[.int .i64 dn.state, .slice a1 dn.slots.length c1, .slice a2 dn.rings.length c2, .slice a3 dn.spoilt.length c3, .slice a4 dn.wait.length c4] 27)).heap.size := by simp
  clear ho4 hA hB2 HN HGd G HR KZ KT ht
  go_wp2_with fail
  generalize w2.alloc (.cells #[.int .i64 dn.state, .slice a1 dn.slots.length c1, .slice a2 dn.rings.length c2, .slice a3 dn.spoilt.length c3, .slice a4 dn.wait.length c4] 27) = W2 at HD hDl ⊢
  generalize w2.heap.size = D at HD ⊢
  refine (pick_any n₀ B (p + 1) 12 _ (by omega) HD.out.rd).mono ?_
  rintro e w3 ⟨v3, rfl, hv30, hv3n, hR3, hg3⟩
  have hv12 := hv3n (by omega)
  have HD := Lib.hid (HD.out.grown hR3 hg3)
  clear hR3 hg3 hv3n
  go_wp2_with fail
  go_loopw [4] (fun i wr => ∃ (j : Nat) (d : DiskD) (q : Nat), i = .int .i64 (j : Int) ∧ j ≤ 11 ∧ q + 30 * j ≤ p + 400 ∧ Hid (Dr n₀ B q w D d wr)) (fun i _ => (intOf i).toNat)
  case atStart =>
    obtain ⟨j, rfl⟩ := Int.eq_ofNat_of_zero_le hv30
    exact ⟨j, dn, p + 1 + 1, rfl, by omega, by omega, HD⟩
  case round =>
    clear HD hv30 hv12
    obtain ⟨j, d, q, rfl, hj, hq, hD⟩ := hrel
    by_cases h0 : 0 < j
    · obtain ⟨y1, y2, y3, y4, hF, hO, hG⟩ := hD.out
      obtain ⟨a1, c1, rfl, _⟩ := OwnTx.reads hO.1
      obtain ⟨a2, c2, rfl, _⟩ := OwnTx.reads hO.2.1
      obtain ⟨a3, c3, rfl, _⟩ := OwnBo.reads hO.2.2.1
      obtain ⟨a4, c4, rfl, _⟩ := OwnPu.reads hO.2.2.2.1
      have FD := Lib.hid hF.drew
      have OD := Lib.hid (hO.below (Below.refl _ _).drew)
      have HG := Lib.hid hG
      obtain ⟨p0, p1, p2, p3, p4, f0, f1, f2, f3, f4⟩ := hF.five
      have hBw := hF.1
      have hszr : w.heap.size ≤ wr.heap.size := hF.2.2.2.1.size
      have dj : decide (0 < (j : Int)) = true := decide_eq_true (by omega)
      clear hF hO hG hD
      go_upto_region 5 with (fail)
      go_cut [3] from 13 to 37 (fun s3 wx => s3 = .pointer (some ⟨D, 0, none⟩) ∧ ∃ (d : DiskD) (q' : Nat), q' ≤ q + 20 ∧ Hid (Dr n₀ B q' w D d wx))
      case first =>
        go_region_law (first
          | (go_simp; go_at_call 43; refine (l71Put_any n₀ B q _ ?_ ?_).mono ?_; omega; exact FD.out.2.2.1; rintro e wa ⟨x, q2, rfl, hx, hq2, hR2, hg2⟩; have F2 := Lib.hid (FD.out.grown hR2 hg2); have O2 := Lib.hid (OD.out.grown hg2 hBw); have sz2 : w.heap.size ≤ wa.heap.size := F2.out.2.2.2.1.size; obtain ⟨m0, m1, m2, m3, m4, _, _, _, _, _⟩ := F2.out.five; clear hR2 hg2)
          | (go_simp; go_at_call 45; refine (l3Write_any w.heap.size _ _ _ _ d x _ sz2 HG.out.1.1 HG.out.2.1 HG.out.2.2 O2.out).mono ?_; rintro e wb ⟨vb, rfl, ho, hB3, hot⟩; have F3 := Lib.hid (F2.out.others hB3 hot); obtain ⟨r1', r2', r3', r4', rfl, ho4⟩ := ho; obtain ⟨b1, e1, rfl, _⟩ := OwnTx.reads ho4.1; obtain ⟨b2, e2, rfl, _⟩ := OwnTx.reads ho4.2.1; obtain ⟨b3, e3, rfl, _⟩ := OwnBo.reads ho4.2.2.1; obtain ⟨b4, e4, rfl, _⟩ := OwnPu.reads ho4.2.2.2.1; have O3 := Lib.hid ho4; obtain ⟨b0, b1', b2', b3', b4', g0, g1, g2, g3, g4⟩ := F3.out.five; clear hB3 hot ho4))
        all_goals
          go_wp2
          go_meet
          exact ⟨rfl, putD d x, q2, by omega, Dr.put F3.out O3.out (good_put HG.out hx)⟩
      case rest =>
        obtain ⟨rfl, d2, q2, hq2, hD2⟩ := hcut
        clear FD OD HG p0 p1 p2 p3 p4 f0 f1 f2 f3 f4
        go_wp2_with fail
        refine (pick_any n₀ B q2 3 _ (by omega) hD2.out.rd).mono ?_
        rintro e w4 ⟨v4, rfl, _, _, hR4, hg4⟩
        have HD4 := Lib.hid (hD2.out.grown hR4 hg4)
        clear hR4 hg4 hD2
        go_upto_if 23 with (fail)
        go_cut [3] from 13 to 37 (fun s3 wx => s3 = .pointer (some ⟨D, 0, none⟩) ∧ ∃ (d : DiskD) (q' : Nat), q' ≤ q + 21 ∧ Hid (Dr n₀ B q' w D d wx))
        case first =>
          by_cases h3 : v4 = 0
          · have e3 : ((v4 : Int) == 0) = true := by simp; omega
            clear h3
            obtain ⟨y1, y2, y3, y4, hF, hO, hG⟩ := HD4.out
            obtain ⟨a1, c1, rfl, _⟩ := OwnTx.reads hO.1
            obtain ⟨a2, c2, rfl, _⟩ := OwnTx.reads hO.2.1
            obtain ⟨a3, c3, rfl, _⟩ := OwnBo.reads hO.2.2.1
            obtain ⟨a4, c4, rfl, _⟩ := OwnPu.reads hO.2.2.2.1
            have FD := Lib.hid hF
            have OD := Lib.hid hO
            have HG := Lib.hid hG
            obtain ⟨p0, p1, p2, p3, p4, f0, f1, f2, f3, f4⟩ := hF.five
            have hszr : w.heap.size ≤ w4.heap.size := hF.2.2.2.1.size
            clear hF hO hG
            go_wp2_with fail
            refine (l3Flush_any w.heap.size _ _ _ _ d2 _ hszr HG.out.1.1 HG.out.2.1 (by have := HG.out.2.2; omega) OD.out).mono ?_
            rintro e w5 ⟨vb, rfl, ho, hB5, hot⟩
            have F5 := Lib.hid (FD.out.others hB5 hot.others)
            obtain ⟨r1', r2', r3', r4', rfl, ho4⟩ := ho
            obtain ⟨b1, e1, rfl, _⟩ := OwnTx.reads ho4.1
            obtain ⟨b2, e2, rfl, _⟩ := OwnTx.reads ho4.2.1
            obtain ⟨b3, e3, rfl, _⟩ := OwnBo.reads ho4.2.2.1
            obtain ⟨b4, e4, rfl, _⟩ := OwnPu.reads ho4.2.2.2.1
            have O5 := Lib.hid ho4
            obtain ⟨b0, b1', b2', b3', b4', g0, g1, g2, g3, g4⟩ := F5.out.five
            clear hB5 hot ho4
            go_wp2
            go_meet
            exact ⟨rfl, crashD d2 (-1), q2 + 1, by omega, Dr.put F5.out O5.out (good_flush HG.out)⟩
          · have e3 : ((v4 : Int) == 0) = false := by simp; omega
            go_wp2
            go_meet
            exact ⟨rfl, d2, q2 + 1, by omega, HD4⟩
        case rest =>
          obtain ⟨rfl, d3, q3, hq3, hD3⟩ := hcut
          clear HD4
          go_wp2_with fail
          refine (pick_any n₀ B q3 5 _ (by omega) hD3.out.rd).mono ?_
          rintro e w5 ⟨v5, rfl, _, _, hR5, hg5⟩
          have HD5 := Lib.hid (hD3.out.grown hR5 hg5)
          clear hR5 hg5 hD3
          · by_cases h5 : v5 = 0
            · have e5 : ((v5 : Int) == 0) = true := by simp; omega
              clear h5
              obtain ⟨y1, y2, y3, y4, hF, hO, hG⟩ := HD5.out
              obtain ⟨a1, c1, rfl, _⟩ := OwnTx.reads hO.1
              obtain ⟨a2, c2, rfl, _⟩ := OwnTx.reads hO.2.1
              obtain ⟨a3, c3, rfl, _⟩ := OwnBo.reads hO.2.2.1
              obtain ⟨a4, c4, rfl, _⟩ := OwnPu.reads hO.2.2.2.1
              have FD := Lib.hid hF
              have OD := Lib.hid hO
              have HG := Lib.hid hG
              obtain ⟨p0, p1, p2, p3, p4, f0, f1, f2, f3, f4⟩ := hF.five
              have hszr : w.heap.size ≤ w5.heap.size := hF.2.2.2.1.size
              clear hF hO hG
              have FD := Lib.hid FD.out.drew
              have OD := Lib.hid (OD.out.below (Below.refl _ _).drew)
              have hBw := FD.out.1
              go_wp2_with fail
              go_region_law (first
                | (go_simp; go_at_call_of 23 (Value.int IntKind.i64 12); refine (pick_any n₀ B (q3 + 1) 12 _ ?_ ?_).mono ?_; omega; exact FD.out.2.2.1; rintro e wa ⟨va, rfl, hva, hvan, hR2, hg2⟩; have hva12 := hvan (by omega); clear hvan; have F2 := Lib.hid (FD.out.grown hR2 hg2); have O2 := Lib.hid (OD.out.grown hg2 hBw); obtain ⟨m0, m1, m2, m3, m4, _, _, _, _, _⟩ := F2.out.five; obtain ⟨ka, rfl⟩ := Int.eq_ofNat_of_zero_le hva; clear hR2 hg2)
                | (go_simp; go_at_call_of 23 (Value.int IntKind.i64 3); refine (pick_any n₀ B (q3 + 1 + 1) 3 _ ?_ ?_).mono ?_; omega; exact F2.out.2.2.1; rintro e wb ⟨vb, rfl, hvb, hvbn, hR3, hg3⟩; have hvb3 := hvbn (by omega); clear hvbn; have F3 := Lib.hid (F2.out.grown hR3 hg3); have O3 := Lib.hid (O2.out.grown hg3 hBw); obtain ⟨m0, m1, m2, m3, m4, _, _, _, _, _⟩ := F3.out.five; obtain ⟨kb, rfl⟩ := Int.eq_ofNat_of_zero_le hvb; clear hR3 hg3)
                | (go_simp; go_at_call_of 23 (Value.int IntKind.i64 255); refine (pick_any n₀ B (q3 + 1 + 1 + 1) 255 _ ?_ ?_).mono ?_; omega; exact F3.out.2.2.1; rintro e wc ⟨vc, rfl, hvc, hvcn, hR4, hg4⟩; have hvc255 := hvcn (by omega); clear hvcn; have F4 := Lib.hid (F3.out.grown hR4 hg4); have O4 := Lib.hid (O3.out.grown hg4 hBw); have sz4 : w.heap.size ≤ wc.heap.size := F4.out.2.2.2.1.size; obtain ⟨m0, m1, m2, m3, m4, _, _, _, _, _⟩ := F4.out.five; clear hR4 hg4)
                | (go_simp; go_at_call 41; refine (l3Spoil_any w.heap.size _ _ _ _ d3 ka kb _ _ sz4 HG.out.1.1 ?_ ?_ O4.out).mono ?_; omega; exact (fun hcs => good_byte HG.out (by omega) (by omega) hcs); rintro e wd ⟨vd, rfl, ho, hB5, hot⟩; obtain ⟨d9, ho, hG9⟩ : ∃ d9, OwnDisk wd w.heap.size vd d9 ∧ Good d9 := ⟨_, ho, good_spoil HG.out _ _ _⟩; have F5 := Lib.hid (F4.out.others hB5 hot.others); obtain ⟨r1', r2', r3', r4', rfl, ho4⟩ := ho; obtain ⟨b1, e1, rfl, _⟩ := OwnTx.reads ho4.1; obtain ⟨b2, e2, rfl, _⟩ := OwnTx.reads ho4.2.1; obtain ⟨b3, e3, rfl, _⟩ := OwnBo.reads ho4.2.2.1; obtain ⟨b4, e4, rfl, _⟩ := OwnPu.reads ho4.2.2.2.1; have O5 := Lib.hid ho4; obtain ⟨b0, b1', b2', b3', b4', g0, g1, g2, g3, g4⟩ := F5.out.five; clear hB5 hot ho4))
              all_goals
                go_wp2
                exact ⟨⟨j - 1, d9, q3 + 1 + 1 + 1 + 1, by congr 1; omega, by omega, by omega, Dr.put F5.out O5.out hG9⟩, by simp [intOf]; omega⟩
            · have e5 : ((v5 : Int) == 0) = false := by simp; omega
              go_wp2
              exact ⟨⟨j - 1, d3, q3 + 1, by congr 1; omega, by omega, by omega, HD5⟩, by simp [intOf]; omega⟩
    · obtain rfl : j = 0 := by omega
      clear h0
      go_wp2_with fail
      refine (pick_any n₀ B q 30 _ (by omega) hD.out.rd).mono ?_
      rintro e w4 ⟨v, rfl, hv0, _, hR4, hg4⟩
      have HD4 := Lib.hid (hD.out.grown hR4 hg4)
      clear hR4 hg4 hD
      obtain ⟨i0, hi0, hz0, hz1, hz2⟩ := info_parts infoPu
      obtain ⟨y1, y2, y3, y4, hF, hO, hG⟩ := HD4.out
      obtain ⟨a1, c1, rfl, _⟩ := OwnTx.reads hO.1
      obtain ⟨a2, c2, rfl, _⟩ := OwnTx.reads hO.2.1
      obtain ⟨a3, c3, rfl, _⟩ := OwnBo.reads hO.2.2.1
      obtain ⟨a4, c4, rfl, _⟩ := OwnPu.reads hO.2.2.2.1
      have FD := Lib.hid hF
      have OD := Lib.hid hO
      have HG := Lib.hid hG
      obtain ⟨p0, p1, p2, p3, p4, f0, f1, f2, f3, f4⟩ := hF.five
      have hszr : w.heap.size ≤ w4.heap.size := hF.2.2.2.1.size
      clear hF hO hG
      have hBw := FD.out.1
      have hwD := FD.out.2.1
      have hwD' : w.heap.size ≠ D := by omega
      have hwD2 : D ≠ w.heap.size := by omega
      by_cases h0 : v = 0
      · -- another state
        have e0 : ((v : Int) == 0) = true := by simp; omega
        clear h0
        have FA := Lib.hid (FD.out.below ((Below.refl _ w4).alloc (Nat.le_refl _) (.cells #[.int .i64 (-1), .int .i64 3, .int .i64 1] 3)))
        have OA := Lib.hid (OD.out.below ((Below.refl _ w4).alloc (Nat.le_refl _) (.cells #[.int .i64 (-1), .int .i64 3, .int .i64 1] 3)))
        have KT := Lib.hid (Blk.new w4 #[.int .i64 (-1), .int .i64 3, .int .i64 1] 3)
        have hne : w4.heap.size ≠ B := by have := hszr; omega
        go_wp2_with fail
        generalize w4.alloc (.cells #[.int .i64 (-1), .int .i64 3, .int .i64 1] 3) = W4 at FA OA KT ⊢
        refine (pick_any n₀ B (q + 1) 3 _ (by omega) FA.out.2.2.1).mono ?_
        rintro e w5 ⟨vt, rfl, hvt, hvtn, hR5, hg5⟩
        have hvt3 := hvtn (by omega)
        have FB := Lib.hid (FA.out.grown hR5 hg5)
        have OB := Lib.hid (OA.out.grown hg5 hBw)
        have ht : w5.cell? ⟨w4.heap.size, vt.toNat, none⟩ = some (.int .i64 (tabt vt)) := ((KT.out.grown hg5 hne).cell _).trans (tabt_cell vt hvt hvt3)
        obtain ⟨b0, b1, b2, b3, b4, g0, g1, g2, g3, g4⟩ := FB.out.five
        obtain ⟨x0, x1, x2, x3, x4, t0, t1, t2, t3, t4⟩ := zero5 FB.out.2.2.2.2.1
        clear hR5 hg5 hvtn p0 p1 p2 p3 p4 f0 f1 f2 f3 f4
        generalize tabt vt = tv at ht
        go_wp2
        refine bodyPost_ret (v := .agg #[.int .i64 tv, .slice a1 d.slots.length c1, .slice a2 d.rings.length c2, .slice a3 d.spoilt.length c3, .slice a4 d.wait.length c4]) (by simp [results, Try.results22, go_sem, x0, x1, x2, x3, x4]) rfl (fin_end (p := p) (q := q + 1 + 1) (d := ⟨tv, d.slots, d.rings, d.spoilt, d.wait⟩) (FB.out.set 0 (.int .i64 tv)) (far_own (d := ⟨tv, d.slots, d.rings, d.spoilt, d.wait⟩) (own4_set OB.out FB.out.2.2.2.2.2 (by decide) (by decide) (by decide) 0 (.int .i64 tv)) (FB.out.set 0 (.int .i64 tv))) (by omega))
      by_cases h1 : v = 1
      · -- a slot of another length
        have e0 : ((v : Int) == 0) = false := by simp; omega
        have e1 : ((v : Int) == 1) = true := by simp; omega
        clear h1
        have hln := HG.out.1.1
        obtain ⟨g, cg, cur, hvg, hbg, hGb⟩ := own_form OD.out.1 (show d.slots.length ≠ 0 by have := hln; unfold HasRows at this; omega)
        injection hvg with ea en ec
        subst ea
        subst ec
        have hGd := Lib.hid (hGb.below (Below.refl _ _).drew hGb.lt)
        have FD := Lib.hid FD.out.drew
        have OD := Lib.hid (OD.out.below (Below.refl _ _).drew)
        have hl12 : d.slots.length = 12 := by have := hln; unfold HasRows at this; omega
        have Hl12 := Lib.hid hl12
        have hgB : g ≠ B := by omega
        have hgD : g ≠ D := fun e => by
          have h2 := FD.out.2.2.2.2.2
          rw [← e] at h2
          exact absurd (hGd.out.type h2) (by decide)
        have hgR : g ≠ w.heap.size := fun e => by
          have h2 := FD.out.2.2.2.2.1
          rw [← e] at h2
          exact absurd (hGd.out.type h2) (by decide)
        clear hGb hln hl12 en
        go_wp2_with fail
        go_region_law (first
          | (go_simp; go_at_call 23; refine (pick_any n₀ B (q + 1) 12 _ ?_ ?_).mono ?_; omega; exact FD.out.2.2.1; rintro e wa ⟨va, rfl, hva, hvan, hR2, hg2⟩; have hva12 := hvan (by omega); clear hvan; have F2 := Lib.hid (FD.out.grown hR2 hg2); have O2 := Lib.hid (OD.out.grown hg2 hBw); have G2 := Lib.hid (hGd.out.grown hg2 hgB); obtain ⟨m0, m1, m2, m3, m4, _, _, _, _, _⟩ := F2.out.five; obtain ⟨x0, x1, x2, x3, x4, t0, t1, t2, t3, t4⟩ := zero5 F2.out.2.2.2.2.1; obtain ⟨ka, rfl⟩ := Int.eq_ofNat_of_zero_le hva; obtain ⟨z0, zf, _, _⟩ := own_cell O2.out.1 ka (by have := Hl12.out; omega); rw [txC_get d.slots ka (by have := Hl12.out; omega)] at z0; have j1 : (ka : Int) < (d.slots.length : Int) := by { have := Hl12.out; omega }; have j2 : ka < d.slots.length := by { have := Hl12.out; omega }; have j0 : (0 : Int) ≤ (ka : Int) := by { omega }; clear hR2 hg2))
        all_goals
          go_wp2
          refine bodyPost_ret (v := .agg #[.int .i64 d.state, .slice (some ⟨g, 0, none⟩) d.slots.length c1, .slice a2 d.rings.length c2, .slice a3 d.spoilt.length c3, .slice a4 d.wait.length c4]) (by simp [results, Try.results22, go_sem, x0, x1, x2, x3, x4]) rfl (fin_end (p := p) (q := q + 1 + 1) (d := ⟨d.state, d.slots.set ka ⟨#[97, 98]⟩, d.rings, d.spoilt, d.wait⟩) (F2.out.others ((Below.refl _ _).setCell (p := ⟨g, ka, none⟩) hbg (.string ⟨#[97, 98]⟩)) (others_set G2.out (by decide) ka (.string ⟨#[97, 98]⟩))) (far_own (slot_set O2.out rfl G2.out ⟨#[97, 98]⟩) (F2.out.others ((Below.refl _ _).setCell (p := ⟨g, ka, none⟩) hbg (.string ⟨#[97, 98]⟩)) (others_set G2.out (by decide) ka (.string ⟨#[97, 98]⟩)))) (by omega))
      by_cases h2 : v = 2
      · -- a mark
        have e0 : ((v : Int) == 0) = false := by simp; omega
        have e1 : ((v : Int) == 1) = false := by simp; omega
        have e2 : ((v : Int) == 2) = true := by simp; omega
        clear h2
        have hln := HG.out.1.1
        obtain ⟨g, cg, cur, hvg, hbg, hGb⟩ := own_form OD.out.2.2.1 (show d.spoilt.length ≠ 0 by have := hln; unfold HasRows at this; omega)
        injection hvg with ea en ec
        subst ea
        subst ec
        have hGd := Lib.hid (hGb.below (Below.refl _ _).drew hGb.lt)
        have FD := Lib.hid FD.out.drew
        have OD := Lib.hid (OD.out.below (Below.refl _ _).drew)
        have hl12 : d.spoilt.length = 12 := by have := hln; unfold HasRows at this; omega
        have Hl12 := Lib.hid hl12
        have hgB : g ≠ B := by omega
        have hgD : g ≠ D := fun e => by
          have h2 := FD.out.2.2.2.2.2
          rw [← e] at h2
          exact absurd (hGd.out.type h2) (by decide)
        have hgR : g ≠ w.heap.size := fun e => by
          have h2 := FD.out.2.2.2.2.1
          rw [← e] at h2
          exact absurd (hGd.out.type h2) (by decide)
        clear hGb hln hl12 en
        go_wp2_with fail
        go_region_law (first
          | (go_simp; go_at_call 23; refine (pick_any n₀ B (q + 1) 12 _ ?_ ?_).mono ?_; omega; exact FD.out.2.2.1; rintro e wa ⟨va, rfl, hva, hvan, hR2, hg2⟩; have hva12 := hvan (by omega); clear hvan; have F2 := Lib.hid (FD.out.grown hR2 hg2); have O2 := Lib.hid (OD.out.grown hg2 hBw); have G2 := Lib.hid (hGd.out.grown hg2 hgB); obtain ⟨m0, m1, m2, m3, m4, _, _, _, _, _⟩ := F2.out.five; obtain ⟨x0, x1, x2, x3, x4, t0, t1, t2, t3, t4⟩ := zero5 F2.out.2.2.2.2.1; obtain ⟨ka, rfl⟩ := Int.eq_ofNat_of_zero_le hva; obtain ⟨z0, zf, _, _⟩ := own_cell O2.out.2.2.1 ka (by have := Hl12.out; omega); rw [boC_get d.spoilt ka (by have := Hl12.out; omega)] at z0; have j1 : (ka : Int) < (d.spoilt.length : Int) := by { have := Hl12.out; omega }; have j2 : ka < d.spoilt.length := by { have := Hl12.out; omega }; have j0 : (0 : Int) ≤ (ka : Int) := by { omega }; clear hR2 hg2))
        all_goals
          go_wp2
          refine bodyPost_ret (v := .agg #[.int .i64 d.state, .slice a1 d.slots.length c1, .slice a2 d.rings.length c2, .slice (some ⟨g, 0, none⟩) d.spoilt.length c3, .slice a4 d.wait.length c4]) (by simp [results, Try.results22, go_sem, x0, x1, x2, x3, x4]) rfl (fin_end (p := p) (q := q + 1 + 1) (d := ⟨d.state, d.slots, d.rings, d.spoilt.set ka true, d.wait⟩) (F2.out.others ((Below.refl _ _).setCell (p := ⟨g, ka, none⟩) hbg (.bool true)) (others_set G2.out (by decide) ka (.bool true))) (far_own (mark_set O2.out rfl G2.out true) (F2.out.others ((Below.refl _ _).setCell (p := ⟨g, ka, none⟩) hbg (.bool true)) (others_set G2.out (by decide) ka (.bool true)))) (by omega))
      by_cases h3 : v = 3
      · -- a write that is none
        have e0 : ((v : Int) == 0) = false := by simp; omega
        have e1 : ((v : Int) == 1) = false := by simp; omega
        have e2 : ((v : Int) == 2) = false := by simp; omega
        have e3 : ((v : Int) == 3) = true := by simp; omega
        clear h3
        have hown := OD.out.2.2.2.1
        unfold OwnPu at hown
        have hl40 := HG.out.2.2
        have FA := Lib.hid (FD.out.below ((Below.refl _ w4).alloc (Nat.le_refl _) (.cells #[.bool false, .int .i64 12, .string ⟨#[97, 98, 99]⟩] 33)))
        have OA := Lib.hid (OD.out.below ((Below.refl _ w4).alloc (Nat.le_refl _) (.cells #[.bool false, .int .i64 12, .string ⟨#[97, 98, 99]⟩] 33)))
        go_wp2_with (at_builtin; refine wpList_append_lies _ rfl _ _ 25 rfl w.heap.size 33 i0 _ 3 32 Try.underlying25 hi0 hz0 hz1 hz2 rfl (by omega) _ d.wait.length (puC d.wait) rfl (hown.alloc _) ⟨w4.heap.size, 0, none⟩ 1 1 (puC [⟨false, 12, ⟨#[97, 98, 99]⟩⟩]) rfl rfl (World.news_of_block (cs := #[.bool false, .int .i64 12, .string ⟨#[97, 98, 99]⟩]) (t := 33) (fr := (0, 0)) (heap_alloc_new w4 _)) (by simp [puC, Value.oneCell']) (by omega) (by simp [maxLen]; omega) (by omega) (by simp; omega) _ rfl ?_; intro g cap w5 hown5 hgrow5 hat5 hlt5; obtain ⟨F5, O5⟩ := app_put (p := ⟨false, 12, ⟨#[97, 98, 99]⟩⟩) FA.out OA.out hgrow5 hown5; have FE := Lib.hid F5; have OE := Lib.hid O5; obtain ⟨b0, b1, b2, b3, b4, g0, g1, g2, g3, g4⟩ := F5.five; obtain ⟨x0, x1, x2, x3, x4, t0, t1, t2, t3, t4⟩ := zero5 FE.out.2.2.2.2.1; clear F5 O5 hgrow5 hat5 hlt5 hown5)
        refine bodyPost_ret (v := .agg #[.int .i64 d.state, .slice a1 d.slots.length c1, .slice a2 d.rings.length c2, .slice a3 d.spoilt.length c3, .slice (some ⟨g, 0, none⟩) (d.wait.length + 1) cap]) (by simp [results, Try.results22, go_sem, x0, x1, x2, x3, x4]) rfl (fin_end (p := p) (q := q + 1) (d := ⟨d.state, d.slots, d.rings, d.spoilt, d.wait ++ [⟨false, 12, ⟨#[97, 98, 99]⟩⟩]⟩) (FE.out.set 4 (.slice (some ⟨g, 0, none⟩) (d.wait.length + 1) cap)) (far_own (d := ⟨d.state, d.slots, d.rings, d.spoilt, d.wait ++ [⟨false, 12, ⟨#[97, 98, 99]⟩⟩]⟩) (own4_set OE.out FE.out.2.2.2.2.2 (by decide) (by decide) (by decide) 4 (.slice (some ⟨g, 0, none⟩) (d.wait.length + 1) cap)) (FE.out.set 4 (.slice (some ⟨g, 0, none⟩) (d.wait.length + 1) cap))) (by omega))
      by_cases h4 : v = 4
      · -- as many writes as may wait, or one more
        have e0 : ((v : Int) == 0) = false := by simp; omega
        have e1 : ((v : Int) == 1) = false := by simp; omega
        have e2 : ((v : Int) == 2) = false := by simp; omega
        have e3 : ((v : Int) == 3) = false := by simp; omega
        have e4 : ((v : Int) == 4) = true := by simp; omega
        clear h4
        have hl40 := HG.out.2.2
        have HS0 : Hid (DrO n₀ B (q + 1) w D d w4) := ⟨_, _, _, _, FD.out, OD.out⟩
        clear p0 p1 p2 p3 p4 f0 f1 f2 f3 f4 FD OD
        go_wp2_with fail
        go_loopw [] (fun wr => ∃ (d : DiskD) (q' : Nat), d.wait.length ≤ 41 ∧ q' + 22 * (41 - d.wait.length) ≤ p + 1500 ∧ Hid (DrO n₀ B q' w D d wr)) (fun wr => 41 - waitLen D wr)
        case atStart => exact ⟨d, q + 1, by omega, by omega, HS0⟩
        case round =>
          obtain ⟨d2, q2, hl, hq2, hD2⟩ := hrel
          clear HS0 HD4 HG hl40
          obtain ⟨y1, y2, y3, y4, hF, hO⟩ := hD2.out
          obtain ⟨a1, c1, rfl, _⟩ := OwnTx.reads hO.1
          obtain ⟨a2, c2, rfl, _⟩ := OwnTx.reads hO.2.1
          obtain ⟨a3, c3, rfl, _⟩ := OwnBo.reads hO.2.2.1
          obtain ⟨a4, c4, rfl, _⟩ := OwnPu.reads hO.2.2.2.1
          have FD := Lib.hid hF.drew
          have OD := Lib.hid (hO.below (Below.refl _ _).drew)
          obtain ⟨p0, p1, p2, p3, p4, f0, f1, f2, f3, f4⟩ := hF.five
          have hm := Lib.hid (show waitLen D wr = d2.wait.length by unfold waitLen; rw [p4])
          clear hF hO hD2
          go_wp2_with fail
          go_region_law (first
            | (go_simp; go_at_call 23; refine (pick_any n₀ B q2 2 _ ?_ ?_).mono ?_; omega; exact FD.out.2.2.1; rintro e wa ⟨vp, rfl, hvp, hvpn, hR2, hg2⟩; have hvp2 := hvpn (by omega); clear hvpn; have F2 := Lib.hid (FD.out.grown hR2 hg2); have O2 := Lib.hid (OD.out.grown hg2 hBw); obtain ⟨m0, m1, m2, m3, m4, n0, n1, n2, n3, n4⟩ := F2.out.five; clear hR2 hg2))
          all_goals
            clear p0 p1 p2 p3 p4 f0 f1 f2 f3 f4
            have hw40 : IntKind.i64.wrap (40 + vp) = 40 + vp := by simp [IntKind.wrap, IntKind.bits, IntKind.signed]; omega
            by_cases hlt : (d2.wait.length : Int) < 40 + vp
            · have dl : decide ((d2.wait.length : Int) < 40 + vp) = true := decide_eq_true hlt
              rw [hw40, dl]
              clear hw40 dl
              have FD3 := Lib.hid F2.out.drew
              have OD3 := Lib.hid (O2.out.below (Below.refl _ _).drew)
              go_wp2_with fail
              go_region_law (first
                | (refine step_append_lies _ (by rfl) _ _ _ (by rfl) w.heap.size 33 i0 _ 3 32 Try.underlying25 hi0 hz0 hz1 hz2 rfl (by omega) (.slice a4 d2.wait.length c4) d2.wait.length (puC d2.wait) (by rfl) ?_ ⟨wb.heap.size, 0, none⟩ 1 1 (puC [x]) (by rfl) (by rfl) (World.news_of_block (cs := #[.bool x.ring, .int .i64 x.pos, .string x.text]) (t := 33) (fr := (0, 0)) (heap_alloc_new wb _)) (by simp [puC, Value.oneCell']) (by omega) (by simp [maxLen]; omega) (by omega) ?_ _ rfl ?_; exact O3.out.2.2.2.1.alloc _; (have z3 := F3.out.2.2.2.1.size; simp; omega); intro g cap w5 hown5 hgrow5 hat5 hlt5; obtain ⟨F5, O5⟩ := app_put (p := x) (F3.out.below ((Below.refl _ wb).alloc (Nat.le_refl _) _)) (O3.out.below ((Below.refl _ wb).alloc (Nat.le_refl _) _)) hgrow5 hown5; have FE := Lib.hid F5; have OE := Lib.hid O5; obtain ⟨b0, b1, b2, b3, b4, g0, g1, g2, g3, g4⟩ := F5.five; clear F5 O5 hgrow5 hat5 hlt5 hown5)
                | (go_simp; go_at_call 43; refine (l71Put_any n₀ B (q2 + 1) _ ?_ ?_).mono ?_; omega; exact FD3.out.2.2.1; rintro e wb ⟨x, q3, rfl, hx, hq3, hR3, hg3⟩; have F3 := Lib.hid (FD3.out.grown hR3 hg3); have O3 := Lib.hid (OD3.out.grown hg3 hBw); obtain ⟨k0, k1, k2, k3, k4, _, _, _, _, _⟩ := F3.out.five; obtain ⟨_, _, _, _, ka4, _, _, _, _, _⟩ := (F3.out.below ((Below.refl _ wb).alloc (Nat.le_refl _) (.cells #[.bool x.ring, .int .i64 x.pos, .string x.text] 33))).five; clear hR3 hg3))
              all_goals
                go_wp2
                refine ⟨⟨⟨d2.state, d2.slots, d2.rings, d2.spoilt, d2.wait ++ [x]⟩, q3, by simp; omega, by simp; omega, ⟨_, _, _, _, FE.out.set 4 (.slice (some ⟨g, 0, none⟩) (d2.wait.length + 1) cap), own4_set OE.out FE.out.2.2.2.2.2 (by decide) (by decide) (by decide) 4 (.slice (some ⟨g, 0, none⟩) (d2.wait.length + 1) cap)⟩⟩, ?_⟩
                have hm2 : waitLen D (w5.setCell ⟨D, 4, none⟩ (.slice (some ⟨g, 0, none⟩) (d2.wait.length + 1) cap)) = d2.wait.length + 1 := by
                  unfold waitLen
                  rw [(FE.out.set 4 (.slice (some ⟨g, 0, none⟩) (d2.wait.length + 1) cap)).2.2.2.2.2.cell 4]
                  rfl
                rw [hm2, hm.out]
                omega
            · have dl : decide ((d2.wait.length : Int) < 40 + vp) = false := decide_eq_false hlt
              rw [hw40, dl]
              clear hw40 dl
              obtain ⟨x0, x1, x2, x3, x4, t0, t1, t2, t3, t4⟩ := zero5 F2.out.2.2.2.2.1
              go_wp2
              refine bodyPost_ret (v := .agg #[.int .i64 d2.state, .slice a1 d2.slots.length c1, .slice a2 d2.rings.length c2, .slice a3 d2.spoilt.length c3, .slice a4 d2.wait.length c4]) (by simp [results, Try.results22, go_sem, x0, x1, x2, x3, x4]) rfl (fin_end (p := p) (q := q2 + 1) (d := d2) (F2.out) (far_own (d := d2) (O2.out) (F2.out)) (by omega))
      by_cases h5 : v = 5
      · -- a ring less
        have e4 : ((v : Int) == 4) = false := by simp; omega
        have e0 : ((v : Int) == 0) = false := by simp; omega
        have e1 : ((v : Int) == 1) = false := by simp; omega
        have e2 : ((v : Int) == 2) = false := by simp; omega
        have e3 : ((v : Int) == 3) = false := by simp; omega
        have e4 : ((v : Int) == 4) = false := by simp; omega
        have e5 : ((v : Int) == 5) = true := by simp; omega
        clear h5
        have hl2 : d.rings.length = 2 := HG.out.1.1.2.1
        obtain ⟨a', c', he, hcl, hcm, _⟩ := OwnTx.reads OD.out.2.1
        cases he
        obtain ⟨g, cg, cur, hvg, hbg, hGb⟩ := own_form OD.out.2.1 (show d.rings.length ≠ 0 by omega)
        cases hvg
        have HV5 : Hid (FarV w.heap.size (w4.setCell ⟨D, 2, none⟩ (.slice (some ⟨g, 1, none⟩) (d.rings.length - 1) (c2 - 1))) (.agg #[.int .i64 d.state, .slice a1 d.slots.length c1, .slice (some ⟨g, 1, none⟩) (d.rings.length - 1) (c2 - 1), .slice a3 d.spoilt.length c3, .slice a4 d.wait.length c4]) ⟨d.state, d.slots, d.rings.drop 1, d.spoilt, d.wait⟩) := by
          intro w9 hk9
          have o := own4_far (own4_set OD.out FD.out.2.2.2.2.2 (by decide) (by decide) (by decide) 2 (.slice (some ⟨g, 1, none⟩) (d.rings.length - 1) (c2 - 1))) (FD.out.set 2 (.slice (some ⟨g, 1, none⟩) (d.rings.length - 1) (c2 - 1))).2.2.2.2.1 hk9
          refine ⟨_, _, _, _, rfl, OwnTx.reads o.1, ?_, OwnBo.reads o.2.2.1, OwnPu.reads o.2.2.2.1⟩
          refine ⟨some ⟨g, 1, none⟩, c2 - 1, by rw [List.length_drop], by rw [List.length_drop]; omega, by omega, .inr ⟨g, 1, rfl, fun m hm => ?_⟩⟩
          rw [List.length_drop] at hm
          have hc := (own_cell o.2.1 (m + 1) (show m + 1 < d.rings.length * 1 by omega)).1
          rw [txC_get d.rings (m + 1) (by omega)] at hc
          rw [Nat.add_comm 1 m, hc]
          congr 2
          simp [List.getD]
        have j1 : (1 : Int) ≤ (d.rings.length : Int) := by omega
        have j2 : (d.rings.length : Int) ≤ (c2 : Int) := by omega
        have j3 : ¬c2 = 1 := by omega
        obtain ⟨x0, x1, x2, x3, x4, t0, t1, t2, t3, t4⟩ := zero5 FD.out.2.2.2.2.1
        have Hl2 := Lib.hid hl2
        clear hl2 hGb
        go_wp2
        refine bodyPost_ret (v := .agg #[.int .i64 d.state, .slice a1 d.slots.length c1, .slice (some ⟨g, 1, none⟩) (d.rings.length - 1) (c2 - 1), .slice a3 d.spoilt.length c3, .slice a4 d.wait.length c4]) (by simp [results, Try.results22, go_sem, x0, x1, x2, x3, x4]) rfl (fin_end (p := p) (q := q + 1) (d := ⟨d.state, d.slots, d.rings.drop 1, d.spoilt, d.wait⟩) (FD.out.set 2 (.slice (some ⟨g, 1, none⟩) (d.rings.length - 1) (c2 - 1))) (HV5.out) (by omega))
      · -- as it is
        have e0 : ((v : Int) == 0) = false := by simp; omega
        have e1 : ((v : Int) == 1) = false := by simp; omega
        have e2 : ((v : Int) == 2) = false := by simp; omega
        have e3 : ((v : Int) == 3) = false := by simp; omega
        have e4 : ((v : Int) == 4) = false := by simp; omega
        have e5 : ((v : Int) == 5) = false := by simp; omega
        obtain ⟨x0, x1, x2, x3, x4, t0, t1, t2, t3, t4⟩ := zero5 FD.out.2.2.2.2.1
        go_wp2
        refine bodyPost_ret (v := .agg #[.int .i64 d.state, .slice a1 d.slots.length c1, .slice a2 d.rings.length c2, .slice a3 d.spoilt.length c3, .slice a4 d.wait.length c4]) (by simp [results, Try.results22, go_sem, x0, x1, x2, x3, x4]) rfl (fin_end (p := p) (q := q + 1) (d := d) (FD.out) (far_own (d := d) (OD.out) (FD.out)) (by omega))

end Go.Proofs.Ytifgoanicbaohaa
