/- Whether a pointer tells of a text, and StripePut, of the program. Conditions: none but the row's own bound on sizes. StripePut of the program. Conditions: none but the row's own bound on sizes. -/
import Derived.Test.YtcdiengbmjkglaaGreatPKGT3
import Derived.Test.YtcdiengbmjkglaaGreatPKDS5
import Derived.Test.YtcdiengbmjkglaaGreatPKS4
import Derived.Test.YtcdiengbmjkglaaGreatPKA2
namespace Go.Proofs.YtcdiengbmjkglaaGreat
open Go.RowKit Go.Sort

/-- THERE MAY BE A TEXT where a pointer says. -/
def CanHold (ds : List DiskD) (p : PtrD) : Prop := StripeFine ds ∧ PtrOkP (ds.length : Int) p ∧ ¬Nothing p
def TellsOf (p : PtrD) (s : ByteArray) : Prop := (s.size : Int) = p.size ∧ sumOf s = p.sum
def Puts (ds : List DiskD) (p : PtrD) (s : ByteArray) : Prop := CanHold ds p ∧ TellsOf p s
theorem Puts.told {ds : List DiskD} {p : PtrD} {s : ByteArray} (h : Puts ds p s) : 1 ≤ s.size ∧ s.size ≤ 9 ∧ p.places.length = (s.size + 2) / 3 + 1 ∧ PlacesOk (ds.length : Int) p.places := by
  obtain ⟨⟨h1, ⟨h2, h3⟩, h4⟩, h5, h6⟩ := h
  rcases h3 with h3 | ⟨t1, t2, t3, t4, t5, t6⟩
  · exact absurd h3 h4
  · unfold Pool at h2
    rw [← h5] at t1 t2 t5
    exact ⟨by omega, by omega, by omega, t6⟩

set_option maxRecDepth 100000 in
set_option maxHeartbeats 2000000 in
theorem canHold_any (a pa : Option Addr) (cap pc : Nat) (ds : List DiskD) (p : PtrD) (w : World) (hl : ds.length ≤ maxLen) (hpl : p.places.length ≤ maxLen) (hx : Hid (DksAt w a ds)) (hp : Hid (PlacesAt w pa p.places)) :
    Calls Tryz.prog 28 #[.slice a ds.length cap, .agg #[.int .i64 p.size, .int .i64 p.sum, .slice pa p.places.length pc]] w fun e w' => e = .returned (.bool (tt (CanHold ds p))) ∧ Below w.heap.size w w' := by
  obtain ⟨z, s, ps⟩ := p
  simp only at hpl hp ⊢
  have hB : Below w.heap.size w (w.alloc (.cells #[.int .i64 z, .int .i64 s, .slice pa ps.length pc] 34)) := (Below.refl _ _).alloc (Nat.le_refl _) _
  have HB := Lib.hid hB
  have K := Blk.new w #[.int .i64 z, .int .i64 s, .slice pa ps.length pc] 34
  have c0 : (w.alloc (.cells #[.int .i64 z, .int .i64 s, .slice pa ps.length pc] 34)).cell? ⟨w.heap.size, 0, none⟩ = some (.int .i64 z) := K.cell 0
  have c1 : (w.alloc (.cells #[.int .i64 z, .int .i64 s, .slice pa ps.length pc] 34)).cell? ⟨w.heap.size, 1, none⟩ = some (.int .i64 s) := K.cell 1
  have c2 : (w.alloc (.cells #[.int .i64 z, .int .i64 s, .slice pa ps.length pc] 34)).cell? ⟨w.heap.size, 2, none⟩ = some (.slice pa ps.length pc) := K.cell 2
  have HS := Lib.hid (implStripes_any a cap ds _ hl (hx.out.below hB))
  have HP := Lib.hid (fun W (hW : Below w.heap.size w W) => implPtr_any (ds.length : Int) ⟨z, s, ps⟩ pa pc W hpl (hp.out.below hW))
  have HN := Lib.hid (fun W => isNothing_any ⟨z, s, ps⟩ pa pc W)
  simp only at HP HN
  clear hB K
  by_cases h1 : StripeFine ds
  · rw [tt_true h1] at HS
    by_cases h2 : PtrOkP (ds.length : Int) ⟨z, s, ps⟩
    · rw [tt_true h2] at HP
      have HE : Hid (tt (CanHold ds ⟨z, s, ps⟩) = !tt (Nothing ⟨z, s, ps⟩)) := by
        show tt (CanHold ds ⟨z, s, ps⟩) = !tt (Nothing ⟨z, s, ps⟩)
        by_cases h3 : Nothing ⟨z, s, ps⟩
        · rw [tt_true h3, tt_false (fun h => h.2.2 h3)]; rfl
        · rw [tt_false h3, tt_true (show CanHold ds ⟨z, s, ps⟩ from ⟨h1, h2, h3⟩)]; rfl
      generalize tt (Nothing ⟨z, s, ps⟩) = b at HN HE
      clear h1 h2
      go_enter Tryz.func28, Tryz.ntmps28
      go_wp2_with fail
      refine HS.out.mono ?_
      rintro e w1 ⟨rfl, hB1⟩
      have HB1 := Lib.hid (HB.out.trans (hB1.mono HB.out.size))
      have c0 := cell_below hB1 c0
      have c1 := cell_below hB1 c1
      have c2 := cell_below hB1 c2
      clear hB1 HS HB
      go_wp2_with fail
      refine (HP.out _ HB1.out).mono ?_
      rintro e w2 ⟨rfl, hB2⟩
      have HB2 := Lib.hid (HB1.out.trans (hB2.mono HB1.out.size))
      have c0 := cell_below hB2 c0
      have c1 := cell_below hB2 c1
      have c2 := cell_below hB2 c2
      clear hB2 HP HB1
      go_wp2_with fail
      refine (HN.out _).mono ?_
      rintro e w3 ⟨rfl, hB3⟩
      have HB3 := Lib.hid (HB2.out.trans (hB3.mono HB2.out.size))
      clear hB3 HN HB2
      go_wp2
      go_ret
      exact ⟨ret_bool' HE.out.symm, HB3.out⟩
    · rw [tt_false h2] at HP
      have HE := Lib.hid (tt_false (P := CanHold ds ⟨z, s, ps⟩) (fun h => h2 h.2.1))
      clear h1 h2
      go_enter Tryz.func28, Tryz.ntmps28
      go_wp2_with fail
      refine HS.out.mono ?_
      rintro e w1 ⟨rfl, hB1⟩
      have HB1 := Lib.hid (HB.out.trans (hB1.mono HB.out.size))
      have c0 := cell_below hB1 c0
      have c1 := cell_below hB1 c1
      have c2 := cell_below hB1 c2
      clear hB1 HS HB
      go_wp2_with fail
      refine (HP.out _ HB1.out).mono ?_
      rintro e w2 ⟨rfl, hB2⟩
      have HB2 := Lib.hid (HB1.out.trans (hB2.mono HB1.out.size))
      clear hB2 HP HB1
      go_wp2
      go_ret
      exact ⟨ret_bool' HE.out.symm, HB2.out⟩
  · rw [tt_false h1] at HS
    have HE := Lib.hid (tt_false (P := CanHold ds ⟨z, s, ps⟩) (fun h => h1 h.1))
    clear h1
    go_enter Tryz.func28, Tryz.ntmps28
    go_wp2_with fail
    refine HS.out.mono ?_
    rintro e w1 ⟨rfl, hB1⟩
    have HB1 := Lib.hid (HB.out.trans (hB1.mono HB.out.size))
    clear hB1 HS HB
    go_wp2
    go_ret
    exact ⟨ret_bool' HE.out.symm, HB1.out⟩

set_option maxRecDepth 100000 in
set_option maxHeartbeats 2000000 in
theorem tellsOf_any (pa : Option Addr) (pc : Nat) (p : PtrD) (t : ByteArray) (w : World) :
    Calls Tryz.prog 29 #[.agg #[.int .i64 p.size, .int .i64 p.sum, .slice pa p.places.length pc], .string t] w fun e w' => e = .returned (.bool (tt (TellsOf p t))) ∧ Below w.heap.size w w' := by
  obtain ⟨z, s, ps⟩ := p
  simp only
  have hB : Below w.heap.size w (w.alloc (.cells #[.int .i64 z, .int .i64 s, .slice pa ps.length pc] 34)) := (Below.refl _ _).alloc (Nat.le_refl _) _
  have HB := Lib.hid hB
  have K := Blk.new w #[.int .i64 z, .int .i64 s, .slice pa ps.length pc] 34
  have c0' : (w.alloc (.cells #[.int .i64 z, .int .i64 s, .slice pa ps.length pc] 34)).cell? ⟨w.heap.size, 0, none⟩ = some (.int .i64 z) := K.cell 0
  have c1' : (w.alloc (.cells #[.int .i64 z, .int .i64 s, .slice pa ps.length pc] 34)).cell? ⟨w.heap.size, 1, none⟩ = some (.int .i64 s) := K.cell 1
  have hc0 := cell_regrown c0'
  have hc1 := cell_regrown c1'
  have HM := Lib.hid (fun W => implSum_any t W)
  clear hB K c0' c1'
  by_cases h1 : (t.size : Int) = z
  · have e1 : ((t.size : Int) == z) = true := beq_iff_eq.2 h1
    have HE : Hid (tt (TellsOf ⟨z, s, ps⟩ t) = (sumOf t == s)) := by
      show tt (TellsOf ⟨z, s, ps⟩ t) = (sumOf t == s)
      by_cases h2 : sumOf t = s
      · rw [tt_true (show TellsOf ⟨z, s, ps⟩ t from ⟨h1, h2⟩), beq_iff_eq.2 h2]
      · rw [tt_false (fun h => h2 h.2), beq_eq_false_iff_ne.2 h2]
    clear h1
    go_enter Tryz.func29, Tryz.ntmps29
    go_wp2_with fail
    generalize w.alloc (.cells #[.int .i64 z, .int .i64 s, .slice pa ps.length pc] 34) = w1 at HB hc0 hc1 ⊢
    refine wp_region_quiet_below (by kernel_rfl) (by kernel_rfl) ?_
    repeat (go_big_quiet_step ((go_at_call 71; with_reducible exact Calls.regrown_of (HM.out _))))
    refine wpQuiet_nil ?_
    intro w9 hw9
    have HB9 : Hid (Below w1.heap.size w1 w9) := by obtain ⟨p, rfl⟩ := hw9; exact below_regrown _ _ _
    clear hw9
    go_wp2
    go_ret
    exact ⟨ret_bool' HE.out.symm, HB.out.trans (HB9.out.mono HB.out.size)⟩
  · have e1 : ((t.size : Int) == z) = false := beq_eq_false_iff_ne.2 h1
    have HE := Lib.hid (tt_false (P := TellsOf ⟨z, s, ps⟩ t) (fun h => h1 h.1))
    clear h1
    go_enter Tryz.func29, Tryz.ntmps29
    go_wp2_with fail
    generalize w.alloc (.cells #[.int .i64 z, .int .i64 s, .slice pa ps.length pc] 34) = w1 at HB hc0 hc1 ⊢
    refine wp_region_quiet_below (by kernel_rfl) (by kernel_rfl) ?_
    repeat (go_big_quiet_step (fail))
    refine wpQuiet_nil ?_
    intro w9 hw9
    have HB9 : Hid (Below w1.heap.size w1 w9) := by obtain ⟨p, rfl⟩ := hw9; exact below_regrown _ _ _
    clear hw9
    go_wp2
    go_ret
    exact ⟨ret_bool' HE.out.symm, HB.out.trans (HB9.out.mono HB.out.size)⟩

end Go.Proofs.YtcdiengbmjkglaaGreat

namespace Go.Proofs.YtcdiengbmjkglaaGreat
open Go.RowKit Go.Sort

set_option maxRecDepth 100000 in
set_option maxHeartbeats 4000000 in
theorem implPutS_yes (a pa : Option Addr) (cap pc : Nat) (ds : List DiskD) (p : PtrD) (t : ByteArray) (w : World) (hpl : p.places.length ≤ maxLen) (h : Puts ds p t) (hx : Hid (DksAt w a ds)) (hp : Hid (PlacesAt w pa p.places)) :
    Calls Tryz.prog 10 #[.slice a ds.length cap, .agg #[.int .i64 p.size, .int .i64 p.sum, .slice pa p.places.length pc], .string t] w fun e w' =>
      ∃ g c, e = .returned (.tuple #[.slice (some ⟨g, 0, none⟩) ds.length c, .bool true]) ∧ OwnDks w' w.heap.size (.slice (some ⟨g, 0, none⟩) ds.length c) (putTo ds p.places (stripeL t) (stripeL t).length) ∧ Below w.heap.size w w' := by
  obtain ⟨h1, h9, hlen, hok⟩ := h.told
  have hl4 : ds.length ≤ 4 := by have := h.1.1.1.2; omega
  have hB : Below w.heap.size w (w.alloc (.cells #[.int .i64 p.size, .int .i64 p.sum, .slice pa p.places.length pc] 34)) := (Below.refl _ _).alloc (Nat.le_refl _) _
  have HB := Lib.hid hB
  have HK := Lib.hid (Blk.new w #[.int .i64 p.size, .int .i64 p.sum, .slice pa p.places.length pc] 34)
  have HC := Lib.hid (fun W (hW : Below w.heap.size w W) => canHold_any a pa cap pc ds p W (by unfold maxLen; omega) hpl (hx.out.below hW) (hp.out.below hW))
  rw [tt_true h.1] at HC
  have HT := Lib.hid (fun W => tellsOf_any pa pc p t W)
  rw [tt_true h.2] at HT
  have HF := Lib.hid h.1.1.2
  have HD := Lib.hid (fun W (hW : Below w.heap.size w W) => disksCopy_any a cap ds W (by omega) HF (hx.out.below hW))
  have HS := Lib.hid (fun W => stripeOf_any t h1 h9 W)
  have hsl := stripeL_length t h9
  have hsz := Lib.hid (fun j => stripeL_size h1 h9 j)
  have HP := Lib.hid hok
  generalize stripeL t = cs at HS hsl hsz ⊢
  obtain ⟨z, s, ps⟩ := p
  simp only at hpl hp HC HT HK HB HP hlen hok ⊢
  have hcp : cs.length = ps.length := by omega
  have HCP := Lib.hid hcp
  have hc4 : cs.length ≤ 4 := by omega
  have HPF := Lib.hid (show ∀ k, k < cs.length → SlotOk (ps.getD k pl0).2 ∧ (cs.getD k ByteArray.empty).size = 3 from fun k hk => by
    have := (HP.out k (by omega)).1
    exact ⟨⟨this.2.2.1, this.2.2.2⟩, hsz.out k hk⟩)
  clear hB h h1 h9 hlen hok hsl hcp
  go_enter Tryz.func10, Tryz.ntmps10
  go_wp2_with fail
  generalize w.alloc (.cells #[.int .i64 z, .int .i64 s, .slice pa ps.length pc] 34) = W0 at HB HK ⊢
  have c0 : W0.cell? ⟨w.heap.size, 0, none⟩ = some (.int .i64 z) := HK.out.cell 0
  have c1 : W0.cell? ⟨w.heap.size, 1, none⟩ = some (.int .i64 s) := HK.out.cell 1
  have c2 : W0.cell? ⟨w.heap.size, 2, none⟩ = some (.slice pa ps.length pc) := HK.out.cell 2
  go_wp2_with fail
  refine (HC.out _ HB.out).mono ?_
  rintro e w1 ⟨rfl, hB1⟩
  have HB1 := Lib.hid (HB.out.trans (hB1.mono HB.out.size))
  have HK1 := Lib.hid (HK.out.below hB1 HK.out.lt)
  have c0 := cell_below hB1 c0
  have c1 := cell_below hB1 c1
  have c2 := cell_below hB1 c2
  clear hB1 HC HB HK
  go_wp2_with fail
  refine (HT.out _).mono ?_
  rintro e w2 ⟨rfl, hB2⟩
  have HB2 := Lib.hid (HB1.out.trans (hB2.mono HB1.out.size))
  have HK2 := Lib.hid (HK1.out.below hB2 HK1.out.lt)
  have c0 := cell_below hB2 c0
  have c1 := cell_below hB2 c1
  have c2 := cell_below hB2 c2
  have hw2 : w.heap.size < w2.heap.size := HK2.out.lt
  clear hB2 HT HB1 HK1
  go_wp2_with fail
  refine (HD.out _ HB2.out).mono ?_
  rintro e w3 ⟨g, c, rfl, ho3, hB3⟩
  have HB3 := Lib.hid (HB2.out.trans (hB3.mono HB2.out.size))
  have HK3 := Lib.hid (HK2.out.below hB3 HK2.out.lt)
  have HO3 := Lib.hid ho3
  have c2 := cell_below hB3 c2
  have hw3 : w2.heap.size ≤ w3.heap.size := hB3.size
  clear hB3 ho3 HD HB2 HK2 c0 c1
  go_wp2_with fail
  refine (HS.out _).mono ?_
  rintro e w4 ⟨gc, cc, rfl, hoc, hB4⟩
  have HB4 := Lib.hid (HB3.out.trans (hB4.mono HB3.out.size))
  have HK4 := Lib.hid (HK3.out.below hB4 HK3.out.lt)
  have HO4 := Lib.hid (OwnDk.below HO3.out hB4)
  have HC4 := Lib.hid hoc
  have hg3 : w2.heap.size ≤ g ∧ g < w3.heap.size := by
    obtain ⟨ys, h1, _⟩ := HO3.out
    exact h1.lt g rfl
  have hgc : w3.heap.size ≤ gc := (hoc.lt gc rfl).1
  have hw4 : w3.heap.size ≤ w4.heap.size := hB4.size
  clear hB4 hoc HS HB3 HK3 HO3 c2
  go_wp2_with fail
  go_loopw [26] (fun i wr => ∃ k : Nat, i = .int .i64 (k : Int) ∧ k ≤ cs.length ∧ Hid (w4.grownBy wr (some g)) ∧ Hid (OwnDks wr w2.heap.size (.slice (some ⟨g, 0, none⟩) ds.length c) (putTo ds ps cs k))) (fun i _ => cs.length - (intOf i).toNat)
  case atStart => exact ⟨0, rfl, by omega, gb_refl _ _, HO4.out⟩
  case round =>
    obtain ⟨k, rfl, hk, hG, hO⟩ := hrel
    by_cases hlt : k < cs.length
    · have i0' : (0 : Int) ≤ (k : Int) := by omega
      have i1' : (k : Int) < (cs.length : Int) := by omega
      have i2' : (k : Int) < (ps.length : Int) := by have := HCP.out; omega
      have hBr : Below w.heap.size w wr := HB4.out.grown hG.out (by omega) (fun i e => by cases e; omega)
      have HBr := Lib.hid hBr
      have hKr := HK4.out.gb hG.out (by intro e; cases e; omega)
      have b2 : wr.cell? ⟨w.heap.size, 2, none⟩ = some (.slice pa ps.length pc) := hKr.cell 2
      have hcr := own_gb HC4.out hG.out (fun i e q => by cases e; simp only [Value.ownBlock, Option.some.injEq] at q; omega)
      obtain ⟨x0, _, _, _⟩ := own_cell hcr k (show k < cs.length * 1 by omega)
      rw [txC_get cs k hlt] at x0
      obtain ⟨b, off, rfl, hpc⟩ := (hp.out.below hBr).resolve_left (fun e => by have q := i2'; rw [e] at q; simp only [List.length_nil] at q; omega)
      obtain ⟨q0, q1⟩ := hpc k (by have := HCP.out; omega)
      obtain ⟨⟨p1, p2, p3, p4⟩, _⟩ := HP.out k (by have := HCP.out; omega)
      have hpf := HPF.out k hlt
      have hfk := putTo_fine HF.out HPF.out k (by omega)
      have hpl' : (putTo ds ps cs k).length = ds.length := putTo_length ds ps cs k
      have HN := Lib.hid (show putTo ds ps cs (k + 1) = (putTo ds ps cs k).set (ps.getD k pl0).1.toNat (putD ((putTo ds ps cs k).getD (ps.getD k pl0).1.toNat disk0) ⟨false, (ps.getD k pl0).2, cs.getD k ByteArray.empty⟩) from rfl)
      generalize putTo ds ps cs k = es at hO hfk hpl' HN
      generalize ps.getD k pl0 = pl at q0 q1 p1 p2 p3 p4 hpf HN
      obtain ⟨d, z1⟩ := pl
      simp only at q0 q1 p1 p2 p3 p4 hpf HN
      obtain ⟨dk, rfl⟩ := Int.eq_ofNat_of_zero_le p1
      rw [Int.toNat_natCast] at HN
      generalize cs.getD k ByteArray.empty = ck at x0 hpf HN
      have hdk : dk < es.length := by omega
      have HPC := Lib.hid (putColumn_any w2.heap.size g c dk z1 ck es wr (by have := hG.out.size; omega) hdk (hfk dk hdk) hpf (by have := hO.out; rw [← hpl'] at this; exact this))
      rw [hpl'] at HPC
      clear hpc hcr hKr hBr hO hpf hfk p1 p2 p3 p4 hdk hpl'
      go_wp2_with fail
      refine HPC.out.mono ?_
      rintro e w6 ⟨⟨v6, rfl⟩, ho6, hg6⟩
      have HG6 := Lib.hid (hG.out.trans hg6)
      have HO6 := Lib.hid ho6
      clear hg6 ho6 HPC
      go_wp2
      exact ⟨⟨k + 1, by go_num, by omega, HG6, by rw [HN.out]; exact HO6⟩, by simp [intOf]; omega⟩
    · obtain rfl : k = cs.length := by omega
      go_wp2
      go_ret2
      exact ⟨_, _, rfl, OwnDk.mono hO.out (by omega), HB4.out.grown hG.out (by omega) (fun i e => by cases e; omega)⟩

set_option maxRecDepth 100000 in
set_option maxHeartbeats 2000000 in
theorem implPutS_no (a pa : Option Addr) (cap pc : Nat) (ds : List DiskD) (p : PtrD) (t : ByteArray) (w : World) (hl : ds.length ≤ maxLen) (hpl : p.places.length ≤ maxLen) (h : ¬Puts ds p t) (hx : Hid (DksAt w a ds)) (hp : Hid (PlacesAt w pa p.places)) :
    Calls Tryz.prog 10 #[.slice a ds.length cap, .agg #[.int .i64 p.size, .int .i64 p.sum, .slice pa p.places.length pc], .string t] w fun e w' => e = .returned (.tuple #[.slice none 0 0, .bool false]) ∧ Below w.heap.size w w' := by
  have hB : Below w.heap.size w (w.alloc (.cells #[.int .i64 p.size, .int .i64 p.sum, .slice pa p.places.length pc] 34)) := (Below.refl _ _).alloc (Nat.le_refl _) _
  have HB := Lib.hid hB
  have HK := Lib.hid (Blk.new w #[.int .i64 p.size, .int .i64 p.sum, .slice pa p.places.length pc] 34)
  have HC := Lib.hid (fun W (hW : Below w.heap.size w W) => canHold_any a pa cap pc ds p W hl hpl (hx.out.below hW) (hp.out.below hW))
  have HT := Lib.hid (fun W => tellsOf_any pa pc p t W)
  clear hB
  by_cases h1 : CanHold ds p
  · rw [tt_true h1] at HC
    rw [tt_false (fun k => h ⟨h1, k⟩)] at HT
    clear h h1
    obtain ⟨z, s, ps⟩ := p
    simp only at HC HT HK HB ⊢
    go_enter Tryz.func10, Tryz.ntmps10
    go_wp2_with fail
    generalize w.alloc (.cells #[.int .i64 z, .int .i64 s, .slice pa ps.length pc] 34) = W0 at HB HK ⊢
    have c0 : W0.cell? ⟨w.heap.size, 0, none⟩ = some (.int .i64 z) := HK.out.cell 0
    have c1 : W0.cell? ⟨w.heap.size, 1, none⟩ = some (.int .i64 s) := HK.out.cell 1
    have c2 : W0.cell? ⟨w.heap.size, 2, none⟩ = some (.slice pa ps.length pc) := HK.out.cell 2
    go_wp2_with fail
    refine (HC.out _ HB.out).mono ?_
    rintro e w1 ⟨rfl, hB1⟩
    have HB1 := Lib.hid (HB.out.trans (hB1.mono HB.out.size))
    have c0 := cell_below hB1 c0
    have c1 := cell_below hB1 c1
    have c2 := cell_below hB1 c2
    clear hB1 HC HB HK
    go_wp2_with fail
    refine (HT.out _).mono ?_
    rintro e w2 ⟨rfl, hB2⟩
    have HB2 := Lib.hid (HB1.out.trans (hB2.mono HB1.out.size))
    clear hB2 HT HB1
    go_wp2
    go_ret2
    exact ⟨rfl, HB2.out⟩
  · rw [tt_false h1] at HC
    clear h h1 HT
    obtain ⟨z, s, ps⟩ := p
    simp only at HC HK HB ⊢
    go_enter Tryz.func10, Tryz.ntmps10
    go_wp2_with fail
    generalize w.alloc (.cells #[.int .i64 z, .int .i64 s, .slice pa ps.length pc] 34) = W0 at HB HK ⊢
    have c0 : W0.cell? ⟨w.heap.size, 0, none⟩ = some (.int .i64 z) := HK.out.cell 0
    have c1 : W0.cell? ⟨w.heap.size, 1, none⟩ = some (.int .i64 s) := HK.out.cell 1
    have c2 : W0.cell? ⟨w.heap.size, 2, none⟩ = some (.slice pa ps.length pc) := HK.out.cell 2
    go_wp2_with fail
    refine (HC.out _ HB.out).mono ?_
    rintro e w1 ⟨rfl, hB1⟩
    have HB1 := Lib.hid (HB.out.trans (hB1.mono HB.out.size))
    clear hB1 HC HB HK
    go_wp2
    go_ret2
    exact ⟨rfl, HB1.out⟩

end Go.Proofs.YtcdiengbmjkglaaGreat
