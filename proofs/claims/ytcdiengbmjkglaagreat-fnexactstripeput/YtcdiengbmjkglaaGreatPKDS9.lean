/- Columns put into a list of disks, of the specification: l11Put. Conditions: the places are the disks', and the disks are ok. -/
import Derived.Test.YtcdiengbmjkglaaGreatPKDS8
namespace Go.Proofs.YtcdiengbmjkglaaGreat
open Go.RowKit Go.Sort

set_option linter.unusedSimpArgs false in
set_option maxRecDepth 100000 in
set_option maxHeartbeats 8000000 in
theorem l11Put_any (base g c pc : Nat) (pa : Option Addr) (ds : List DiskD) (p : PtrD) (t : ByteArray) (w : World) (hb : base ≤ w.heap.size) (h1 : 1 ≤ t.size) (h9 : t.size ≤ 9) (hlen : p.places.length = (t.size + 2) / 3 + 1) (hok : PlacesOk (ds.length : Int) p.places) (hf : AllDk ds)
    (ho : OwnDks w base (.slice (some ⟨g, 0, none⟩) ds.length c) ds) (hp : Hid (∀ W, Below base w W → PlacesAt W pa p.places)) :
    Calls Tryz.prog 24 #[.slice (some ⟨g, 0, none⟩) ds.length c, .agg #[.int .i64 p.size, .int .i64 p.sum, .slice pa p.places.length pc], .string t] w fun e w' =>
      e = .returned (.slice (some ⟨g, 0, none⟩) ds.length c) ∧ OwnDks w' base (.slice (some ⟨g, 0, none⟩) ds.length c) (putTo ds p.places (stripeL t) (stripeL t).length) ∧ Below base w w' := by
  have hB : Below w.heap.size w (w.alloc (.cells #[.int .i64 p.size, .int .i64 p.sum, .slice pa p.places.length pc] 34)) := (Below.refl _ _).alloc (Nat.le_refl _) _
  have HB := Lib.hid hB
  have HK := Lib.hid (Blk.new w #[.int .i64 p.size, .int .i64 p.sum, .slice pa p.places.length pc] 34)
  have HO := Lib.hid (OwnDk.below ho hB)
  have hg := (show w.heap.size ≤ (w.alloc (.cells #[.int .i64 p.size, .int .i64 p.sum, .slice pa p.places.length pc] 34)).heap.size by simp)
  have HS := Lib.hid (fun W => l11Cols_any t h1 h9 W)
  have hsl := stripeL_length t h9
  have hsz := Lib.hid (fun j => stripeL_size h1 h9 j)
  have HP := Lib.hid hok
  have HF := Lib.hid hf
  generalize stripeL t = cs at HS hsl hsz ⊢
  obtain ⟨z, s, ps⟩ := p
  simp only at hp HK HB HP HO hg hlen hok ⊢
  have HCP := Lib.hid (show cs.length = ps.length by omega)
  have hc4 : cs.length ≤ 4 := by omega
  have HPF := Lib.hid (show ∀ k, k < cs.length → SlotOk (ps.getD k pl0).2 ∧ (cs.getD k ByteArray.empty).size = 3 from fun k hk => by
    have := (HP.out k (by have := HCP.out; omega)).1
    exact ⟨⟨this.2.2.1, this.2.2.2⟩, hsz.out k hk⟩)
  have hgw : g < w.heap.size := by obtain ⟨ys, q, _⟩ := ho; exact (q.lt g rfl).2
  clear hB h1 h9 hlen hok hsl ho hf
  go_enter Tryz.func24, Tryz.ntmps24
  go_wp2_with fail
  generalize w.alloc (.cells #[.int .i64 z, .int .i64 s, .slice pa ps.length pc] 34) = W0 at HB HK HO hg ⊢
  refine (HS.out _).mono ?_
  rintro e w1 ⟨gc, cc, rfl, hoc, hB1⟩
  have HB1 := Lib.hid (HB.out.trans (hB1.mono HB.out.size))
  have HK1 := Lib.hid (HK.out.below hB1 HK.out.lt)
  have hgc := hoc.lt gc rfl
  have hkl := HK.out.lt
  have HO1 := Lib.hid (show OwnDksX w1 base (.slice (some ⟨g, 0, none⟩) ds.length c) ds gc from by
    obtain ⟨ys, a1, a2, a3, a4⟩ := OwnDks.noX HO.out hgc.1
    exact ⟨ys, own_below a1 hB1, a2.below hB1, a3, a4⟩)
  have HC1 := Lib.hid hoc
  clear hB1 hoc HS HB HK HO
  go_wp2_with fail
  go_loopw [8] (fun i wr => ∃ k : Nat, i = .int .i64 (k : Int) ∧ k ≤ cs.length ∧ Hid (Blk wr w.heap.size #[.int .i64 z, .int .i64 s, .slice pa ps.length pc] 34) ∧ Hid (OwnTx wr W0.heap.size (.slice (some ⟨gc, 0, none⟩) cs.length cc) cs) ∧ Hid (OwnDksX wr base (.slice (some ⟨g, 0, none⟩) ds.length c) (putTo ds ps cs k) gc) ∧ Hid (Below base w wr) ∧ w1.heap.size ≤ wr.heap.size) (fun i _ => cs.length - (intOf i).toNat)
  case atStart => exact ⟨0, rfl, by omega, HK1.out, HC1.out, HO1.out, HB1.out.mono hb, Nat.le_refl _⟩
  case round =>
    obtain ⟨k, rfl, hk, hK, hC, hO, hBr, hsr⟩ := hrel
    by_cases hlt : k < cs.length
    · have i0' : (0 : Int) ≤ (k : Int) := by omega
      have i1' : (k : Int) < (cs.length : Int) := by omega
      have i2' : (k : Int) < (ps.length : Int) := by have := HCP.out; omega
      have b2n : wr.cell? ⟨w.heap.size, 2, none⟩ = some (.slice pa ps.length pc) := hK.out.cell 2
      have b2 : wr.drew.cell? ⟨w.heap.size, 2, none⟩ = some (.slice pa ps.length pc) := hK.out.cell 2
      obtain ⟨x0, _, _, _⟩ := own_cell (show wr.drew.ownsRow W0.heap.size 9 1 (.slice (some ⟨gc, 0, none⟩) cs.length cc) cs.length (txC cs) from hC.out) k (show k < cs.length * 1 by omega)
      rw [txC_get cs k hlt] at x0
      obtain ⟨b, off, rfl, hpc⟩ := (hp.out wr hBr.out).resolve_left (fun e => by have q := i2'; rw [e] at q; simp only [List.length_nil] at q; omega)
      obtain ⟨q0, q1⟩ := hpc k (by have := HCP.out; omega)
      have HPA := Lib.hid (fun W (hW : Below base w W) => show W.cell? ⟨b, off + k * 2 + 1, none⟩ = some (.int .i64 (ps.getD k pl0).2) by
        obtain ⟨b', off', e, hpc'⟩ := (hp.out W hW).resolve_left (fun e => by have q := i2'; rw [e] at q; simp only [List.length_nil] at q; omega)
        injection e with e
        injection e with e1 e2
        rw [e1, e2]
        exact (hpc' k (by have := HCP.out; omega)).2)
      obtain ⟨⟨p1, p2, p3, p4⟩, _⟩ := HP.out k (by have := HCP.out; omega)
      have hpf := HPF.out k hlt
      have hfk := putTo_fine HF.out HPF.out k (by omega)
      have hpl' : (putTo ds ps cs k).length = ds.length := putTo_length ds ps cs k
      have HN := Lib.hid (show putTo ds ps cs (k + 1) = (putTo ds ps cs k).set (ps.getD k pl0).1.toNat (putD ((putTo ds ps cs k).getD (ps.getD k pl0).1.toNat disk0) ⟨false, (ps.getD k pl0).2, cs.getD k ByteArray.empty⟩) from rfl)
      generalize putTo ds ps cs k = es at hO hfk hpl' HN
      generalize ps.getD k pl0 = pl at q0 q1 p1 p2 p3 p4 hpf HN HPA
      obtain ⟨d, z1⟩ := pl
      simp only at q0 q1 p1 p2 p3 p4 hpf HN HPA
      obtain ⟨dk, rfl⟩ := Int.eq_ofNat_of_zero_le p1
      rw [Int.toNat_natCast] at HN
      generalize cs.getD k ByteArray.empty = ck at x0 hpf HN
      have hdk : dk < es.length := by omega
      have j0' : (0 : Int) ≤ (dk : Int) := by omega
      have j1' : (dk : Int) < (ds.length : Int) := by omega
      obtain ⟨ys, v1, v2, v3, v4, hH, hO4, r0, r1, r2, r3, r4, hX⟩ := hO.out.hole hdk
      have hfd := hfk dk hdk
      generalize es.getD dk disk0 = q at hfd hO4 r0 HN
      obtain ⟨z0f, z1f, _⟩ := fine_sizes hfd
      have HNE := Lib.hid (hH.ne hO4 r0 r1 r2 r3 r4)
      have HC := Lib.hid (l3Write_anyK base v1 v2 v3 v4 q ⟨false, z1, ck⟩ wr.drew (show base ≤ wr.heap.size by have := hBr.out.size; omega) z0f hfd.2.2.2.2.1 z1f (hO4.below (Below.refl _ _).drew))
      have hcell : ∀ (W : World), DkHole W base (.slice (some ⟨g, 0, none⟩) ds.length c) es dk ys → ∀ cc u, cc < 5 → ys[dk * 5 + cc]? = some u → W.cell? ⟨g, dk * 5 + cc, none⟩ = some u := fun W hh cc u hcc hu => by
        have := hh.1
        rw [hpl'] at this
        exact (own_cell this (dk * 5 + cc) (by omega)).1.trans hu
      obtain ⟨a1, c1, rfl, _⟩ := OwnTx.reads hO4.1
      obtain ⟨a2, c2, rfl, _⟩ := OwnTx.reads hO4.2.1
      obtain ⟨a3, c3, rfl, _⟩ := OwnBo.reads hO4.2.2.1
      obtain ⟨a4, c4, rfl, _⟩ := OwnPu.reads hO4.2.2.2.1
      have e0 : wr.drew.cell? ⟨g, dk * 5, none⟩ = some (.int .i64 q.state) := hcell wr hH 0 _ (by omega) r0
      have e1 : wr.drew.cell? ⟨g, dk * 5 + 1, none⟩ = some (.slice a1 q.slots.length c1) := hcell wr hH 1 _ (by omega) r1
      have e2 : wr.drew.cell? ⟨g, dk * 5 + 2, none⟩ = some (.slice a2 q.rings.length c2) := hcell wr hH 2 _ (by omega) r2
      have e3 : wr.drew.cell? ⟨g, dk * 5 + 3, none⟩ = some (.slice a3 q.spoilt.length c3) := hcell wr hH 3 _ (by omega) r3
      have e4 : wr.drew.cell? ⟨g, dk * 5 + 4, none⟩ = some (.slice a4 q.wait.length c4) := hcell wr hH 4 _ (by omega) r4
      have HH := Lib.hid hH
      have R0 := Lib.hid r0
      have R1 := Lib.hid r1
      have R2 := Lib.hid r2
      have R3 := Lib.hid r3
      have R4 := Lib.hid r4
      have HX := Lib.hid hX
      have HPL := Lib.hid hpl'
      have q1 : wr.drew.cell? ⟨b, off + k * 2 + 1, none⟩ = some (.int .i64 z1) := q1
      have hdk' := Lib.hid hdk
      clear hpc hO hpf hfk p1 p2 p3 p4 hpl' hH hO4 r0 r1 r2 r3 r4 hX hfd z0f z1f hdk
      go_wp2_with fail
      refine AnyS.start (S := (fun w' : World => w'.cell? ⟨w.heap.size, 2, none⟩ = some (.slice (some ⟨b, off, none⟩) ps.length pc) ∧ w'.cell? ⟨b, off + k * 2 + 1, none⟩ = some (.int .i64 z1) ∧ w'.cell? ⟨gc, k, none⟩ = some (.string ck) ∧ w'.cell? ⟨g, dk * 5, none⟩ = some (.int .i64 q.state) ∧ w'.cell? ⟨g, dk * 5 + 1, none⟩ = some (.slice a1 q.slots.length c1) ∧ w'.cell? ⟨g, dk * 5 + 2, none⟩ = some (.slice a2 q.rings.length c2) ∧ w'.cell? ⟨g, dk * 5 + 3, none⟩ = some (.slice a3 q.spoilt.length c3) ∧ w'.cell? ⟨g, dk * 5 + 4, none⟩ = some (.slice a4 q.wait.length c4))) (L := 19) (by kernel_rfl) ?_
      refine AnyS.take 0 (show _ = some _ from rfl) rfl (by kernel_rfl) (by kernel_rfl) (by kernel_rfl) (by kernel_rfl) (fun _ _ _ h => h) ⟨b2, q1, x0, e0, e1, e2, e3, e4⟩ (by rfl) (fun w' hSw => by obtain ⟨s1, s2, s3, s4, s5, s6, s7, s8⟩ := hSw; go_simp; try with_reducible rfl) ?_
      try simp only [Act.put, List.setIfInBounds_toArray, List.set_cons_zero, List.set_cons_succ]
      refine AnyS.take 1 (show _ = some _ from rfl) rfl (by kernel_rfl) (by kernel_rfl) (by kernel_rfl) (by kernel_rfl) (fun _ _ _ h => h) ⟨b2, q1, x0, e0, e1, e2, e3, e4⟩ (by rfl) (fun w' hSw => by obtain ⟨s1, s2, s3, s4, s5, s6, s7, s8⟩ := hSw; go_simp; try with_reducible rfl) ?_
      try simp only [Act.put, List.setIfInBounds_toArray, List.set_cons_zero, List.set_cons_succ]
      refine AnyS.take 2 (show _ = some _ from rfl) rfl (by kernel_rfl) (by kernel_rfl) (by kernel_rfl) (by kernel_rfl) (fun _ _ _ h => h) ⟨b2, q1, x0, e0, e1, e2, e3, e4⟩ (by rfl) (fun w' hSw => by obtain ⟨s1, s2, s3, s4, s5, s6, s7, s8⟩ := hSw; go_simp; try with_reducible rfl) ?_
      try simp only [Act.put, List.setIfInBounds_toArray, List.set_cons_zero, List.set_cons_succ]
      refine AnyS.take 3 (show _ = some _ from rfl) rfl (by kernel_rfl) (by kernel_rfl) (by kernel_rfl) (by kernel_rfl) (fun _ _ _ h => h) ⟨b2, q1, x0, e0, e1, e2, e3, e4⟩ (by rfl) (fun w' hSw => by obtain ⟨s1, s2, s3, s4, s5, s6, s7, s8⟩ := hSw; go_simp; try with_reducible rfl) ?_
      try simp only [Act.put, List.setIfInBounds_toArray, List.set_cons_zero, List.set_cons_succ]
      refine AnyS.take 4 (show _ = some _ from rfl) rfl (by kernel_rfl) (by kernel_rfl) (by kernel_rfl) (by kernel_rfl) (fun _ _ _ h => h) ⟨b2, q1, x0, e0, e1, e2, e3, e4⟩ (by rfl) (fun w' hSw => by obtain ⟨s1, s2, s3, s4, s5, s6, s7, s8⟩ := hSw; go_simp; try with_reducible rfl) ?_
      try simp only [Act.put, List.setIfInBounds_toArray, List.set_cons_zero, List.set_cons_succ]
      refine AnyS.take 5 (show _ = some _ from rfl) rfl (by kernel_rfl) (by kernel_rfl) (by kernel_rfl) (by kernel_rfl) (fun _ _ _ h => h) ⟨b2, q1, x0, e0, e1, e2, e3, e4⟩ (by rfl) (fun w' hSw => by obtain ⟨s1, s2, s3, s4, s5, s6, s7, s8⟩ := hSw; go_simp; try with_reducible rfl) ?_
      try simp only [Act.put, List.setIfInBounds_toArray, List.set_cons_zero, List.set_cons_succ]
      refine AnyS.take 6 (show _ = some _ from rfl) rfl (by kernel_rfl) (by kernel_rfl) (by kernel_rfl) (by kernel_rfl) (fun _ _ _ h => h) ⟨b2, q1, x0, e0, e1, e2, e3, e4⟩ (by rfl) (fun w' hSw => by obtain ⟨s1, s2, s3, s4, s5, s6, s7, s8⟩ := hSw; go_simp; try with_reducible rfl) ?_
      try simp only [Act.put, List.setIfInBounds_toArray, List.set_cons_zero, List.set_cons_succ]
      refine AnyS.take 7 (show _ = some _ from rfl) rfl (by kernel_rfl) (by kernel_rfl) (by kernel_rfl) (by kernel_rfl) (fun _ _ _ h => h) ⟨b2, q1, x0, e0, e1, e2, e3, e4⟩ (by rfl) (fun w' hSw => by obtain ⟨s1, s2, s3, s4, s5, s6, s7, s8⟩ := hSw; go_simp; try with_reducible rfl) ?_
      try simp only [Act.put, List.setIfInBounds_toArray, List.set_cons_zero, List.set_cons_succ]
      refine AnyS.take 8 (show _ = some _ from rfl) rfl (by kernel_rfl) (by kernel_rfl) (by kernel_rfl) (by kernel_rfl) (fun _ _ _ h => h) ⟨b2, q1, x0, e0, e1, e2, e3, e4⟩ (by rfl) (fun w' hSw => by obtain ⟨s1, s2, s3, s4, s5, s6, s7, s8⟩ := hSw; go_simp; try with_reducible rfl) ?_
      try simp only [Act.put, List.setIfInBounds_toArray, List.set_cons_zero, List.set_cons_succ]
      refine AnyS.take 9 (show _ = some _ from rfl) rfl (by kernel_rfl) (by kernel_rfl) (by kernel_rfl) (by kernel_rfl) (fun _ _ _ h => h) ⟨b2, q1, x0, e0, e1, e2, e3, e4⟩ (by rfl) (fun w' hSw => by obtain ⟨s1, s2, s3, s4, s5, s6, s7, s8⟩ := hSw; go_simp; try with_reducible rfl) ?_
      try simp only [Act.put, List.setIfInBounds_toArray, List.set_cons_zero, List.set_cons_succ]
      refine AnyS.take 10 (show _ = some _ from rfl) rfl (by kernel_rfl) (by kernel_rfl) (by kernel_rfl) (by kernel_rfl) (fun _ _ _ h => h) ⟨b2, q1, x0, e0, e1, e2, e3, e4⟩ (by rfl) (fun w' hSw => by obtain ⟨s1, s2, s3, s4, s5, s6, s7, s8⟩ := hSw; go_simp; try with_reducible rfl) ?_
      try simp only [Act.put, List.setIfInBounds_toArray, List.set_cons_zero, List.set_cons_succ]
      refine AnyS.take 11 (show _ = some _ from rfl) rfl (by kernel_rfl) (by kernel_rfl) (by kernel_rfl) (by kernel_rfl) (fun _ _ _ h => h) ⟨b2, q1, x0, e0, e1, e2, e3, e4⟩ (by rfl) (fun w' hSw => by obtain ⟨s1, s2, s3, s4, s5, s6, s7, s8⟩ := hSw; go_simp; try with_reducible rfl) ?_
      try simp only [Act.put, List.setIfInBounds_toArray, List.set_cons_zero, List.set_cons_succ]
      refine AnyS.take 12 (show _ = some _ from rfl) rfl (by kernel_rfl) (by kernel_rfl) (by kernel_rfl) (by kernel_rfl) (fun _ _ _ h => h) ⟨b2, q1, x0, e0, e1, e2, e3, e4⟩ (by rfl) (fun w' hSw => by obtain ⟨s1, s2, s3, s4, s5, s6, s7, s8⟩ := hSw; go_simp; try with_reducible rfl) ?_
      try simp only [Act.put, List.setIfInBounds_toArray, List.set_cons_zero, List.set_cons_succ]
      refine AnyS.take 13 (show _ = some _ from rfl) rfl (by kernel_rfl) (by kernel_rfl) (by kernel_rfl) (by kernel_rfl) (fun _ _ _ h => h) ⟨b2, q1, x0, e0, e1, e2, e3, e4⟩ (by rfl) (fun w' hSw => by obtain ⟨s1, s2, s3, s4, s5, s6, s7, s8⟩ := hSw; go_simp; try with_reducible rfl) ?_
      try simp only [Act.put, List.setIfInBounds_toArray, List.set_cons_zero, List.set_cons_succ]
      refine AnyS.take 14 (show _ = some _ from rfl) rfl (by kernel_rfl) (by kernel_rfl) (by kernel_rfl) (by kernel_rfl) (fun _ _ _ h => h) ⟨b2, q1, x0, e0, e1, e2, e3, e4⟩ (by rfl) (fun w' hSw => by obtain ⟨s1, s2, s3, s4, s5, s6, s7, s8⟩ := hSw; go_simp; try with_reducible rfl) ?_
      try simp only [Act.put, List.setIfInBounds_toArray, List.set_cons_zero, List.set_cons_succ]
      refine AnyS.take 15 (show _ = some _ from rfl) rfl (by kernel_rfl) (by kernel_rfl) (by kernel_rfl) (by kernel_rfl) (fun _ _ _ h => h) ⟨b2, q1, x0, e0, e1, e2, e3, e4⟩ (by rfl) (fun w' hSw => by obtain ⟨s1, s2, s3, s4, s5, s6, s7, s8⟩ := hSw; go_simp; try with_reducible rfl) ?_
      try simp only [Act.put, List.setIfInBounds_toArray, List.set_cons_zero, List.set_cons_succ]
      refine AnyS.take 16 (show _ = some _ from rfl) rfl (by kernel_rfl) (by kernel_rfl) (by kernel_rfl) (by kernel_rfl) (fun _ _ _ h => h) ⟨b2, q1, x0, e0, e1, e2, e3, e4⟩ (by rfl) (fun w' hSw => by obtain ⟨s1, s2, s3, s4, s5, s6, s7, s8⟩ := hSw; go_simp; try with_reducible rfl) ?_
      try simp only [Act.put, List.setIfInBounds_toArray, List.set_cons_zero, List.set_cons_succ]
      refine AnyS.one 17 (by kernel_rfl) (show _ = some _ from rfl) (fun K' hK' => ?_)
      go_simp
      go_at_call 62
      refine HC.out.mono ?_
      rintro e w2 ⟨v2', rfl, ho2, hB2, hot2, hkp2, hfr2⟩
      have HO2 := Lib.hid ho2
      have HB2 := Lib.hid (hBr.out.drew.trans hB2)
      have HK2 := Lib.hid (hot2 _ _ _ (by decide) (by decide) (by decide) (show Blk wr.drew w.heap.size _ _ from hK.out))
      have HH2 := Lib.hid (DkHole.keepR (w := wr.drew) (w' := w2) (show DkHole wr.drew base (.slice (some ⟨g, 0, none⟩) ds.length c) es dk ys from HH.out) hdk'.out hkp2 R1.out R2.out R3.out R4.out HNE.out)
      have HC2 := Lib.hid (own_stand (w' := w2) (show wr.drew.ownsRow W0.heap.size 9 1 (.slice (some ⟨gc, 0, none⟩) cs.length cc) cs.length (txC cs) from hC.out) (fun E hE => by
        simp only [Value.ownBlock, Option.some.injEq] at hE
        subst hE
        have hx : ∀ cn u, cn < 5 → ys[dk * 5 + cn]? = some u → u.ownBlock ≠ some gc := fun cn u hcn hu he => (HX.out dk gc hdk'.out ⟨cn, u, hcn, hu, he⟩).1 rfl
        exact hkp2 gc (show gc < wr.heap.size by omega) (hx 1 _ (by omega) R1.out) (hx 2 _ (by omega) R2.out) (hx 3 _ (by omega) R3.out) (hx 4 _ (by omega) R4.out)))
      have FR := Lib.hid hfr2
      have hs2 : wr.heap.size ≤ w2.heap.size := hB2.size
      have b2w : w2.cell? ⟨w.heap.size, 2, none⟩ = some (.slice (some ⟨b, off, none⟩) ps.length pc) := HK2.out.cell 2
      have q1w : w2.cell? ⟨b, off + k * 2 + 1, none⟩ = some (.int .i64 z1) := HPA.out w2 HB2.out
      have x0w : w2.cell? ⟨gc, k, none⟩ = some (.string ck) := (own_cell HC2.out k (show k < cs.length * 1 by omega)).1.trans ((own_cell hC.out k (show k < cs.length * 1 by omega)).1.symm.trans x0)
      have e0w : w2.cell? ⟨g, dk * 5, none⟩ = some (.int .i64 q.state) := hcell w2 HH2.out 0 _ (by omega) R0.out
      have e1w : w2.cell? ⟨g, dk * 5 + 1, none⟩ = some (.slice a1 q.slots.length c1) := hcell w2 HH2.out 1 _ (by omega) R1.out
      have e2w : w2.cell? ⟨g, dk * 5 + 2, none⟩ = some (.slice a2 q.rings.length c2) := hcell w2 HH2.out 2 _ (by omega) R2.out
      have e3w : w2.cell? ⟨g, dk * 5 + 3, none⟩ = some (.slice a3 q.spoilt.length c3) := hcell w2 HH2.out 3 _ (by omega) R3.out
      have e4w : w2.cell? ⟨g, dk * 5 + 4, none⟩ = some (.slice a4 q.wait.length c4) := hcell w2 HH2.out 4 _ (by omega) R4.out
      obtain ⟨u1, u2, u3, u4, rfl, ⟨z1', m1, rfl, _⟩, ⟨z2', m2, rfl, _⟩, ⟨z3', m3, rfl, _⟩, ⟨z4', m4, rfl, _⟩⟩ := ho2.reads
      refine hK' _ _ ⟨?_, fun _ => ⟨b2w, q1w, x0w, e0w, e1w, e2w, e3w, e4w⟩⟩
      clear hK' K' hcell ho2 hB2 hot2 hkp2 hfr2 HC
      try simp only [Act.put, List.setIfInBounds_toArray, List.set_cons_zero, List.set_cons_succ]
      obtain ⟨y0, y1, y2, y3, y4, _, _, _, _, _, f0, f1, f2, f3, f4⟩ := own_cells5 (k := dk) (show w2.ownsRow base 50 5 (.slice (some ⟨g, 0, none⟩) ds.length c) ds.length ys by have := HH2.out.1; rw [HPL.out] at this; exact this) (by have := hdk'.out; have := HPL.out; omega)
      generalize hd : putD q ⟨false, z1, ck⟩ = dn at HO2 FR
      have HNN : Hid (∀ W, W = setW w2 g dk (.int .i64 dn.state) (.slice z1' dn.slots.length m1) (.slice z2' dn.rings.length m2) (.slice z3' dn.spoilt.length m3) (.slice z4' dn.wait.length m4) →
          Blk W w.heap.size #[.int .i64 z, .int .i64 s, .slice (some ⟨b, off, none⟩) ps.length pc] 34 ∧ OwnTx W W0.heap.size (.slice (some ⟨gc, 0, none⟩) cs.length cc) cs ∧ OwnDksX W base (.slice (some ⟨g, 0, none⟩) ds.length c) (es.set dk dn) gc ∧ Below base w W ∧ w1.heap.size ≤ W.heap.size) := fun W hW => by
        subst hW
        obtain ⟨g1, g2, g3, g4⟩ := FR.out.inv
        obtain ⟨zs, k1, k2, k3, k4⟩ := HH2.out.put (n0 := wr.heap.size) HPL.out.symm hdk'.out HO2.out (Nat.le_refl _) rfl (fun u hu E hE => by
          simp only [List.mem_cons, List.not_mem_nil, or_false] at hu
          rcases hu with rfl | rfl | rfl | rfl | rfl
          · cases hE
          · exact .inl ⟨1, _, by omega, R1.out, by rw [← g1]; exact hE⟩
          · exact .inl ⟨2, _, by omega, R2.out, by rw [← g2]; exact hE⟩
          · exact .inl ⟨3, _, by omega, R3.out, by rw [← g3]; exact hE⟩
          · rcases g4 E hE with q | q
            · exact .inl ⟨4, _, by omega, R4.out, q⟩
            · exact .inr q) (fun j E hj hE => (HX.out j E hj hE).2)
        refine ⟨setW_blk HK2.out (by omega) _ _ _ _ _ _, own_gb HC2.out (setW_gb _ _ _ _ _ _ _ _) (fun i e q => by cases e; simp only [Value.ownBlock, Option.some.injEq] at q; omega), ⟨zs, by rw [List.length_set, HPL.out] at k1 ⊢; exact k1, k2, k3, fun j E hj hE e => ?_⟩, setW_below HB2.out (k1.lt g rfl).1 _ _ _ _ _ _, by rw [setW_size]; omega⟩
        rw [List.length_set] at hj
        rcases k4 j E hj hE with ⟨j', hj', q⟩ | q
        · exact (HX.out j' E hj' q).1 e
        · omega
      subst hd
      clear FR HO2 HH2 HC2 HK2
      refine AnyS.take 18 (show _ = some _ from rfl) rfl (by kernel_rfl) (by kernel_rfl) (by kernel_rfl) (by kernel_rfl) (fun _ _ _ h => h) ⟨b2w, q1w, x0w, e0w, e1w, e2w, e3w, e4w⟩ (by rfl) (fun w' hSw => by obtain ⟨s1, s2, s3, s4, s5, s6, s7, s8⟩ := hSw; go_simp; try with_reducible rfl) ?_
      try simp only [Act.put, List.setIfInBounds_toArray, List.set_cons_zero, List.set_cons_succ]
      refine AnyS.one 19 (by kernel_rfl) (show _ = some _ from rfl) (fun K' hK' => ?_)
      go_simp
      refine hK' _ _ ⟨AnyS.done (by kernel_rfl) ?_, fun h => absurd rfl h⟩
      clear hK' K'
      try simp only [Act.put, List.setIfInBounds_toArray, List.set_cons_zero, List.set_cons_succ]
      obtain ⟨n1, n2, n3, n4, n5⟩ := HNN.out _ rfl
      have N1 := Lib.hid n1
      have N2 := Lib.hid n2
      have N3 := Lib.hid n3
      have N4 := Lib.hid n4
      have N5 := Lib.hid n5
      clear n1 n2 n3 n4 n5 HNN
      go_wp2
      exact ⟨⟨k + 1, by go_num, by omega, N1, N2, by rw [HN.out]; exact N3, N4, N5.out⟩, by simp [intOf]; omega⟩
    · obtain rfl : k = cs.length := by omega
      go_wp2
      go_ret
      exact ⟨rfl, hO.out.own, hBr.out⟩

end Go.Proofs.YtcdiengbmjkglaaGreat
