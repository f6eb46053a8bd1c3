/- 'laws.FnSpaceMost' returns true at every code: of two drawn roots and a number SpaceTake of the program answers as SpaceTake of the specification, and of what is taken each is the first free place of its disk, and no disk has fewer free places than the next. Conditions: none. -/
import Derived.Test.YtlonecgmldjdpaaFT
import Derived.Test.YtlonecgmldjdpaaK
import Derived.Test.YtlonecgmldjdpaaDTR
import Derived.Test.YtlonecgmldjdpaaPL
import Derived.Test.YtlonecgmldjdpaaMMT
import Derived.Test.YtlonecgmldjdpaaRG
import Derived.StillTailTactics
namespace Go.Proofs.Ytlonecgmldjdpaa
open Go.ChangeShapes Go.WideShapes Go.ChangeAt Go.RowKit Go.Sort
namespace FnSpaceMost
set_option linter.unusedVariables false

set_option maxRecDepth 100000 in
set_option maxHeartbeats 4000000 in
theorem main (a : Option Addr) (len cap : Nat) (z0 : List Int) (w : World) (h0 : len ≤ 1048576) (H : Hid (IsBytes w a len cap z0)) :
    Calls Try.prog 8 #[.slice a len cap] w fun e w' => e = .returned (.bool true) ∧ Below w.heap.size w w' := by
  have d0 : decide (1048576 < (len : Int)) = false := by simp; omega
  go_enter Try.func8, Try.ntmps8
  go_wp2_with fail
  refine (drawTake_any a len cap z0 _ H.out).mono ?_
  rintro e w1 ⟨n, ta, tb, kk, aa, ab, ca, cb, va, vb, rfl, hn, hLa, hLb, hva, hvb, hk1, hk2, hB1⟩
  obtain ⟨hVa, hnma⟩ := hLa.reads
  obtain ⟨_, _, ea, hca1, hca2, hXa⟩ := hVa
  cases ea
  have HNa : Hid (∀ j, j < va.length → (va.getD j vol0).name.size ≤ maxLen) := fun j hj => Nat.le_trans (hnma j hj) (by simp [maxLen])
  have hma : va.length ≤ maxLen := by simp [maxLen]; omega
  obtain ⟨hVb, hnmb⟩ := hLb.reads
  obtain ⟨_, _, eb, hcb1, hcb2, hXb⟩ := hVb
  cases eb
  have HNb : Hid (∀ j, j < vb.length → (vb.getD j vol0).name.size ≤ maxLen) := fun j hj => Nat.le_trans (hnmb j hj) (by simp [maxLen])
  have hmb : vb.length ≤ maxLen := by simp [maxLen]; omega
  have hBa : Below w1.heap.size w1 ((w1.alloc (.cells #[.int .i64 ta, .slice aa va.length ca] 25)).alloc (.cells #[.int .i64 tb, .slice ab vb.length cb] 25)) := ((Below.refl _ _).alloc (Nat.le_refl _) _).alloc (by simp) _
  have HXa := Lib.hid (hXa.below hBa)
  have HXb := Lib.hid (hXb.below hBa)
  have HB := Lib.hid (hB1.trans (hBa.mono hB1.size))
  have k0 : ((w1.alloc (.cells #[.int .i64 ta, .slice aa va.length ca] 25)).alloc (.cells #[.int .i64 tb, .slice ab vb.length cb] 25)).cell? ⟨w1.heap.size, 0, none⟩ = some (.int .i64 ta) := cell_below ((Below.refl _ _).alloc (Nat.le_refl _) _) ((Bx.new w1 #[.int .i64 ta, .slice aa va.length ca] 25).cell 0)
  have k1 : ((w1.alloc (.cells #[.int .i64 ta, .slice aa va.length ca] 25)).alloc (.cells #[.int .i64 tb, .slice ab vb.length cb] 25)).cell? ⟨w1.heap.size, 1, none⟩ = some (.slice aa va.length ca) := cell_below ((Below.refl _ _).alloc (Nat.le_refl _) _) ((Bx.new w1 #[.int .i64 ta, .slice aa va.length ca] 25).cell 1)
  have k2 : ((w1.alloc (.cells #[.int .i64 ta, .slice aa va.length ca] 25)).alloc (.cells #[.int .i64 tb, .slice ab vb.length cb] 25)).cell? ⟨w1.heap.size + 1, 0, none⟩ = some (.int .i64 tb) := by
    have h := (Bx.new (w1.alloc (.cells #[.int .i64 ta, .slice aa va.length ca] 25)) #[.int .i64 tb, .slice ab vb.length cb] 25).cell 0
    simp only [World.size_alloc] at h
    exact h
  have k3 : ((w1.alloc (.cells #[.int .i64 ta, .slice aa va.length ca] 25)).alloc (.cells #[.int .i64 tb, .slice ab vb.length cb] 25)).cell? ⟨w1.heap.size + 1, 1, none⟩ = some (.slice ab vb.length cb) := by
    have h := (Bx.new (w1.alloc (.cells #[.int .i64 ta, .slice aa va.length ca] 25)) #[.int .i64 tb, .slice ab vb.length cb] 25).cell 1
    simp only [World.size_alloc] at h
    exact h
  have HS := Lib.hid (fun w' ha hb => specTake_any n ta tb kk aa ab ca cb va vb w' hma hmb HNa HNb ha hb)
  have HI := Lib.hid (fun w' ha hb => implTake_any n ta tb kk aa ab ca cb va vb w' hca1 hcb1 HNa HNb ha hb)
  have HF := Lib.hid (fun w' ha hb => implFree_any n ta tb aa ab ca cb va vb w' hca1 hcb1 HNa HNb ha hb)
  have HRa := Lib.hid (fun w' h => specRoot_any n ⟨ta, va⟩ aa ca w' hma HNa h)
  have HRb := Lib.hid (fun w' h => specRoot_any n ⟨tb, vb⟩ ab cb w' hmb HNb h)
  simp only at HRa HRb
  have hP48 := fre_length n ⟨ta, va⟩ ⟨tb, vb⟩
  have hT48 := tak_length n ⟨ta, va⟩ ⟨tb, vb⟩ kk
  have hn3 := hn.1
  have hn4 := hn.2
  have HTr := Lib.hid (fun h => tak_true (n := n) (ra := ⟨ta, va⟩) (rb := ⟨tb, vb⟩) (cols := kk) h)
  have HPr := Lib.hid (fre_range n ⟨ta, va⟩ ⟨tb, vb⟩)
  generalize tak n ⟨ta, va⟩ ⟨tb, vb⟩ kk = T at HS HI hT48 HTr
  generalize takB n ⟨ta, va⟩ ⟨tb, vb⟩ kk = bb at HS HI HTr
  generalize fre n ⟨ta, va⟩ ⟨tb, vb⟩ = P at HF hP48 HTr HPr
  have hTm : T.length ≤ maxLen := by simp [maxLen]; omega
  have hPm : P.length ≤ maxLen := by simp [maxLen]; omega
  have ebb : (bb != bb) = false := by simp
  have ebb2 : (bb == bb) = true := by simp
  clear hLa hLb hXa hXb hnma hnmb hBa hB1
  go_wp2_with fail
  generalize hgD : w1.heap.size = D at k0 k1 k2 k3 ⊢
  clear hgD
  generalize ((w1.alloc (.cells #[.int .i64 ta, .slice aa va.length ca] 25)).alloc (.cells #[.int .i64 tb, .slice ab vb.length cb] 25)) = wa at HXa HXb HB k0 k1 k2 k3 ⊢
  refine (HS.out _ HXa HXb).mono ?_
  rintro e w2 ⟨v2, rfl, ho, hB⟩
  obtain ⟨a2, c2, rfl, _, _, hx⟩ := ho.reads
  replace HXa := Lib.hid (HXa.out.below hB)
  replace HXb := Lib.hid (HXb.out.below hB)
  replace k0 := cell_below hB k0
  replace k1 := cell_below hB k1
  replace k2 := cell_below hB k2
  replace k3 := cell_below hB k3
  replace HB := Lib.hid (HB.out.trans (hB.mono HB.out.size))
  have HP2 := Lib.hid hx
  clear hB hx ho HS
  go_wp2_with fail
  refine (HI.out _ HXa HXb).mono ?_
  rintro e w3 ⟨v3, rfl, ho, hB⟩
  obtain ⟨a3, c3, rfl, _, _, hx⟩ := ho.reads
  replace HXa := Lib.hid (HXa.out.below hB)
  replace HXb := Lib.hid (HXb.out.below hB)
  replace HP2 := Lib.hid (HP2.out.below hB)
  replace k0 := cell_below hB k0
  replace k1 := cell_below hB k1
  replace k2 := cell_below hB k2
  replace k3 := cell_below hB k3
  replace HB := Lib.hid (HB.out.trans (hB.mono HB.out.size))
  have HP3 := Lib.hid hx
  clear hB hx ho
  clear HI
  go_wp2_with fail
  refine (lpaPlaces_any a3 a2 c3 c2 T T _ hTm hTm HP3 HP2).mono ?_
  rintro e w4 ⟨rfl, hB⟩
  replace HXa := Lib.hid (HXa.out.below hB)
  replace HXb := Lib.hid (HXb.out.below hB)
  replace HP2 := Lib.hid (HP2.out.below hB)
  replace HP3 := Lib.hid (HP3.out.below hB)
  replace k0 := cell_below hB k0
  replace k1 := cell_below hB k1
  replace k2 := cell_below hB k2
  replace k3 := cell_below hB k3
  replace HB := Lib.hid (HB.out.trans (hB.mono HB.out.size))
  clear hB
  rw [tt_true (rfl : T = T)]
  clear HRa HRb
  cases bb with
  | false =>
    go_wp2_with fail
    refine (lpaPlaces_any a3 a2 c3 c2 T T _ hTm hTm HP3 HP2).mono ?_
    rintro e w7 ⟨rfl, hB⟩
    rw [tt_true (rfl : T = T)]
    go_wp2
    go_ret
    exact ⟨rfl, HB.out.trans (hB.mono HB.out.size)⟩
  | true =>
    obtain ⟨hk1, hk2, hK⟩ := HTr.out rfl
    obtain ⟨nn, rfl⟩ := Int.eq_ofNat_of_zero_le (show 0 ≤ n by omega)
    have HPr2 : Hid (∀ q ∈ P, 0 ≤ q.1 ∧ q.1 < (nn : Int)) := fun q hq => (HPr.out q hq).1
    have HTk := Lib.hid (taken_of HPr2.out hK)
    have hnn4 : nn ≤ 4 := by omega
    clear hK HTr HPr hk1 hk2
    have hmk := run_make_row' (P := Try.prog) 49 3 (.int .i64 0) 8 Try.underlying49 infoIn rfl .i64 .i64 nn (by omega) (by omega)
    go_wp2_with fail
    refine (HF.out _ HXa HXb).mono ?_
    rintro e w7 ⟨v4, rfl, ho, hB⟩
    obtain ⟨a4, c4, rfl, _, _, hx⟩ := ho.reads
    replace HXa := Lib.hid (HXa.out.below hB)
    replace HXb := Lib.hid (HXb.out.below hB)
    replace HP2 := Lib.hid (HP2.out.below hB)
    replace HP3 := Lib.hid (HP3.out.below hB)
    replace k0 := cell_below hB k0
    replace k1 := cell_below hB k1
    replace k2 := cell_below hB k2
    replace k3 := cell_below hB k3
    replace HB := Lib.hid (HB.out.trans (hB.mono HB.out.size))
    have HP4 := Lib.hid hx
    clear hB hx ho
    clear HF
    have HM0 := Lib.hid (msR_new w7 nn)
    have HB0 : Hid (Below w7.heap.size w7 (w7.alloc (.cells (madeCells #[.int .i64 0] nn) 3))) := (Below.refl _ _).alloc (Nat.le_refl _) _
    have hs7 := HB.out.size
    go_wp2_with fail
    generalize hgM : w7.heap.size = gM at HM0 HB0 hs7 ⊢
    generalize w7.alloc (.cells (madeCells #[.int .i64 0] nn) 3) = w8 at HM0 HB0 ⊢
    go_loopw [13] (fun i wr => ∃ k : Nat, i = .int .i64 (k : Int) ∧ k ≤ P.length ∧ Hid (MsR wr gM nn (P.take k)) ∧ Hid (Below gM w7 wr)) (fun i _ => P.length - (intOf i).toNat)
    case atStart => exact ⟨0, rfl, by omega, HM0, HB0⟩
    case round =>
      obtain ⟨k, rfl, hk, hM, hBr⟩ := hrel
      by_cases hkt : k < P.length
      · obtain ⟨pb, po, rfl, hpc⟩ := HP4.out.resolve_left (fun e => by subst e; simp at hkt)
        have Hpc := Lib.hid hpc
        obtain ⟨y0, y1⟩ := hpc k hkt
        have Hpc0 := Lib.hid (hpc k hkt)
        have hmem := getD_mem' hkt
        have HF1 := Lib.hid (fun i (hi : i < T.length) e => HTk.out.first hi hmem e)
        have HMm := Lib.hid (fun dn hd hq => MsR.more (w := wr.drew) (d := dn) (q := P.getD k pl0) hM.out hd hq)
        rw [← take_snoc hkt] at HMm
        have hcl := fun dn : Nat => Nat.le_trans (cnt_le (P.take k) (dn : Int)) (by rw [List.length_take]; omega : (P.take k).length ≤ 48)
        obtain ⟨r0, r1⟩ := HPr2.out _ hmem
        generalize P.getD k pl0 = q at y0 y1 HF1 HMm r0 r1 Hpc0
        obtain ⟨dq, sq⟩ := q
        simp only at y0 y1 HF1 HMm r0 r1 Hpc0
        obtain ⟨dn, rfl⟩ := Int.eq_ofNat_of_zero_le r0
        have hdn : dn < nn := by omega
        have hcl1 := hcl dn
        obtain ⟨c0, cf⟩ := hM.out.cell hdn
        have HM2 := Lib.hid (HMm.out dn hdn rfl)
        have x0 := cellB hBr.out hgM y0
        have x1 := cellB hBr.out hgM y1
        have ik0 : (0 : Int) ≤ (k : Int) := by omega
        have ik1 : (k : Int) < (P.length : Int) := by omega
        have id0 : (0 : Int) ≤ (dn : Int) := by omega
        have id1 : (dn : Int) < (nn : Int) := by omega
        have hbn : gM ≠ pb := by have := World.block_lt_of_cell? w7 _ y0; simp at this; omega
        have HB2 := Lib.hid (hBr.out.drew.setCell (p := ⟨gM, dn, none⟩) (Nat.le_refl _) (.int .i64 ((cnt (P.take k) (dn : Int) : Int) + 1)))
        generalize cnt (P.take k) (dn : Int) = cd at c0 HM2 HB2 hcl1
        clear hpc hmem hcl HMm hM y0 y1
        have hcd : (cd : Int) ≤ 48 := by omega
        go_wp2_with fail
        go_still_tail 16, (by kernel_rfl)
        change wpList _ _ _ _ _ wr.drew
        have c0d : wr.drew.cell? ⟨gM, dn, none⟩ = some (.int .i64 (cd : Int)) := c0
        have cfd : wr.drew.frozen? ⟨gM, dn, none⟩ = false := cf
        go_wp2_with fail
        go_loopw [14] (fun i wq => ∃ j : Nat, i = .int .i64 (j : Int) ∧ j ≤ T.length ∧ Hid (MsR wq gM nn (P.take (k + 1))) ∧ Hid (Below gM w7 wq)) (fun i _ => T.length - (intOf i).toNat)
        case atStart => exact ⟨0, rfl, by omega, HM2, HB2⟩
        case round =>
          clear c0 cf c0d cfd HM2 HB2 x0 x1
          obtain ⟨j, rfl, hj, hMq, hBq⟩ := hrel
          have x0 := cellB hBq.out hgM (Hpc0.out).1
          have x1 := cellB hBq.out hgM (Hpc0.out).2
          by_cases hjt : j < T.length
          · obtain ⟨tb3, to3, rfl, htc⟩ := HP3.out.resolve_left (fun e => by subst e; simp at hjt)
            have z0 := cellB hBq.out hgM (htc j hjt).1
            have z1 := cellB hBq.out hgM (htc j hjt).2
            have hfs := HF1.out j hjt
            generalize T.getD j pl0 = tj at z0 z1 hfs
            obtain ⟨td, ts⟩ := tj
            simp only at z0 z1 hfs
            have ij0 : (0 : Int) ≤ (j : Int) := by omega
            have ij1 : (j : Int) < (T.length : Int) := by omega
            clear htc
            by_cases e : (dn : Int) = td
            · have hf2 := hfs e
              subst e
              have q1 : decide (sq < ts) = false := by simp; omega
              clear hfs hf2
              go_wp2_with fail
              go_quiet (fail)
              go_wp2
              exact ⟨⟨j + 1, by go_num, by omega, hMq.out, belowN hBq.out _⟩, by simp [intOf]; omega⟩
            · have q1 : ((dn : Int) == td) = false := by simp [e]
              clear hfs e
              go_wp2_with fail
              go_quiet (fail)
              go_wp2
              exact ⟨⟨j + 1, by go_num, by omega, hMq.out, belowN hBq.out _⟩, by simp [intOf]; omega⟩
          · go_wp2
            exact ⟨⟨k + 1, by go_num, by omega, hMq, hBq⟩, by simp [intOf]; omega⟩
      · obtain rfl : k = P.length := by omega
        rw [List.take_length] at hM
        go_wp2_with fail
        go_loopw [15] (fun i wq => ∃ m : Nat, i = .int .i64 ((m : Int) + 1) ∧ m ≤ T.length ∧ Hid (MsR wq gM nn P) ∧ Hid (Below gM w7 wq)) (fun i _ => T.length + 1 - (intOf i).toNat)
        case atStart => exact ⟨0, rfl, by omega, hM, hBr⟩
        case round =>
          obtain ⟨m, rfl, hm, hMq, hBq⟩ := hrel
          by_cases hmt : m + 1 < T.length
          · obtain ⟨tb3, to3, rfl, htc⟩ := HP3.out.resolve_left (fun e => by subst e; simp at hmt)
            have z0 := cellB hBq.out hgM (htc m (by omega)).1
            have z1 := cellB hBq.out hgM (htc (m + 1) hmt).1
            have hfl := HTk.out.falls hmt
            obtain ⟨r0, r1⟩ := HPr2.out _ (HTk.out.free _ (getD_mem' (show m < T.length by omega)))
            obtain ⟨s0, s1⟩ := HPr2.out _ (HTk.out.free _ (getD_mem' hmt))
            generalize T.getD m pl0 = p0 at z0 hfl r0 r1
            generalize T.getD (m + 1) pl0 = p1 at z1 hfl s0 s1
            obtain ⟨d0, _⟩ := p0
            obtain ⟨d1, _⟩ := p1
            simp only at z0 z1 hfl r0 r1 s0 s1
            obtain ⟨e0, rfl⟩ := Int.eq_ofNat_of_zero_le r0
            obtain ⟨e1, rfl⟩ := Int.eq_ofNat_of_zero_le s0
            have c0 := (hMq.out.cell (show e0 < nn by omega)).1
            have c1 := (hMq.out.cell (show e1 < nn by omega)).1
            generalize cnt P (e0 : Int) = n0 at c0 hfl
            generalize cnt P (e1 : Int) = n1 at c1 hfl
            have q1 : decide ((n0 : Int) < (n1 : Int)) = false := by simp; omega
            have q1n : decide (n0 < n1) = false := by simp; omega
            have im0 : (0 : Int) ≤ (m : Int) := by omega
            have im1 : (m : Int) + 1 < (T.length : Int) := by omega
            have im2 : (m : Int) < (T.length : Int) := by omega
            have im3 : (0 : Int) ≤ (m : Int) + 1 := by omega
            have ie0 : (e0 : Int) < (nn : Int) := by omega
            have ie1 : (e1 : Int) < (nn : Int) := by omega
            clear htc hfl
            go_wp2_with fail
            go_quiet (fail)
            go_wp2
            exact ⟨⟨m + 1, by go_num, by omega, hMq.out, belowN hBq.out _⟩, by simp [intOf]; omega⟩
          · have q1 : decide ((m : Int) + 1 < (T.length : Int)) = false := by simp; omega
            go_wp2
            go_ret
            exact ⟨rfl, HB.out.trans ((hgM ▸ hBq.out : Below w7.heap.size w7 _).mono (hgM ▸ hs7))⟩

set_option maxRecDepth 100000 in
set_option maxHeartbeats 1000000 in
theorem walk (a0 : Option Addr) (len0 cap0 : Nat) (z0 : List Int) (w : World) (w0 : IsBytes w a0 len0 cap0 z0) :
    Calls Try.prog 8 #[.slice a0 len0 cap0] w fun e w' => e = .returned (.bool true) ∧ Below w.heap.size w w' := by
  by_cases h0 : len0 ≤ 1048576
  · exact main a0 len0 cap0 z0 w h0 w0
  · have hm : len0 ≤ maxLen := by have := w0.opened; omega
    have d0 : decide (1048576 < (len0 : Int)) = true := by simp; omega
    clear w0
    go_enter Try.func8, Try.ntmps8
    go_wp2
    go_ret
    exact ⟨rfl, Below.refl _ _⟩

set_option maxRecDepth 100000 in
theorem lifted (os : Os) (started : os.Started) (H : Type) (enc : TypeId × Value → H) :
    ReturnsInHanded {} Try.checked os 8 .any (Rows.fnSpaceMostSpec.pre6 enc Try.prog Try.f8 Rows.fnSpaceMostRow.domain false) (Rows.fnSpaceMostSpec.post enc Try.prog Try.f8 false true false false) := by
  refine returnsInHanded_of_change (C := Try.checked) own started (by kernel_rfl) Try.func8
    (ChangeSpec.witness6 (enc := enc) (C := Try.checked) false ⟨#[], #[.slice none 0 0], []⟩ 8 (by kernel_rfl) (by kernel_rfl) (by kernel_rfl) (by kernel_rfl)) ?_
  intro W base args ds gs before hval0 hW hcnd _
  have hval : ∀ (j : Nat) t v, Try.f8.params[j]? = some t → args[j]? = some v → Value.okWide Try.prog W .any base t v := hval0
  have hW' := hW
  obtain ⟨p, q, hA0, hV, rfl, hfz, hnd⟩ := hW
  have hA : DataW.TrodAll enc Try.prog W 0 (fun _ => true) true Try.f8.params.toList args.toList ds p := hA0
  rw [Try.params8] at hA hval
  obtain ⟨v0, vs0, d0, ds0, p0, q0, hargs, rfl, rfl, h0, r0⟩ := trodAll_cons hA
  obtain ⟨rfl, rfl, rfl⟩ := trodAll_nil r0
  obtain rfl : args = #[v0] := by cases args; simp_all
  obtain ⟨rfl, rfl⟩ := trodVars_none hV
  have k0 := h0
  have lt0 : ∀ x ∈ p0, x.block < W.heap.size := by obtain ⟨m, hm⟩ := k0; exact DataW.trod_lt m _ _ _ hm
  obtain ⟨a0, len0, cap0, rfl⟩ := okWide_slice Try.underlying22 (hval 0 22 v0 rfl rfl)
  obtain ⟨z0, w0⟩ : ∃ zs, IsBytes W a0 len0 cap0 zs := by
    obtain ⟨fuel, hf⟩ := h0
    rcases open_ints Try.underlying22 Try.underlying5 (by kernel_rfl) hf with ⟨hcs, _⟩ | ⟨x, l, c, zs, hcs, _, hl, hm, hz, _, hcell, hwz⟩
    · simp [Value.cells] at hcs
      obtain ⟨rfl, rfl, rfl⟩ := hcs
      exact ⟨[], .inl ⟨rfl, rfl, rfl, rfl⟩⟩
    · simp [Value.cells] at hcs
      obtain ⟨rfl, rfl, rfl⟩ := hcs
      exact ⟨zs, .inr ⟨_, rfl, hl, hm, by simpa using hz, hcell, hwz⟩⟩
  clear hA0 hval0
  refine (walk a0 len0 cap0 z0 W w0).mono fun e W' ⟨he, bel⟩ => ?_
  subst he
  exact ⟨_, rfl, _, _, _, [], _, [], hW', trodAll_mk1 (shut_bool Try.underlying4 _), (trodAll_cons_mk (Below.trod laidOut (by kernel_rfl) (of_decide_eq_true (by kernel_rfl)) k0 bel lt0) trodAll_mk0), rfl, bel.frame _, fun h => by cases h⟩

theorem over : Rows.fnSpaceMostRow.holds Try.pinned (OpenSpec.ofChange Rows.fnSpaceMostSpec) :=
  OpenClaim.holds_of_wide 8 Try.f8 rfl rfl rfl rfl rfl rfl rfl ⟨rfl, rfl, rfl, rfl, rfl⟩ rfl rfl rfl rfl rfl (by kernel_rfl) Try.func8 (by kernel_rfl)
    (of_decide_eq_true (by kernel_rfl)) (by unfold Func.isWrapper; first | (rw [if_pos (by decide +kernel)]; kernel_rfl) | (rw [if_neg (by decide +kernel)]; exact ⟨rfl, rfl⟩))
    (fun os started H enc _ => lifted os started H enc)

end FnSpaceMost

theorem FnSpaceMost_holds : Rows.FnSpaceMostSaid := FnSpaceMost.over

end Go.Proofs.Ytlonecgmldjdpaa
