/- 'laws.FnModelRead' returns true at every code: of a model in which a block was written that block is read as what was written, and every other one as it was. Conditions: none. -/
import Derived.Test.YtmmckpjapnkepaaJE
import Derived.Test.YtmmckpjapnkepaaJH
import Derived.Test.YtmmckpjapnkepaaJI
import Derived.Test.YtmmckpjapnkepaaIE
import Derived.Test.YtmmckpjapnkepaaIF
import Derived.Test.YtmmckpjapnkepaaK
namespace Go.Proofs.Ytmmckpjapnkepaa
open Go.ChangeShapes Go.WideShapes Go.ChangeAt Go.RowKit Go.Sort
namespace FnModelRead
set_option linter.unusedVariables false

set_option linter.unusedSimpArgs false in
set_option maxRecDepth 100000 in
set_option maxHeartbeats 4000000 in
theorem main (a : Option Addr) (len cap : Nat) (z0 : List Int) (w : World) (h0 : len ≤ 1048576) (H : Hid (IsBytes w a len cap z0)) :
    Calls Try.prog 3 #[.slice a len cap] w fun e w' => e = .returned (.bool true) ∧ Below w.heap.size w w' := by
  have d0 : decide (1048576 < (len : Int)) = false := by simp; omega
  go_enter Try.func3, Try.ntmps3
  go_wp2_with fail
  refine (DrawModelWrite_any a len cap z0 _ H.out).mono ?_
  rintro e w1 ⟨_, ss, nm, q, t, rfl, ⟨⟨av, cv, rfl, _, _, hx⟩, h5, hs⟩, hnm, ht, HB⟩
  have HS := Lib.hid hs
  replace HB := Lib.hid HB
  clear hs
  have hb : Below w1.heap.size w1 (w1.alloc (.cells #[.slice av ss.length cv] 25)) := (Below.refl _ _).alloc (Nat.le_refl _) _
  have Xm := Lib.hid (ShAt.below hx hb)
  replace HB := Lib.hid (below_trans HB.out hb HB.out.size)
  have Km := Lib.hid (Blk.new w1 #[.slice av ss.length cv] 25)
  have pm : (w1.alloc (.cells #[.slice av ss.length cv] 25)).cell? ⟨w1.heap.size, 0, none⟩ = some (.slice av ss.length cv) := Km.out.cell 0
  clear hb
  go_wp2_with fail
  clear pm
  generalize w1.alloc (.cells #[.slice av ss.length cv] 25) = w1b at Km Xm HB ⊢
  generalize w1.heap.size = mm at Km ⊢
  have HF := Lib.hid (write_fine ss nm q t)
  have HD := Lib.hid (write_read (ss := ss) (nm := nm) (q := q) (t := t))
  have HSP := Lib.hid (specWrite_any av cv ss nm q t _ HS.out (by omega) Xm)
  have HIM := Lib.hid (fun a c W (h : ShAt W a ss) => implWrite_any a c ss nm q t W HS.out (by unfold maxLen; omega) (by omega) h)
  generalize hr : writeTo ss nm q t = r at HSP HIM HF HD
  have Hr := Lib.hid hr
  clear hr
  obtain ⟨rs, rc⟩ := r
  simp only at HF HD
  have HSr := Lib.hid (HF.out.small)
  have hr4 : rs.length ≤ 4 := HF.out.1
  have dne : ((rc : Int) != rc) = false := by simp
  have deq : ((rc : Int) == rc) = true := by simp
  refine (HSP.out).mono ?_
  rintro e w2 ⟨v2, rfl, hO, hB⟩
  obtain ⟨a2, c2, rfl, _⟩ := hO.reads
  have hx : ShAt w2 a2 rs := hO.reads.at
  replace Km := Lib.hid (Km.out.below hB Km.out.lt)
  replace Xm := Lib.hid (Xm.out.below hB)
  replace HB := Lib.hid (below_trans HB.out hB HB.out.size)
  clear hO hB
  have hb : Below w2.heap.size w2 (w2.alloc (.cells #[.slice a2 rs.length c2] 25)) := (Below.refl _ _).alloc (Nat.le_refl _) _
  have Xp := Lib.hid (ShAt.below hx hb)
  replace Km := Lib.hid (Km.out.below hb Km.out.lt)
  replace Xm := Lib.hid (Xm.out.below hb)
  replace HB := Lib.hid (below_trans HB.out hb HB.out.size)
  have Kp := Lib.hid (Blk.new w2 #[.slice a2 rs.length c2] 25)
  have pm : (w2.alloc (.cells #[.slice a2 rs.length c2] 25)).cell? ⟨mm, 0, none⟩ = some (.slice av ss.length cv) := Km.out.cell 0
  have pp : (w2.alloc (.cells #[.slice a2 rs.length c2] 25)).cell? ⟨w2.heap.size, 0, none⟩ = some (.slice a2 rs.length c2) := Kp.out.cell 0
  clear hb
  go_wp2_with fail
  clear pm pp
  generalize w2.alloc (.cells #[.slice a2 rs.length c2] 25) = w2b at Km Kp Xm Xp HB ⊢
  generalize w2.heap.size = mp at Kp ⊢
  refine (HIM.out av cv _ Xm.out).mono ?_
  rintro e w3 ⟨v3, rfl, hO, hB⟩
  obtain ⟨a3, c3, rfl, _⟩ := hO.reads
  have hx : ShAt w3 a3 rs := hO.reads.at
  replace Km := Lib.hid (Km.out.below hB Km.out.lt)
  replace Kp := Lib.hid (Kp.out.below hB Kp.out.lt)
  replace Xm := Lib.hid (Xm.out.below hB)
  replace Xp := Lib.hid (Xp.out.below hB)
  replace HB := Lib.hid (below_trans HB.out hB HB.out.size)
  clear hO hB
  have hb : Below w3.heap.size w3 (w3.alloc (.cells #[.slice a3 rs.length c3] 25)) := (Below.refl _ _).alloc (Nat.le_refl _) _
  have Xx := Lib.hid (ShAt.below hx hb)
  replace Km := Lib.hid (Km.out.below hb Km.out.lt)
  replace Kp := Lib.hid (Kp.out.below hb Kp.out.lt)
  replace Xm := Lib.hid (Xm.out.below hb)
  replace Xp := Lib.hid (Xp.out.below hb)
  replace HB := Lib.hid (below_trans HB.out hb HB.out.size)
  have Kx := Lib.hid (Blk.new w3 #[.slice a3 rs.length c3] 25)
  have pm : (w3.alloc (.cells #[.slice a3 rs.length c3] 25)).cell? ⟨mm, 0, none⟩ = some (.slice av ss.length cv) := Km.out.cell 0
  have pp : (w3.alloc (.cells #[.slice a3 rs.length c3] 25)).cell? ⟨mp, 0, none⟩ = some (.slice a2 rs.length c2) := Kp.out.cell 0
  have px : (w3.alloc (.cells #[.slice a3 rs.length c3] 25)).cell? ⟨w3.heap.size, 0, none⟩ = some (.slice a3 rs.length c3) := Kx.out.cell 0
  clear hb
  go_wp2_with fail
  clear pm pp px
  generalize w3.alloc (.cells #[.slice a3 rs.length c3] 25) = w3b at Km Kp Kx Xm Xp Xx HB ⊢
  generalize w3.heap.size = mx at Kx ⊢
  refine (lpaModel_same a3 a2 c3 c2 rs _ HSr.out Xx Xp).mono ?_
  rintro e w4 ⟨rfl, hB⟩
  replace Km := Lib.hid (Km.out.below hB Km.out.lt)
  replace Kp := Lib.hid (Kp.out.below hB Kp.out.lt)
  replace Kx := Lib.hid (Kx.out.below hB Kx.out.lt)
  replace Xm := Lib.hid (Xm.out.below hB)
  replace Xp := Lib.hid (Xp.out.below hB)
  replace Xx := Lib.hid (Xx.out.below hB)
  replace HB := Lib.hid (below_trans HB.out hB HB.out.size)
  clear hB
  by_cases hc : rc = 0
  · subst hc
    obtain ⟨hfm, hdt⟩ := HD.out rfl
    have HDT := Lib.hid hdt
    have HRA := Lib.hid (fun i b (hi : i < ss.length) (hb : b < 3) => (read_at hfm (nm := nmAt ss i) ⟨hi, rfl⟩ hb).1)
    clear hdt hfm HD
    have pm : w4.cell? ⟨mm, 0, none⟩ = some (.slice av ss.length cv) := Km.out.cell 0
    have pp : w4.cell? ⟨mp, 0, none⟩ = some (.slice a2 rs.length c2) := Kp.out.cell 0
    have px : w4.cell? ⟨mx, 0, none⟩ = some (.slice a3 rs.length c3) := Kx.out.cell 0
    go_wp2_with fail
    clear pm pp px
    go_loopw [11] (fun s9 wr => ∃ i : Nat, s9 = .int .i64 (i : Int) ∧ i ≤ ss.length ∧ Hid (Below w4.heap.size w4 wr)) (fun s9 _ => ss.length - (intOf s9).toNat)
    case atStart => exact ⟨0, rfl, by omega, Below.refl _ _⟩
    case round =>
      obtain ⟨i, rfl, hi, hBr⟩ := hrel
      have hB := hBr.out
      replace Km := Lib.hid (Km.out.below hB Km.out.lt)
      replace Kp := Lib.hid (Kp.out.below hB Kp.out.lt)
      replace Kx := Lib.hid (Kx.out.below hB Kx.out.lt)
      replace Xm := Lib.hid (Xm.out.below hB)
      replace Xp := Lib.hid (Xp.out.below hB)
      replace Xx := Lib.hid (Xx.out.below hB)
      replace HB := Lib.hid (below_trans HB.out hB HB.out.size)
      clear hB
      have pm : wr.cell? ⟨mm, 0, none⟩ = some (.slice av ss.length cv) := Km.out.cell 0
      have pp : wr.cell? ⟨mp, 0, none⟩ = some (.slice a2 rs.length c2) := Kp.out.cell 0
      have px : wr.cell? ⟨mx, 0, none⟩ = some (.slice a3 rs.length c3) := Kx.out.cell 0
      by_cases hlt : i < ss.length
      · go_wp2_with fail
        clear pm pp px
        obtain ⟨wo, ewo⟩ : ∃ x, x = wr := ⟨_, rfl⟩
        subst ewo
        go_loopw [12] (fun s10 wr => ∃ b : Nat, s10 = .int .i64 (b : Int) ∧ b ≤ 3 ∧ Hid (Below wo.heap.size wo wr)) (fun s10 _ => 3 - (intOf s10).toNat)
        case atStart => exact ⟨0, rfl, by omega, Below.refl _ _⟩
        case round =>
          obtain ⟨b, rfl, hb3, hBi⟩ := hrel
          have HBo : Hid (Below w4.heap.size w4 wr) := below_trans hBr.out hBi.out hBr.out.size
          have hB := hBi.out
          replace Km := Lib.hid (Km.out.below hB Km.out.lt)
          replace Kp := Lib.hid (Kp.out.below hB Kp.out.lt)
          replace Kx := Lib.hid (Kx.out.below hB Kx.out.lt)
          replace Xm := Lib.hid (Xm.out.below hB)
          replace Xp := Lib.hid (Xp.out.below hB)
          replace Xx := Lib.hid (Xx.out.below hB)
          replace HB := Lib.hid (below_trans HB.out hB HB.out.size)
          clear hB
          by_cases hbl : b < 3
          · obtain ⟨bb, off, rfl, hcc⟩ := Xm.out.resolve_left (fun e => by subst e; simp at hlt)
            have pn : wr.cell? ⟨bb, off + i * 2, none⟩ = some (.string (nmAt ss i)) := (hcc i hlt).1
            have hsz : (nmAt ss i).size ≤ 1048576 := (HS.out.2 i hlt).1
            have hDT := HDT.out i b hlt hbl
            have hRA := HRA.out i b hlt hbl
            have i1 : (i : Int) < (ss.length : Int) := by omega
            have i0 : (0 : Int) ≤ (i : Int) := by omega
            clear hcc
            generalize nmAt ss i = N at pn hsz hDT hRA
            obtain ⟨t2, t1⟩ := hDT
            have HA := Lib.hid (fun a c W (h : ShAt W a ss) => implMdRead_any a c ss N (b : Int) W HS.out (by unfold maxLen; omega) h)
            have HC := Lib.hid (fun a c W (h : ShAt W a rs) => implMdRead_any a c rs N (b : Int) W HSr.out (by unfold maxLen; omega) h)
            rw [hRA] at HA
            rw [t2] at HC
            generalize readTo rs N (b : Int) = TC at HC t1
            generalize readTo ss N (b : Int) = TA at HA t1
            clear t2 hRA
            have pm : wr.cell? ⟨mm, 0, none⟩ = some (.slice (some ⟨bb, off, none⟩) ss.length cv) := Km.out.cell 0
            have pp : wr.cell? ⟨mp, 0, none⟩ = some (.slice a2 rs.length c2) := Kp.out.cell 0
            have px : wr.cell? ⟨mx, 0, none⟩ = some (.slice a3 rs.length c3) := Kx.out.cell 0
            have g1 := cell_regrown pm
            have g2 := cell_regrown pn
            have HAw := Lib.hid (fun w' (h : Below wr.heap.size wr w') => HA.out (some ⟨bb, off, none⟩) cv w' (Xm.out.below h))
            have HT1 := Lib.hid t1
            clear t1
            go_wp2_with fail
            clear pm px pp
            refine wp_region_quiet_below (by kernel_rfl) (by kernel_rfl) ?_
            repeat (go_big_quiet_step ((go_at_call 16; with_reducible exact Calls.regrown_of (HAw.out _ (below_regrown _ _ _)))))
            refine wpQuiet_nil ?_
            intro w8 hw8
            have hB : Below wr.heap.size wr w8 := by obtain ⟨z, rfl⟩ := hw8; exact below_regrown _ _ _
            have qn := cell_below hB pn
            have H8 : Hid (Below wo.heap.size wo w8) := below_trans hBi.out hB hBi.out.size
            replace Km := Lib.hid (Km.out.below hB Km.out.lt)
            replace Kp := Lib.hid (Kp.out.below hB Kp.out.lt)
            replace Kx := Lib.hid (Kx.out.below hB Kx.out.lt)
            replace Xm := Lib.hid (Xm.out.below hB)
            replace Xp := Lib.hid (Xp.out.below hB)
            replace Xx := Lib.hid (Xx.out.below hB)
            replace HB := Lib.hid (below_trans HB.out hB HB.out.size)
            clear hw8 hB g1 g2 HAw pn
            have pm : w8.cell? ⟨mm, 0, none⟩ = some (.slice (some ⟨bb, off, none⟩) ss.length cv) := Km.out.cell 0
            have pp : w8.cell? ⟨mp, 0, none⟩ = some (.slice a2 rs.length c2) := Kp.out.cell 0
            have px : w8.cell? ⟨mx, 0, none⟩ = some (.slice a3 rs.length c3) := Kx.out.cell 0
            have g1 := cell_regrown pm
            have g2 := cell_regrown qn
            have g3 := cell_regrown px
            have HCw := Lib.hid (fun w' (h : Below w8.heap.size w8 w') => HC.out a3 c3 w' (Xx.out.below h))
            go_wp2_with fail
            clear pm px pp
            refine wp_region_quiet_below (by kernel_rfl) (by kernel_rfl) ?_
            repeat (go_big_quiet_step ((go_at_call 16; with_reducible exact Calls.regrown_of (HCw.out _ (below_regrown _ _ _)))))
            refine wpQuiet_nil ?_
            intro w9 hw9
            have hB : Below w8.heap.size w8 w9 := by obtain ⟨z, rfl⟩ := hw9; exact below_regrown _ _ _
            have HB9 : Hid (Below wo.heap.size wo w9) := below_trans H8.out hB H8.out.size
            have pn := cell_below hB qn
            replace Km := Lib.hid (Km.out.below hB Km.out.lt)
            replace Kp := Lib.hid (Kp.out.below hB Kp.out.lt)
            replace Kx := Lib.hid (Kx.out.below hB Kx.out.lt)
            replace Xm := Lib.hid (Xm.out.below hB)
            replace Xp := Lib.hid (Xp.out.below hB)
            replace Xx := Lib.hid (Xx.out.below hB)
            replace HB := Lib.hid (below_trans HB.out hB HB.out.size)
            clear hw9 hB g1 g2 g3 HCw qn
            have pm : w9.cell? ⟨mm, 0, none⟩ = some (.slice (some ⟨bb, off, none⟩) ss.length cv) := Km.out.cell 0
            have h1 := HT1.out
            by_cases he : N = nm
            · have hd := text_yes he
              by_cases hq : (b : Int) = q
              · have dq : ((b : Int) == q) = true := by simp [hq]
                rw [if_pos ⟨he, hq⟩] at h1
                subst h1
                clear he hq
                go_wp2
                exact ⟨⟨b + 1, by go_num, by omega, HB9⟩, by simp [intOf]; omega⟩
              · have dq : ((b : Int) == q) = false := by simp [hq]
                rw [if_neg (fun c => hq c.2)] at h1
                subst h1
                clear he hq
                go_wp2
                exact ⟨⟨b + 1, by go_num, by omega, HB9⟩, by simp [intOf]; omega⟩
            · have hd := text_no he
              rw [if_neg (fun c => he c.1)] at h1
              subst h1
              clear he
              go_wp2
              exact ⟨⟨b + 1, by go_num, by omega, HB9⟩, by simp [intOf]; omega⟩
          · obtain rfl : b = 3 := by omega
            go_wp2
            exact ⟨⟨i + 1, by go_num, by omega, HBo⟩, by simp [intOf]; omega⟩
      · obtain rfl : i = ss.length := by omega
        have HO := Lib.hid (fun a c W (h : ShAt W a rs) => implMdOk_any a c rs W HSr.out h)
        rw [tt_true HF.out] at HO
        go_wp2_with fail
        clear pm pp px
        refine (HO.out a3 c3 _ Xx.out).mono ?_
        rintro e w5 ⟨rfl, hB⟩
        replace Km := Lib.hid (Km.out.below hB Km.out.lt)
        replace Kp := Lib.hid (Kp.out.below hB Kp.out.lt)
        replace Kx := Lib.hid (Kx.out.below hB Kx.out.lt)
        replace Xm := Lib.hid (Xm.out.below hB)
        replace Xp := Lib.hid (Xp.out.below hB)
        replace Xx := Lib.hid (Xx.out.below hB)
        replace HB := Lib.hid (below_trans HB.out hB HB.out.size)
        clear hB
        have pm : w5.cell? ⟨mm, 0, none⟩ = some (.slice av ss.length cv) := Km.out.cell 0
        have pp : w5.cell? ⟨mp, 0, none⟩ = some (.slice a2 rs.length c2) := Kp.out.cell 0
        have px : w5.cell? ⟨mx, 0, none⟩ = some (.slice a3 rs.length c3) := Kx.out.cell 0
        go_wp2
        go_ret
        exact ⟨rfl, HB.out⟩
  · have dc : (rc == 0) = false := by simp [hc]
    have dc' : (rc != 0) = true := by simp [hc]
    have pm : w4.cell? ⟨mm, 0, none⟩ = some (.slice av ss.length cv) := Km.out.cell 0
    have pp : w4.cell? ⟨mp, 0, none⟩ = some (.slice a2 rs.length c2) := Kp.out.cell 0
    have px : w4.cell? ⟨mx, 0, none⟩ = some (.slice a3 rs.length c3) := Kx.out.cell 0
    go_wp2_with fail
    clear pm pp px
    refine (lpaModel_same a3 a2 c3 c2 rs _ HSr.out Xx Xp).mono ?_
    rintro e w5 ⟨rfl, hB⟩
    replace Km := Lib.hid (Km.out.below hB Km.out.lt)
    replace Kp := Lib.hid (Kp.out.below hB Kp.out.lt)
    replace Kx := Lib.hid (Kx.out.below hB Kx.out.lt)
    replace Xm := Lib.hid (Xm.out.below hB)
    replace Xp := Lib.hid (Xp.out.below hB)
    replace Xx := Lib.hid (Xx.out.below hB)
    replace HB := Lib.hid (below_trans HB.out hB HB.out.size)
    clear hB
    have pm : w5.cell? ⟨mm, 0, none⟩ = some (.slice av ss.length cv) := Km.out.cell 0
    have pp : w5.cell? ⟨mp, 0, none⟩ = some (.slice a2 rs.length c2) := Kp.out.cell 0
    have px : w5.cell? ⟨mx, 0, none⟩ = some (.slice a3 rs.length c3) := Kx.out.cell 0
    go_wp2
    go_ret
    exact ⟨rfl, HB.out⟩

set_option maxRecDepth 100000 in
set_option maxHeartbeats 4000000 in
theorem walk (a0 : Option Addr) (len0 cap0 : Nat) (z0 : List Int) (w : World) (w0 : IsBytes w a0 len0 cap0 z0) :
    Calls Try.prog 3 #[.slice a0 len0 cap0] w fun e w' => e = .returned (.bool true) ∧ Below w.heap.size w w' := by
  by_cases h0 : len0 ≤ 1048576
  · exact main a0 len0 cap0 z0 w h0 w0
  · have d0 : decide (1048576 < (len0 : Int)) = true := by simp; omega
    have hl : len0 ≤ maxLen := by obtain ⟨h1, h2, _⟩ := w0.opened; omega
    unfold maxLen at hl
    clear w0
    go_enter Try.func3, Try.ntmps3
    go_wp2
    go_ret
    exact ⟨rfl, Below.refl _ _⟩

set_option maxRecDepth 100000 in
theorem lifted (os : Os) (started : os.Started) (H : Type) (enc : TypeId × Value → H) :
    ReturnsInHanded {} Try.checked os 3 .any (Rows.fnModelReadSpec.pre6 enc Try.prog Try.f3 Rows.fnModelReadRow.domain false) (Rows.fnModelReadSpec.post enc Try.prog Try.f3 false true false false) := by
  refine returnsInHanded_of_change (C := Try.checked) own started (by kernel_rfl) Try.func3
    (ChangeSpec.witness6 (enc := enc) (C := Try.checked) false ⟨#[], #[.slice none 0 0], []⟩ 8 (by kernel_rfl) (by kernel_rfl) (by kernel_rfl) (by kernel_rfl)) ?_
  intro W base args ds gs before hval0 hW hcnd _
  have hval : ∀ (j : Nat) t v, Try.f3.params[j]? = some t → args[j]? = some v → Value.okWide Try.prog W .any base t v := hval0
  have hW' := hW
  obtain ⟨p, q, hA0, hV, rfl, hfz, hnd⟩ := hW
  have hA : DataW.TrodAll enc Try.prog W 0 (fun _ => true) true Try.f3.params.toList args.toList ds p := hA0
  rw [Try.params3] at hA hval
  obtain ⟨v0, vs0, d0, ds0, p0, q0, hargs, rfl, rfl, h0, r0⟩ := trodAll_cons hA
  obtain ⟨rfl, rfl, rfl⟩ := trodAll_nil r0
  obtain rfl : args = #[v0] := by cases args; simp_all
  obtain ⟨rfl, rfl⟩ := trodVars_none hV
  have k0 := h0
  have lt0 : ∀ x ∈ p0, x.block < W.heap.size := by obtain ⟨m, hm⟩ := k0; exact DataW.trod_lt m _ _ _ hm
  obtain ⟨a0, len0, cap0, rfl⟩ := okWide_slice Try.underlying22 (hval 0 22 v0 rfl rfl)
  obtain ⟨z0, w0⟩ : ∃ zs, IsBytes W a0 len0 cap0 zs := by
    obtain ⟨fuel, hf⟩ := h0
    rcases open_ints Try.underlying22 Try.underlying5 (by kernel_rfl) hf with ⟨hcs, _⟩ | ⟨x, l, c, zs, hcs, _, hl, hm, hz, _, hcell, hwz⟩
    · simp [Value.cells] at hcs
      obtain ⟨rfl, rfl, rfl⟩ := hcs
      exact ⟨[], .inl ⟨rfl, rfl, rfl, rfl⟩⟩
    · simp [Value.cells] at hcs
      obtain ⟨rfl, rfl, rfl⟩ := hcs
      exact ⟨zs, .inr ⟨_, rfl, hl, hm, by simpa using hz, hcell, hwz⟩⟩
  clear hA0 hval0
  refine (walk a0 len0 cap0 z0 W w0).mono fun e W' ⟨he, bel⟩ => ?_
  subst he
  exact ⟨_, rfl, _, _, _, [], _, [], hW', trodAll_mk1 (shut_bool Try.underlying4 _), (trodAll_cons_mk (Below.trod laidOut (by kernel_rfl) (of_decide_eq_true (by kernel_rfl)) k0 bel lt0) trodAll_mk0), rfl, bel.frame _, fun h => by cases h⟩

theorem over : Rows.fnModelReadRow.holds Try.pinned (OpenSpec.ofChange Rows.fnModelReadSpec) :=
  OpenClaim.holds_of_wide 3 Try.f3 rfl rfl rfl rfl rfl rfl rfl ⟨rfl, rfl, rfl, rfl, rfl⟩ rfl rfl rfl rfl rfl (by kernel_rfl) Try.func3 (by kernel_rfl)
    (of_decide_eq_true (by kernel_rfl)) (by unfold Func.isWrapper; first | (rw [if_pos (by decide +kernel)]; kernel_rfl) | (rw [if_neg (by decide +kernel)]; exact ⟨rfl, rfl⟩))
    (fun os started H enc _ => lifted os started H enc)

end FnModelRead

theorem FnModelRead_holds : Rows.FnModelReadSaid := FnModelRead.over


end Go.Proofs.Ytmmckpjapnkepaa
