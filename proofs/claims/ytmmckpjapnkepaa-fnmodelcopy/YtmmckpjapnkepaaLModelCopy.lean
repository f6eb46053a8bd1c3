/- 'laws.FnModelCopy' returns true at every code: of a model in which a volume was copied both are read the same, and what is written to the one then is not in the other. Conditions: none. -/
import Derived.Test.YtmmckpjapnkepaaJE
import Derived.Test.YtmmckpjapnkepaaJG
import Derived.Test.YtmmckpjapnkepaaJI
import Derived.Test.YtmmckpjapnkepaaIF
import Derived.Test.YtmmckpjapnkepaaIN
import Derived.Test.YtmmckpjapnkepaaIO
import Derived.Test.YtmmckpjapnkepaaK
namespace Go.Proofs.Ytmmckpjapnkepaa
open Go.ChangeShapes Go.WideShapes Go.ChangeAt Go.RowKit Go.Sort
namespace FnModelCopy
set_option linter.unusedVariables false

set_option linter.unusedSimpArgs false in
set_option maxRecDepth 100000 in
set_option maxHeartbeats 4000000 in
theorem main (a : Option Addr) (len cap : Nat) (z0 : List Int) (w : World) (h0 : len ≤ 1048576) (H : Hid (IsBytes w a len cap z0)) :
    Calls Try.prog 4 #[.slice a len cap] w fun e w' => e = .returned (.bool true) ∧ Below w.heap.size w w' := by
  have d0 : decide (1048576 < (len : Int)) = false := by simp; omega
  go_enter Try.func4, Try.ntmps4
  go_wp2_with fail
  refine (DrawModelCopy_any a len cap z0 _ H.out).mono ?_
  rintro e w1 ⟨_, ss, fr, nm, rfl, ⟨⟨av, cv, rfl, _, _, hx⟩, h5, hs⟩, hfr, hnm, HB⟩
  have HS := Lib.hid hs
  replace HB := Lib.hid HB
  clear hs
  have hb : Below w1.heap.size w1 (w1.alloc (.cells #[.slice av ss.length cv] 25)) := (Below.refl _ _).alloc (Nat.le_refl _) _
  have Xm := Lib.hid (ShAt.below hx hb)
  replace HB := Lib.hid (below_trans HB.out hb HB.out.size)
  have Km := Lib.hid (Blk.new w1 #[.slice av ss.length cv] 25)
  have pm : (w1.alloc (.cells #[.slice av ss.length cv] 25)).cell? ⟨w1.heap.size, 0, none⟩ = some (.slice av ss.length cv) := Km.out.cell 0
  clear hb
  go_wp2_with fail
  clear pm
  generalize w1.alloc (.cells #[.slice av ss.length cv] 25) = w1b at Km Xm HB ⊢
  generalize w1.heap.size = mm at Km ⊢
  have HF := Lib.hid (copy_fine ss fr nm)
  obtain ⟨ot, hot, hos⟩ : ∃ t : ByteArray, t = ⟨#[111, 116, 104, 101, 114]⟩ ∧ t.size = 5 := ⟨_, rfl, rfl⟩
  have HD := Lib.hid (copy_stays (ss := ss) (fr := fr) (nm := nm) (t := ot) (by omega))
  have HSP := Lib.hid (specCopy_any av cv ss fr nm _ HS.out (by unfold maxLen; omega) Xm)
  have HIM := Lib.hid (fun a c W (h : ShAt W a ss) => implCopy_any a c ss fr nm W HS.out (by unfold maxLen; omega) hnm h)
  generalize hr : copyTo ss fr nm = r at HSP HIM HF HD
  have Hr := Lib.hid hr
  clear hr
  obtain ⟨rs, rc⟩ := r
  simp only at HF HD
  have HSr := Lib.hid (HF.out.small)
  have hr4 : rs.length ≤ 4 := HF.out.1
  have dne : ((rc : Int) != rc) = false := by simp
  have deq : ((rc : Int) == rc) = true := by simp
  refine (HSP.out).mono ?_
  rintro e w2 ⟨v2, rfl, hO, hB⟩
  obtain ⟨a2, c2, rfl, _⟩ := hO.reads
  have hx : ShAt w2 a2 rs := hO.reads.at
  replace Km := Lib.hid (Km.out.below hB Km.out.lt)
  replace Xm := Lib.hid (Xm.out.below hB)
  replace HB := Lib.hid (below_trans HB.out hB HB.out.size)
  clear hO hB
  have hb : Below w2.heap.size w2 (w2.alloc (.cells #[.slice a2 rs.length c2] 25)) := (Below.refl _ _).alloc (Nat.le_refl _) _
  have Xp := Lib.hid (ShAt.below hx hb)
  replace Km := Lib.hid (Km.out.below hb Km.out.lt)
  replace Xm := Lib.hid (Xm.out.below hb)
  replace HB := Lib.hid (below_trans HB.out hb HB.out.size)
  have Kp := Lib.hid (Blk.new w2 #[.slice a2 rs.length c2] 25)
  have pm : (w2.alloc (.cells #[.slice a2 rs.length c2] 25)).cell? ⟨mm, 0, none⟩ = some (.slice av ss.length cv) := Km.out.cell 0
  have pp : (w2.alloc (.cells #[.slice a2 rs.length c2] 25)).cell? ⟨w2.heap.size, 0, none⟩ = some (.slice a2 rs.length c2) := Kp.out.cell 0
  clear hb
  go_wp2_with fail
  clear pm pp
  generalize w2.alloc (.cells #[.slice a2 rs.length c2] 25) = w2b at Km Kp Xm Xp HB ⊢
  generalize w2.heap.size = mp at Kp ⊢
  refine (HIM.out av cv _ Xm.out).mono ?_
  rintro e w3 ⟨v3, rfl, hO, hB⟩
  obtain ⟨a3, c3, rfl, _⟩ := hO.reads
  have hx : ShAt w3 a3 rs := hO.reads.at
  replace Km := Lib.hid (Km.out.below hB Km.out.lt)
  replace Kp := Lib.hid (Kp.out.below hB Kp.out.lt)
  replace Xm := Lib.hid (Xm.out.below hB)
  replace Xp := Lib.hid (Xp.out.below hB)
  replace HB := Lib.hid (below_trans HB.out hB HB.out.size)
  clear hO hB
  have hb : Below w3.heap.size w3 (w3.alloc (.cells #[.slice a3 rs.length c3] 25)) := (Below.refl _ _).alloc (Nat.le_refl _) _
  have Xx := Lib.hid (ShAt.below hx hb)
  replace Km := Lib.hid (Km.out.below hb Km.out.lt)
  replace Kp := Lib.hid (Kp.out.below hb Kp.out.lt)
  replace Xm := Lib.hid (Xm.out.below hb)
  replace Xp := Lib.hid (Xp.out.below hb)
  replace HB := Lib.hid (below_trans HB.out hb HB.out.size)
  have Kx := Lib.hid (Blk.new w3 #[.slice a3 rs.length c3] 25)
  have pm : (w3.alloc (.cells #[.slice a3 rs.length c3] 25)).cell? ⟨mm, 0, none⟩ = some (.slice av ss.length cv) := Km.out.cell 0
  have pp : (w3.alloc (.cells #[.slice a3 rs.length c3] 25)).cell? ⟨mp, 0, none⟩ = some (.slice a2 rs.length c2) := Kp.out.cell 0
  have px : (w3.alloc (.cells #[.slice a3 rs.length c3] 25)).cell? ⟨w3.heap.size, 0, none⟩ = some (.slice a3 rs.length c3) := Kx.out.cell 0
  clear hb
  go_wp2_with fail
  clear pm pp px
  generalize w3.alloc (.cells #[.slice a3 rs.length c3] 25) = w3b at Km Kp Kx Xm Xp Xx HB ⊢
  generalize w3.heap.size = mx at Kx ⊢
  refine (lpaModel_same a3 a2 c3 c2 rs _ HSr.out Xx Xp).mono ?_
  rintro e w4 ⟨rfl, hB⟩
  replace Km := Lib.hid (Km.out.below hB Km.out.lt)
  replace Kp := Lib.hid (Kp.out.below hB Kp.out.lt)
  replace Kx := Lib.hid (Kx.out.below hB Kx.out.lt)
  replace Xm := Lib.hid (Xm.out.below hB)
  replace Xp := Lib.hid (Xp.out.below hB)
  replace Xx := Lib.hid (Xx.out.below hB)
  replace HB := Lib.hid (below_trans HB.out hB HB.out.size)
  clear hB
  by_cases hc : rc = 0
  · subst hc
    obtain ⟨hfm, hw0, hdt⟩ := HD.out rfl
    have HWr := Lib.hid (fun (t' : ByteArray) (he : t' = ot) a c W (h : ShAt W a rs) => show Calls Try.prog 14 #[.agg #[.slice a rs.length c], .string fr, .int .i64 0, .string t'] W (MdDone (writeTo rs fr 0 ot) W) from by subst he; exact implWrite_any a c rs fr 0 t' W HSr.out (by unfold maxLen; omega) (by omega) h)
    have HFy := Lib.hid (write_fine rs fr 0 ot)
    generalize writeTo rs fr 0 ot = r2 at HWr HFy hw0 hdt
    obtain ⟨ys, yc⟩ := r2
    simp only at HFy hw0 hdt
    subst hw0
    have HSy := Lib.hid HFy.out.small
    have hy4 : ys.length ≤ 4 := HFy.out.1
    have HDT := Lib.hid hdt
    clear hdt hfm HD
    have pm : w4.cell? ⟨mm, 0, none⟩ = some (.slice av ss.length cv) := Km.out.cell 0
    have pp : w4.cell? ⟨mp, 0, none⟩ = some (.slice a2 rs.length c2) := Kp.out.cell 0
    have px : w4.cell? ⟨mx, 0, none⟩ = some (.slice a3 rs.length c3) := Kx.out.cell 0
    go_wp2_with fail
    clear pm pp px
    refine (HWr.out _ hot.symm a3 c3 _ Xx.out).mono ?_
    rintro e w6 ⟨v6, rfl, hO, hB⟩
    obtain ⟨a6, c6, rfl, _⟩ := hO.reads
    have hx : ShAt w6 a6 ys := hO.reads.at
    replace Km := Lib.hid (Km.out.below hB Km.out.lt)
    replace Kp := Lib.hid (Kp.out.below hB Kp.out.lt)
    replace Kx := Lib.hid (Kx.out.below hB Kx.out.lt)
    replace Xm := Lib.hid (Xm.out.below hB)
    replace Xp := Lib.hid (Xp.out.below hB)
    replace Xx := Lib.hid (Xx.out.below hB)
    replace HB := Lib.hid (below_trans HB.out hB HB.out.size)
    clear hO hB
    have hb : Below w6.heap.size w6 (w6.alloc (.cells #[.slice a6 ys.length c6] 25)) := (Below.refl _ _).alloc (Nat.le_refl _) _
    have Xy := Lib.hid (ShAt.below hx hb)
    replace Km := Lib.hid (Km.out.below hb Km.out.lt)
    replace Kp := Lib.hid (Kp.out.below hb Kp.out.lt)
    replace Kx := Lib.hid (Kx.out.below hb Kx.out.lt)
    replace Xm := Lib.hid (Xm.out.below hb)
    replace Xp := Lib.hid (Xp.out.below hb)
    replace Xx := Lib.hid (Xx.out.below hb)
    replace HB := Lib.hid (below_trans HB.out hb HB.out.size)
    have Ky := Lib.hid (Blk.new w6 #[.slice a6 ys.length c6] 25)
    have pm : (w6.alloc (.cells #[.slice a6 ys.length c6] 25)).cell? ⟨mm, 0, none⟩ = some (.slice av ss.length cv) := Km.out.cell 0
    have pp : (w6.alloc (.cells #[.slice a6 ys.length c6] 25)).cell? ⟨mp, 0, none⟩ = some (.slice a2 rs.length c2) := Kp.out.cell 0
    have px : (w6.alloc (.cells #[.slice a6 ys.length c6] 25)).cell? ⟨mx, 0, none⟩ = some (.slice a3 rs.length c3) := Kx.out.cell 0
    have py : (w6.alloc (.cells #[.slice a6 ys.length c6] 25)).cell? ⟨w6.heap.size, 0, none⟩ = some (.slice a6 ys.length c6) := Ky.out.cell 0
    clear hb
    go_wp2_with fail
    clear pm pp px py
    generalize w6.alloc (.cells #[.slice a6 ys.length c6] 25) = w6b at Km Kp Kx Ky Xm Xp Xx Xy HB ⊢
    generalize w6.heap.size = my at Ky ⊢
    go_loopw [12] (fun s9 wr => ∃ b : Nat, s9 = .int .i64 (b : Int) ∧ b ≤ 3 ∧ Hid (Below w6b.heap.size w6b wr)) (fun s9 _ => 3 - (intOf s9).toNat)
    case atStart => exact ⟨0, rfl, by omega, Below.refl _ _⟩
    case round =>
      obtain ⟨b, rfl, hb, hBr⟩ := hrel
      have hB := hBr.out
      replace Km := Lib.hid (Km.out.below hB Km.out.lt)
      replace Kp := Lib.hid (Kp.out.below hB Kp.out.lt)
      replace Kx := Lib.hid (Kx.out.below hB Kx.out.lt)
      replace Ky := Lib.hid (Ky.out.below hB Ky.out.lt)
      replace Xm := Lib.hid (Xm.out.below hB)
      replace Xp := Lib.hid (Xp.out.below hB)
      replace Xx := Lib.hid (Xx.out.below hB)
      replace Xy := Lib.hid (Xy.out.below hB)
      replace HB := Lib.hid (below_trans HB.out hB HB.out.size)
      clear hB
      by_cases hlt : b < 3
      · obtain ⟨t1, t2, t3, t4, t5⟩ := HDT.out b hlt
        have HA := Lib.hid (fun a c W (h : ShAt W a rs) => implMdRead_any a c rs fr (b : Int) W HSr.out (by unfold maxLen; omega) h)
        have HC := Lib.hid (fun a c W (h : ShAt W a rs) => implMdRead_any a c rs nm (b : Int) W HSr.out (by unfold maxLen; omega) h)
        have HE := Lib.hid (fun a c W (h : ShAt W a ys) => implMdRead_any a c ys nm (b : Int) W HSy.out (by unfold maxLen; omega) h)
        rw [t1] at HA
        rw [t2, t4] at HC
        rw [t3, t5] at HE
        generalize readTo rs fr (b : Int) = T at HA HC HE
        clear t1 t2 t3 t4 t5
        have pm : wr.cell? ⟨mm, 0, none⟩ = some (.slice av ss.length cv) := Km.out.cell 0
        have pp : wr.cell? ⟨mp, 0, none⟩ = some (.slice a2 rs.length c2) := Kp.out.cell 0
        have px : wr.cell? ⟨mx, 0, none⟩ = some (.slice a3 rs.length c3) := Kx.out.cell 0
        have py : wr.cell? ⟨my, 0, none⟩ = some (.slice a6 ys.length c6) := Ky.out.cell 0
        go_wp2_with fail
        clear pm pp px py
        refine (HA.out a3 c3 _ Xx.out).mono ?_
        rintro e w7 ⟨rfl, hB⟩
        have H7 : Hid (Below w6b.heap.size w6b w7) := below_trans hBr.out hB hBr.out.size
        replace Km := Lib.hid (Km.out.below hB Km.out.lt)
        replace Kp := Lib.hid (Kp.out.below hB Kp.out.lt)
        replace Kx := Lib.hid (Kx.out.below hB Kx.out.lt)
        replace Ky := Lib.hid (Ky.out.below hB Ky.out.lt)
        replace Xm := Lib.hid (Xm.out.below hB)
        replace Xp := Lib.hid (Xp.out.below hB)
        replace Xx := Lib.hid (Xx.out.below hB)
        replace Xy := Lib.hid (Xy.out.below hB)
        replace HB := Lib.hid (below_trans HB.out hB HB.out.size)
        clear hB
        have pm : w7.cell? ⟨mm, 0, none⟩ = some (.slice av ss.length cv) := Km.out.cell 0
        have pp : w7.cell? ⟨mp, 0, none⟩ = some (.slice a2 rs.length c2) := Kp.out.cell 0
        have px : w7.cell? ⟨mx, 0, none⟩ = some (.slice a3 rs.length c3) := Kx.out.cell 0
        have py : w7.cell? ⟨my, 0, none⟩ = some (.slice a6 ys.length c6) := Ky.out.cell 0
        go_wp2_with fail
        clear pm pp px py
        refine (HC.out a3 c3 _ Xx.out).mono ?_
        rintro e w8 ⟨rfl, hB⟩
        have H8 : Hid (Below w6b.heap.size w6b w8) := below_trans H7.out hB H7.out.size
        replace Km := Lib.hid (Km.out.below hB Km.out.lt)
        replace Kp := Lib.hid (Kp.out.below hB Kp.out.lt)
        replace Kx := Lib.hid (Kx.out.below hB Kx.out.lt)
        replace Ky := Lib.hid (Ky.out.below hB Ky.out.lt)
        replace Xm := Lib.hid (Xm.out.below hB)
        replace Xp := Lib.hid (Xp.out.below hB)
        replace Xx := Lib.hid (Xx.out.below hB)
        replace Xy := Lib.hid (Xy.out.below hB)
        replace HB := Lib.hid (below_trans HB.out hB HB.out.size)
        clear hB
        have pm : w8.cell? ⟨mm, 0, none⟩ = some (.slice av ss.length cv) := Km.out.cell 0
        have pp : w8.cell? ⟨mp, 0, none⟩ = some (.slice a2 rs.length c2) := Kp.out.cell 0
        have px : w8.cell? ⟨mx, 0, none⟩ = some (.slice a3 rs.length c3) := Kx.out.cell 0
        have py : w8.cell? ⟨my, 0, none⟩ = some (.slice a6 ys.length c6) := Ky.out.cell 0
        go_wp2_with fail
        clear pm pp px py
        refine (HE.out a6 c6 _ Xy.out).mono ?_
        rintro e w9 ⟨rfl, hB⟩
        have H9 : Hid (Below w6b.heap.size w6b w9) := below_trans H8.out hB H8.out.size
        replace Km := Lib.hid (Km.out.below hB Km.out.lt)
        replace Kp := Lib.hid (Kp.out.below hB Kp.out.lt)
        replace Kx := Lib.hid (Kx.out.below hB Kx.out.lt)
        replace Ky := Lib.hid (Ky.out.below hB Ky.out.lt)
        replace Xm := Lib.hid (Xm.out.below hB)
        replace Xp := Lib.hid (Xp.out.below hB)
        replace Xx := Lib.hid (Xx.out.below hB)
        replace Xy := Lib.hid (Xy.out.below hB)
        replace HB := Lib.hid (below_trans HB.out hB HB.out.size)
        clear hB
        go_wp2
        exact ⟨⟨b + 1, by go_num, by omega, H9⟩, by simp [intOf]; omega⟩
      · obtain rfl : b = 3 := by omega
        have HO := Lib.hid (fun a c W (h : ShAt W a rs) => implMdOk_any a c rs W HSr.out h)
        rw [tt_true HF.out] at HO
        have pm : wr.cell? ⟨mm, 0, none⟩ = some (.slice av ss.length cv) := Km.out.cell 0
        have pp : wr.cell? ⟨mp, 0, none⟩ = some (.slice a2 rs.length c2) := Kp.out.cell 0
        have px : wr.cell? ⟨mx, 0, none⟩ = some (.slice a3 rs.length c3) := Kx.out.cell 0
        have py : wr.cell? ⟨my, 0, none⟩ = some (.slice a6 ys.length c6) := Ky.out.cell 0
        go_wp2_with fail
        clear pm pp px py
        refine (HO.out a3 c3 _ Xx.out).mono ?_
        rintro e w5 ⟨rfl, hB⟩
        replace Km := Lib.hid (Km.out.below hB Km.out.lt)
        replace Kp := Lib.hid (Kp.out.below hB Kp.out.lt)
        replace Kx := Lib.hid (Kx.out.below hB Kx.out.lt)
        replace Ky := Lib.hid (Ky.out.below hB Ky.out.lt)
        replace Xm := Lib.hid (Xm.out.below hB)
        replace Xp := Lib.hid (Xp.out.below hB)
        replace Xx := Lib.hid (Xx.out.below hB)
        replace Xy := Lib.hid (Xy.out.below hB)
        replace HB := Lib.hid (below_trans HB.out hB HB.out.size)
        clear hB
        have pm : w5.cell? ⟨mm, 0, none⟩ = some (.slice av ss.length cv) := Km.out.cell 0
        have pp : w5.cell? ⟨mp, 0, none⟩ = some (.slice a2 rs.length c2) := Kp.out.cell 0
        have px : w5.cell? ⟨mx, 0, none⟩ = some (.slice a3 rs.length c3) := Kx.out.cell 0
        have py : w5.cell? ⟨my, 0, none⟩ = some (.slice a6 ys.length c6) := Ky.out.cell 0
        go_wp2
        go_ret
        exact ⟨rfl, HB.out⟩
  · have dc : (rc == 0) = false := by simp [hc]
    have dc' : (rc != 0) = true := by simp [hc]
    have pm : w4.cell? ⟨mm, 0, none⟩ = some (.slice av ss.length cv) := Km.out.cell 0
    have pp : w4.cell? ⟨mp, 0, none⟩ = some (.slice a2 rs.length c2) := Kp.out.cell 0
    have px : w4.cell? ⟨mx, 0, none⟩ = some (.slice a3 rs.length c3) := Kx.out.cell 0
    go_wp2_with fail
    clear pm pp px
    refine (lpaModel_same a3 a2 c3 c2 rs _ HSr.out Xx Xp).mono ?_
    rintro e w5 ⟨rfl, hB⟩
    replace Km := Lib.hid (Km.out.below hB Km.out.lt)
    replace Kp := Lib.hid (Kp.out.below hB Kp.out.lt)
    replace Kx := Lib.hid (Kx.out.below hB Kx.out.lt)
    replace Xm := Lib.hid (Xm.out.below hB)
    replace Xp := Lib.hid (Xp.out.below hB)
    replace Xx := Lib.hid (Xx.out.below hB)
    replace HB := Lib.hid (below_trans HB.out hB HB.out.size)
    clear hB
    have pm : w5.cell? ⟨mm, 0, none⟩ = some (.slice av ss.length cv) := Km.out.cell 0
    have pp : w5.cell? ⟨mp, 0, none⟩ = some (.slice a2 rs.length c2) := Kp.out.cell 0
    have px : w5.cell? ⟨mx, 0, none⟩ = some (.slice a3 rs.length c3) := Kx.out.cell 0
    go_wp2
    go_ret
    exact ⟨rfl, HB.out⟩

set_option maxRecDepth 100000 in
set_option maxHeartbeats 4000000 in
theorem walk (a0 : Option Addr) (len0 cap0 : Nat) (z0 : List Int) (w : World) (w0 : IsBytes w a0 len0 cap0 z0) :
    Calls Try.prog 4 #[.slice a0 len0 cap0] w fun e w' => e = .returned (.bool true) ∧ Below w.heap.size w w' := by
  by_cases h0 : len0 ≤ 1048576
  · exact main a0 len0 cap0 z0 w h0 w0
  · have d0 : decide (1048576 < (len0 : Int)) = true := by simp; omega
    have hl : len0 ≤ maxLen := by obtain ⟨h1, h2, _⟩ := w0.opened; omega
    unfold maxLen at hl
    clear w0
    go_enter Try.func4, Try.ntmps4
    go_wp2
    go_ret
    exact ⟨rfl, Below.refl _ _⟩

set_option maxRecDepth 100000 in
theorem lifted (os : Os) (started : os.Started) (H : Type) (enc : TypeId × Value → H) :
    ReturnsInHanded {} Try.checked os 4 .any (Rows.fnModelCopySpec.pre6 enc Try.prog Try.f4 Rows.fnModelCopyRow.domain false) (Rows.fnModelCopySpec.post enc Try.prog Try.f4 false true false false) := by
  refine returnsInHanded_of_change (C := Try.checked) own started (by kernel_rfl) Try.func4
    (ChangeSpec.witness6 (enc := enc) (C := Try.checked) false ⟨#[], #[.slice none 0 0], []⟩ 8 (by kernel_rfl) (by kernel_rfl) (by kernel_rfl) (by kernel_rfl)) ?_
  intro W base args ds gs before hval0 hW hcnd _
  have hval : ∀ (j : Nat) t v, Try.f4.params[j]? = some t → args[j]? = some v → Value.okWide Try.prog W .any base t v := hval0
  have hW' := hW
  obtain ⟨p, q, hA0, hV, rfl, hfz, hnd⟩ := hW
  have hA : DataW.TrodAll enc Try.prog W 0 (fun _ => true) true Try.f4.params.toList args.toList ds p := hA0
  rw [Try.params4] at hA hval
  obtain ⟨v0, vs0, d0, ds0, p0, q0, hargs, rfl, rfl, h0, r0⟩ := trodAll_cons hA
  obtain ⟨rfl, rfl, rfl⟩ := trodAll_nil r0
  obtain rfl : args = #[v0] := by cases args; simp_all
  obtain ⟨rfl, rfl⟩ := trodVars_none hV
  have k0 := h0
  have lt0 : ∀ x ∈ p0, x.block < W.heap.size := by obtain ⟨m, hm⟩ := k0; exact DataW.trod_lt m _ _ _ hm
  obtain ⟨a0, len0, cap0, rfl⟩ := okWide_slice Try.underlying22 (hval 0 22 v0 rfl rfl)
  obtain ⟨z0, w0⟩ : ∃ zs, IsBytes W a0 len0 cap0 zs := by
    obtain ⟨fuel, hf⟩ := h0
    rcases open_ints Try.underlying22 Try.underlying5 (by kernel_rfl) hf with ⟨hcs, _⟩ | ⟨x, l, c, zs, hcs, _, hl, hm, hz, _, hcell, hwz⟩
    · simp [Value.cells] at hcs
      obtain ⟨rfl, rfl, rfl⟩ := hcs
      exact ⟨[], .inl ⟨rfl, rfl, rfl, rfl⟩⟩
    · simp [Value.cells] at hcs
      obtain ⟨rfl, rfl, rfl⟩ := hcs
      exact ⟨zs, .inr ⟨_, rfl, hl, hm, by simpa using hz, hcell, hwz⟩⟩
  clear hA0 hval0
  refine (walk a0 len0 cap0 z0 W w0).mono fun e W' ⟨he, bel⟩ => ?_
  subst he
  exact ⟨_, rfl, _, _, _, [], _, [], hW', trodAll_mk1 (shut_bool Try.underlying4 _), (trodAll_cons_mk (Below.trod laidOut (by kernel_rfl) (of_decide_eq_true (by kernel_rfl)) k0 bel lt0) trodAll_mk0), rfl, bel.frame _, fun h => by cases h⟩

theorem over : Rows.fnModelCopyRow.holds Try.pinned (OpenSpec.ofChange Rows.fnModelCopySpec) :=
  OpenClaim.holds_of_wide 4 Try.f4 rfl rfl rfl rfl rfl rfl rfl ⟨rfl, rfl, rfl, rfl, rfl⟩ rfl rfl rfl rfl rfl (by kernel_rfl) Try.func4 (by kernel_rfl)
    (of_decide_eq_true (by kernel_rfl)) (by unfold Func.isWrapper; first | (rw [if_pos (by decide +kernel)]; kernel_rfl) | (rw [if_neg (by decide +kernel)]; exact ⟨rfl, rfl⟩))
    (fun os started H enc _ => lifted os started H enc)

end FnModelCopy

theorem FnModelCopy_holds : Rows.FnModelCopySaid := FnModelCopy.over


end Go.Proofs.Ytmmckpjapnkepaa
