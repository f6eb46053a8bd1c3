/- 'laws.FnExactModelDrop' returns true at every model: ModelDrop of the program answers as ModelDrop of the specification, and changes no argument. Conditions: none. -/
import Derived.Test.YtmmckpjapnkepaaK
import Derived.Test.YtmmckpjapnkepaaI8
import Derived.Test.YtmmckpjapnkepaaIS
import Derived.Test.YtmmckpjapnkepaaIH
import Derived.Test.YtmmckpjapnkepaaIJ
namespace Go.Proofs.Ytmmckpjapnkepaa
open Go.ChangeShapes Go.WideShapes Go.ChangeAt Go.RowKit Go.Sort
open Go.ChangeMaps (open_string)
namespace FnExactModelDrop
set_option linter.unusedVariables false

set_option maxRecDepth 100000 in
set_option maxHeartbeats 4000000 in
theorem walk (a : Option Addr) (c : Nat) (ss : List ShD) (nm : ByteArray) (w : World) (hx : Hid (ShAt w a ss)) (hb : MdBd ss) (hn_nm : nm.size ≤ maxLen) :
    Calls Try.prog 8 #[.agg #[.slice a ss.length c], .string nm] w fun e w' => e = .returned (.bool true) ∧ Below w.heap.size w w' := by
  have Hb := Lib.hid hb
  clear hb
  have HB0 : Hid (Below w.heap.size w (w.alloc (.cells #[.slice a ss.length c] 46))) := (Below.refl _ _).alloc (Nat.le_refl _) _
  have K0 := Lib.hid (Blk.new w #[.slice a ss.length c] 46)
  unfold maxLen at hn_nm
  by_cases hbig_nm : 1048576 < nm.size
  · have dn : decide (1048576 < (nm.size : Int)) = true := by simp; omega
    clear hn_nm hbig_nm
    go_enter Try.func8, Try.ntmps8
    go_wp2
    go_ret
    exact ⟨rfl, HB0.out⟩
  have dn_nm : decide (1048576 < (nm.size : Int)) = false := by simp; omega
  have Hn_nm : Hid (nm.size ≤ 1048576) := by show nm.size ≤ 1048576; omega
  clear hbig_nm
  clear hn_nm
  go_enter Try.func8, Try.ntmps8
  go_wp2_with fail
  generalize w.alloc (.cells #[.slice a ss.length c] 46) = w0 at HB0 K0 ⊢
  refine (szModel_any a c 1048576 ss _ Hb.out (Nat.le_refl _) (hx.out.below HB0.out)).mono ?_
  rintro e w1 ⟨he, hB1⟩
  have HB1 := Lib.hid (below_trans HB0.out hB1 HB0.out.size)
  have K1 := Lib.hid (K0.out.below hB1 K0.out.lt)
  have p0 : w1.cell? ⟨w.heap.size, 0, none⟩ = some (.slice a ss.length c) := K1.out.cell 0
  clear hB1
  rcases he with rfl | ⟨r, rfl, hr, hsm⟩
  · go_wp2
    go_ret
    exact ⟨rfl, HB1.out⟩
  · have d0 : decide ((r : Int) < 0) = false := by simp
    have HS := Lib.hid hsm
    clear hr hsm
    go_wp2_with fail
    refine (toModel_any a c ss _ HS (hx.out.below HB1.out)).mono ?_
    rintro e w2 ⟨b2, c2, rfl, ho2, hB2⟩
    have HV2 := Lib.hid ho2.reads.at
    have K2 := Lib.hid (K1.out.below hB2 K1.out.lt)
    have HB2 := Lib.hid (below_trans HB1.out hB2 HB1.out.size)
    clear ho2 hB2 p0
    have HSP := Lib.hid (specDrop_any b2 c2 ss nm w2 HS.out HV2)
    have HIM := Lib.hid (fun b4 c4 W (h : ShAt W b4 ss) => implDrop_any b4 c4 ss nm W HS.out (by have := Hn_nm.out; unfold maxLen; omega) h)
    have HF := Lib.hid (drop_fine ss nm)
    generalize dropTo ss nm = r at HSP HIM HF
    obtain ⟨rs, rc⟩ := r
    have HSr := Lib.hid (HF.out.small)
    have H3 := Lib.hid (HF.out.three)
    have hr4 : rs.length ≤ 4 := HF.out.1
    go_wp2_with fail
    refine HSP.out.mono ?_
    rintro e w3 ⟨v3, rfl, hO3, hB3⟩
    obtain ⟨a3, c3, rfl, _⟩ := hO3.reads
    have HO3 := Lib.hid hO3
    have HB3 := Lib.hid (below_trans HB2.out hB3 HB2.out.size)
    have hBw : Below w3.heap.size w3 (w3.alloc (.cells #[.slice a3 rs.length c3] 25)) := (Below.refl _ _).alloc (Nat.le_refl _) _
    have HBw3 := Lib.hid hBw
    have Kw := Lib.hid (Blk.new w3 #[.slice a3 rs.length c3] 25)
    have Ka := Lib.hid ((K2.out.below hB3 K2.out.lt).below hBw (K2.out.below hB3 K2.out.lt).lt)
    have HBw := Lib.hid (below_trans HB3.out hBw HB3.out.size)
    have hsw : w3.heap.size + 1 = (w3.alloc (.cells #[.slice a3 rs.length c3] 25)).heap.size := by simp
    have Hsw := Lib.hid hsw
    have p0 : (w3.alloc (.cells #[.slice a3 rs.length c3] 25)).cell? ⟨w.heap.size, 0, none⟩ = some (.slice a ss.length c) := Ka.out.cell 0
    clear hO3 hB3 hBw hsw
    go_wp2_with fail
    generalize w3.alloc (.cells #[.slice a3 rs.length c3] 25) = w3b at HBw3 Kw Ka HBw Hsw p0 ⊢
    refine (toModel_any a c ss _ HS (hx.out.below HBw.out)).mono ?_
    rintro e w4 ⟨b4, c4, rfl, ho4, hB4⟩
    have hBx : Below w4.heap.size w4 (w4.alloc (.cells #[.slice b4 ss.length c4] 25)) := (Below.refl _ _).alloc (Nat.le_refl _) _
    have HSh := Lib.hid ((ho4.shape HS.out).mk (Mk.of_below hBx hB4.size))
    have HVx := Lib.hid ((ho4.below hBx).reads.at)
    have HBx4 := Lib.hid (below_trans hB4 hBx hB4.size)
    have HB4 := Lib.hid (below_trans HBw.out HBx4.out HBw.out.size)
    have Kx := Lib.hid (Blk.new w4 #[.slice b4 ss.length c4] 25)
    have Kw4 := Lib.hid (Kw.out.below HBx4.out Kw.out.lt)
    have Ka4 := Lib.hid (Ka.out.below HBx4.out Ka.out.lt)
    have hlh : w3b.heap.size ≤ w4.heap.size := hB4.size
    have Hlh := Lib.hid hlh
    have hsx : w4.heap.size + 1 = (w4.alloc (.cells #[.slice b4 ss.length c4] 25)).heap.size := by simp
    have Hsx := Lib.hid hsx
    clear ho4 hB4 hBx p0 hlh hsx
    go_wp2_with fail
    generalize w4.alloc (.cells #[.slice b4 ss.length c4] 25) = w4b at HSh HVx HBx4 HB4 Kx Kw4 Ka4 Hsx ⊢
    refine (HIM.out b4 c4 w4b HVx.out).mono ?_
    rintro e w5 ⟨v5, rfl, hO5, hB5⟩
    obtain ⟨a5, c5, rfl, _⟩ := hO5.reads
    have hBg : Below w5.heap.size w5 (w5.alloc (.cells #[.slice a5 rs.length c5] 25)) := (Below.refl _ _).alloc (Nat.le_refl _) _
    have HB45 := Lib.hid (below_trans hB5 hBg hB5.size)
    have HB5 := Lib.hid (below_trans HB4.out HB45.out HB4.out.size)
    have HO5 := Lib.hid (hO5.below hBg)
    have Kg := Lib.hid (Blk.new w5 #[.slice a5 rs.length c5] 25)
    have Kx5 := Lib.hid (Kx.out.below HB45.out Kx.out.lt)
    have Kw5 := Lib.hid (Kw4.out.below HB45.out Kw4.out.lt)
    have Ka5 := Lib.hid (Ka4.out.below HB45.out Ka4.out.lt)
    have HB3w := Lib.hid (below_trans HBw3.out (below_trans HBx4.out HB45.out HBx4.out.size) HBw3.out.size)
    have m1 : (w5.alloc (.cells #[.slice a5 rs.length c5] 25)).cell? ⟨w5.heap.size, 0, none⟩ = some (.slice a5 rs.length c5) := Kg.out.cell 0
    have m2 : (w5.alloc (.cells #[.slice a5 rs.length c5] 25)).cell? ⟨w3.heap.size, 0, none⟩ = some (.slice a3 rs.length c3) := Kw5.out.cell 0
    have Hg5 : Hid (w4b.heap.size ≤ w5.heap.size) := hB5.size
    clear hO5 hB5 hBg
    have dne : ((rc : Int) != rc) = false := by simp
    go_wp2_with fail
    generalize w5.alloc (.cells #[.slice a5 rs.length c5] 25) = w5b at HB45 HB5 HO5 Kg Kx5 Kw5 Ka5 HB3w m1 m2 ⊢
    refine (eqModel_same _ _ _ _ rs _ HSr.out (HO5.out.reads.at) ((HO3.out.below HB3w.out).reads.at)).mono ?_
    rintro e w6 ⟨rfl, hB6⟩
    have HB56 := Lib.hid (below_trans HB45.out hB6 HB45.out.size)
    have HB6 := Lib.hid (below_trans HB5.out hB6 HB5.out.size)
    have HO6 := Lib.hid (HO5.out.below hB6)
    have Kg6 := Lib.hid (Kg.out.below hB6 Kg.out.lt)
    have Kx6 := Lib.hid (Kx5.out.below hB6 Kx5.out.lt)
    have Kw6 := Lib.hid (Kw5.out.below hB6 Kw5.out.lt)
    have Ka6 := Lib.hid (Ka5.out.below hB6 Ka5.out.lt)
    have HB36 := Lib.hid (below_trans HB3w.out hB6 HB3w.out.size)
    have p0 : w6.cell? ⟨w.heap.size, 0, none⟩ = some (.slice a ss.length c) := Ka6.out.cell 0
    have q0 : w6.cell? ⟨w4.heap.size, 0, none⟩ = some (.slice b4 ss.length c4) := Kx6.out.cell 0
    clear hB6 m1 m2
    have HBd : Hid (Below w.heap.size w w6.drew) := HB6.out.drew
    have HVd : Hid (ShAt w6.drew b4 ss) := (HVx.out.below HB56.out).below ((Below.refl _ _).drew)
    have HB6d : Hid (Below w6.heap.size w6 w6.drew) := (Below.refl _ _).drew
    go_wp2_with fail
    go_region_held3 (fun w' => w'.cell? ⟨w.heap.size, 0, none⟩ = some (.slice a ss.length c) ∧ w'.cell? ⟨w4.heap.size, 0, none⟩ = some (.slice b4 ss.length c4)) (first | go_keep | exact hc7 | exact hc6)
      (first
        | (go_at_call 28; refine (toModel_any a c ss _ HS (hx.out.below HBd.out)).mono ?_; rintro e wA ⟨b6, c6, rfl, ho6, hB6⟩; have HV6 := Lib.hid ho6.reads.at; have HV56 := Lib.hid (HVd.out.below hB6); have HB6A := Lib.hid (below_trans HB6d.out hB6 HB6d.out.size); have hc6 := (⟨cell_below hB6 p0, cell_below hB6 q0⟩ : wA.cell? ⟨w.heap.size, 0, none⟩ = some (.slice a ss.length c) ∧ wA.cell? ⟨w4.heap.size, 0, none⟩ = some (.slice b4 ss.length c4)); clear ho6 hB6)
        | (go_at_call 29; refine (eqModel_same _ _ _ _ ss _ HS.out HV56 HV6).mono ?_; rintro e w8 ⟨rfl, hB7⟩; have hc7 := (⟨cell_below hB7 hc6.1, cell_below hB7 hc6.2⟩ : w8.cell? ⟨w.heap.size, 0, none⟩ = some (.slice a ss.length c) ∧ w8.cell? ⟨w4.heap.size, 0, none⟩ = some (.slice b4 ss.length c4)); have HB68 := Lib.hid (below_trans HB6A.out hB7 HB6A.out.size); clear hB7))
    all_goals
      have HB48 := Lib.hid (below_trans HB56.out HB68.out HB56.out.size)
      have HB8 := Lib.hid (below_trans HB6.out HB68.out HB6.out.size)
      have HB38 := Lib.hid (below_trans HB36.out HB68.out HB36.out.size)
      have HO8 := Lib.hid (HO6.out.below HB68.out)
      have Kg8 := Lib.hid (Kg6.out.below HB68.out Kg6.out.lt)
      have Kx8 := Lib.hid (Kx6.out.below HB68.out Kx6.out.lt)
      have Kw8 := Lib.hid (Kw6.out.below HB68.out Kw6.out.lt)
      have Ka8 := Lib.hid (Ka6.out.below HB68.out Ka6.out.lt)
      have hle : w3b.heap.size ≤ w4b.heap.size := by have := Hlh.out; have := Hsx.out; omega
      have Hle := Lib.hid hle
      have HSh8 := Lib.hid (HSh.out.mk (Mk.of_below HB48.out hle))
      have hl8 : w3b.heap.size ≤ w8.heap.size := Nat.le_trans hle HB48.out.size
      have HMk := Lib.hid (markMd_mk w3b.heap.size w4.heap.size b4 ss.length c4 w8 hl8 HS.out.1 HSh8)
      have x8 : w8.cell? ⟨w4.heap.size, 0, none⟩ = some (.slice b4 ss.length c4) := Kx8.out.cell 0
      clear hc7 hc6 hle hl8 p0 q0
      go_wp2_with fail
      refine HMk.out.mono ?_
      rintro e w9 ⟨⟨r9, rfl⟩, hM⟩
      have HM9 := Lib.hid hM
      have HO9 := Lib.hid (HO8.out.mkLow hM (fun i cs t fr hb _ => .inr (by have := Hsx.out; omega)))
      have HL9 := Lib.hid (HB38.out.trans (hM.low.mono (show w3.heap.size ≤ w3b.heap.size by have := Hsw.out; omega)))
      have HV39 := Lib.hid ((HO3.out.below HL9.out).reads.at)
      have g9 : w9.cell? ⟨w5.heap.size, 0, none⟩ = some (.slice a5 rs.length c5) := hM.sl (Kg8.out.cell 0)
      have s9 : w9.cell? ⟨w3.heap.size, 0, none⟩ = some (.slice a3 rs.length c3) := hM.sl (Kw8.out.cell 0)
      have HB9 := Lib.hid (HB8.out.trans (hM.low.mono (by have := HBw.out.size; omega)))
      have Kg9 : Hid (Blk w9 w5.heap.size #[.slice a5 rs.length c5] 25) := (hM.high _ (by have := Hg5.out; have := Hsx.out; omega) Kg8.out.lt).trans Kg8.out
      have Kw9 : Hid (Blk w9 w3.heap.size #[.slice a3 rs.length c3] 25) := (hM.low.block _ (by have := Hsw.out; omega)).trans Kw8.out
      have Ka9 : Hid (Blk w9 w.heap.size #[.slice a ss.length c] 46) := (hM.low.block _ (by have := Hsw.out; have := HB3.out.size; omega)).trans Ka8.out
      have hs9 : w4b.heap.size ≤ w9.heap.size := Nat.le_trans HB48.out.size hM.low.size
      have Hs9 := Lib.hid hs9
      have d9 : decide ((r9 : Int) < 0) = false := by simp
      clear hM x8 hs9
      go_wp2_with fail
      refine (eqModel_same _ _ _ _ rs _ HSr.out (HO9.out.reads.at) HV39).mono ?_
      rintro e wB ⟨rfl, hBB⟩
      have HOB := Lib.hid (HO9.out.below hBB)
      have HBB := Lib.hid (below_trans HB9.out hBB HB9.out.size)
      have HLB := Lib.hid (below_trans HL9.out hBB HL9.out.size)
      have KgB := Lib.hid (Kg9.out.below hBB Kg9.out.lt)
      have KwB := Lib.hid (Kw9.out.below hBB Kw9.out.lt)
      have KaB := Lib.hid (Ka9.out.below hBB Ka9.out.lt)
      have HMo := Lib.hid (markMd_own w4b.heap.size a5 c5 rs wB (Nat.le_trans Hs9.out hBB.size) (by omega) H3.out HOB.out)
      have gB : wB.cell? ⟨w5.heap.size, 0, none⟩ = some (.slice a5 rs.length c5) := KgB.out.cell 0
      have hsB : w4b.heap.size ≤ wB.heap.size := Nat.le_trans Hs9.out hBB.size
      have HsB := Lib.hid hsB
      clear hBB g9 s9 hsB
      generalize hm4 : 1 + 4 * rs.length = m4 at HMo
      have Hm4 := Lib.hid hm4
      clear hm4
      go_wp2_with fail
      refine HMo.out.mono ?_
      rintro e wC ⟨rfl, hBC, hOC, hTC⟩
      have HOC := Lib.hid hOC
      have KgC := Lib.hid (hTC _ _ _ (by decide) (by decide) KgB.out)
      have KwC := Lib.hid (hTC _ _ _ (by decide) (by decide) KwB.out)
      have KaC := Lib.hid (hTC _ _ _ (by decide) (by decide) KaB.out)
      have hb4 : w.heap.size ≤ w4b.heap.size := HB4.out.size
      have HBC := Lib.hid (HBB.out.trans (hBC.mono hb4))
      have hb5 : w3.heap.size ≤ w4b.heap.size := by have := Hsw.out; have := Hle.out; omega
      have HLC := Lib.hid (HLB.out.trans (hBC.mono hb5))
      have HH := Lib.hid (fun W (h : Below wC.heap.size wC W) => heldMd_any a5 c5 rs W (by omega) ((hOC.below h).reads.at))
      rw [Hm4.out] at HH
      have gC : wC.cell? ⟨w5.heap.size, 0, none⟩ = some (.slice a5 rs.length c5) := KgC.out.cell 0
      clear hBC hOC hTC gB hb4 hb5
      go_wp2_with fail
      refine (HH.out _ (Below.refl _ _)).mono ?_
      rintro e wD ⟨rfl, hBD⟩
      have HBCD := Lib.hid hBD
      have HBD := Lib.hid (below_trans HBC.out hBD HBC.out.size)
      have KgD := Lib.hid (KgC.out.below hBD KgC.out.lt)
      have KwD := Lib.hid (KwC.out.below hBD KwC.out.lt)
      have KaD := Lib.hid (KaC.out.below hBD KaC.out.lt)
      have pD : wD.cell? ⟨w.heap.size, 0, none⟩ = some (.slice a ss.length c) := KaD.out.cell 0
      have dm0 : decide ((m4 : Int) < 0) = false := by simp
      have dm1 : ((m4 : Int) != (m4 : Int)) = false := by simp
      clear hBD gC
      go_wp2_with fail
      refine (toModel_any a c ss _ HS (hx.out.below HBD.out)).mono ?_
      rintro e wE ⟨bE, cE, rfl, hoE, hBE⟩
      have HVE := Lib.hid hoE.reads.at
      have HBDE := Lib.hid hBE
      clear hoE hBE pD
      go_wp2_with fail
      refine (HIM.out bE cE wE HVE.out).mono ?_
      rintro e wF ⟨vF, rfl, hOF, hBF⟩
      obtain ⟨aF, cF, rfl, _⟩ := hOF.reads
      have hBh : Below wF.heap.size wF (wF.alloc (.cells #[.slice aF rs.length cF] 25)) := (Below.refl _ _).alloc (Nat.le_refl _) _
      have HDF := Lib.hid (below_trans HBDE.out (below_trans hBF hBh hBF.size) HBDE.out.size)
      have HOF := Lib.hid ((hOF.below hBh).reads.at)
      have Kh := Lib.hid (Blk.new wF #[.slice aF rs.length cF] 25)
      have KgF := Lib.hid (KgD.out.below HDF.out KgD.out.lt)
      have KwF := Lib.hid (KwD.out.below HDF.out KwD.out.lt)
      have h0 : (wF.alloc (.cells #[.slice aF rs.length cF] 25)).cell? ⟨wF.heap.size, 0, none⟩ = some (.slice aF rs.length cF) := Kh.out.cell 0
      have s0 : (wF.alloc (.cells #[.slice aF rs.length cF] 25)).cell? ⟨w3.heap.size, 0, none⟩ = some (.slice a3 rs.length c3) := KwF.out.cell 0
      have HLF := Lib.hid (below_trans HLC.out (below_trans HBCD.out HDF.out HBCD.out.size) HLC.out.size)
      have HV3F := Lib.hid ((HO3.out.below HLF.out).reads.at)
      clear hOF hBF hBh
      go_wp2_with fail
      generalize wF.alloc (.cells #[.slice aF rs.length cF] 25) = wG at HDF HOF Kh KgF KwF h0 s0 HV3F ⊢
      refine (eqModel_same _ _ _ _ rs _ HSr.out HOF HV3F).mono ?_
      rintro e wH ⟨rfl, hBH⟩
      have KgH := Lib.hid (KgF.out.below hBH KgF.out.lt)
      have gH : wH.cell? ⟨w5.heap.size, 0, none⟩ = some (.slice a5 rs.length c5) := KgH.out.cell 0
      have HCH := Lib.hid (below_trans (below_trans HBCD.out HDF.out HBCD.out.size) hBH (Nat.le_trans HBCD.out.size HDF.out.size))
      have HBH := Lib.hid (below_trans HBC.out HCH.out HBC.out.size)
      clear hBH h0 s0
      go_wp2_with fail
      refine (HH.out _ HCH.out).mono ?_
      rintro e wI ⟨rfl, hBI⟩
      have HBI := Lib.hid (below_trans HBH.out hBI HBH.out.size)
      clear hBI gH
      go_wp2
      go_ret
      exact ⟨rfl, HBI.out⟩

set_option maxRecDepth 100000 in
theorem lifted (os : Os) (started : os.Started) (H : Type) (enc : TypeId × Value → H) :
    ReturnsInHanded {} Try.checked os 8 .any (Rows.fnExactModelDropSpec.pre6 enc Try.prog Try.f8 Rows.fnExactModelDropRow.domain false) (Rows.fnExactModelDropSpec.post enc Try.prog Try.f8 false true false false) := by
  refine returnsInHanded_of_change (C := Try.checked) own started (by kernel_rfl) Try.func8
    (ChangeSpec.witness6 (enc := enc) (C := Try.checked) false ⟨#[], #[.agg #[.slice none 0 0], .string ByteArray.empty], []⟩ 8 (by kernel_rfl) (by kernel_rfl) (by kernel_rfl) (by kernel_rfl)) ?_
  intro W base args ds gs before hval0 hW hcnd _
  have hval : ∀ (j : Nat) t v, Try.f8.params[j]? = some t → args[j]? = some v → Value.okWide Try.prog W .any base t v := hval0
  have hW' := hW
  obtain ⟨p, q, hA0, hV, rfl, hfz, hnd⟩ := hW
  have hA : DataW.TrodAll enc Try.prog W 0 (fun _ => true) true Try.f8.params.toList args.toList ds p := hA0
  rw [Try.params8] at hA hval
  obtain ⟨v0, vs0, d0, ds0, p0, q0, hargs, rfl, rfl, h0, r0⟩ := trodAll_cons hA
  obtain ⟨v1, vs1, d1, ds1, p1, q1, rfl, rfl, rfl, h1, r1⟩ := trodAll_cons r0
  obtain ⟨rfl, rfl, rfl⟩ := trodAll_nil r1
  obtain rfl : args = #[v0, v1] := by cases args; simp_all
  obtain ⟨rfl, rfl⟩ := trodVars_none hV
  have k0 := h0
  have lt0 : ∀ x ∈ p0, x.block < W.heap.size := by obtain ⟨m, hm⟩ := k0; exact DataW.trod_lt m _ _ _ hm
  obtain ⟨x0, a0, c0, rfl, w0, wn0⟩ := in_model (hval 0 46 v0 rfl rfl) h0
  have k1 := h1
  have lt1 : ∀ x ∈ p1, x.block < W.heap.size := by obtain ⟨m, hm⟩ := k1; exact DataW.trod_lt m _ _ _ hm
  obtain ⟨a1, rfl, rfl, e1, w1⟩ := open_string Try.underlying9 (hval 1 9 v1 rfl rfl) h1
  clear hA0 hval0
  refine (walk a0 c0 x0 a1 W w0 wn0 w1).mono fun e W' ⟨he, bel⟩ => ?_
  subst he
  exact ⟨_, rfl, _, _, _, [], _, [], hW', trodAll_mk1 (shut_bool Try.underlying4 _), (trodAll_cons_mk (Below.trod laidOut (by kernel_rfl) (of_decide_eq_true (by kernel_rfl)) k0 bel lt0) (trodAll_cons_mk (Below.trod laidOut (by kernel_rfl) (of_decide_eq_true (by kernel_rfl)) k1 bel lt1) trodAll_mk0)), rfl, bel.frame _, fun h => by cases h⟩

theorem over : Rows.fnExactModelDropRow.holds Try.pinned (OpenSpec.ofChange Rows.fnExactModelDropSpec) :=
  OpenClaim.holds_of_wide 8 Try.f8 rfl rfl rfl rfl rfl rfl rfl ⟨rfl, rfl, rfl, rfl, rfl⟩ rfl rfl rfl rfl rfl (by kernel_rfl) Try.func8 (by kernel_rfl)
    (of_decide_eq_true (by kernel_rfl)) (by unfold Func.isWrapper; first | (rw [if_pos (by decide +kernel)]; kernel_rfl) | (rw [if_neg (by decide +kernel)]; exact ⟨rfl, rfl⟩))
    (fun os started H enc _ => lifted os started H enc)

end FnExactModelDrop

theorem FnExactModelDrop_holds : Rows.FnExactModelDropSaid := FnExactModelDrop.over

end Go.Proofs.Ytmmckpjapnkepaa
