/- 'laws.FnRootCut' returns true at every pair of codes: the text of a drawn root that is ok, cut, or with one byte changed, is no root's. Conditions: the listed variables are as the card says. -/
import Derived.Test.YtliadobopideaaaGreatDoorPKP2
import Derived.Test.YtliadobopideaaaGreatDoorPKLF
import Derived.Test.YtliadobopideaaaGreatDoorPKLCd
namespace Go.Proofs.YtliadobopideaaaGreatDoor
open Go.ChangeShapes Go.WideShapes Go.ChangeAt Go.RowKit Go.Sort

theorem xor8_neC (b c : Int) (hb : 0 ≤ b ∧ b ≤ 255) (hc : 1 ≤ c ∧ c ≤ 255) : bits .xor .u8 b c ≠ b := by
  rw [u8_xor b c hb.1 (by omega) (by omega) (by omega)]
  intro h
  have h1 : b.toNat ^^^ c.toNat = b.toNat := by omega
  have h2 : b.toNat ^^^ (b.toNat ^^^ c.toNat) = b.toNat ^^^ b.toNat := by rw [h1]
  rw [← Nat.xor_assoc, Nat.xor_self, Nat.zero_xor] at h2
  omega
theorem read_none {n : Int} {s : ByteArray} (h : ¬ReadsAs n s) (A : Addr) (w : World) (hE : EnvB w A) (hT : Tab w) :
    Calls Tryz.prog 10 #[.int .i64 n, .string s] w fun e w' => e = .returned (.tuple #[.agg #[.int .i64 0, .slice none 0 0], .bool false]) ∧ Below w.heap.size w w' := by
  refine (implRead_any n s A w hE hT).mono ?_
  rintro e w' ⟨h3, hB⟩
  rcases h3 with ⟨h4, _⟩ | ⟨_, rfl⟩
  · exact absurd h4 h
  · exact ⟨rfl, hB⟩

namespace FnRootCut
set_option linter.unusedVariables false

set_option maxRecDepth 100000 in
set_option maxHeartbeats 8000000 in
theorem main (a : Option Addr) (len cap : Nat) (z0 : List Int) (a1 : Option Addr) (len1 cap1 : Nat) (z1 : List Int) (w : World) (A : Addr) (h0 : len ≤ 1048576) (h1 : len1 ≤ 1048576) (H : Hid (IsBytes w a len cap z0)) (H1 : Hid (IsBytes w a1 len1 cap1 z1)) (HE : Hid (EnvB w A)) (HTab : Hid (Tab w)) :
    Calls Tryz.prog 5 #[.slice a len cap, .slice a1 len1 cap1] w fun e w' => e = .returned (.bool true) ∧ Below w.heap.size w w' := by
  have d1 : decide (1048576 < (len1 : Int)) = false := decide_eq_false (by omega)
  have d0 : decide (1048576 < (len : Int)) = false := decide_eq_false (by omega)
  go_enter Tryz.func5, Tryz.ntmps5
  go_wp2_with fail
  refine (drawText_any a len cap z0 _ H.out).mono ?_
  rintro e w1 ⟨n, ta, aa, ca, va, rfl, hn, hLa, hva, hB1⟩
  obtain ⟨hVa, hnma⟩ := hLa.reads
  obtain ⟨_, _, ea, hca1, hca2, hXa⟩ := hVa
  cases ea
  have HNa : Hid (∀ j, j < va.length → (va.getD j vol0).name.size ≤ maxLen) := fun j hj => Nat.le_trans (hnma j hj) (by simp [maxLen])
  have hma : va.length ≤ maxLen := by simp [maxLen]; omega
  have hBa : Below w1.heap.size w1 (w1.alloc (.cells #[.int .i64 ta, .slice aa va.length ca] 25)) := (Below.refl _ _).alloc (Nat.le_refl _) _
  have HXa := Lib.hid (hXa.below hBa)
  have HB := Lib.hid (hB1.trans (hBa.mono hB1.size))
  have k0 : (w1.alloc (.cells #[.int .i64 ta, .slice aa va.length ca] 25)).cell? ⟨w1.heap.size, 0, none⟩ = some (.int .i64 ta) := by rw [World.cell?_alloc_mark]; rfl
  have k1 : (w1.alloc (.cells #[.int .i64 ta, .slice aa va.length ca] 25)).cell? ⟨w1.heap.size, 1, none⟩ = some (.slice aa va.length ca) := by rw [World.cell?_alloc_mark]; rfl
  clear hLa hXa hnma hBa hB1 hn
  have HIa := Lib.hid (fun w' h hT => implText_any n ⟨ta, va⟩ aa ca w' hca1 HNa h hT)
  have HSa := Lib.hid (fun w' h => specText_any n ⟨ta, va⟩ aa ca w' hma HNa h)
  simp only at HIa HSa
  go_wp2_with fail
  generalize w1.alloc (.cells #[.int .i64 ta, .slice aa va.length ca] 25) = wa at HXa HB k0 k1 ⊢
  generalize w1.heap.size = D at k0 k1 ⊢
  by_cases hoka : RootOkP n ⟨ta, va⟩
  · rw [rootT_ok hoka] at HIa HSa
    have ne1 := full_ne ⟨ta, va⟩
    have hTp : 0 < (fullT ⟨ta, va⟩).size := full_pos _
    have HR := Lib.hid (fun k hk W hE hT => read_none (cut_no (k := k) hoka hk) A W hE hT)
    have HCH := Lib.hid (fun k hk W => lpaChanged_any (fullT ⟨ta, va⟩) k 1 W hk)
    have HCX := Lib.hid (fun k c hk W => lpaChanged_any (fullT ⟨ta, va⟩) k c W hk)
    have HR2 := Lib.hid (fun k c hk (hc : 1 ≤ c ∧ c ≤ 255) W hE hT => read_none (changed_no (k := k) (x := bits .xor .u8 (byteAt (fullT ⟨ta, va⟩) k) c) hoka hk (xor8_bd _ _ (byteAt_bd _ _) ⟨by omega, hc.2⟩) (xor8_neC _ _ (byteAt_bd _ _) hc)) A W hE hT)
    generalize hTT : fullT ⟨ta, va⟩ = T at HIa HSa HR HCH HCX HR2 ne1 hTp
    clear hTT hoka
    refine (HIa.out _ HXa (HTab.out.below HB.out)).mono ?_
    rintro e w3 ⟨rfl, hB⟩
    replace k0 := cell_below hB k0
    replace k1 := cell_below hB k1
    replace HXa := Lib.hid (HXa.out.below hB)
    replace HB := Lib.hid (HB.out.trans (hB.mono HB.out.size))
    clear hB
    have t1 : (T.toList == T.toList) = true := beq_self_eq_true _
    go_wp2_with fail
    refine (HSa.out _ HXa).mono ?_
    rintro e w4 ⟨rfl, hB⟩
    replace k0 := cell_below hB k0
    replace k1 := cell_below hB k1
    replace HXa := Lib.hid (HXa.out.below hB)
    replace HB := Lib.hid (HB.out.trans (hB.mono HB.out.size))
    clear hB
    clear HSa HIa
    have hat := Nat.mod_lt len1 hTp
    have hrem : (len1 : Int).tmod (T.size : Int) = ((len1 % T.size : Nat) : Int) := by rw [Int.tmod_eq_emod_of_nonneg (by omega)]; omega
    have hnz : ((T.size : Int) == 0) = false := beq_eq_false_iff_ne.2 (by omega)
    go_upto_region 9 with (fail)
    rw [show (len1 : Int) % (T.size : Int) = ((len1 % T.size : Nat) : Int) by omega]
    generalize len1 % T.size = at0 at hat ⊢
    clear hrem hnz t1 ne1 hTp
    have hex : T.extract 0 at0 = tx (T.data.toList.take at0) := extract_tx T.data.toList at0
    have HR1 := Lib.hid (HR.out at0 hat)
    rw [← hex] at HR1
    have hle : at0 ≤ T.size := by omega
    have s0 : (0 : Int) ≤ (at0 : Int) := by omega
    have s1 : (at0 : Int) ≤ (T.size : Int) := by omega
    clear hex HR
    have HA := Lib.hid hat
    clear hat
    rcases H1.out.below HB.out with ⟨rfl, rfl, rfl, rfl⟩ | ⟨x, rfl, hl1, hl2, hl3, hcell, hwf⟩
    · have dz : decide ((0 : Int) < ((0 : Nat) : Int)) = false := by decide
      go_wp2_with fail
      refine (HR1.out _ (HE.out.below HB.out) (HTab.out.below HB.out)).mono ?_
      rintro e w5 ⟨rfl, hB⟩
      have hal : Below w5.heap.size w5 (w5.alloc (.cells #[.int .i64 0, .slice none 0 0] 25)) := (Below.refl _ _).alloc (Nat.le_refl _) _
      replace hB := below_trans hB hal hB.size
      replace k0 := cell_below hB k0
      replace k1 := cell_below hB k1
      replace HB := Lib.hid (HB.out.trans (hB.mono HB.out.size))
      clear hB hal HXa
      go_wp2_with fail
      generalize w5.alloc (.cells #[.int .i64 0, .slice none 0 0] 25) = w6 at HB k0 k1 ⊢
      generalize w5.heap.size = E
      refine (HCH.out at0 HA.out _).mono ?_
      rintro e w7 ⟨rfl, hB⟩
      replace HB := Lib.hid (HB.out.trans (hB.mono HB.out.size))
      clear hB k0 k1
      have HR3 := Lib.hid (HR2.out at0 1 HA.out (by omega))
      generalize withAt T at0 (bits .xor .u8 (byteAt T at0) 1) = T9 at HR3 ⊢
      go_wp2_with fail
      refine (HR3.out _ (HE.out.below HB.out) (HTab.out.below HB.out)).mono ?_
      rintro e w8 ⟨rfl, hB⟩
      have hal : Below w8.heap.size w8 (w8.alloc (.cells #[.int .i64 0, .slice none 0 0] 25)) := (Below.refl _ _).alloc (Nat.le_refl _) _
      replace hB := below_trans hB hal hB.size
      replace HB := Lib.hid (HB.out.trans (hB.mono HB.out.size))
      clear hB hal
      go_wp2
      go_ret
      exact ⟨rfl, HB.out⟩
    · by_cases hz : len1 = 0
      · subst hz
        have dz : decide ((0 : Int) < ((0 : Nat) : Int)) = false := by decide
        clear hcell hwf
        go_wp2_with fail
        refine (HR1.out _ (HE.out.below HB.out) (HTab.out.below HB.out)).mono ?_
        rintro e w5 ⟨rfl, hB⟩
        have hal : Below w5.heap.size w5 (w5.alloc (.cells #[.int .i64 0, .slice none 0 0] 25)) := (Below.refl _ _).alloc (Nat.le_refl _) _
        replace hB := below_trans hB hal hB.size
        replace k0 := cell_below hB k0
        replace k1 := cell_below hB k1
        replace HB := Lib.hid (HB.out.trans (hB.mono HB.out.size))
        clear hB hal HXa
        go_wp2_with fail
        generalize w5.alloc (.cells #[.int .i64 0, .slice none 0 0] 25) = w6 at HB k0 k1 ⊢
        generalize w5.heap.size = E
        refine (HCH.out at0 HA.out _).mono ?_
        rintro e w7 ⟨rfl, hB⟩
        replace HB := Lib.hid (HB.out.trans (hB.mono HB.out.size))
        clear hB k0 k1
        have HR3 := Lib.hid (HR2.out at0 1 HA.out (by omega))
        generalize withAt T at0 (bits .xor .u8 (byteAt T at0) 1) = T9 at HR3 ⊢
        go_wp2_with fail
        refine (HR3.out _ (HE.out.below HB.out) (HTab.out.below HB.out)).mono ?_
        rintro e w8 ⟨rfl, hB⟩
        have hal : Below w8.heap.size w8 (w8.alloc (.cells #[.int .i64 0, .slice none 0 0] 25)) := (Below.refl _ _).alloc (Nat.le_refl _) _
        replace hB := below_trans hB hal hB.size
        replace HB := Lib.hid (HB.out.trans (hB.mono HB.out.size))
        clear hB hal
        go_wp2
        go_ret
        exact ⟨rfl, HB.out⟩
      · have dz : decide ((0 : Int) < (len1 : Int)) = true := decide_eq_true (by omega)
        have dzn : decide (0 < len1) = true := decide_eq_true (by omega)
        have hc0 := hcell 0 (by omega)
        have hb0 : 0 ≤ z1.getD 0 0 ∧ z1.getD 0 0 ≤ 255 := by
          have hm : z1.getD 0 0 ∈ z1 := by rw [List.getD, List.getElem?_eq_getElem (by omega)]; exact List.getElem_mem _
          have := hwf _ hm
          simpa [Lit.wf, IntKind.min, IntKind.max, IntKind.signed, IntKind.bits] using this
        obtain ⟨xb, xo, rfl⟩ := addr_plain hc0
        rw [add_plain, Nat.add_zero] at hc0
        clear hcell hwf hl3
        have i0 : (0 : Int) < (len1 : Int) := by omega
        generalize z1.getD 0 0 = b0 at hc0 hb0
        by_cases hp : 0 < b0
        · have dp : decide (0 < b0) = true := decide_eq_true hp
          go_wp2_with fail
          refine (HR1.out _ (HE.out.below HB.out) (HTab.out.below HB.out)).mono ?_
          rintro e w5 ⟨rfl, hB⟩
          have hal : Below w5.heap.size w5 (w5.alloc (.cells #[.int .i64 0, .slice none 0 0] 25)) := (Below.refl _ _).alloc (Nat.le_refl _) _
          replace hB := below_trans hB hal hB.size
          replace k0 := cell_below hB k0
          replace k1 := cell_below hB k1
          replace HB := Lib.hid (HB.out.trans (hB.mono HB.out.size))
          clear hB hal HXa
          go_wp2_with fail
          generalize w5.alloc (.cells #[.int .i64 0, .slice none 0 0] 25) = w6 at HB k0 k1 ⊢
          generalize w5.heap.size = E
          refine (HCX.out at0 b0 HA.out _).mono ?_
          rintro e w7 ⟨rfl, hB⟩
          replace HB := Lib.hid (HB.out.trans (hB.mono HB.out.size))
          clear hB k0 k1
          have HR3 := Lib.hid (HR2.out at0 b0 HA.out (by omega))
          generalize withAt T at0 (bits .xor .u8 (byteAt T at0) b0) = T9 at HR3 ⊢
          go_wp2_with fail
          refine (HR3.out _ (HE.out.below HB.out) (HTab.out.below HB.out)).mono ?_
          rintro e w8 ⟨rfl, hB⟩
          have hal : Below w8.heap.size w8 (w8.alloc (.cells #[.int .i64 0, .slice none 0 0] 25)) := (Below.refl _ _).alloc (Nat.le_refl _) _
          replace hB := below_trans hB hal hB.size
          replace HB := Lib.hid (HB.out.trans (hB.mono HB.out.size))
          clear hB hal
          go_wp2
          go_ret
          exact ⟨rfl, HB.out⟩
        · have dp : decide (0 < b0) = false := decide_eq_false hp
          clear hb0 hp
          go_wp2_with fail
          refine (HR1.out _ (HE.out.below HB.out) (HTab.out.below HB.out)).mono ?_
          rintro e w5 ⟨rfl, hB⟩
          have hal : Below w5.heap.size w5 (w5.alloc (.cells #[.int .i64 0, .slice none 0 0] 25)) := (Below.refl _ _).alloc (Nat.le_refl _) _
          replace hB := below_trans hB hal hB.size
          replace k0 := cell_below hB k0
          replace k1 := cell_below hB k1
          replace HB := Lib.hid (HB.out.trans (hB.mono HB.out.size))
          clear hB hal HXa
          go_wp2_with fail
          generalize w5.alloc (.cells #[.int .i64 0, .slice none 0 0] 25) = w6 at HB k0 k1 ⊢
          generalize w5.heap.size = E
          refine (HCH.out at0 HA.out _).mono ?_
          rintro e w7 ⟨rfl, hB⟩
          replace HB := Lib.hid (HB.out.trans (hB.mono HB.out.size))
          clear hB k0 k1
          have HR3 := Lib.hid (HR2.out at0 1 HA.out (by omega))
          generalize withAt T at0 (bits .xor .u8 (byteAt T at0) 1) = T9 at HR3 ⊢
          go_wp2_with fail
          refine (HR3.out _ (HE.out.below HB.out) (HTab.out.below HB.out)).mono ?_
          rintro e w8 ⟨rfl, hB⟩
          have hal : Below w8.heap.size w8 (w8.alloc (.cells #[.int .i64 0, .slice none 0 0] 25)) := (Below.refl _ _).alloc (Nat.le_refl _) _
          replace hB := below_trans hB hal hB.size
          replace HB := Lib.hid (HB.out.trans (hB.mono HB.out.size))
          clear hB hal
          go_wp2
          go_ret
          exact ⟨rfl, HB.out⟩
  · rw [rootT_no hoka] at HIa HSa
    clear hoka
    refine (HIa.out _ HXa (HTab.out.below HB.out)).mono ?_
    rintro e w3 ⟨rfl, hB⟩
    replace HXa := Lib.hid (HXa.out.below hB)
    replace k0 := cell_below hB k0
    replace k1 := cell_below hB k1
    replace HB := Lib.hid (HB.out.trans (hB.mono HB.out.size))
    clear hB
    go_wp2_with fail
    refine (HSa.out _ HXa).mono ?_
    rintro e w4 ⟨rfl, hB⟩
    replace HXa := Lib.hid (HXa.out.below hB)
    replace k0 := cell_below hB k0
    replace k1 := cell_below hB k1
    replace HB := Lib.hid (HB.out.trans (hB.mono HB.out.size))
    clear hB
    go_wp2_with fail
    refine (HSa.out _ HXa).mono ?_
    rintro e w5 ⟨rfl, hB⟩
    replace HXa := Lib.hid (HXa.out.below hB)
    replace k0 := cell_below hB k0
    replace k1 := cell_below hB k1
    replace HB := Lib.hid (HB.out.trans (hB.mono HB.out.size))
    clear hB
    go_wp2
    go_ret
    exact ⟨rfl, HB.out⟩

set_option maxRecDepth 100000 in
set_option maxHeartbeats 1000000 in
theorem walk (a0 : Option Addr) (len0 cap0 : Nat) (z0 : List Int) (a1 : Option Addr) (len1 cap1 : Nat) (z1 : List Int) (w : World) (w0 : IsBytes w a0 len0 cap0 z0) (w1 : IsBytes w a1 len1 cap1 z1) (A : Addr) (hE : EnvB w A) (hT : Tab w) :
    Calls Tryz.prog 5 #[.slice a0 len0 cap0, .slice a1 len1 cap1] w fun e w' => e = .returned (.bool true) ∧ Below w.heap.size w w' := by
  have hm : len0 ≤ maxLen := by have := w0.opened; omega
  have hm1 : len1 ≤ maxLen := by have := w1.opened; omega
  by_cases h0 : len0 ≤ 1048576
  · by_cases h1 : len1 ≤ 1048576
    · exact main a0 len0 cap0 z0 a1 len1 cap1 z1 w A h0 h1 w0 w1 hE hT
    · have d0 : decide (1048576 < (len0 : Int)) = false := decide_eq_false (by omega)
      have d1 : decide (1048576 < (len1 : Int)) = true := decide_eq_true (by omega)
      clear w0 w1 hT hE
      go_enter Tryz.func5, Tryz.ntmps5
      go_wp2
      go_ret
      exact ⟨rfl, Below.refl _ _⟩
  · have d0 : decide (1048576 < (len0 : Int)) = true := decide_eq_true (by omega)
    clear w0 w1 hT hE
    go_enter Tryz.func5, Tryz.ntmps5
    go_wp2
    go_ret
    exact ⟨rfl, Below.refl _ _⟩

set_option maxRecDepth 100000 in
theorem lifted (os : Os) (started : os.Started) (H : Type) (enc : TypeId × Value → H) :
    ReturnsInHanded {} Tryz.checked os 5 .any (fun w args => (Rows.fnRootCutSpec.pre enc Tryz.prog Tryz.f5 [] false w args ∧ laidMetH Tryz.prog tables w) ∧ sizedMet enc Tryz.prog Tryz.f5 (OpenSpec.ofChange Rows.fnRootCutSpec) false w args)
      (Rows.fnRootCutSpec.post enc Tryz.prog Tryz.f5 false true false false) := by
  refine handed_shaped (C := Tryz.checked) own started (by kernel_rfl) Tryz.func5
    (ChangeSpec.witness_shaped (enc := enc) (C := Tryz.checked) (os := os) (X := fun w _ => laidMetH Tryz.prog tables w) false (World.laidAll Tryz.prog os tables) #[.slice none 0 0, .slice none 0 0] 8 (World.laidAll_os _ _ _) (World.shaped_of_ZipB (by kernel_rfl) (by kernel_rfl)) (by kernel_rfl) (by kernel_rfl) (by kernel_rfl) (door_met os _)) ?_
  intro W base args ds gs before hval0 hW hLaid hSh
  have hL := tables_plain hLaid
  have hm : ∃ m, W.cell? ⟨2, 0, none⟩ = some (.int .i64 m) := maxLen_any hSh
  obtain ⟨A, hEnv⟩ := env_of_laid hL hm
  have hTab := tab_of_laid hL
  have hval : ∀ (j : Nat) t v, Tryz.f5.params[j]? = some t → args[j]? = some v → Value.okWide Tryz.prog W .any base t v := hval0
  have hW' := hW
  obtain ⟨p, q, hA0, hV, rfl, hfz, hnd⟩ := hW
  have hA : DataW.TrodAll enc Tryz.prog W 0 (fun _ => true) true Tryz.f5.params.toList args.toList ds p := hA0
  rw [Tryz.params5] at hA hval
  obtain ⟨v0, vs0, d0, ds0, p0, q0, hargs, rfl, rfl, h0, r0⟩ := trodAll_cons hA
  obtain ⟨v1, vs1, d1, ds1, p1, q1, rfl, rfl, rfl, h1, r1⟩ := trodAll_cons r0
  obtain ⟨rfl, rfl, rfl⟩ := trodAll_nil r1
  obtain rfl : args = #[v0, v1] := by cases args; simp_all
  have hV1 : DataW.TrodVars enc Tryz.prog W (fun _ => true) ["loop.example/paling/impl.errNone"] gs q := hV
  obtain ⟨g1, rfl⟩ : ∃ g1, gs = [g1] := one_var hV1
  have k0 := h0
  have lt0 : ∀ x ∈ p0, x.block < W.heap.size := by obtain ⟨m, hm⟩ := k0; exact DataW.trod_lt m _ _ _ hm
  obtain ⟨a0, len0, cap0, rfl⟩ := okWide_slice Tryz.underlying22 (hval 0 22 v0 rfl rfl)
  obtain ⟨z0, w0⟩ : ∃ zs, IsBytes W a0 len0 cap0 zs := by
    obtain ⟨fuel, hf⟩ := h0
    rcases open_ints Tryz.underlying22 Tryz.underlying5 (by kernel_rfl) hf with ⟨hcs, _⟩ | ⟨x, l, c, zs, hcs, _, hl, hm, hz, _, hcell, hwz⟩
    · simp [Value.cells] at hcs
      obtain ⟨rfl, rfl, rfl⟩ := hcs
      exact ⟨[], .inl ⟨rfl, rfl, rfl, rfl⟩⟩
    · simp [Value.cells] at hcs
      obtain ⟨rfl, rfl, rfl⟩ := hcs
      exact ⟨zs, .inr ⟨_, rfl, hl, hm, by simpa using hz, hcell, hwz⟩⟩
  have k1 := h1
  have lt1 : ∀ x ∈ p1, x.block < W.heap.size := by obtain ⟨m, hm⟩ := k1; exact DataW.trod_lt m _ _ _ hm
  obtain ⟨a1, len1, cap1, rfl⟩ := okWide_slice Tryz.underlying22 (hval 1 22 v1 rfl rfl)
  obtain ⟨z1, w1⟩ : ∃ zs, IsBytes W a1 len1 cap1 zs := by
    obtain ⟨fuel, hf⟩ := h1
    rcases open_ints Tryz.underlying22 Tryz.underlying5 (by kernel_rfl) hf with ⟨hcs, _⟩ | ⟨x, l, c, zs, hcs, _, hl, hm, hz, _, hcell, hwz⟩
    · simp [Value.cells] at hcs
      obtain ⟨rfl, rfl, rfl⟩ := hcs
      exact ⟨[], .inl ⟨rfl, rfl, rfl, rfl⟩⟩
    · simp [Value.cells] at hcs
      obtain ⟨rfl, rfl, rfl⟩ := hcs
      exact ⟨zs, .inr ⟨_, rfl, hl, hm, by simpa using hz, hcell, hwz⟩⟩
  clear hA0 hval0
  refine (walk a0 len0 cap0 z0 a1 len1 cap1 z1 W w0 w1 A hEnv hTab).mono fun e W' ⟨he, bel⟩ => ?_
  subst he
  exact ⟨_, rfl, _, _, _, [], _, _, hW', trodAll_mk1 (shut_bool Tryz.underlying4 _), (trodAll_cons_mk (Below.trod laidOut (by kernel_rfl) (of_decide_eq_true (by kernel_rfl)) k0 bel lt0) (trodAll_cons_mk (Below.trod laidOut (by kernel_rfl) (of_decide_eq_true (by kernel_rfl)) k1 bel lt1) trodAll_mk0)), (bel.trodVars laidOut (by kernel_rfl) hV1), bel.frame _, fun h => by cases h⟩

theorem over : Rows.fnRootCutRow.holds Tryz.pinned (OpenSpec.ofChange Rows.fnRootCutSpec) :=
  OpenClaim.holds_of_wide 5 Tryz.f5 rfl rfl rfl rfl rfl rfl rfl ⟨rfl, rfl, rfl, rfl, rfl⟩ rfl rfl rfl rfl rfl (by kernel_rfl) Tryz.func5 (by kernel_rfl)
    (of_decide_eq_true (by kernel_rfl)) (by unfold Func.isWrapper; first | (rw [if_pos (by decide +kernel)]; kernel_rfl) | (rw [if_neg (by decide +kernel)]; exact ⟨rfl, rfl⟩))
    (fun os started H enc _ => lifted os started H enc)

theorem card : Claim7.holds Tryz.pinned (.plain (OpenSpec.ofChange Rows.fnRootCutSpec)) Rows.fnRootCutCard :=
  Claim7.holds_tied_plain_at .later [] [.data, .data, .data, .data, .sentinel, .sentinel, .sentinel, .pinned] true Rows.fnRootCutCard.stood.harness true
    over (fun _ h => by cases h) (by kernel_rfl) (fun _ h => by cases h) fnRootCut_row_tie rfl ⟨rfl, rfl⟩ (by kernel_rfl) rfl
    (fun f fn hf hfn => by
      obtain rfl : f = 5 := Option.some.inj ((show Tryz.prog.funcNamed Rows.fnRootCutRow.func = some 5 by kernel_rfl).symm.trans hf) |>.symm
      obtain rfl : fn = Tryz.f5 := (Option.some.inj (Tryz.func5.symm.trans hfn)).symm
      exact ⟨by kernel_rfl, fun j t ht => by
        rw [Tryz.params5] at ht
        have hm : t ∈ [22, 22] := by simpa using Array.mem_of_getElem? ht
        have hall : ([22, 22].all fun u => !Tryz.prog.wantsStandIn u) = true := by kernel_rfl
        exact (show Tryz.prog.wantsStandIn t = false by simpa using List.all_eq_true.1 hall t hm)⟩)
    (by kernel_rfl)

end FnRootCut

theorem FnRootCut_holds : Rows.FnRootCutCardSaid := FnRootCut.card

end Go.Proofs.YtliadobopideaaaGreatDoor
