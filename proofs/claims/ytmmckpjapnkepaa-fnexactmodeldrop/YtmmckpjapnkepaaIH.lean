/- The exact laws' own marks on an answer that is a model, and whether they are still there. Conditions: each volume has three blocks, and there are few. -/
import Derived.Test.YtmmckpjapnkepaaIG
import Derived.Test.YtmmckpjapnkepaaI6
namespace Go.Proofs.Ytmmckpjapnkepaa
open Go.RowKit Go.Sort

/-- MARKED VOLUMES: the first i of them. -/
def mkSh (k j : Nat) : ShD := ⟨mkT (k + 4 * j), mkS (k + 4 * j + 1) 3⟩
def mkTo (ss : List ShD) (k i : Nat) : List ShD := (List.range ss.length).map fun j => if j < i then mkSh k j else ss.getD j sh0
theorem mkTo_length (ss : List ShD) (k i : Nat) : (mkTo ss k i).length = ss.length := by simp [mkTo]
theorem mkTo_get (ss : List ShD) (k i j : Nat) (hj : j < ss.length) : (mkTo ss k i).getD j sh0 = if j < i then mkSh k j else ss.getD j sh0 := by
  rw [List.getD, mkTo, List.getElem?_map, List.getElem?_range hj]; rfl
theorem ShC.congr {w : World} {base : Nat} {ss ss' : List ShD} {g : Nat → Nat} {ys : List Value} {j : Nat} (h : ShC w base ss g ys j) (e : ss.getD j sh0 = ss'.getD j sh0) : ShC w base ss' g ys j := by
  unfold ShC at h ⊢; rw [← e]; exact h
/-- BLOCKS OF OTHER TYPES stay. -/
def OthersM (w w' : World) : Prop := ∀ (D : Nat) (cs : Array Value) (t : TypeId), 9 ≠ t → 35 ≠ t → Blk w D cs t → Blk w' D cs t
theorem OthersM.of_below {w w' : World} (h : Below w.heap.size w w') : OthersM w w' := fun _ _ _ _ _ hb => hb.below h hb.lt
theorem OthersM.trans {a b c : World} (h : OthersM a b) (k : OthersM b c) : OthersM a c := fun D cs t n1 n2 hb => k D cs t n1 n2 (h D cs t n1 n2 hb)
theorem sh_apart {w : World} {base : Nat} {ss : List ShD} {g : Nat → Nat} {ys : List Value} {j : Nat} (h : ShC w base ss g ys j) {v : Value} {n : Nat} (k1 : w.ownsRow base 35 2 v n ys) : v.ownBlock ≠ some (g j) := by
  obtain ⟨_, c, _, h3⟩ := h
  intro e
  obtain ⟨cur, hc⟩ := own_block_type k1 _ e
  rcases h3.2 with ⟨hv, _⟩ | ⟨g1, cap1, cur1, hv, _, hb1, _⟩
  · cases hv
  · cases hv
    rw [hc] at hb1
    injection hb1 with hb1
    injection hb1 with _ hb1
    exact absurd hb1 (by decide)

set_option maxRecDepth 100000 in
set_option maxHeartbeats 2000000 in
theorem markSh_own (base gs cap k : Nat) (ss : List ShD) (ys0 : List Value) (g : Nat → Nat) (w : World) (hbs : base ≤ w.heap.size) (hk : 0 < k) (hn : ss.length ≤ 100) (hkn : k ≤ 1000) (h3 : AllSh (fun s => s.blocks.length = 3) ss)
    (k1 : w.ownsRow base 35 2 (.slice (some ⟨gs, 0, none⟩) ss.length cap) ss.length ys0) (k2 : ∀ j, j < ss.length → ShC w base ss g ys0 j) (k3 : ∀ i j, i < j → j < ss.length → g i ≠ g j) :
    Calls Try.prog 64 #[.slice (some ⟨gs, 0, none⟩) ss.length cap, .int .i64 (k : Int)] w fun e w' => e = .returned (.int .i64 ((k + 4 * ss.length : Nat) : Int)) ∧ Below base w w' ∧ OwnSh w' base (.slice (some ⟨gs, 0, none⟩) ss.length cap) (mkTo ss k ss.length) ∧ OthersM w w' := by
  have H3 := Lib.hid h3
  have K1 := Lib.hid k1
  have K2 := Lib.hid k2
  have K3 := Lib.hid k3
  clear h3 k1 k2 k3
  go_enter Try.func64, Try.ntmps64
  go_wp2_with fail
  go_loopw [1, 5] (fun kv iv wr => ∃ i : Nat, iv = .int .i64 (i : Int) ∧ i ≤ ss.length ∧ kv = .int .i64 ((k + 4 * i : Nat) : Int) ∧ Hid (Below base w wr ∧ OthersM w wr) ∧ Hid (∃ ys, wr.ownsRow base 35 2 (.slice (some ⟨gs, 0, none⟩) ss.length cap) ss.length ys ∧ ∀ j, j < ss.length → ShC wr base (mkTo ss k i) g ys j)) (fun _ iv _ => ss.length - (intOf iv).toNat)
  case atStart => exact ⟨0, rfl, by omega, rfl, ⟨Below.refl _ _, OthersM.of_below (Below.refl _ _)⟩, ys0, K1.out, fun j hj => (K2.out j hj).congr (by rw [mkTo_get ss k 0 j hj, if_neg (by omega)])⟩
  case round =>
    obtain ⟨i, rfl, hi, rfl, hB, hI⟩ := hrel
    by_cases hlt : i < ss.length
    · have i0 : (0 : Int) ≤ (i : Int) := by omega
      have i1 : (i : Int) < (ss.length : Int) := by omega
      have hkb : k + 4 * i ≤ 1400 := by omega
      have hkp : 0 < k + 4 * i := by omega
      have hmk : mkSh k i = ⟨mkT (k + 4 * i), mkS (k + 4 * i + 1) 3⟩ := rfl
      have hnext : k + 4 * (i + 1) = k + 4 * i + 4 := by omega
      generalize hki : k + 4 * i = ki at hkb hkp hmk hnext
      have Hmk := Lib.hid hmk
      have Hki := Lib.hid hki
      clear hki hmk
      go_wp2_with fail
      refine (mkText_pos ki _ hkp (by omega)).mono ?_
      rintro e w1 ⟨rfl, hB1⟩
      obtain ⟨ys, ho, hsc⟩ := hI.out
      have ho1 := own_below ho hB1
      have hsc1 := fun j hj => (hsc j hj).below hB1
      obtain ⟨x0, f0, hgb, hxl⟩ := own_cell ho1 (i * 2) (by omega)
      rw [List.getElem?_eq_getElem (by omega)] at x0
      generalize ys[i * 2]'(by omega) = y0 at x0
      have ho2 := own_set ho1 (i * 2) (.string (mkT ki))
      obtain ⟨c0, cp, c1, c2⟩ := hsc1 i hlt
      have hb3 : ((mkTo ss k i).getD i sh0).blocks.length = 3 := by rw [mkTo_get ss k i i hlt, if_neg (by omega)]; exact H3.out i hlt
      have hap := sh_apart ⟨c0, cp, c1, c2⟩ ho1
      have ho2' : (w1.setCell ⟨gs, i * 2, none⟩ (.string (mkT ki))).ownsRow base 9 1 (.slice (some ⟨g i, 0, none⟩) 3 cp) 3 (txC ((mkTo ss k i).getD i sh0).blocks) := by
        have := own_other c2 gs (i * 2) (.string (mkT ki)) (fun e => hap (by simp only [Value.ownBlock, Option.some.injEq] at e ⊢; exact e.symm))
        rw [hb3] at this
        exact this
      have HO2 := Lib.hid ho2'
      rw [hb3] at c1
      have e1 : (w1.setCell ⟨gs, i * 2, none⟩ (.string (mkT ki))).cell? ⟨gs, i * 2 + 1, none⟩ = some (.slice (some ⟨g i, 0, none⟩) 3 cp) := by
        rw [(own_cell ho2 (i * 2 + 1) (by omega)).1, List.getElem?_set_ne (by omega)]
        exact c1
      have HC := Lib.hid (markTx_own base (g i) 3 cp (ki + 1) _ _ (by omega) (by omega) HO2)
      rw [show ((ki + 1 : Nat) : Int) = (ki : Int) + 1 by omega] at HC
      have HR : Hid (∀ w2, (w1.setCell ⟨gs, i * 2, none⟩ (.string (mkT ki))).grownBy w2 (some (g i)) → w2.ownsRow base 9 1 (.slice (some ⟨g i, 0, none⟩) 3 cp) 3 (txC (mkS (ki + 1) 3)) → (Below base w w2 ∧ OthersM w w2) ∧ ∃ ys, w2.ownsRow base 35 2 (.slice (some ⟨gs, 0, none⟩) ss.length cap) ss.length ys ∧ ∀ j, j < ss.length → ShC w2 base (mkTo ss k (i + 1)) g ys j) := fun w2 hg hw => by
        have hB1' : Below base w w1 := hB.out.1.trans (hB1.mono (by have := hB.out.1.size; omega))
        have hoth : OthersM w w2 := hB.out.2.trans ((OthersM.of_below hB1).trans (fun D cs t n1 n2 hb => by
          have hb' := hb.other gs (i * 2) (.string (mkT ki)) (fun e => by
            have := own_blk_ne ho1 hb n2
            simp only [Value.ownBlock, ne_eq, Option.some.injEq] at this
            exact this e)
          exact hb'.gb hg (fun e => by
            have := own_blk_ne ho2' hb' n1
            simp only [Value.ownBlock] at this
            exact this e)))
        refine ⟨⟨(hB1'.setCell (p := ⟨gs, i * 2, none⟩) hgb _).grown hg (by rw [World.size_setCell]; have := hB1'.size; omega) (fun q e => by cases e; exact (c2.lt _ rfl).1), hoth⟩, _, own_gb ho2 hg (fun q e => by cases e; exact hap), fun j hj => ?_⟩
        by_cases e : j = i
        · subst e
          unfold ShC
          rw [mkTo_get ss k (j + 1) j hj, if_pos (by omega), Hmk.out]
          refine ⟨?_, cp, ?_, ?_⟩
          · rw [List.getElem?_set_self (by omega)]
          · rw [List.getElem?_set_ne (by omega)]
            simp only [mkS_length]
            exact c1
          · simp only
            unfold OwnTx
            rw [mkS_length]
            exact hw
        · obtain ⟨d0, dp, d1, d2⟩ := hsc1 j hj
          have hgj : g j ≠ g i := by
            rcases Nat.lt_or_gt_of_ne e with hl | hl
            · exact K3.out j i hl hlt
            · exact fun q => K3.out i j hl hj q.symm
          have hapj := sh_apart ⟨d0, dp, d1, d2⟩ ho1
          have eqj : (mkTo ss k i).getD j sh0 = (mkTo ss k (i + 1)).getD j sh0 := by
            rw [mkTo_get ss k i j hj, mkTo_get ss k (i + 1) j hj]
            by_cases hji : j < i
            · rw [if_pos hji, if_pos (by omega)]
            · rw [if_neg hji, if_neg (by omega)]
          refine ShC.congr (ss := mkTo ss k i) ⟨?_, dp, ?_, ?_⟩ eqj
          · rw [List.getElem?_set_ne (by omega)]; exact d0
          · rw [List.getElem?_set_ne (by omega)]; exact d1
          · exact own_gb (own_other d2 gs (i * 2) _ (fun q => hapj (by simp only [Value.ownBlock, Option.some.injEq] at q ⊢; exact q.symm))) hg (fun q e => by cases e; simp only [Value.ownBlock]; intro q; injection q with q; exact hgj q)
      clear ho ho1 hsc hsc1 ho2 c0 c1 c2 hap ho2' hI hxl hb3 hB1
      go_wp2_with fail
      refine HC.out.mono ?_
      rintro e w2 ⟨rfl, hg, hw⟩
      have HN := Lib.hid (HR.out w2 hg hw)
      clear hg hw
      go_wp2
      exact ⟨⟨i + 1, by go_num, by omega, by rw [hnext]; go_num, HN.out.1, HN.out.2⟩, by simp [intOf]; omega⟩
    · obtain rfl : i = ss.length := by omega
      go_wp2
      go_ret
      obtain ⟨ys, ho, hsc⟩ := hI.out
      exact ⟨rfl, hB.out.1, ⟨ys, g, by rw [mkTo_length]; exact ho, fun j hj => hsc j (by rwa [mkTo_length] at hj), fun a b hab hb => K3.out a b hab (by rwa [mkTo_length] at hb)⟩, hB.out.2⟩

set_option maxRecDepth 100000 in
set_option maxHeartbeats 1000000 in
theorem markSh_nil (k : Nat) (w : World) :
    Calls Try.prog 64 #[.slice none 0 0, .int .i64 (k : Int)] w fun e w' => e = .returned (.int .i64 (k : Int)) ∧ w = w' := by
  go_enter Try.func64, Try.ntmps64
  go_wp2_with fail
  go_loop [1, 5] (fun kv iv => kv = .int .i64 (k : Int) ∧ iv = .int .i64 0) (fun _ _ => 0)
  case atStart => exact ⟨rfl, rfl⟩
  case round =>
    obtain ⟨rfl, rfl⟩ := hrel
    go_wp2
    go_ret
    exact ⟨rfl, rfl⟩
theorem markSh_any (base k : Nat) (v : Value) (ss : List ShD) (w : World) (hbs : base ≤ w.heap.size) (hk : 0 < k) (hn : ss.length ≤ 100) (hkn : k ≤ 1000) (h3 : AllSh (fun s => s.blocks.length = 3) ss) (hO : OwnSh w base v ss) :
    Calls Try.prog 64 #[v, .int .i64 (k : Int)] w fun e w' => e = .returned (.int .i64 ((k + 4 * ss.length : Nat) : Int)) ∧ Below base w w' ∧ OwnSh w' base v (mkTo ss k ss.length) ∧ OthersM w w' := by
  obtain ⟨ys, g, k1, k2, k3⟩ := hO
  have k1' := k1
  rcases k1.2 with ⟨rfl, h0⟩ | ⟨gs, cap, cur, rfl, _⟩
  · have hss : ss = [] := List.eq_nil_of_length_eq_zero h0
    subst hss
    refine (markSh_nil k w).mono ?_
    rintro e w' ⟨rfl, rfl⟩
    exact ⟨rfl, Below.refl _ _, OwnSh.nil _ _, OthersM.of_below (Below.refl _ _)⟩
  · exact markSh_own base gs cap k ss ys g w hbs hk hn hkn h3 k1' k2 k3

set_option maxRecDepth 100000 in
set_option maxHeartbeats 1000000 in
theorem markMd_own (base : Nat) (a : Option Addr) (cap : Nat) (ss : List ShD) (w : World) (hbs : base ≤ w.heap.size) (hn : ss.length ≤ 100) (h3 : AllSh (fun s => s.blocks.length = 3) ss) (hO : OwnSh w base (.slice a ss.length cap) ss) :
    Calls Try.prog 30 #[.agg #[.slice a ss.length cap], .int .i64 1] w fun e w' => e = .returned (.int .i64 ((1 + 4 * ss.length : Nat) : Int)) ∧ Below base w w' ∧ OwnSh w' base (.slice a ss.length cap) (mkTo ss 1 ss.length) ∧ OthersM w w' := by
  have hB0 : Below w.heap.size w (w.alloc (.cells #[.slice a ss.length cap] 25)) := (Below.refl _ _).alloc (Nat.le_refl _) _
  have HB0 := Lib.hid (hB0.mono hbs)
  have HT0 := Lib.hid (OthersM.of_below hB0)
  have HC := Lib.hid (markSh_any base 1 (.slice a ss.length cap) ss _ (by have := hB0.size; omega) (by omega) hn (by omega) h3 (hO.below hB0))
  rw [show ((1 : Nat) : Int) = (1 : Int) by rfl] at HC
  clear hB0 h3 hO
  go_enter Try.func30, Try.ntmps30
  go_wp2_with fail
  refine HC.out.mono ?_
  rintro e w2 ⟨rfl, hB, hO2, hT⟩
  have H := Lib.hid (And.intro (HB0.out.trans hB) (And.intro hO2 (HT0.out.trans hT)))
  clear hB hO2 hT
  generalize hm : 1 + 4 * ss.length = m
  have HMm := Lib.hid hm
  clear hm
  go_wp2
  go_ret
  exact ⟨by rw [HMm.out]; rfl, H.out.1, H.out.2.1, H.out.2.2⟩

set_option maxRecDepth 100000 in
set_option maxHeartbeats 1000000 in
theorem heldSh_any (a : Option Addr) (cap k : Nat) (ss : List ShD) (w : World) (hk : 0 < k) (hn : ss.length ≤ 100) (hkn : k ≤ 1000) (hx : Hid (ShAt w a (mkTo ss k ss.length))) :
    Calls Try.prog 65 #[.slice a ss.length cap, .int .i64 (k : Int)] w fun e w' => e = .returned (.int .i64 ((k + 4 * ss.length : Nat) : Int)) ∧ Below w.heap.size w w' := by
  go_enter Try.func65, Try.ntmps65
  go_wp2_with fail
  go_loopw [1, 5] (fun kv iv wr => ∃ i : Nat, iv = .int .i64 (i : Int) ∧ i ≤ ss.length ∧ kv = .int .i64 ((k + 4 * i : Nat) : Int) ∧ Hid (Below w.heap.size w wr)) (fun _ iv _ => ss.length - (intOf iv).toNat)
  case atStart => exact ⟨0, rfl, by omega, rfl, Below.refl _ _⟩
  case round =>
    obtain ⟨i, rfl, hi, rfl, hB⟩ := hrel
    by_cases hlt : i < ss.length
    · have i0 : (0 : Int) ≤ (i : Int) := by omega
      have i1 : (i : Int) < (ss.length : Int) := by omega
      have hlen := mkTo_length ss k ss.length
      obtain ⟨b, off, rfl, hc⟩ := (hx.out.below hB.out).resolve_left (fun e => by rw [e] at hlen; simp at hlen; omega)
      obtain ⟨e0, v, e1, hv⟩ := hc i (by omega)
      rw [mkTo_get ss k _ i hlt, if_pos hlt] at e0 hv
      clear hc hlen
      obtain ⟨a1, c1, rfl, _, _, hx1⟩ := hv
      have hkb : k + 4 * i ≤ 1400 := by omega
      have hkp : 0 < k + 4 * i := by omega
      have hnext : k + 4 * (i + 1) = k + 4 * i + 4 := by omega
      have hm0 : (mkSh k i).name = mkT (k + 4 * i) := rfl
      have hm1 : (mkSh k i).blocks = mkS (k + 4 * i + 1) 3 := rfl
      rw [hm0] at e0
      rw [hm1] at e1 hx1
      rw [mkS_length] at e1
      clear hm0 hm1
      generalize k + 4 * i = ki at e0 e1 hkb hkp hnext hx1
      have HM := Lib.hid (fun W => mkText_pos ki W hkp (by omega))
      have HX1 := Lib.hid hx1
      have hne : (( mkT ki).toList != (mkT ki).toList) = false := by simp
      have g0 := cell_regrown e0
      generalize mkT ki = t at g0 HM hne
      clear hx1 e0
      go_wp2_with fail
      refine wp_region_quiet_below (by kernel_rfl) (by kernel_rfl) ?_
      repeat (go_big_quiet_step ((go_at_call 78; with_reducible exact Calls.regrown_of (HM.out _))))
      refine wpQuiet_nil ?_
      intro w9 hw9
      have HB9 : Hid (Below wr.heap.size wr w9) := by obtain ⟨p, rfl⟩ := hw9; exact below_regrown _ _ _
      clear hw9
      have e1 := cell_below HB9.out e1
      have HH := Lib.hid (heldTx_any a1 3 c1 (ki + 1) w9 (by omega) (by omega) (HX1.out.below HB9.out))
      rw [show ((ki + 1 : Nat) : Int) = (ki : Int) + 1 by omega] at HH
      go_wp2_with fail
      refine HH.out.mono ?_
      rintro e w2 ⟨rfl, hB2⟩
      have HB2 := Lib.hid (hB.out.trans ((HB9.out.trans (hB2.mono HB9.out.size)).mono hB.out.size))
      have d9 : decide (((ki + 1 + 3 : Nat) : Int) < 0) = false := by simp; omega
      have hk4 : ki + 1 + 3 = ki + 4 := by omega
      clear hB2
      rw [hk4] at d9 ⊢
      go_wp2
      exact ⟨⟨i + 1, by go_num, by omega, by rw [hnext]; go_num, HB2⟩, by simp [intOf]; omega⟩
    · obtain rfl : i = ss.length := by omega
      go_wp2
      go_ret
      exact ⟨rfl, hB.out⟩

set_option maxRecDepth 100000 in
set_option maxHeartbeats 1000000 in
theorem heldMd_any (a : Option Addr) (cap : Nat) (ss : List ShD) (w : World) (hn : ss.length ≤ 100) (hx : Hid (ShAt w a (mkTo ss 1 ss.length))) :
    Calls Try.prog 31 #[.agg #[.slice a ss.length cap], .int .i64 1] w fun e w' => e = .returned (.int .i64 ((1 + 4 * ss.length : Nat) : Int)) ∧ Below w.heap.size w w' := by
  have hB0 : Below w.heap.size w (w.alloc (.cells #[.slice a ss.length cap] 25)) := (Below.refl _ _).alloc (Nat.le_refl _) _
  have HB0 := Lib.hid hB0
  have HC := Lib.hid (heldSh_any a cap 1 ss _ (by omega) hn (by omega) (hx.out.below hB0))
  rw [show ((1 : Nat) : Int) = (1 : Int) by rfl] at HC
  clear hB0
  go_enter Try.func31, Try.ntmps31
  go_wp2_with fail
  refine HC.out.mono ?_
  rintro e w2 ⟨rfl, hB⟩
  have H := Lib.hid (HB0.out.trans (hB.mono HB0.out.size))
  clear hB
  have d9 : decide (((1 + 4 * ss.length : Nat) : Int) < 0) = false := by simp; omega
  generalize hm : 1 + 4 * ss.length = m at d9 ⊢
  have HMm := Lib.hid hm
  clear hm
  go_wp2
  go_ret
  exact ⟨by rw [HMm.out]; rfl, H.out⟩

end Go.Proofs.Ytmmckpjapnkepaa
