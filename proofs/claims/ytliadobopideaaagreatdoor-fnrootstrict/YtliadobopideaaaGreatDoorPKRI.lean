/- The specification's RootRead: it answers the root just if the text is that root's own. Conditions: none but the row's own bound on sizes. -/
import Derived.Test.YtliadobopideaaaGreatDoorPKRH
import Derived.Test.YtliadobopideaaaGreatDoorPKQ4
namespace Go.Proofs.YtliadobopideaaaGreatDoor
open Go.ChangeShapes Go.WideShapes Go.ChangeAt Go.RowKit Go.Sort

/-- WHAT IS READ: the text is just that of an ok root. -/
def ReadsAs (n : Int) (s : ByteArray) : Prop := s.size ≤ 700 ∧ RootOkP n (rootL s.data.toList) ∧ fullT (rootL s.data.toList) = s
def SpRead (n : Int) (s : ByteArray) (w : World) (e : Ending) (w' : World) : Prop :=
  ((ReadsAs n s ∧ ∃ v, e = .returned (.tuple #[.agg #[.int .i64 (rootL s.data.toList).txg, v], .bool true]) ∧ OwnVoD w' w.heap.size v (rootL s.data.toList).vols) ∨ (¬ReadsAs n s ∧ e = .returned (.tuple #[.agg #[.int .i64 0, .slice none 0 0], .bool false]))) ∧ Below w.heap.size w w'
theorem head_getD (l : List UInt8) (c : UInt8) : (cutL c l).headD [] = (cutL c l).getD 0 [] := by
  cases hc : cutL c l with
  | nil => exact absurd hc (cutL_ne c l)
  | cons a r => rfl
theorem read_a {L : List (List UInt8)} (h : (cutL 32 (L.getD 0 [])).length = 2) : readR L (0 + 1) = ⟨numL ((cutL 32 (L.getD 0 [])).getD 1 []), (readR L 0).vols⟩ := by
  show firstR _ = _
  unfold firstR
  rw [if_pos h]; rfl
theorem read_step {L : List (List UInt8)} {i : Nat} (h : i ≠ 0 ∨ (cutL 32 (L.getD i [])).length ≠ 2) : readR L (i + 1) = stepR (readR L i) (L.getD i []) := by
  cases i with
  | zero =>
    show firstR _ = stepR ⟨0, []⟩ _
    unfold firstR
    rw [if_neg (by rcases h with h | h; exact absurd rfl h; exact h)]
  | succ i => rfl
theorem step_vol {r : RootD} {l : List UInt8} (h0 : (cutL 32 l).getD 0 [] = [118, 111, 108]) (h2 : (cutL 32 l).length = 2) : stepR r l = ⟨r.txg, r.vols ++ [⟨tx ((cutL 32 l).getD 1 []), []⟩]⟩ := by
  unfold stepR
  rw [if_pos ⟨by rw [head_getD]; exact h0, h2⟩]
theorem step_ptrs {r : RootD} {l : List UInt8} (h0 : (cutL 32 l).getD 0 [] = [112, 116, 114] ∨ (cutL 32 l).getD 0 [] = [110, 111, 110, 101]) (hv : 0 < r.vols.length) : stepR r l = ⟨r.txg, addBlock r.vols (ptrL l)⟩ := by
  unfold stepR
  rw [head_getD, if_neg (fun c => by rcases h0 with h | h <;> (rw [h] at c; exact absurd c.1 (by decide))), if_pos ⟨hv, h0⟩]
theorem step_else {r : RootD} {l : List UInt8} (h1 : ¬((cutL 32 l).getD 0 [] = [118, 111, 108] ∧ (cutL 32 l).length = 2)) (h2 : r.vols.length = 0 ∨ ((cutL 32 l).getD 0 [] ≠ [112, 116, 114] ∧ (cutL 32 l).getD 0 [] ≠ [110, 111, 110, 101])) : stepR r l = r := by
  unfold stepR
  rw [head_getD, if_neg h1, if_neg]
  rintro ⟨a, b⟩
  rcases h2 with h | ⟨h, k⟩
  · omega
  · rcases b with b | b
    · exact h b
    · exact k b
theorem fullT_ne (r : RootD) : fullT r ≠ ⟨#[]⟩ := by
  intro h
  have h1 : (fullT r).size = 0 := by rw [h]; rfl
  have h2 : (⟨#[10]⟩ : ByteArray).size ≤ (fullT r).size := by unfold fullT; rw [ByteArray.size_append]; omega
  have h3 : (⟨#[10]⟩ : ByteArray).size = 1 := rfl
  omega
theorem reads_root {n : Int} {s : ByteArray} (hs : s.size ≤ 700) : ReadsAs n s ↔ rootT n (rootL s.data.toList) = s ∧ s ≠ ⟨#[]⟩ := by
  constructor
  · rintro ⟨_, h1, h2⟩
    exact ⟨by rw [rootT_ok h1]; exact h2, by rw [← h2]; exact fullT_ne _⟩
  · rintro ⟨h1, h2⟩
    by_cases h : RootOkP n (rootL s.data.toList)
    · exact ⟨hs, h, by rw [← rootT_ok h]; exact h1⟩
    · rw [rootT_no h] at h1
      exact absurd h1.symm h2
theorem none_no {t : ByteArray} (h : t.toList ≠ [118, 111, 108]) : (t.toList == [118, 111, 108]) = false := by rw [beq_eq_false_iff_ne]; exact h
/-- A line's words, as they lie. -/
theorem infoVoR : (Tryz.prog.info? 51).map (fun i => (i.zero, i.size, i.bytes)) = some (some (.agg #[.string ByteArray.empty, .slice none 0 0]), 2, 40) := by kernel_rfl
theorem infoPtR : (Tryz.prog.info? 54).map (fun i => (i.zero, i.size, i.bytes)) = some (some (.agg #[.int .i64 0, .int .i64 0, .slice none 0 0]), 3, 40) := by kernel_rfl

set_option linter.unusedSimpArgs false in
set_option maxRecDepth 100000 in
set_option maxHeartbeats 20000000 in
theorem specRead_any (n : Int) (s : ByteArray) (w : World) :
    Calls Tryz.prog 14 #[.int .i64 n, .string s] w (SpRead n s w) := by
  obtain ⟨i0, hi0, hz0, hz1, hz2⟩ := info_parts infoVoR
  obtain ⟨i3, hi3, hy0, hy1, hy2⟩ := info_parts infoPtR
  have hB0 := Lib.hid (show Below (w.heap.size + 1) (w.alloc (.cells #[.int .i64 0, .slice none 0 0] 25)) (((w.alloc (.cells #[.int .i64 0, .slice none 0 0] 25)).alloc (.cells #[] 51)).alloc (.cells #[.int .i64 0, .slice (some ⟨w.heap.size + 1, 0, none⟩) 0 0] 25)) from ((Below.refl _ _).alloc (by simp) _).alloc (by simp) _)
  have K0 := Lib.hid (show Blk (((w.alloc (.cells #[.int .i64 0, .slice none 0 0] 25)).alloc (.cells #[] 51)).alloc (.cells #[.int .i64 0, .slice (some ⟨w.heap.size + 1, 0, none⟩) 0 0] 25)) w.heap.size #[.int .i64 0, .slice none 0 0] 25 from (Blk.new w #[.int .i64 0, .slice none 0 0] 25).below hB0.out (by omega))
  have KE := Lib.hid (show Blk (((w.alloc (.cells #[.int .i64 0, .slice none 0 0] 25)).alloc (.cells #[] 51)).alloc (.cells #[.int .i64 0, .slice (some ⟨w.heap.size + 1, 0, none⟩) 0 0] 25)) (w.heap.size + 1) #[] 51 from by
    have h := Blk.new (w.alloc (.cells #[.int .i64 0, .slice none 0 0] 25)) #[] 51
    rw [World.size_alloc] at h
    exact h.below (show Below (w.heap.size + 1 + 1) _ _ from (Below.refl _ _).alloc (by simp) _) (by omega))
  have KD := Lib.hid (show Blk (((w.alloc (.cells #[.int .i64 0, .slice none 0 0] 25)).alloc (.cells #[] 51)).alloc (.cells #[.int .i64 0, .slice (some ⟨w.heap.size + 1, 0, none⟩) 0 0] 25)) (w.heap.size + 1 + 1) #[.int .i64 0, .slice (some ⟨w.heap.size + 1, 0, none⟩) 0 0] 25 from by
    have h := Blk.new ((w.alloc (.cells #[.int .i64 0, .slice none 0 0] 25)).alloc (.cells #[] 51)) #[.int .i64 0, .slice (some ⟨w.heap.size + 1, 0, none⟩) 0 0] 25
    simpa using h)
  have hBw := Lib.hid (show Below w.heap.size w (((w.alloc (.cells #[.int .i64 0, .slice none 0 0] 25)).alloc (.cells #[] 51)).alloc (.cells #[.int .i64 0, .slice (some ⟨w.heap.size + 1, 0, none⟩) 0 0] 25)) from (((Below.refl _ _).alloc (Nat.le_refl _) _).alloc (by simp) _).alloc (by simp only [World.size_alloc]; omega) _)
  have hbs : w.heap.size + 1 ≤ (((w.alloc (.cells #[.int .i64 0, .slice none 0 0] 25)).alloc (.cells #[] 51)).alloc (.cells #[.int .i64 0, .slice (some ⟨w.heap.size + 1, 0, none⟩) 0 0] 25)).heap.size := by simp only [World.size_alloc]; omega
  have HSP := Lib.hid (show ∀ e w', (((ReadsAs n s ∧ ∃ v, e = .returned (.tuple #[.agg #[.int .i64 (rootL s.data.toList).txg, v], .bool true]) ∧ OwnVoD w' w.heap.size v (rootL s.data.toList).vols) ∨ (¬ReadsAs n s ∧ e = .returned (.tuple #[.agg #[.int .i64 0, .slice none 0 0], .bool false]))) ∧ Below w.heap.size w w') → SpRead n s w e w' from fun _ _ h => h)
  generalize SpRead n s w = SR at HSP ⊢
  have hc : (10 : UInt8).toNat = 10 := rfl
  have hc2 : (32 : UInt8).toNat = 32 := rfl
  go_enter Tryz.func14, Tryz.ntmps14
  go_upto_region 2 with (fail)
  clear hB0
  generalize ((w.alloc (.cells #[.int .i64 0, .slice none 0 0] 25)).alloc (.cells #[] 51)).alloc (.cells #[.int .i64 0, .slice (some ⟨w.heap.size + 1, 0, none⟩) 0 0] 25) = w0 at K0 KE KD hBw hbs ⊢
  have X0 := Lib.hid (VoX.begin KE.out (Nat.le_refl _) hbs)
  generalize hDD : w.heap.size + 1 + 1 = D at KD ⊢
  have hDb : w.heap.size + 1 ≤ D := by omega
  clear hDD KE
  generalize hEE : w.heap.size + 1 = E at KD X0 hbs hDb ⊢
  have hlt : w.heap.size < E := by omega
  by_cases hs : s.size ≤ 700
  · have d1 : decide (700 < (s.size : Int)) = false := by simp; omega
    have HR := Lib.hid (reads_root (n := n) hs)
    have hs1 : s.size ≤ 1000 := by omega
    go_wp2_with fail
    refine (l2Cut_any s 10 _ hs1).mono ?_
    rintro e w1 ⟨v1, rfl, hO, hB⟩
    obtain ⟨g, cap, rfl, hcap, hbg, hW⟩ := words_ofT hO
    have HW := Lib.hid hW
    have hlen := cutL_len 10 s
    have hpos : 0 < (cutL 10 s.data.toList).length := List.length_pos_iff.2 (cutL_ne 10 _)
    have hws := Lib.hid (fun i => word_size (c := 10) (s := s) i)
    have HRA := Lib.hid (readR_all s.data.toList)
    have HNM := Lib.hid (fun i => read_names (N := 700) (L := cutL 10 s.data.toList) (fun i => by have := word_size (c := 10) (s := s) i; rw [tx_size] at this; omega) i)
    have K1 := Lib.hid (K0.out.below hB K0.out.lt)
    have KD1 := Lib.hid (KD.out.below hB KD.out.lt)
    have X1 := Lib.hid (X0.out.below hB)
    have HB1 := Lib.hid (below_trans hBw.out hB hBw.out.size)
    have hE1 : E ≤ w1.heap.size := Nat.le_trans hbs hB.size
    have hgE : E ≤ g := Nat.le_trans hbs hbg
    clear hO hB hW K0 KD X0 hBw hbg hbs d1
    generalize cutL 10 s.data.toList = L at HW hcap hlen hpos HRA hws HNM
    go_upto_region 5 with (fail)
    go_wp2_with fail
    go_loopw [8, 9, 10] (fun s8 s9 s10 wr => ∃ i : Nat, s8 = .int .i64 (i : Int) ∧ i ≤ L.length ∧ Hid (∃ v xs b2, Blk wr D #[.int .i64 (readR L i).txg, v] 25 ∧ VoX wr E v (readR L i).vols xs b2) ∧ Hid (Below E w1 wr) ∧ Hid (WordsT wr g L)) (fun s8 _ _ _ => L.length - (RowKit.intOf s8).toNat)
    case atStart => exact ⟨0, rfl, by omega, ⟨_, _, _, KD1.out, X1.out⟩, Below.refl _ _, HW⟩
    case round =>
      obtain ⟨i, rfl, hi, hO, hB, hwd⟩ := hrel
      obtain ⟨v, xs, b2, hk, ho⟩ := hO.out
      have KD := Lib.hid hk
      have VX := Lib.hid ho
      clear hk ho hO KD1 X1 HW
      by_cases hil : i < L.length
      · have cw : wr.cell? ⟨g, i, none⟩ = some (.string (tx (L.getD i []))) := hwd.out.cell i hil
        have j0 : (0 : Int) ≤ (i : Int) := by omega
        have j1 : (i : Int) < (L.length : Int) := by omega
        have hxs : (tx (L.getD i [])).size ≤ 1000 := by have := hws.out i; omega
        have HC := Lib.hid (fun W => l2Cut_any (tx (L.getD i [])) 32 W hxs)
        have HP := Lib.hid (fun W => l2PtrRead_any (tx (L.getD i [])) W hxs)
        have hnb := HNM.out i
        have hln := hnb.1
        have RA := Lib.hid (show i = 0 → (cutL 32 (L.getD i [])).length = 2 → readR L (i + 1) = ⟨numL ((cutL 32 (L.getD i [])).getD 1 []), (readR L i).vols⟩ from fun e h => by subst e; exact read_a h)
        have RS := Lib.hid (read_step (L := L) (i := i))
        have RV := Lib.hid (step_vol (r := readR L i) (l := L.getD i []))
        have RP := Lib.hid (step_ptrs (r := readR L i) (l := L.getD i []))
        have RE := Lib.hid (step_else (r := readR L i) (l := L.getD i []))
        generalize readR L i = rd at KD VX hnb hln RA RS RV RP RE
        obtain ⟨T, vs⟩ := rd
        simp only at KD VX hnb hln RA RS RV RP RE
        generalize hx : L.getD i [] = x at cw hxs HC HP RA RS RV RP RE
        go_wp2_with fail
        refine (HC.out _).mono ?_
        rintro e w2 ⟨v2, rfl, hO2, hB2⟩
        obtain ⟨g2, cap2, rfl, hcap2, hbg2, hW2⟩ := words_ofT hO2
        rw [tx_list] at hcap2 hW2 ⊢
        have WM := Lib.hid hW2
        have hMp : 0 < (cutL 32 x).length := List.length_pos_iff.2 (cutL_ne 32 _)
        have HNb := Lib.hid (fun W => l2Num_any (tx ((cutL 32 x).getD 1 [])) W)
        rw [tx_list] at HNb
        generalize cutL 32 x = M at hcap2 WM hMp RA RS RV RP RE HNb ⊢
        have hbh : b2 ≤ wr.heap.size := VX.out.high
        have hbh : b2 ≤ w2.heap.size := Nat.le_trans hbh hB2.size
        have KD := Lib.hid (KD.out.below hB2 KD.out.lt)
        have VX := Lib.hid (VX.out.below hB2)
        have hB := Lib.hid (below_trans hB.out hB2 (by have := hB.out.size; omega))
        have WT := Lib.hid (hwd.out.below hB2)
        have c20 : w2.cell? ⟨g2, 0, none⟩ = some (.string (tx (M.getD 0 []))) := WM.out.cell 0 hMp
        have m0 : (0 : Int) < (M.length : Int) := by omega
        have HNB := Lib.hid hnb
        clear hO2 hB2 hW2 cw hwd HC hnb
        by_cases hn : vs.length = 0
        · obtain ⟨va, vc, rfl⟩ := VX.out.slice
          have Hz := Lib.hid (show vs.length = 0 by omega)
          have dm : decide (0 < (vs.length : Int)) = false := decide_eq_false (by omega)
          have dmn : decide (0 < vs.length) = false := decide_eq_false (by omega)
          clear hn hln
          generalize hm : vs.length = m at KD VX dm dmn Hz ⊢
          have Hm := Lib.hid hm
          clear hm
          have hmb : m ≤ 1000 := by have := Hz.out; omega
          have k1 : w2.cell? ⟨D, 1, none⟩ = some (.slice va m vc) := KD.out.cell 1
          by_cases h0 : i = 0
          · subst h0
            by_cases h2 : M.length = 2
            · have hq := RA.out rfl h2
              have HQ := Lib.hid hq
              have c21 : w2.cell? ⟨g2, 1, none⟩ = some (.string (tx (M.getD 1 []))) := WM.out.cell 1 (by omega)
              have m1 : (1 : Int) < (M.length : Int) := by omega
              have dv : ((M.length : Int) == 2) = true := by simp [h2]
              clear hq RA RS RV RP RE h2
              generalize tx (M.getD 1 []) = T1 at c21 HNb
              generalize numL (M.getD 1 []) = nb at HNb HQ
              have k1 : w2.cell? ⟨D, 1, none⟩ = some (.slice va m vc) := KD.out.cell 1
              go_wp2_with fail
              refine (HNb.out _).mono ?_
              rintro e w3 ⟨rfl, hB3⟩
              have KD := Lib.hid (KD.out.below hB3 KD.out.lt)
              have VX := Lib.hid (VX.out.below hB3)
              have hB := Lib.hid (below_trans hB.out hB3 (by have := hB.out.size; omega))
              have WT := Lib.hid (WT.out.below hB3)
              have k0 : w3.cell? ⟨D, 0, none⟩ = some (.int .i64 T) := KD.out.cell 0
              have f0 := KD.out.frozen 0
              have G := grown_set w3 D 0 (.int .i64 nb)
              have HK := Lib.hid (KD.out.set 0 (.int .i64 nb))
              have HX := Lib.hid (VX.out.keptT G (.box KD.out (by decide)) (.box KD.out (by decide)) (.box KD.out (by decide)))
              have HW9 := Lib.hid (WT.out.keptT G (.box KD.out (by decide)))
              have HB := Lib.hid (hB.out.setCell (p := ⟨D, 0, none⟩) hDb (.int .i64 nb))
              clear G hB3 c21 k1
              go_wp2_with fail
              exact ⟨⟨0 + 1, by go_num, by omega, ⟨_, _, _, by rw [HQ.out]; exact HK.out, by rw [HQ.out]; exact HX.out⟩, HB.out, HW9.out⟩, by simp [RowKit.intOf]; omega⟩
            · have dv2 : ((M.length : Int) == 2) = false := beq_eq_false_iff_ne.2 (by omega)
              have hne : (0 : Nat) ≠ 0 ∨ M.length ≠ 2 := .inr h2
              by_cases hv : M.getD 0 [] = [118, 111, 108]
              · rw [hv] at c20
                have ht : (tx [118, 111, 108]).toList = [118, 111, 108] := by rw [ByteArray.toList_eq]; rfl
                generalize tx [118, 111, 108] = T0 at c20 ht
                have HQ := Lib.hid ((RS.out hne).trans (RE.out (fun c => h2 c.2) (.inl (by have := Hm.out; have := Hz.out; omega))))
                go_wp2_with fail
                exact ⟨⟨0 + 1, by go_num, by omega, ⟨_, _, _, by rw [HQ.out]; exact KD.out, by rw [HQ.out]; exact VX.out⟩, hB.out, WT.out⟩, by simp [RowKit.intOf]; omega⟩
              · have d0 : ((tx (M.getD 0 [])).toList == [118, 111, 108]) = false := by rw [beq_eq_false_iff_ne, ByteArray.toList_eq]; exact hv
                generalize tx (M.getD 0 []) = T0 at c20 d0
                have HQ := Lib.hid ((RS.out hne).trans (RE.out (fun c => hv c.1) (.inl (by have := Hm.out; have := Hz.out; omega))))
                go_wp2_with fail
                exact ⟨⟨0 + 1, by go_num, by omega, ⟨_, _, _, by rw [HQ.out]; exact KD.out, by rw [HQ.out]; exact VX.out⟩, hB.out, WT.out⟩, by simp [RowKit.intOf]; omega⟩
          · have di : ((i : Int) == 0) = false := beq_eq_false_iff_ne.2 (by omega)
            have hne : i ≠ 0 ∨ M.length ≠ 2 := .inl h0
            by_cases hv : M.getD 0 [] = [118, 111, 108]
            · rw [hv] at c20
              have ht : (tx [118, 111, 108]).toList = [118, 111, 108] := by rw [ByteArray.toList_eq]; rfl
              generalize tx [118, 111, 108] = T0 at c20 ht
              by_cases h2 : M.length = 2
              · have dv : ((M.length : Int) == 2) = true := by simp [h2]
                obtain ⟨nm, hnm⟩ : ∃ nm, nm = tx (M.getD 1 []) := ⟨_, rfl⟩
                have hq := (RS.out hne).trans (RV.out hv h2)
                rw [← hnm] at hq
                have HQ := Lib.hid hq
                replace hnm := Lib.hid hnm
                clear RS RV RP RE RA hne hq
                have hmm : (1 : Int) < (M.length : Int) := by omega
                have KDw := Lib.hid (show Blk w2.drew D _ _ from KD.out)
                have VXw := Lib.hid (VX.out.below (Below.refl _ _).drew)
                have WTw := Lib.hid (show WordsT w2.drew g L from WT.out)
                have WMw := Lib.hid (show WordsT w2.drew g2 M from WM.out)
                have hBw := Lib.hid (hB.out.drew)
                have H1M := Lib.hid (show 1 < M.length by omega)
                clear h2
                have sM : w2.drew.cell? ⟨g2, 1, none⟩ = some (.string nm) := by rw [hnm.out]; exact WMw.out.cell 1 H1M.out
                have sD : w2.drew.cell? ⟨D, 1, none⟩ = some (.slice va m vc) := KDw.out.cell 1
                have hown : w2.drew.ownsRow E 51 2 (.slice va m vc) m xs := by have h := VXw.out.row; rw [Hm.out] at h; exact h
                clear KD VX WT WM hB hnm
                go_upto_region 13 with (fail)
                refine AnyS.start (S := (fun w' : World => w'.cell? ⟨D, 1, none⟩ = some (.slice va m vc) ∧ w'.cell? ⟨g2, 1, none⟩ = some (.string nm))) (L := 10) (by kernel_rfl) ?_
                generalize w2.drew = W at KDw VXw WTw WMw hBw sM sD hown ⊢
                refine AnyS.take 0 (show _ = some _ from rfl) rfl (by kernel_rfl) (by kernel_rfl) (by kernel_rfl) (by kernel_rfl) (fun _ _ _ h => h) ⟨sD, sM⟩ (by rfl) (fun w' hSw => by obtain ⟨s1, s2⟩ := hSw; go_simp; try with_reducible rfl) ?_
                try simp only [Act.put, List.setIfInBounds_toArray, List.set_cons_zero, List.set_cons_succ]
                refine AnyS.take 1 (show _ = some _ from rfl) rfl (by kernel_rfl) (by kernel_rfl) (by kernel_rfl) (by kernel_rfl) (fun _ _ _ h => h) ⟨sD, sM⟩ (by rfl) (fun w' hSw => by obtain ⟨s1, s2⟩ := hSw; go_simp; try with_reducible rfl) ?_
                try simp only [Act.put, List.setIfInBounds_toArray, List.set_cons_zero, List.set_cons_succ]
                refine AnyS.take 2 (show _ = some _ from rfl) rfl (by kernel_rfl) (by kernel_rfl) (by kernel_rfl) (by kernel_rfl) (fun _ _ _ h => h) ⟨sD, sM⟩ (by rfl) (fun w' hSw => by obtain ⟨s1, s2⟩ := hSw; go_simp; try with_reducible rfl) ?_
                try simp only [Act.put, List.setIfInBounds_toArray, List.set_cons_zero, List.set_cons_succ]
                refine AnyS.take 3 (show _ = some _ from rfl) rfl (by kernel_rfl) (by kernel_rfl) (by kernel_rfl) (by kernel_rfl) (fun _ _ _ h => h) ⟨sD, sM⟩ (by rfl) (fun w' hSw => by obtain ⟨s1, s2⟩ := hSw; go_simp; try with_reducible rfl) ?_
                try simp only [Act.put, List.setIfInBounds_toArray, List.set_cons_zero, List.set_cons_succ]
                refine AnyS.take 4 (show _ = some _ from rfl) rfl (by kernel_rfl) (by kernel_rfl) (by kernel_rfl) (by kernel_rfl) (fun _ _ _ h => h) ⟨sD, sM⟩ (by rfl) (fun w' hSw => by obtain ⟨s1, s2⟩ := hSw; go_simp; try with_reducible rfl) ?_
                try simp only [Act.put, List.setIfInBounds_toArray, List.set_cons_zero, List.set_cons_succ]
                have A1 : Below W.heap.size W (W.alloc (.cells #[] 54)) := (Below.refl _ _).alloc (Nat.le_refl _) _
                have A2 : Below W.heap.size W ((W.alloc (.cells #[] 54)).alloc (.cells #[.string nm, .slice (some ⟨W.heap.size, 0, none⟩) 0 0] 51)) := A1.alloc (by simp) _
                have sD1 := cell_below A1 sD
                have sM1 := cell_below A1 sM
                have sD2 := cell_below A2 sD
                have sM2 := cell_below A2 sM
                have hown2 := own_below hown A2
                have hnews : ∀ j u, [.string nm, .slice (some ⟨W.heap.size, 0, none⟩) 0 0][j]? = some u → ((W.alloc (.cells #[] 54)).alloc (.cells #[.string nm, .slice (some ⟨W.heap.size, 0, none⟩) 0 0] 51)).cell? ((⟨W.heap.size + 1, 0, none⟩ : Addr).add j) = some u := by
                  have h := news_twoR (W.alloc (.cells #[] 54)) (.string nm) (.slice (some ⟨W.heap.size, 0, none⟩) 0 0) 51
                  rw [World.size_alloc] at h
                  exact h
                have hbase : E ≤ ((W.alloc (.cells #[] 54)).alloc (.cells #[.string nm, .slice (some ⟨W.heap.size, 0, none⟩) 0 0] 51)).heap.size := by have := hBw.out.size; have := A2.size; omega
                have KD2 := Lib.hid (KDw.out.below A2 KDw.out.lt)
                have WT2 := Lib.hid (WTw.out.below A2)
                have WM2 := Lib.hid (WMw.out.below A2)
                have hB2 := Lib.hid (below_trans hBw.out A2 (by have := hBw.out.size; omega))
                clear A1 A2
                refine AnyS.one 5 (by kernel_rfl) (show _ = some _ from rfl) (fun K' hK' => ?_)
                go_simp
                refine hK' _ _ ⟨?_, fun _ => ⟨sD1, sM1⟩⟩
                clear hK' K'
                try simp only [Act.put, List.setIfInBounds_toArray, List.set_cons_zero, List.set_cons_succ]
                refine AnyS.one 6 (by kernel_rfl) (show _ = some _ from rfl) (fun K' hK' => ?_)
                go_simp
                refine hK' _ _ ⟨?_, fun _ => ⟨sD1, sM1⟩⟩
                clear hK' K'
                try simp only [Act.put, List.setIfInBounds_toArray, List.set_cons_zero, List.set_cons_succ]
                refine AnyS.one 7 (by kernel_rfl) (show _ = some _ from rfl) (fun K' hK' => ?_)
                go_simp
                refine hK' _ _ ⟨?_, fun _ => ⟨sD2, sM2⟩⟩
                clear hK' K'
                try simp only [Act.put, List.setIfInBounds_toArray, List.set_cons_zero, List.set_cons_succ]
                refine AnyS.one 8 (by kernel_rfl) (show _ = some _ from rfl) (fun K' hK' => ?_)
                refine step_append_lies _ (by rfl) _ _ 23 (by rfl) E 51 i0 _ 2 40 Tryz.underlying23 hi0 hz0 hz1 hz2 rfl (by omega) _ m xs (by rfl) hown2 ⟨_, 0, none⟩ 1 1 [.string nm, .slice (some ⟨W.heap.size, 0, none⟩) 0 0] (by rfl) rfl hnews (by simp [Value.oneCell']) (by omega) (by simp [maxLen]; omega) (by omega) hbase _ rfl ?_
                intro g4 cap4 w9 hown4 hgrow4 hat4 hlt4
                obtain ⟨KDn, VXn⟩ := VXw.out.vol' Hm.out KDw.out hown4 hgrow4
                have KD9 := grown_blk KD2.out hgrow4 (own_kind hown2 KD2.out (by decide))
                have WT9 := WT2.out.keptT hgrow4 (.row hown2 (by decide))
                have WM9 := WM2.out.keptT hgrow4 (.row hown2 (by decide))
                have HB9 := hB2.out.grown hgrow4 hbase (fun k e => (hown2.lt k e).1)
                have sD9 := KD9.cell 1
                have f9 := KD9.frozen 1
                have sM9 : w9.cell? ⟨g2, 1, none⟩ = some (.string nm) := (WM9.cell 1 H1M.out).trans ((WMw.out.cell 1 H1M.out).symm.trans sM)
                have HK := Lib.hid KDn
                have HX := Lib.hid VXn
                have HW9 := Lib.hid (WT9.keptT (grown_set w9 D 1 (.slice (some ⟨g4, 0, none⟩) (m + 1) cap4)) (.box KD9 (by decide)))
                have HB := Lib.hid (HB9.setCell (p := ⟨D, 1, none⟩) hDb (.slice (some ⟨g4, 0, none⟩) (m + 1) cap4))
                clear KDn VXn KD9 WT9 WM9 HB9 hown4 hgrow4 hat4 hlt4
                refine hK' _ _ ⟨?_, fun _ => ⟨sD9, sM9⟩⟩
                clear hK' K'
                try simp only [Act.put, List.setIfInBounds_toArray, List.set_cons_zero, List.set_cons_succ]
                refine AnyS.one 9 (by kernel_rfl) (show _ = some _ from rfl) (fun K' hK' => ?_)
                go_simp
                refine hK' _ _ ⟨?_, fun _ => ⟨sD9, sM9⟩⟩
                clear hK' K'
                try simp only [Act.put, List.setIfInBounds_toArray, List.set_cons_zero, List.set_cons_succ]
                refine AnyS.one 10 (by kernel_rfl) (show _ = some _ from rfl) (fun K' hK' => ?_)
                go_simp
                refine hK' _ _ ⟨AnyS.done (by kernel_rfl) ?_, fun h => absurd rfl h⟩
                clear hK' K'
                try simp only [Act.put, List.setIfInBounds_toArray, List.set_cons_zero, List.set_cons_succ]
                go_wp2_with fail
                exact ⟨⟨i + 1, by go_num, by omega, ⟨_, _, _, by rw [HQ.out]; exact HK.out, by rw [HQ.out]; exact HX.out⟩, HB.out, HW9.out⟩, by simp [RowKit.intOf]; omega⟩
              · have dv : ((M.length : Int) == 2) = false := beq_eq_false_iff_ne.2 (by omega)
                have HQ := Lib.hid ((RS.out hne).trans (RE.out (fun c => h2 c.2) (.inl (by have := Hm.out; have := Hz.out; omega))))
                go_wp2_with fail
                exact ⟨⟨i + 1, by go_num, by omega, ⟨_, _, _, by rw [HQ.out]; exact KD.out, by rw [HQ.out]; exact VX.out⟩, hB.out, WT.out⟩, by simp [RowKit.intOf]; omega⟩
            · have d0 : ((tx (M.getD 0 [])).toList == [118, 111, 108]) = false := by rw [beq_eq_false_iff_ne, ByteArray.toList_eq]; exact hv
              generalize tx (M.getD 0 []) = T0 at c20 d0
              have HQ := Lib.hid ((RS.out hne).trans (RE.out (fun c => hv c.1) (.inl (by have := Hm.out; have := Hz.out; omega))))
              go_wp2_with fail
              exact ⟨⟨i + 1, by go_num, by omega, ⟨_, _, _, by rw [HQ.out]; exact KD.out, by rw [HQ.out]; exact VX.out⟩, hB.out, WT.out⟩, by simp [RowKit.intOf]; omega⟩
        · obtain ⟨q, hm⟩ : ∃ q, vs.length = q + 1 := ⟨vs.length - 1, by omega⟩
          obtain ⟨gv, vc, rfl⟩ := VX.out.slice1 hm
          have Hm := Lib.hid hm
          have hqb : q ≤ 1000 := by omega
          have h0 : i ≠ 0 := by omega
          have k1 : w2.cell? ⟨D, 1, none⟩ = some (.slice (some ⟨gv, 0, none⟩) (q + 1) vc) := KD.out.cell 1
          have di : ((i : Int) == 0) = false := beq_eq_false_iff_ne.2 (by omega)
          have hne : i ≠ 0 ∨ M.length ≠ 2 := .inl h0
          have dm : decide (0 < (q : Int) + 1) = true := decide_eq_true (by omega)
          have dm2 : decide (-1 < (q : Int)) = true := decide_eq_true (by omega)
          clear hn hln hm
          by_cases hv : M.getD 0 [] = [118, 111, 108]
          · rw [hv] at c20
            have ht : (tx [118, 111, 108]).toList = [118, 111, 108] := by rw [ByteArray.toList_eq]; rfl
            generalize tx [118, 111, 108] = T0 at c20 ht
            by_cases h2 : M.length = 2
            · have dv : ((M.length : Int) == 2) = true := by simp [h2]
              obtain ⟨nm, hnm⟩ : ∃ nm, nm = tx (M.getD 1 []) := ⟨_, rfl⟩
              have hq := (RS.out hne).trans (RV.out hv h2)
              rw [← hnm] at hq
              have HQ := Lib.hid hq
              replace hnm := Lib.hid hnm
              clear RS RV RP RE RA hne hq
              have hmm : (1 : Int) < (M.length : Int) := by omega
              have KDw := Lib.hid (show Blk w2.drew D _ _ from KD.out)
              have VXw := Lib.hid (VX.out.below (Below.refl _ _).drew)
              have WTw := Lib.hid (show WordsT w2.drew g L from WT.out)
              have WMw := Lib.hid (show WordsT w2.drew g2 M from WM.out)
              have hBw := Lib.hid (hB.out.drew)
              have H1M := Lib.hid (show 1 < M.length by omega)
              clear h2
              have sM : w2.drew.cell? ⟨g2, 1, none⟩ = some (.string nm) := by rw [hnm.out]; exact WMw.out.cell 1 H1M.out
              have sD : w2.drew.cell? ⟨D, 1, none⟩ = some (.slice (some ⟨gv, 0, none⟩) (q + 1) vc) := KDw.out.cell 1
              have hown : w2.drew.ownsRow E 51 2 (.slice (some ⟨gv, 0, none⟩) (q + 1) vc) (q + 1) xs := by have h := VXw.out.row; rw [Hm.out] at h; exact h
              clear KD VX WT WM hB hnm
              go_upto_region 13 with (fail)
              refine AnyS.start (S := (fun w' : World => w'.cell? ⟨D, 1, none⟩ = some (.slice (some ⟨gv, 0, none⟩) (q + 1) vc) ∧ w'.cell? ⟨g2, 1, none⟩ = some (.string nm))) (L := 10) (by kernel_rfl) ?_
              generalize w2.drew = W at KDw VXw WTw WMw hBw sM sD hown ⊢
              refine AnyS.take 0 (show _ = some _ from rfl) rfl (by kernel_rfl) (by kernel_rfl) (by kernel_rfl) (by kernel_rfl) (fun _ _ _ h => h) ⟨sD, sM⟩ (by rfl) (fun w' hSw => by obtain ⟨s1, s2⟩ := hSw; go_simp; try with_reducible rfl) ?_
              try simp only [Act.put, List.setIfInBounds_toArray, List.set_cons_zero, List.set_cons_succ]
              refine AnyS.take 1 (show _ = some _ from rfl) rfl (by kernel_rfl) (by kernel_rfl) (by kernel_rfl) (by kernel_rfl) (fun _ _ _ h => h) ⟨sD, sM⟩ (by rfl) (fun w' hSw => by obtain ⟨s1, s2⟩ := hSw; go_simp; try with_reducible rfl) ?_
              try simp only [Act.put, List.setIfInBounds_toArray, List.set_cons_zero, List.set_cons_succ]
              refine AnyS.take 2 (show _ = some _ from rfl) rfl (by kernel_rfl) (by kernel_rfl) (by kernel_rfl) (by kernel_rfl) (fun _ _ _ h => h) ⟨sD, sM⟩ (by rfl) (fun w' hSw => by obtain ⟨s1, s2⟩ := hSw; go_simp; try with_reducible rfl) ?_
              try simp only [Act.put, List.setIfInBounds_toArray, List.set_cons_zero, List.set_cons_succ]
              refine AnyS.take 3 (show _ = some _ from rfl) rfl (by kernel_rfl) (by kernel_rfl) (by kernel_rfl) (by kernel_rfl) (fun _ _ _ h => h) ⟨sD, sM⟩ (by rfl) (fun w' hSw => by obtain ⟨s1, s2⟩ := hSw; go_simp; try with_reducible rfl) ?_
              try simp only [Act.put, List.setIfInBounds_toArray, List.set_cons_zero, List.set_cons_succ]
              refine AnyS.take 4 (show _ = some _ from rfl) rfl (by kernel_rfl) (by kernel_rfl) (by kernel_rfl) (by kernel_rfl) (fun _ _ _ h => h) ⟨sD, sM⟩ (by rfl) (fun w' hSw => by obtain ⟨s1, s2⟩ := hSw; go_simp; try with_reducible rfl) ?_
              try simp only [Act.put, List.setIfInBounds_toArray, List.set_cons_zero, List.set_cons_succ]
              have A1 : Below W.heap.size W (W.alloc (.cells #[] 54)) := (Below.refl _ _).alloc (Nat.le_refl _) _
              have A2 : Below W.heap.size W ((W.alloc (.cells #[] 54)).alloc (.cells #[.string nm, .slice (some ⟨W.heap.size, 0, none⟩) 0 0] 51)) := A1.alloc (by simp) _
              have sD1 := cell_below A1 sD
              have sM1 := cell_below A1 sM
              have sD2 := cell_below A2 sD
              have sM2 := cell_below A2 sM
              have hown2 := own_below hown A2
              have hnews : ∀ j u, [.string nm, .slice (some ⟨W.heap.size, 0, none⟩) 0 0][j]? = some u → ((W.alloc (.cells #[] 54)).alloc (.cells #[.string nm, .slice (some ⟨W.heap.size, 0, none⟩) 0 0] 51)).cell? ((⟨W.heap.size + 1, 0, none⟩ : Addr).add j) = some u := by
                have h := news_twoR (W.alloc (.cells #[] 54)) (.string nm) (.slice (some ⟨W.heap.size, 0, none⟩) 0 0) 51
                rw [World.size_alloc] at h
                exact h
              have hbase : E ≤ ((W.alloc (.cells #[] 54)).alloc (.cells #[.string nm, .slice (some ⟨W.heap.size, 0, none⟩) 0 0] 51)).heap.size := by have := hBw.out.size; have := A2.size; omega
              have KD2 := Lib.hid (KDw.out.below A2 KDw.out.lt)
              have WT2 := Lib.hid (WTw.out.below A2)
              have WM2 := Lib.hid (WMw.out.below A2)
              have hB2 := Lib.hid (below_trans hBw.out A2 (by have := hBw.out.size; omega))
              clear A1 A2
              refine AnyS.one 5 (by kernel_rfl) (show _ = some _ from rfl) (fun K' hK' => ?_)
              go_simp
              refine hK' _ _ ⟨?_, fun _ => ⟨sD1, sM1⟩⟩
              clear hK' K'
              try simp only [Act.put, List.setIfInBounds_toArray, List.set_cons_zero, List.set_cons_succ]
              refine AnyS.one 6 (by kernel_rfl) (show _ = some _ from rfl) (fun K' hK' => ?_)
              go_simp
              refine hK' _ _ ⟨?_, fun _ => ⟨sD1, sM1⟩⟩
              clear hK' K'
              try simp only [Act.put, List.setIfInBounds_toArray, List.set_cons_zero, List.set_cons_succ]
              refine AnyS.one 7 (by kernel_rfl) (show _ = some _ from rfl) (fun K' hK' => ?_)
              go_simp
              refine hK' _ _ ⟨?_, fun _ => ⟨sD2, sM2⟩⟩
              clear hK' K'
              try simp only [Act.put, List.setIfInBounds_toArray, List.set_cons_zero, List.set_cons_succ]
              refine AnyS.one 8 (by kernel_rfl) (show _ = some _ from rfl) (fun K' hK' => ?_)
              refine step_append_lies _ (by rfl) _ _ 23 (by rfl) E 51 i0 _ 2 40 Tryz.underlying23 hi0 hz0 hz1 hz2 rfl (by omega) _ (q + 1) xs (by rfl) hown2 ⟨_, 0, none⟩ 1 1 [.string nm, .slice (some ⟨W.heap.size, 0, none⟩) 0 0] (by rfl) rfl hnews (by simp [Value.oneCell']) (by omega) (by simp [maxLen]; omega) (by omega) hbase _ rfl ?_
              intro g4 cap4 w9 hown4 hgrow4 hat4 hlt4
              obtain ⟨KDn, VXn⟩ := VXw.out.vol' Hm.out KDw.out hown4 hgrow4
              have KD9 := grown_blk KD2.out hgrow4 (own_kind hown2 KD2.out (by decide))
              have WT9 := WT2.out.keptT hgrow4 (.row hown2 (by decide))
              have WM9 := WM2.out.keptT hgrow4 (.row hown2 (by decide))
              have HB9 := hB2.out.grown hgrow4 hbase (fun k e => (hown2.lt k e).1)
              have sD9 := KD9.cell 1
              have f9 := KD9.frozen 1
              have sM9 : w9.cell? ⟨g2, 1, none⟩ = some (.string nm) := (WM9.cell 1 H1M.out).trans ((WMw.out.cell 1 H1M.out).symm.trans sM)
              have HK := Lib.hid KDn
              have HX := Lib.hid VXn
              have HW9 := Lib.hid (WT9.keptT (grown_set w9 D 1 (.slice (some ⟨g4, 0, none⟩) ((q + 1) + 1) cap4)) (.box KD9 (by decide)))
              have HB := Lib.hid (HB9.setCell (p := ⟨D, 1, none⟩) hDb (.slice (some ⟨g4, 0, none⟩) ((q + 1) + 1) cap4))
              clear KDn VXn KD9 WT9 WM9 HB9 hown4 hgrow4 hat4 hlt4
              refine hK' _ _ ⟨?_, fun _ => ⟨sD9, sM9⟩⟩
              clear hK' K'
              try simp only [Act.put, List.setIfInBounds_toArray, List.set_cons_zero, List.set_cons_succ]
              refine AnyS.one 9 (by kernel_rfl) (show _ = some _ from rfl) (fun K' hK' => ?_)
              go_simp
              refine hK' _ _ ⟨?_, fun _ => ⟨sD9, sM9⟩⟩
              clear hK' K'
              try simp only [Act.put, List.setIfInBounds_toArray, List.set_cons_zero, List.set_cons_succ]
              refine AnyS.one 10 (by kernel_rfl) (show _ = some _ from rfl) (fun K' hK' => ?_)
              go_simp
              refine hK' _ _ ⟨AnyS.done (by kernel_rfl) ?_, fun h => absurd rfl h⟩
              clear hK' K'
              try simp only [Act.put, List.setIfInBounds_toArray, List.set_cons_zero, List.set_cons_succ]
              go_wp2_with fail
              exact ⟨⟨i + 1, by go_num, by omega, ⟨_, _, _, by rw [HQ.out]; exact HK.out, by rw [HQ.out]; exact HX.out⟩, HB.out, HW9.out⟩, by simp [RowKit.intOf]; omega⟩
            · have dv : ((M.length : Int) == 2) = false := beq_eq_false_iff_ne.2 (by omega)
              have HQ := Lib.hid ((RS.out hne).trans (RE.out (fun c => h2 c.2) (.inr ⟨by rw [hv]; decide, by rw [hv]; decide⟩)))
              go_wp2_with fail
              exact ⟨⟨i + 1, by go_num, by omega, ⟨_, _, _, by rw [HQ.out]; exact KD.out, by rw [HQ.out]; exact VX.out⟩, hB.out, WT.out⟩, by simp [RowKit.intOf]; omega⟩
          · by_cases hp : M.getD 0 [] = [112, 116, 114]
            · rw [hp] at c20
              have ht : (tx [112, 116, 114]).toList = [112, 116, 114] := by rw [ByteArray.toList_eq]; rfl
              generalize tx [112, 116, 114] = T0 at c20 ht
              have HQ := Lib.hid ((RS.out hne).trans (RP.out (.inl hp) (by have := Hm.out; omega)))
              clear RS RV RP RE RA hne
              obtain ⟨nm, us, hus0, hus1, hys⟩ := VX.out.end_of Hm.out
              obtain ⟨ys, hy, hyr⟩ := hys
              have HY := Lib.hid (own_below hy (Below.refl _ w2).drew)
              have HYR := Lib.hid (hyr.below (Below.refl _ w2).drew)
              have HUS := Lib.hid hus1
              have KDw := Lib.hid (show Blk w2.drew D _ _ from KD.out)
              have VXw := Lib.hid (VX.out.below (Below.refl _ _).drew)
              have WTw := Lib.hid (show WordsT w2.drew g L from WT.out)
              have hBw := Lib.hid (hB.out.drew)
              have sD : w2.drew.cell? ⟨D, 1, none⟩ = some (.slice (some ⟨gv, 0, none⟩) (q + 1) vc) := KDw.out.cell 1
              have sU : w2.drew.cell? ⟨gv, q * 2 + 1, none⟩ = some us := by
                have h := VXw.out.row
                rw [Hm.out] at h
                exact (own_cell h (q * 2 + 1) (by omega)).1.trans HUS.out
              have sL : w2.drew.cell? ⟨g, i, none⟩ = some (.string (tx x)) := WTw.out.cell i hil |>.trans (by rw [hx])
              have q0 : (0 : Int) ≤ (q : Int) := by omega
              have q1 : (q : Int) < (q : Int) + 1 := by omega
              have hqw : IntKind.i64.wrap (q : Int) = (q : Int) := by simp [IntKind.wrap, IntKind.bits, IntKind.signed]; omega
              clear KD VX WT WM hB hy hyr hus1 hus0
              go_upto_region 15 with (fail)
              refine AnyS.start (S := (fun w' : World => w'.cell? ⟨D, 1, none⟩ = some (.slice (some ⟨gv, 0, none⟩) (q + 1) vc) ∧ w'.cell? ⟨gv, q * 2 + 1, none⟩ = some us ∧ w'.cell? ⟨g, i, none⟩ = some (.string (tx x)))) (L := 20) (by kernel_rfl) ?_
              generalize w2.drew = W at KDw VXw WTw hBw HY HYR sD sU sL ⊢
              refine AnyS.take 0 (show _ = some _ from rfl) rfl (by kernel_rfl) (by kernel_rfl) (by kernel_rfl) (by kernel_rfl) (fun _ _ _ h => h) ⟨sD, sU, sL⟩ (by rfl) (fun w' hSw => by obtain ⟨s1, s2, s3⟩ := hSw; go_simp; try with_reducible rfl) ?_
              try simp only [Act.put, List.setIfInBounds_toArray, List.set_cons_zero, List.set_cons_succ]
              refine AnyS.take 1 (show _ = some _ from rfl) rfl (by kernel_rfl) (by kernel_rfl) (by kernel_rfl) (by kernel_rfl) (fun _ _ _ h => h) ⟨sD, sU, sL⟩ (by rfl) (fun w' hSw => by obtain ⟨s1, s2, s3⟩ := hSw; go_simp; try with_reducible rfl) ?_
              try simp only [Act.put, List.setIfInBounds_toArray, List.set_cons_zero, List.set_cons_succ]
              refine AnyS.take 2 (show _ = some _ from rfl) rfl (by kernel_rfl) (by kernel_rfl) (by kernel_rfl) (by kernel_rfl) (fun _ _ _ h => h) ⟨sD, sU, sL⟩ (by rfl) (fun w' hSw => by obtain ⟨s1, s2, s3⟩ := hSw; go_simp; try with_reducible rfl) ?_
              try simp only [Act.put, List.setIfInBounds_toArray, List.set_cons_zero, List.set_cons_succ]
              refine AnyS.take 3 (show _ = some _ from rfl) rfl (by kernel_rfl) (by kernel_rfl) (by kernel_rfl) (by kernel_rfl) (fun _ _ _ h => h) ⟨sD, sU, sL⟩ (by rfl) (fun w' hSw => by obtain ⟨s1, s2, s3⟩ := hSw; go_simp; try with_reducible rfl) ?_
              try simp only [Act.put, List.setIfInBounds_toArray, List.set_cons_zero, List.set_cons_succ]
              refine AnyS.take 4 (show _ = some _ from rfl) rfl (by kernel_rfl) (by kernel_rfl) (by kernel_rfl) (by kernel_rfl) (fun _ _ _ h => h) ⟨sD, sU, sL⟩ (by rfl) (fun w' hSw => by obtain ⟨s1, s2, s3⟩ := hSw; go_simp; try with_reducible rfl) ?_
              try simp only [Act.put, List.setIfInBounds_toArray, List.set_cons_zero, List.set_cons_succ]
              refine AnyS.take 5 (show _ = some _ from rfl) rfl (by kernel_rfl) (by kernel_rfl) (by kernel_rfl) (by kernel_rfl) (fun _ _ _ h => h) ⟨sD, sU, sL⟩ (by rfl) (fun w' hSw => by obtain ⟨s1, s2, s3⟩ := hSw; go_simp; try with_reducible rfl) ?_
              try simp only [Act.put, List.setIfInBounds_toArray, List.set_cons_zero, List.set_cons_succ]
              refine AnyS.take 6 (show _ = some _ from rfl) rfl (by kernel_rfl) (by kernel_rfl) (by kernel_rfl) (by kernel_rfl) (fun _ _ _ h => h) ⟨sD, sU, sL⟩ (by rfl) (fun w' hSw => by obtain ⟨s1, s2, s3⟩ := hSw; go_simp; try with_reducible rfl) ?_
              try simp only [Act.put, List.setIfInBounds_toArray, List.set_cons_zero, List.set_cons_succ]
              refine AnyS.take 7 (show _ = some _ from rfl) rfl (by kernel_rfl) (by kernel_rfl) (by kernel_rfl) (by kernel_rfl) (fun _ _ _ h => h) ⟨sD, sU, sL⟩ (by rfl) (fun w' hSw => by obtain ⟨s1, s2, s3⟩ := hSw; go_simp; try with_reducible rfl) ?_
              try simp only [Act.put, List.setIfInBounds_toArray, List.set_cons_zero, List.set_cons_succ]
              refine AnyS.take 8 (show _ = some _ from rfl) rfl (by kernel_rfl) (by kernel_rfl) (by kernel_rfl) (by kernel_rfl) (fun _ _ _ h => h) ⟨sD, sU, sL⟩ (by rfl) (fun w' hSw => by obtain ⟨s1, s2, s3⟩ := hSw; go_simp; try with_reducible rfl) ?_
              try simp only [Act.put, List.setIfInBounds_toArray, List.set_cons_zero, List.set_cons_succ]
              refine AnyS.take 9 (show _ = some _ from rfl) rfl (by kernel_rfl) (by kernel_rfl) (by kernel_rfl) (by kernel_rfl) (fun _ _ _ h => h) ⟨sD, sU, sL⟩ (by rfl) (fun w' hSw => by obtain ⟨s1, s2, s3⟩ := hSw; go_simp; try with_reducible rfl) ?_
              try simp only [Act.put, List.setIfInBounds_toArray, List.set_cons_zero, List.set_cons_succ]
              refine AnyS.take 10 (show _ = some _ from rfl) rfl (by kernel_rfl) (by kernel_rfl) (by kernel_rfl) (by kernel_rfl) (fun _ _ _ h => h) ⟨sD, sU, sL⟩ (by rfl) (fun w' hSw => by obtain ⟨s1, s2, s3⟩ := hSw; go_simp; try with_reducible rfl) ?_
              try simp only [Act.put, List.setIfInBounds_toArray, List.set_cons_zero, List.set_cons_succ]
              refine AnyS.take 11 (show _ = some _ from rfl) rfl (by kernel_rfl) (by kernel_rfl) (by kernel_rfl) (by kernel_rfl) (fun _ _ _ h => h) ⟨sD, sU, sL⟩ (by rfl) (fun w' hSw => by obtain ⟨s1, s2, s3⟩ := hSw; go_simp; try with_reducible rfl) ?_
              try simp only [Act.put, List.setIfInBounds_toArray, List.set_cons_zero, List.set_cons_succ]
              refine AnyS.take 12 (show _ = some _ from rfl) rfl (by kernel_rfl) (by kernel_rfl) (by kernel_rfl) (by kernel_rfl) (fun _ _ _ h => h) ⟨sD, sU, sL⟩ (by rfl) (fun w' hSw => by obtain ⟨s1, s2, s3⟩ := hSw; go_simp; try with_reducible rfl) ?_
              try simp only [Act.put, List.setIfInBounds_toArray, List.set_cons_zero, List.set_cons_succ]
              refine AnyS.take 13 (show _ = some _ from rfl) rfl (by kernel_rfl) (by kernel_rfl) (by kernel_rfl) (by kernel_rfl) (fun _ _ _ h => h) ⟨sD, sU, sL⟩ (by rfl) (fun w' hSw => by obtain ⟨s1, s2, s3⟩ := hSw; go_simp; try with_reducible rfl) ?_
              try simp only [Act.put, List.setIfInBounds_toArray, List.set_cons_zero, List.set_cons_succ]
              refine AnyS.take 14 (show _ = some _ from rfl) rfl (by kernel_rfl) (by kernel_rfl) (by kernel_rfl) (by kernel_rfl) (fun _ _ _ h => h) ⟨sD, sU, sL⟩ (by rfl) (fun w' hSw => by obtain ⟨s1, s2, s3⟩ := hSw; go_simp; try with_reducible rfl) ?_
              try simp only [Act.put, List.setIfInBounds_toArray, List.set_cons_zero, List.set_cons_succ]
              refine AnyS.one 15 (by kernel_rfl) (show _ = some _ from rfl) (fun K' hK' => ?_)
              go_simp
              go_at_call 45
              refine (HP.out _).mono ?_
              rintro e wc ⟨pv, rfl, hpl, hBc⟩
              rw [tx_list] at hpl ⊢
              generalize ptrL x = pt at hpl HQ ⊢
              obtain ⟨z, sm, ps⟩ := pt
              simp only at hpl HQ ⊢
              obtain ⟨pa, pc, rfl, hpc, hpm, _⟩ := OwnPl.reads hpl
              have hWs : b2 ≤ W.heap.size := VXw.out.high
              have hbl : (vs.getD q vol0).blocks.length ≤ 1000 := by have := (HNB.out.2 q (by have := Hm.out; omega)).2; omega
              have HPV := Lib.hid hpl
              have sDc := cell_below hBc sD
              have sUc := cell_below hBc sU
              have sLc := cell_below hBc sL
              have KDw := Lib.hid (KDw.out.below hBc KDw.out.lt)
              have VXw := Lib.hid (VXw.out.below hBc)
              have WTw := Lib.hid (WTw.out.below hBc)
              have HY := Lib.hid (own_below HY.out hBc)
              have HYR := Lib.hid (HYR.out.below hBc)
              have hBw := Lib.hid (below_trans hBw.out hBc (by have := hBw.out.size; omega))
              have HPV := Lib.hid (OwnPl.mono HPV.out hWs)
              clear hBc hpl sD sU sL
              go_simp
              refine hK' _ _ ⟨?_, fun _ => ⟨sDc, sUc, sLc⟩⟩
              clear hK' K'
              try simp only [Act.put, List.setIfInBounds_toArray, List.set_cons_zero, List.set_cons_succ]
              have A : Below wc.heap.size wc (wc.alloc (.cells #[.int .i64 z, .int .i64 sm, .slice pa ps.length pc] 54)) := (Below.refl _ _).alloc (Nat.le_refl _) _
              have sD1 := cell_below A sDc
              have sU1 := cell_below A sUc
              have sL1 := cell_below A sLc
              have hown2 := own_below HY.out A
              have hnews := World.news_of_block (Blk.new wc #[.int .i64 z, .int .i64 sm, .slice pa ps.length pc] 54)
              have hbase : b2 ≤ (wc.alloc (.cells #[.int .i64 z, .int .i64 sm, .slice pa ps.length pc] 54)).heap.size := Nat.le_trans VXw.out.high A.size
              have KD2 := Lib.hid (KDw.out.below A KDw.out.lt)
              have WT2 := Lib.hid (WTw.out.below A)
              have hB2 := Lib.hid (below_trans hBw.out A (by have := hBw.out.size; omega))
              have VX2 := Lib.hid (VXw.out.below A)
              clear A
              refine AnyS.one 16 (by kernel_rfl) (show _ = some _ from rfl) (fun K' hK' => ?_)
              go_simp
              refine hK' _ _ ⟨?_, fun _ => ⟨sD1, sU1, sL1⟩⟩
              clear hK' K'
              try simp only [Act.put, List.setIfInBounds_toArray, List.set_cons_zero, List.set_cons_succ]
              refine AnyS.one 17 (by kernel_rfl) (show _ = some _ from rfl) (fun K' hK' => ?_)
              refine step_append_lies _ (by rfl) _ _ 49 (by rfl) b2 54 i3 _ 3 40 Tryz.underlying49 hi3 hy0 hy1 hy2 rfl (by omega) _ (vs.getD q vol0).blocks.length ys (by rfl) hown2 ⟨_, 0, none⟩ 1 1 [.int .i64 z, .int .i64 sm, .slice pa ps.length pc] (by rfl) rfl hnews (by simp [Value.oneCell']) (by omega) (by unfold maxLen; omega) (by omega) hbase _ rfl ?_
              intro g4 cap4 w9 hown4 hgrow4 hat4 hlt4
              obtain ⟨KDn, VXn⟩ := VXw.out.block Hm.out KDw.out HUS.out HY.out HYR.out HPV.out hown4 hgrow4
              have KD9 := grown_blk KD2.out hgrow4 (own_kind hown2 KD2.out (by decide))
              have WT9 := WT2.out.keptT hgrow4 (.row hown2 (by decide))
              have V9 := own_keptT VX2.out.row hgrow4 (.row hown2 (by decide))
              rw [Hm.out] at V9
              have sU9 := (own_cell V9 (q * 2 + 1) (by omega)).1.trans HUS.out
              have fU9 := (own_cell V9 (q * 2 + 1) (by omega)).2.1
              have HB9 := hB2.out.grown hgrow4 (by have := VX2.out.low; omega) (fun k e => Nat.le_trans VX2.out.low (hown2.lt k e).1)
              have sD9 := KD9.cell 1
              have sL9 := (WT9.cell i hil).trans (by rw [hx])
              have HK := Lib.hid KDn
              have HX := Lib.hid VXn
              have HW9 := Lib.hid (WT9.keptT (grown_set w9 gv (q * 2 + 1) (.slice (some ⟨g4, 0, none⟩) ((vs.getD q vol0).blocks.length + 1) cap4)) (NotT.row (T := 9) V9 (by decide)))
              have HB := Lib.hid (HB9.setCell (p := ⟨gv, q * 2 + 1, none⟩) (V9.lt gv rfl).1 (.slice (some ⟨g4, 0, none⟩) ((vs.getD q vol0).blocks.length + 1) cap4))
              clear KDn VXn KD9 WT9 HB9 V9 hown4 hgrow4 hat4 hlt4
              refine hK' _ _ ⟨?_, fun _ => ⟨sD9, sU9, sL9⟩⟩
              clear hK' K'
              try simp only [Act.put, List.setIfInBounds_toArray, List.set_cons_zero, List.set_cons_succ]
              refine AnyS.one 18 (by kernel_rfl) (show _ = some _ from rfl) (fun K' hK' => ?_)
              go_simp
              refine hK' _ _ ⟨?_, fun _ => ⟨sD9, sU9, sL9⟩⟩
              clear hK' K'
              try simp only [Act.put, List.setIfInBounds_toArray, List.set_cons_zero, List.set_cons_succ]
              refine AnyS.one 19 (by kernel_rfl) (show _ = some _ from rfl) (fun K' hK' => ?_)
              go_simp
              refine hK' _ _ ⟨?_, fun _ => ⟨sD9, sU9, sL9⟩⟩
              clear hK' K'
              try simp only [Act.put, List.setIfInBounds_toArray, List.set_cons_zero, List.set_cons_succ]
              refine AnyS.one 20 (by kernel_rfl) (show _ = some _ from rfl) (fun K' hK' => ?_)
              go_simp
              refine hK' _ _ ⟨AnyS.done (by kernel_rfl) ?_, fun h => absurd rfl h⟩
              clear hK' K'
              try simp only [Act.put, List.setIfInBounds_toArray, List.set_cons_zero, List.set_cons_succ]
              go_wp2_with fail
              exact ⟨⟨i + 1, by go_num, by omega, ⟨_, _, _, by rw [HQ.out]; exact HK.out, by rw [HQ.out]; exact HX.out⟩, HB.out, HW9.out⟩, by simp [RowKit.intOf]; omega⟩
            · by_cases ho : M.getD 0 [] = [110, 111, 110, 101]
              · rw [ho] at c20
                have ht : (tx [110, 111, 110, 101]).toList = [110, 111, 110, 101] := by rw [ByteArray.toList_eq]; rfl
                generalize tx [110, 111, 110, 101] = T0 at c20 ht
                have HQ := Lib.hid ((RS.out hne).trans (RP.out (.inr ho) (by have := Hm.out; omega)))
                clear RS RV RP RE RA hne
                obtain ⟨nm, us, hus0, hus1, hys⟩ := VX.out.end_of Hm.out
                obtain ⟨ys, hy, hyr⟩ := hys
                have HY := Lib.hid (own_below hy (Below.refl _ w2).drew)
                have HYR := Lib.hid (hyr.below (Below.refl _ w2).drew)
                have HUS := Lib.hid hus1
                have KDw := Lib.hid (show Blk w2.drew D _ _ from KD.out)
                have VXw := Lib.hid (VX.out.below (Below.refl _ _).drew)
                have WTw := Lib.hid (show WordsT w2.drew g L from WT.out)
                have hBw := Lib.hid (hB.out.drew)
                have sD : w2.drew.cell? ⟨D, 1, none⟩ = some (.slice (some ⟨gv, 0, none⟩) (q + 1) vc) := KDw.out.cell 1
                have sU : w2.drew.cell? ⟨gv, q * 2 + 1, none⟩ = some us := by
                  have h := VXw.out.row
                  rw [Hm.out] at h
                  exact (own_cell h (q * 2 + 1) (by omega)).1.trans HUS.out
                have sL : w2.drew.cell? ⟨g, i, none⟩ = some (.string (tx x)) := WTw.out.cell i hil |>.trans (by rw [hx])
                have q0 : (0 : Int) ≤ (q : Int) := by omega
                have q1 : (q : Int) < (q : Int) + 1 := by omega
                have hqw : IntKind.i64.wrap (q : Int) = (q : Int) := by simp [IntKind.wrap, IntKind.bits, IntKind.signed]; omega
                clear KD VX WT WM hB hy hyr hus1 hus0
                go_upto_region 15 with (fail)
                refine AnyS.start (S := (fun w' : World => w'.cell? ⟨D, 1, none⟩ = some (.slice (some ⟨gv, 0, none⟩) (q + 1) vc) ∧ w'.cell? ⟨gv, q * 2 + 1, none⟩ = some us ∧ w'.cell? ⟨g, i, none⟩ = some (.string (tx x)))) (L := 20) (by kernel_rfl) ?_
                generalize w2.drew = W at KDw VXw WTw hBw HY HYR sD sU sL ⊢
                refine AnyS.take 0 (show _ = some _ from rfl) rfl (by kernel_rfl) (by kernel_rfl) (by kernel_rfl) (by kernel_rfl) (fun _ _ _ h => h) ⟨sD, sU, sL⟩ (by rfl) (fun w' hSw => by obtain ⟨s1, s2, s3⟩ := hSw; go_simp; try with_reducible rfl) ?_
                try simp only [Act.put, List.setIfInBounds_toArray, List.set_cons_zero, List.set_cons_succ]
                refine AnyS.take 1 (show _ = some _ from rfl) rfl (by kernel_rfl) (by kernel_rfl) (by kernel_rfl) (by kernel_rfl) (fun _ _ _ h => h) ⟨sD, sU, sL⟩ (by rfl) (fun w' hSw => by obtain ⟨s1, s2, s3⟩ := hSw; go_simp; try with_reducible rfl) ?_
                try simp only [Act.put, List.setIfInBounds_toArray, List.set_cons_zero, List.set_cons_succ]
                refine AnyS.take 2 (show _ = some _ from rfl) rfl (by kernel_rfl) (by kernel_rfl) (by kernel_rfl) (by kernel_rfl) (fun _ _ _ h => h) ⟨sD, sU, sL⟩ (by rfl) (fun w' hSw => by obtain ⟨s1, s2, s3⟩ := hSw; go_simp; try with_reducible rfl) ?_
                try simp only [Act.put, List.setIfInBounds_toArray, List.set_cons_zero, List.set_cons_succ]
                refine AnyS.take 3 (show _ = some _ from rfl) rfl (by kernel_rfl) (by kernel_rfl) (by kernel_rfl) (by kernel_rfl) (fun _ _ _ h => h) ⟨sD, sU, sL⟩ (by rfl) (fun w' hSw => by obtain ⟨s1, s2, s3⟩ := hSw; go_simp; try with_reducible rfl) ?_
                try simp only [Act.put, List.setIfInBounds_toArray, List.set_cons_zero, List.set_cons_succ]
                refine AnyS.take 4 (show _ = some _ from rfl) rfl (by kernel_rfl) (by kernel_rfl) (by kernel_rfl) (by kernel_rfl) (fun _ _ _ h => h) ⟨sD, sU, sL⟩ (by rfl) (fun w' hSw => by obtain ⟨s1, s2, s3⟩ := hSw; go_simp; try with_reducible rfl) ?_
                try simp only [Act.put, List.setIfInBounds_toArray, List.set_cons_zero, List.set_cons_succ]
                refine AnyS.take 5 (show _ = some _ from rfl) rfl (by kernel_rfl) (by kernel_rfl) (by kernel_rfl) (by kernel_rfl) (fun _ _ _ h => h) ⟨sD, sU, sL⟩ (by rfl) (fun w' hSw => by obtain ⟨s1, s2, s3⟩ := hSw; go_simp; try with_reducible rfl) ?_
                try simp only [Act.put, List.setIfInBounds_toArray, List.set_cons_zero, List.set_cons_succ]
                refine AnyS.take 6 (show _ = some _ from rfl) rfl (by kernel_rfl) (by kernel_rfl) (by kernel_rfl) (by kernel_rfl) (fun _ _ _ h => h) ⟨sD, sU, sL⟩ (by rfl) (fun w' hSw => by obtain ⟨s1, s2, s3⟩ := hSw; go_simp; try with_reducible rfl) ?_
                try simp only [Act.put, List.setIfInBounds_toArray, List.set_cons_zero, List.set_cons_succ]
                refine AnyS.take 7 (show _ = some _ from rfl) rfl (by kernel_rfl) (by kernel_rfl) (by kernel_rfl) (by kernel_rfl) (fun _ _ _ h => h) ⟨sD, sU, sL⟩ (by rfl) (fun w' hSw => by obtain ⟨s1, s2, s3⟩ := hSw; go_simp; try with_reducible rfl) ?_
                try simp only [Act.put, List.setIfInBounds_toArray, List.set_cons_zero, List.set_cons_succ]
                refine AnyS.take 8 (show _ = some _ from rfl) rfl (by kernel_rfl) (by kernel_rfl) (by kernel_rfl) (by kernel_rfl) (fun _ _ _ h => h) ⟨sD, sU, sL⟩ (by rfl) (fun w' hSw => by obtain ⟨s1, s2, s3⟩ := hSw; go_simp; try with_reducible rfl) ?_
                try simp only [Act.put, List.setIfInBounds_toArray, List.set_cons_zero, List.set_cons_succ]
                refine AnyS.take 9 (show _ = some _ from rfl) rfl (by kernel_rfl) (by kernel_rfl) (by kernel_rfl) (by kernel_rfl) (fun _ _ _ h => h) ⟨sD, sU, sL⟩ (by rfl) (fun w' hSw => by obtain ⟨s1, s2, s3⟩ := hSw; go_simp; try with_reducible rfl) ?_
                try simp only [Act.put, List.setIfInBounds_toArray, List.set_cons_zero, List.set_cons_succ]
                refine AnyS.take 10 (show _ = some _ from rfl) rfl (by kernel_rfl) (by kernel_rfl) (by kernel_rfl) (by kernel_rfl) (fun _ _ _ h => h) ⟨sD, sU, sL⟩ (by rfl) (fun w' hSw => by obtain ⟨s1, s2, s3⟩ := hSw; go_simp; try with_reducible rfl) ?_
                try simp only [Act.put, List.setIfInBounds_toArray, List.set_cons_zero, List.set_cons_succ]
                refine AnyS.take 11 (show _ = some _ from rfl) rfl (by kernel_rfl) (by kernel_rfl) (by kernel_rfl) (by kernel_rfl) (fun _ _ _ h => h) ⟨sD, sU, sL⟩ (by rfl) (fun w' hSw => by obtain ⟨s1, s2, s3⟩ := hSw; go_simp; try with_reducible rfl) ?_
                try simp only [Act.put, List.setIfInBounds_toArray, List.set_cons_zero, List.set_cons_succ]
                refine AnyS.take 12 (show _ = some _ from rfl) rfl (by kernel_rfl) (by kernel_rfl) (by kernel_rfl) (by kernel_rfl) (fun _ _ _ h => h) ⟨sD, sU, sL⟩ (by rfl) (fun w' hSw => by obtain ⟨s1, s2, s3⟩ := hSw; go_simp; try with_reducible rfl) ?_
                try simp only [Act.put, List.setIfInBounds_toArray, List.set_cons_zero, List.set_cons_succ]
                refine AnyS.take 13 (show _ = some _ from rfl) rfl (by kernel_rfl) (by kernel_rfl) (by kernel_rfl) (by kernel_rfl) (fun _ _ _ h => h) ⟨sD, sU, sL⟩ (by rfl) (fun w' hSw => by obtain ⟨s1, s2, s3⟩ := hSw; go_simp; try with_reducible rfl) ?_
                try simp only [Act.put, List.setIfInBounds_toArray, List.set_cons_zero, List.set_cons_succ]
                refine AnyS.take 14 (show _ = some _ from rfl) rfl (by kernel_rfl) (by kernel_rfl) (by kernel_rfl) (by kernel_rfl) (fun _ _ _ h => h) ⟨sD, sU, sL⟩ (by rfl) (fun w' hSw => by obtain ⟨s1, s2, s3⟩ := hSw; go_simp; try with_reducible rfl) ?_
                try simp only [Act.put, List.setIfInBounds_toArray, List.set_cons_zero, List.set_cons_succ]
                refine AnyS.one 15 (by kernel_rfl) (show _ = some _ from rfl) (fun K' hK' => ?_)
                go_simp
                go_at_call 45
                refine (HP.out _).mono ?_
                rintro e wc ⟨pv, rfl, hpl, hBc⟩
                rw [tx_list] at hpl ⊢
                generalize ptrL x = pt at hpl HQ ⊢
                obtain ⟨z, sm, ps⟩ := pt
                simp only at hpl HQ ⊢
                obtain ⟨pa, pc, rfl, hpc, hpm, _⟩ := OwnPl.reads hpl
                have hWs : b2 ≤ W.heap.size := VXw.out.high
                have hbl : (vs.getD q vol0).blocks.length ≤ 1000 := by have := (HNB.out.2 q (by have := Hm.out; omega)).2; omega
                have HPV := Lib.hid hpl
                have sDc := cell_below hBc sD
                have sUc := cell_below hBc sU
                have sLc := cell_below hBc sL
                have KDw := Lib.hid (KDw.out.below hBc KDw.out.lt)
                have VXw := Lib.hid (VXw.out.below hBc)
                have WTw := Lib.hid (WTw.out.below hBc)
                have HY := Lib.hid (own_below HY.out hBc)
                have HYR := Lib.hid (HYR.out.below hBc)
                have hBw := Lib.hid (below_trans hBw.out hBc (by have := hBw.out.size; omega))
                have HPV := Lib.hid (OwnPl.mono HPV.out hWs)
                clear hBc hpl sD sU sL
                go_simp
                refine hK' _ _ ⟨?_, fun _ => ⟨sDc, sUc, sLc⟩⟩
                clear hK' K'
                try simp only [Act.put, List.setIfInBounds_toArray, List.set_cons_zero, List.set_cons_succ]
                have A : Below wc.heap.size wc (wc.alloc (.cells #[.int .i64 z, .int .i64 sm, .slice pa ps.length pc] 54)) := (Below.refl _ _).alloc (Nat.le_refl _) _
                have sD1 := cell_below A sDc
                have sU1 := cell_below A sUc
                have sL1 := cell_below A sLc
                have hown2 := own_below HY.out A
                have hnews := World.news_of_block (Blk.new wc #[.int .i64 z, .int .i64 sm, .slice pa ps.length pc] 54)
                have hbase : b2 ≤ (wc.alloc (.cells #[.int .i64 z, .int .i64 sm, .slice pa ps.length pc] 54)).heap.size := Nat.le_trans VXw.out.high A.size
                have KD2 := Lib.hid (KDw.out.below A KDw.out.lt)
                have WT2 := Lib.hid (WTw.out.below A)
                have hB2 := Lib.hid (below_trans hBw.out A (by have := hBw.out.size; omega))
                have VX2 := Lib.hid (VXw.out.below A)
                clear A
                refine AnyS.one 16 (by kernel_rfl) (show _ = some _ from rfl) (fun K' hK' => ?_)
                go_simp
                refine hK' _ _ ⟨?_, fun _ => ⟨sD1, sU1, sL1⟩⟩
                clear hK' K'
                try simp only [Act.put, List.setIfInBounds_toArray, List.set_cons_zero, List.set_cons_succ]
                refine AnyS.one 17 (by kernel_rfl) (show _ = some _ from rfl) (fun K' hK' => ?_)
                refine step_append_lies _ (by rfl) _ _ 49 (by rfl) b2 54 i3 _ 3 40 Tryz.underlying49 hi3 hy0 hy1 hy2 rfl (by omega) _ (vs.getD q vol0).blocks.length ys (by rfl) hown2 ⟨_, 0, none⟩ 1 1 [.int .i64 z, .int .i64 sm, .slice pa ps.length pc] (by rfl) rfl hnews (by simp [Value.oneCell']) (by omega) (by unfold maxLen; omega) (by omega) hbase _ rfl ?_
                intro g4 cap4 w9 hown4 hgrow4 hat4 hlt4
                obtain ⟨KDn, VXn⟩ := VXw.out.block Hm.out KDw.out HUS.out HY.out HYR.out HPV.out hown4 hgrow4
                have KD9 := grown_blk KD2.out hgrow4 (own_kind hown2 KD2.out (by decide))
                have WT9 := WT2.out.keptT hgrow4 (.row hown2 (by decide))
                have V9 := own_keptT VX2.out.row hgrow4 (.row hown2 (by decide))
                rw [Hm.out] at V9
                have sU9 := (own_cell V9 (q * 2 + 1) (by omega)).1.trans HUS.out
                have fU9 := (own_cell V9 (q * 2 + 1) (by omega)).2.1
                have HB9 := hB2.out.grown hgrow4 (by have := VX2.out.low; omega) (fun k e => Nat.le_trans VX2.out.low (hown2.lt k e).1)
                have sD9 := KD9.cell 1
                have sL9 := (WT9.cell i hil).trans (by rw [hx])
                have HK := Lib.hid KDn
                have HX := Lib.hid VXn
                have HW9 := Lib.hid (WT9.keptT (grown_set w9 gv (q * 2 + 1) (.slice (some ⟨g4, 0, none⟩) ((vs.getD q vol0).blocks.length + 1) cap4)) (NotT.row (T := 9) V9 (by decide)))
                have HB := Lib.hid (HB9.setCell (p := ⟨gv, q * 2 + 1, none⟩) (V9.lt gv rfl).1 (.slice (some ⟨g4, 0, none⟩) ((vs.getD q vol0).blocks.length + 1) cap4))
                clear KDn VXn KD9 WT9 HB9 V9 hown4 hgrow4 hat4 hlt4
                refine hK' _ _ ⟨?_, fun _ => ⟨sD9, sU9, sL9⟩⟩
                clear hK' K'
                try simp only [Act.put, List.setIfInBounds_toArray, List.set_cons_zero, List.set_cons_succ]
                refine AnyS.one 18 (by kernel_rfl) (show _ = some _ from rfl) (fun K' hK' => ?_)
                go_simp
                refine hK' _ _ ⟨?_, fun _ => ⟨sD9, sU9, sL9⟩⟩
                clear hK' K'
                try simp only [Act.put, List.setIfInBounds_toArray, List.set_cons_zero, List.set_cons_succ]
                refine AnyS.one 19 (by kernel_rfl) (show _ = some _ from rfl) (fun K' hK' => ?_)
                go_simp
                refine hK' _ _ ⟨?_, fun _ => ⟨sD9, sU9, sL9⟩⟩
                clear hK' K'
                try simp only [Act.put, List.setIfInBounds_toArray, List.set_cons_zero, List.set_cons_succ]
                refine AnyS.one 20 (by kernel_rfl) (show _ = some _ from rfl) (fun K' hK' => ?_)
                go_simp
                refine hK' _ _ ⟨AnyS.done (by kernel_rfl) ?_, fun h => absurd rfl h⟩
                clear hK' K'
                try simp only [Act.put, List.setIfInBounds_toArray, List.set_cons_zero, List.set_cons_succ]
                go_wp2_with fail
                exact ⟨⟨i + 1, by go_num, by omega, ⟨_, _, _, by rw [HQ.out]; exact HK.out, by rw [HQ.out]; exact HX.out⟩, HB.out, HW9.out⟩, by simp [RowKit.intOf]; omega⟩
              · have d0 : ((tx (M.getD 0 [])).toList == [118, 111, 108]) = false := by rw [beq_eq_false_iff_ne, ByteArray.toList_eq]; exact hv
                have d1 : ((tx (M.getD 0 [])).toList == [112, 116, 114]) = false := by rw [beq_eq_false_iff_ne, ByteArray.toList_eq]; exact hp
                have d2 : ((tx (M.getD 0 [])).toList == [110, 111, 110, 101]) = false := by rw [beq_eq_false_iff_ne, ByteArray.toList_eq]; exact ho
                generalize tx (M.getD 0 []) = T0 at c20 d0 d1 d2
                have HQ := Lib.hid ((RS.out hne).trans (RE.out (fun c => hv c.1) (.inr ⟨hp, ho⟩)))
                go_wp2_with fail
                exact ⟨⟨i + 1, by go_num, by omega, ⟨_, _, _, by rw [HQ.out]; exact KD.out, by rw [HQ.out]; exact VX.out⟩, hB.out, WT.out⟩, by simp [RowKit.intOf]; omega⟩
      · obtain rfl : i = L.length := by omega
        have RL := HRA.out
        have HX := Lib.hid (show readR L L.length = rootL s.data.toList from RL)
        have hnm := HNM.out L.length
        rw [RL] at KD VX hnm
        clear HNM HRA RL hws
        generalize ReadsAs n s = RAs at HSP HR
        generalize rootL s.data.toList = rd at KD VX hnm HR HSP
        obtain ⟨T, vs⟩ := rd
        simp only at KD VX hnm HSP
        obtain ⟨va, vc, rfl⟩ := VX.out.slice
        have hreads := VX.out.own.reads
        obtain ⟨_, _, ev, hvc, hvm, hat⟩ := hreads
        cases ev
        have HAT := Lib.hid hat
        have HT := Lib.hid (fun W h => specText_any n ⟨T, vs⟩ va vc W (by show vs.length ≤ maxLen; have := hnm.1; unfold maxLen; omega) (fun j hj => by have := (hnm.2 j hj).1; unfold maxLen; simp only at this ⊢; omega) h)
        have k0 : wr.cell? ⟨D, 0, none⟩ = some (.int .i64 T) := KD.out.cell 0
        have k1 : wr.cell? ⟨D, 1, none⟩ = some (.slice va vs.length vc) := KD.out.cell 1
        generalize rootT n ⟨T, vs⟩ = RT at HT HR
        clear hat
        go_wp2_with fail
        refine (HT.out _ HAT).mono ?_
        rintro e w2 ⟨rfl, hB2⟩
        have KD := Lib.hid (KD.out.below hB2 KD.out.lt)
        have VX := Lib.hid (VX.out.below hB2)
        have hB := Lib.hid (below_trans hB.out hB2 (by have := hB.out.size; omega))
        have K2 := Lib.hid (K1.out.below hB.out hlt)
        have HB := Lib.hid (HB1.out.trans (hB.out.mono (by omega)))
        have k0 : w2.cell? ⟨D, 0, none⟩ = some (.int .i64 T) := KD.out.cell 0
        have k1 : w2.cell? ⟨D, 1, none⟩ = some (.slice va vs.length vc) := KD.out.cell 1
        have r0 : w2.cell? ⟨w.heap.size, 0, none⟩ = some (.int .i64 0) := K2.out.cell 0
        have r1 : w2.cell? ⟨w.heap.size, 1, none⟩ = some (.slice none 0 0) := K2.out.cell 1
        have f0 := K2.out.frozen 0
        have f1 := K2.out.frozen 1
        clear hB2 HT HAT
        by_cases he : RT = s
        · have t1 : (RT.toList == s.toList) = true := text_yes he
          by_cases hz : s = ⟨#[]⟩
          · have t2 : s.toList.isEmpty = true := by rw [hz, ByteArray.toList_eq]; rfl
            have hno : ¬(RT = s ∧ s ≠ ⟨#[]⟩) := fun h => h.2 hz
            have KZ := (K2.out.set 0 (.int .i64 0)).set 1 (.slice none 0 0)
            have e0 := KZ.cell 0
            have e1 := KZ.cell 1
            clear KZ
            go_wp2_with fail
            refine bodyPost_ret (v := .tuple #[.agg #[.int .i64 0, .slice none 0 0], .bool false]) (by simp [results, Tryz.results14, go_sem, e0, e1]) rfl (HSP.out _ _ ⟨.inr ⟨fun h => hno (HR.out.1 h), rfl⟩, ?_⟩)
            exact (HB.out.setCell (p := ⟨w.heap.size, 0, none⟩) (Nat.le_refl _) _).setCell (p := ⟨w.heap.size, 1, none⟩) (Nat.le_refl _) _
          · have t2 : s.toList.isEmpty = false := by rw [ByteArray.toList_eq]; cases hd : s.data.toList with
              | nil => exact absurd (by rw [show s = tx s.data.toList from rfl, hd]; rfl) hz
              | cons a l => rfl
            have hyes : RT = s ∧ s ≠ ⟨#[]⟩ := ⟨he, hz⟩
            have KZ := (K2.out.set 0 (.int .i64 T)).set 1 (.slice va vs.length vc)
            have e0 := KZ.cell 0
            have e1 := KZ.cell 1
            have G0 := grown_set w2 w.heap.size 0 (.int .i64 T)
            have X0 := VX.out.keptT G0 (.box K2.out (by decide)) (.box K2.out (by decide)) (.box K2.out (by decide))
            have X1 := Lib.hid (X0.keptT (grown_set _ w.heap.size 1 (.slice va vs.length vc)) (.box (K2.out.set 0 (.int .i64 T)) (by decide)) (.box (K2.out.set 0 (.int .i64 T)) (by decide)) (.box (K2.out.set 0 (.int .i64 T)) (by decide)))
            clear KZ G0 X0
            go_wp2_with fail
            refine bodyPost_ret (v := .tuple #[.agg #[.int .i64 T, .slice va vs.length vc], .bool true]) (by simp [results, Tryz.results14, go_sem, e0, e1]) rfl (HSP.out _ _ ⟨.inl ⟨HR.out.2 hyes, _, rfl, X1.out.own.mono (by omega)⟩, ?_⟩)
            exact (HB.out.setCell (p := ⟨w.heap.size, 0, none⟩) (Nat.le_refl _) _).setCell (p := ⟨w.heap.size, 1, none⟩) (Nat.le_refl _) _
        · have t1 : (RT.toList == s.toList) = false := text_no he
          have hno : ¬(RT = s ∧ s ≠ ⟨#[]⟩) := fun h => he h.1
          have KZ := (K2.out.set 0 (.int .i64 0)).set 1 (.slice none 0 0)
          have e0 := KZ.cell 0
          have e1 := KZ.cell 1
          clear KZ
          go_wp2_with fail
          refine bodyPost_ret (v := .tuple #[.agg #[.int .i64 0, .slice none 0 0], .bool false]) (by simp [results, Tryz.results14, go_sem, e0, e1]) rfl (HSP.out _ _ ⟨.inr ⟨fun h => hno (HR.out.1 h), rfl⟩, ?_⟩)
          exact (HB.out.setCell (p := ⟨w.heap.size, 0, none⟩) (Nat.le_refl _) _).setCell (p := ⟨w.heap.size, 1, none⟩) (Nat.le_refl _) _
  · have d1 : decide (700 < (s.size : Int)) = true := by simp; omega
    have hN : ¬ReadsAs n s := fun h => hs h.1
    have q0 : w0.cell? ⟨w.heap.size, 0, none⟩ = some (.int .i64 0) := K0.out.cell 0
    have q1 : w0.cell? ⟨w.heap.size, 1, none⟩ = some (.slice none 0 0) := K0.out.cell 1
    have f0 := K0.out.frozen 0
    have f1 := K0.out.frozen 1
    have KZ := (K0.out.set 0 (.int .i64 0)).set 1 (.slice none 0 0)
    have e0 := KZ.cell 0
    have e1 := KZ.cell 1
    clear KZ
    go_wp2_with fail
    refine bodyPost_ret (v := .tuple #[.agg #[.int .i64 0, .slice none 0 0], .bool false]) (by simp [results, Tryz.results14, go_sem, e0, e1]) rfl (HSP.out _ _ ⟨.inr ⟨hN, rfl⟩, ?_⟩)
    exact (hBw.out.setCell (p := ⟨w.heap.size, 0, none⟩) (Nat.le_refl _) _).setCell (p := ⟨w.heap.size, 1, none⟩) (Nat.le_refl _) _

end Go.Proofs.YtliadobopideaaaGreatDoor
