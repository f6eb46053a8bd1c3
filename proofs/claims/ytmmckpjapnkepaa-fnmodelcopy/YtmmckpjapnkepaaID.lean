/- A model in new memory, of the specification. Conditions: the model is ok. -/
import Derived.Test.YtmmckpjapnkepaaI6
import Derived.Test.YtmmckpjapnkepaaVS
namespace Go.Proofs.Ytmmckpjapnkepaa
open Go.RowKit Go.Sort

theorem txC_one (xs : List ByteArray) : ∀ u ∈ txC xs, u.oneCell' = true := by
  intro u hu
  obtain ⟨b, _, rfl⟩ := List.mem_map.1 hu
  rfl
theorem tx_news {w : World} {b off : Nat} {xs : List ByteArray} (h : ∀ j, j < xs.length → w.cell? ⟨b, off + j, none⟩ = some (.string (xs.getD j ByteArray.empty))) : ∀ j u, (txC xs)[j]? = some u → w.cell? ((⟨b, off, none⟩ : Addr).add j) = some u := by
  intro j u hu
  have hj : j < xs.length := by have := (List.getElem?_eq_some_iff.1 hu).1; rw [txC_length] at this; exact this
  rw [txC_get xs j hj] at hu
  rw [show ((⟨b, off, none⟩ : Addr).add j) = ⟨b, off + j, none⟩ from add_plain b off j, h j hj]
  exact hu

set_option linter.unusedSimpArgs false in
set_option maxRecDepth 100000 in
set_option maxHeartbeats 8000000 in
theorem l14Copy_any (a : Option Addr) (cap : Nat) (ss : List ShD) (w : World) (hok : MdFine ss) (hx : Hid (ShAt w a ss)) :
    Calls Try.prog 39 #[.agg #[.slice a ss.length cap]] w fun e w' => ∃ b c, e = .returned (.agg #[.slice b ss.length c]) ∧ OwnSh w' w.heap.size (.slice b ss.length c) ss ∧ Below w.heap.size w w' := by
  obtain ⟨i0, hi0, hz0, hz1, hz2⟩ := info_parts infoSh
  obtain ⟨i1, hi1, hy0, hy1, hy2⟩ := info_parts infoTx
  have h4 := hok.1
  have HOK := Lib.hid hok
  have KR : Hid (∃ w0, ((((w.alloc (.cells #[.slice a ss.length cap] 25)).alloc (.cells #[.slice none 0 0] 25)).alloc (.cells #[] 35)).alloc (.cells #[.slice (some ⟨w.heap.size + 1 + 1, 0, none⟩) 0 0] 25)) = w0 ∧
      Below w.heap.size w w0 ∧ Blk w0 w.heap.size #[.slice a ss.length cap] 25 ∧ Blk w0 (w.heap.size + 1) #[.slice none 0 0] 25 ∧ Blk w0 (w.heap.size + 1 + 1 + 1) #[.slice (some ⟨w.heap.size + 1 + 1, 0, none⟩) 0 0] 25 ∧
      OwnSh w0 (w.heap.size + 1 + 1) (.slice (some ⟨w.heap.size + 1 + 1, 0, none⟩) 0 0) [] ∧ w.heap.size + 4 = w0.heap.size) := by
    refine ⟨_, rfl, ?_, ?_, ?_, ?_, ?_, ?_⟩
    · exact ((((Below.refl _ _).alloc (Nat.le_refl _) _).alloc (by simp) _).alloc (by simp; omega) _).alloc (by simp; omega) _
    · exact (((Blk.new w _ _).below ((Below.refl _ _).alloc (Nat.le_refl _) _) (by simp)).below ((Below.refl _ _).alloc (Nat.le_refl _) _) (by simp; try omega)).below ((Below.refl _ _).alloc (Nat.le_refl _) _) (by simp; try omega)
    · have := Blk.new (w.alloc (.cells #[.slice a ss.length cap] 25)) #[.slice none 0 0] 25
      simp only [World.size_alloc] at this
      exact (this.below ((Below.refl _ _).alloc (Nat.le_refl _) _) (by simp)).below ((Below.refl _ _).alloc (Nat.le_refl _) _) (by simp; try omega)
    · have := Blk.new (((w.alloc (.cells #[.slice a ss.length cap] 25)).alloc (.cells #[.slice none 0 0] 25)).alloc (.cells #[] 35)) #[.slice (some ⟨w.heap.size + 1 + 1, 0, none⟩) 0 0] 25
      simp only [World.size_alloc] at this
      exact this
    · refine ⟨[], fun _ => 0, ?_, fun j hj => by simp at hj, fun i j _ hj => by simp at hj⟩
      have := World.ownsRow_made (e := 35) (size := 2) (base := w.heap.size + 1 + 1) ((w.alloc (.cells #[.slice a ss.length cap] 25)).alloc (.cells #[.slice none 0 0] 25)) #[] 0 (by simp) (by simp [maxLen]) (by simp)
      simp only [World.size_alloc] at this
      exact this.alloc _
    · simp
  obtain ⟨w0, HW, HB, KM, KRs, KX, HO0, hsz⟩ := KR.out
  have HW' := Lib.hid HW
  clear KR hok
  go_enter Try.func39, Try.ntmps39
  go_wp2_with fail
  clear HW
  have HBh := Lib.hid HB
  have KMh := Lib.hid KM
  have KRh := Lib.hid KRs
  have KXh := Lib.hid KX
  have HOh := Lib.hid HO0
  have Hsz := Lib.hid hsz
  clear HB KM KRs KX HO0 hsz
  go_loopw [4] (fun i wr => ∃ k : Nat, i = .int .i64 (k : Int) ∧ k ≤ ss.length ∧ Hid (∃ v, Blk wr (w.heap.size + 1 + 1 + 1) #[v] 25 ∧ OwnSh wr (w.heap.size + 1 + 1) v (ss.take k)) ∧ Hid (Blk wr w.heap.size #[.slice a ss.length cap] 25) ∧ Hid (Blk wr (w.heap.size + 1) #[.slice none 0 0] 25) ∧ Hid (Below w.heap.size w wr) ∧ Hid (w.heap.size + 4 ≤ wr.heap.size)) (fun i _ => ss.length - (intOf i).toNat)
  case atStart => exact ⟨0, rfl, by omega, ⟨_, KXh.out, HOh.out⟩, KMh, KRh, HBh, by have := Hsz.out; show _ ≤ _; omega⟩
  case round =>
    obtain ⟨k, rfl, hk, hV, hM, hR, hB, hS⟩ := hrel
    have cm : wr.cell? ⟨w.heap.size, 0, none⟩ = some (.slice a ss.length cap) := hM.out.cell 0
    by_cases hlt : k < ss.length
    · have i0' : (0 : Int) ≤ (k : Int) := by omega
      have i1' : (k : Int) < (ss.length : Int) := by omega
      have hs4 := hS.out
      obtain ⟨b, off, rfl, hc⟩ := (hx.out.below hB.out).resolve_left (fun e => by subst e; simp at hlt)
      obtain ⟨e0, v1, e1, hv⟩ := hc k hlt
      have hfin := HOK.out.2.1 k hlt
      have HT := Lib.hid (takeSh ss k hlt)
      have hkl : (ss.take k).length = k := by rw [List.length_take]; omega
      clear hc
      generalize ss.getD k sh0 = q at e0 e1 hv hfin HT
      obtain ⟨nm, xs⟩ := q
      obtain ⟨a1, c1, rfl, _, _, hx1⟩ := hv
      obtain ⟨f1, f2, _⟩ := hfin
      simp only at e0 e1 hx1 f1 f2
      obtain ⟨b1, off1, rfl, hc1⟩ := hx1.resolve_left (fun e => by subst e; simp at f2)
      have hx0 : 0 < xs.length := by omega
      have hx3 : xs.length ≤ 3 := by omega
      clear f1 f2
      obtain ⟨v, KV, hO⟩ := hV.out
      obtain ⟨av, cv, rfl, _⟩ := hO.reads
      obtain ⟨ys, g, k1, k2, k3, k4⟩ := hO.rows
      rw [hkl] at k1
      have hyl : ys.length = k * 2 := k1.1
      have hB1 : Below wr.heap.size wr ((wr.alloc (.cells #[] 9)).drew) := ((Below.refl _ _).alloc (Nat.le_refl _) _).drew
      obtain ⟨g1, cap1, w5, hr1, ho1, hg1, hat1, hl1⟩ := run_append_lies ((wr.alloc (.cells #[] 9)).drew) 33 33 wr.heap.size 9 i1 _ 1 16 Try.underlying33 hi1 hy0 hy1 hy2 rfl (by omega) (.slice (some ⟨wr.heap.size, 0, none⟩) 0 0) 0 []
        (World.ownsRow_made (e := 9) (size := 1) (base := wr.heap.size) wr #[] 0 (Nat.le_refl _) (by simp [maxLen]) (by simp)) ⟨b1, off1, none⟩ xs.length c1 (txC xs) (by rw [txC_length]; omega) (tx_news (fun j hj => cell_below hB1 (hc1 j hj))) (txC_one xs) (by omega) (by unfold maxLen; omega) (by omega) (by simp) _ rfl
      rw [Nat.zero_add] at hr1 ho1
      rw [List.nil_append] at ho1
      have hB5 : Below wr.heap.size wr w5 := hB1.grown hg1 (by simp) (fun i e => by cases e; exact Nat.le_refl _)
      have hB6 : Below wr.heap.size wr (w5.alloc (.cells #[.string nm, .slice (some ⟨g1, 0, none⟩) xs.length cap1] 35)) := hB5.alloc hB5.size _
      have hown := own_below k1 hB6
      have hbt := own_block_type hown
      obtain ⟨g2, cap2, w7, hr2, ho2, hg2, hat2, hl2⟩ := run_append_lies (w5.alloc (.cells #[.string nm, .slice (some ⟨g1, 0, none⟩) xs.length cap1] 35)) 23 23 (w.heap.size + 1 + 1) 35 i0 _ 2 40 Try.underlying23 hi0 hz0 hz1 hz2 rfl (by omega) (.slice av k cv) k ys hown
        ⟨w5.heap.size, 0, none⟩ 1 1 [.string nm, .slice (some ⟨g1, 0, none⟩) xs.length cap1] rfl (news_two w5 _ _ _ _ rfl) (by simp [Value.oneCell']) (by omega) (by unfold maxLen; omega) (by omega) (by have := hB6.size; omega) _ rfl
      rw [hkl] at KV
      have hB7 : Below w.heap.size w w7 := (hB.out.trans (hB6.mono hB.out.size)).grown hg2 (by have := hB6.size; omega) (fun i e => by have := (hown.lt i e).1; omega)
      have KV6 := KV.below hB6 KV.lt
      have hne : ∀ D cs, Blk (w5.alloc (.cells #[.string nm, .slice (some ⟨g1, 0, none⟩) xs.length cap1] 35)) D cs 25 → Blk w7 D cs 25 := fun D cs h => h.gb hg2 (own_blk_ne hown h (by decide))
      have KV7 := hne _ _ KV6
      have KM7 := hne _ _ (hM.out.below hB6 hM.out.lt)
      have KR7 := hne _ _ (hR.out.below hB6 hR.out.lt)
      have HX : Hid (Blk (w7.setCell ⟨w.heap.size + 1 + 1 + 1, 0, none⟩ (.slice (some ⟨g2, 0, none⟩) (k + 1) cap2)) (w.heap.size + 1 + 1 + 1) #[.slice (some ⟨g2, 0, none⟩) (k + 1) cap2] 25 ∧ OwnSh (w7.setCell ⟨w.heap.size + 1 + 1 + 1, 0, none⟩ (.slice (some ⟨g2, 0, none⟩) (k + 1) cap2)) (w.heap.size + 1 + 1) (.slice (some ⟨g2, 0, none⟩) (k + 1) cap2) (ss.take (k + 1)) ∧
          Blk (w7.setCell ⟨w.heap.size + 1 + 1 + 1, 0, none⟩ (.slice (some ⟨g2, 0, none⟩) (k + 1) cap2)) w.heap.size #[.slice (some ⟨b, off, none⟩) ss.length cap] 25 ∧ Blk (w7.setCell ⟨w.heap.size + 1 + 1 + 1, 0, none⟩ (.slice (some ⟨g2, 0, none⟩) (k + 1) cap2)) (w.heap.size + 1) #[.slice none 0 0] 25 ∧
          Below w.heap.size w (w7.setCell ⟨w.heap.size + 1 + 1 + 1, 0, none⟩ (.slice (some ⟨g2, 0, none⟩) (k + 1) cap2)) ∧ w.heap.size + 4 ≤ (w7.setCell ⟨w.heap.size + 1 + 1 + 1, 0, none⟩ (.slice (some ⟨g2, 0, none⟩) (k + 1) cap2)).heap.size) := by
        have hO7 : OwnSh w7 (w.heap.size + 1 + 1) (.slice (some ⟨g2, 0, none⟩) (k + 1) cap2) (ss.take (k + 1)) := by
          rw [HT.out]
          exact OwnSh.more (w0 := wr) (base' := wr.heap.size) (fun j hj => (k2 j hj).below hB6) k3 k4 (by rw [hkl]; exact hyl) (own_below (show OwnTx w5 wr.heap.size (.slice (some ⟨g1, 0, none⟩) xs.length cap1) xs from ho1) ((Below.refl _ _).alloc (Nat.le_refl _) _)) (Nat.le_refl _) (by omega) (by rw [hkl]; exact ho2) hg2 hbt
        refine ⟨KV7.set 0 _, hO7.other KV7 (by decide) (by decide) 0 _, KM7.other _ _ _ (by omega), KR7.other _ _ _ (by omega), hB7.setCell (p := ⟨w.heap.size + 1 + 1 + 1, 0, none⟩) (by simp; omega) _, ?_⟩
        have := hB6.size
        have := hg2.size
        rw [World.size_setCell]; omega
      have z0 : w7.cell? ⟨w.heap.size + 1 + 1 + 1, 0, none⟩ = some (.slice av k cv) := KV7.cell 0
      have zf := KV7.frozen 0
      have m3 : wr.cell? ⟨w.heap.size + 1 + 1 + 1, 0, none⟩ = some (.slice av k cv) := KV.cell 0
      have m31 := cell_below hB1 m3
      have m35 := cell_below hB5 m3
      have m36 := cell_below hB6 m3
      have zm : w7.cell? ⟨w.heap.size, 0, none⟩ = some (.slice (some ⟨b, off, none⟩) ss.length cap) := KM7.cell 0
      have hbl : b < w.heap.size := by
        rcases hx.out with h | ⟨b', o', hbe, hcc⟩
        · subst h; simp at hlt
        · injection hbe with hbe
          injection hbe with hbe _
          subst hbe
          exact World.block_lt_of_cell? w _ (hcc 0 (by omega)).1
      have ze0 : w7.cell? ⟨b, off + k * 2, none⟩ = some (.string nm) := (hg2.cell_far ⟨b, off + k * 2, none⟩ (by show b < _; have := hB6.size; omega) (fun e => by have := (hown.lt b e.symm).1; omega)).trans (cell_below hB6 e0)
      have ze1 : w7.cell? ⟨b, off + k * 2 + 1, none⟩ = some (.slice (some ⟨b1, off1, none⟩) xs.length c1) := (hg2.cell_far ⟨b, off + k * 2 + 1, none⟩ (by show b < _; have := hB6.size; omega) (fun e => by have := (hown.lt b e.symm).1; omega)).trans (cell_below hB6 e1)
      have cm1 := cell_below hB1 cm
      have cm5 := cell_below hB5 cm
      have cm6 := cell_below hB6 cm
      have e01 := cell_below hB1 e0
      have e05 := cell_below hB5 e0
      have e06 := cell_below hB6 e0
      have e11 := cell_below hB1 e1
      have e15 := cell_below hB5 e1
      have e16 := cell_below hB6 e1
      have Hkl := Lib.hid hkl
      have Hyl := Lib.hid hyl
      clear hkl hyl
      clear hB1 hB5 hB6 hB7 hO KV KV6 KV7 KM7 KR7 hne hown hbt hg1 hg2 ho1 ho2 hat1 hat2 hl1 hl2 k1 k2 k3 k4 hc1 hx1 hV HT
      go_wp2_with fail
      refine AnyS.start (S := (fun w' : World => w'.cell? ⟨w.heap.size + 1 + 1 + 1, 0, none⟩ = some (.slice av k cv) ∧ w'.cell? ⟨w.heap.size, 0, none⟩ = some (.slice (some ⟨b, off, none⟩) ss.length cap) ∧ w'.cell? ⟨b, off + k * 2, none⟩ = some (.string nm) ∧ w'.cell? ⟨b, off + k * 2 + 1, none⟩ = some (.slice (some ⟨b1, off1, none⟩) xs.length c1))) (L := 20) (by kernel_rfl) ?_
      refine AnyS.take 0 (show _ = some _ from rfl) rfl (by kernel_rfl) (by kernel_rfl) (by kernel_rfl) (by kernel_rfl) (fun _ _ _ h => h) ⟨m3, cm, e0, e1⟩ (by rfl) (fun w' hSw => by obtain ⟨s1, s2, s3, s4⟩ := hSw; go_simp; try with_reducible rfl) ?_
      try simp only [Act.put, List.setIfInBounds_toArray, List.set_cons_zero, List.set_cons_succ]
      refine AnyS.take 1 (show _ = some _ from rfl) rfl (by kernel_rfl) (by kernel_rfl) (by kernel_rfl) (by kernel_rfl) (fun _ _ _ h => h) ⟨m3, cm, e0, e1⟩ (by rfl) (fun w' hSw => by obtain ⟨s1, s2, s3, s4⟩ := hSw; go_simp; try with_reducible rfl) ?_
      try simp only [Act.put, List.setIfInBounds_toArray, List.set_cons_zero, List.set_cons_succ]
      refine AnyS.take 2 (show _ = some _ from rfl) rfl (by kernel_rfl) (by kernel_rfl) (by kernel_rfl) (by kernel_rfl) (fun _ _ _ h => h) ⟨m3, cm, e0, e1⟩ (by rfl) (fun w' hSw => by obtain ⟨s1, s2, s3, s4⟩ := hSw; go_simp; try with_reducible rfl) ?_
      try simp only [Act.put, List.setIfInBounds_toArray, List.set_cons_zero, List.set_cons_succ]
      refine AnyS.take 3 (show _ = some _ from rfl) rfl (by kernel_rfl) (by kernel_rfl) (by kernel_rfl) (by kernel_rfl) (fun _ _ _ h => h) ⟨m3, cm, e0, e1⟩ (by rfl) (fun w' hSw => by obtain ⟨s1, s2, s3, s4⟩ := hSw; go_simp; try with_reducible rfl) ?_
      try simp only [Act.put, List.setIfInBounds_toArray, List.set_cons_zero, List.set_cons_succ]
      refine AnyS.take 4 (show _ = some _ from rfl) rfl (by kernel_rfl) (by kernel_rfl) (by kernel_rfl) (by kernel_rfl) (fun _ _ _ h => h) ⟨m3, cm, e0, e1⟩ (by rfl) (fun w' hSw => by obtain ⟨s1, s2, s3, s4⟩ := hSw; go_simp; try with_reducible rfl) ?_
      try simp only [Act.put, List.setIfInBounds_toArray, List.set_cons_zero, List.set_cons_succ]
      refine AnyS.take 5 (show _ = some _ from rfl) rfl (by kernel_rfl) (by kernel_rfl) (by kernel_rfl) (by kernel_rfl) (fun _ _ _ h => h) ⟨m3, cm, e0, e1⟩ (by rfl) (fun w' hSw => by obtain ⟨s1, s2, s3, s4⟩ := hSw; go_simp; try with_reducible rfl) ?_
      try simp only [Act.put, List.setIfInBounds_toArray, List.set_cons_zero, List.set_cons_succ]
      refine AnyS.take 6 (show _ = some _ from rfl) rfl (by kernel_rfl) (by kernel_rfl) (by kernel_rfl) (by kernel_rfl) (fun _ _ _ h => h) ⟨m3, cm, e0, e1⟩ (by rfl) (fun w' hSw => by obtain ⟨s1, s2, s3, s4⟩ := hSw; go_simp; try with_reducible rfl) ?_
      try simp only [Act.put, List.setIfInBounds_toArray, List.set_cons_zero, List.set_cons_succ]
      refine AnyS.take 7 (show _ = some _ from rfl) rfl (by kernel_rfl) (by kernel_rfl) (by kernel_rfl) (by kernel_rfl) (fun _ _ _ h => h) ⟨m3, cm, e0, e1⟩ (by rfl) (fun w' hSw => by obtain ⟨s1, s2, s3, s4⟩ := hSw; go_simp; try with_reducible rfl) ?_
      try simp only [Act.put, List.setIfInBounds_toArray, List.set_cons_zero, List.set_cons_succ]
      refine AnyS.take 9 (show _ = some _ from rfl) rfl (by kernel_rfl) (by kernel_rfl) (by kernel_rfl) (by kernel_rfl) (fun _ _ _ h => h) ⟨m3, cm, e0, e1⟩ (by rfl) (fun w' hSw => by obtain ⟨s1, s2, s3, s4⟩ := hSw; go_simp; try with_reducible rfl) ?_
      try simp only [Act.put, List.setIfInBounds_toArray, List.set_cons_zero, List.set_cons_succ]
      refine AnyS.take 10 (show _ = some _ from rfl) rfl (by kernel_rfl) (by kernel_rfl) (by kernel_rfl) (by kernel_rfl) (fun _ _ _ h => h) ⟨m3, cm, e0, e1⟩ (by rfl) (fun w' hSw => by obtain ⟨s1, s2, s3, s4⟩ := hSw; go_simp; try with_reducible rfl) ?_
      try simp only [Act.put, List.setIfInBounds_toArray, List.set_cons_zero, List.set_cons_succ]
      refine AnyS.take 11 (show _ = some _ from rfl) rfl (by kernel_rfl) (by kernel_rfl) (by kernel_rfl) (by kernel_rfl) (fun _ _ _ h => h) ⟨m3, cm, e0, e1⟩ (by rfl) (fun w' hSw => by obtain ⟨s1, s2, s3, s4⟩ := hSw; go_simp; try with_reducible rfl) ?_
      try simp only [Act.put, List.setIfInBounds_toArray, List.set_cons_zero, List.set_cons_succ]
      refine AnyS.take 12 (show _ = some _ from rfl) rfl (by kernel_rfl) (by kernel_rfl) (by kernel_rfl) (by kernel_rfl) (fun _ _ _ h => h) ⟨m3, cm, e0, e1⟩ (by rfl) (fun w' hSw => by obtain ⟨s1, s2, s3, s4⟩ := hSw; go_simp; try with_reducible rfl) ?_
      try simp only [Act.put, List.setIfInBounds_toArray, List.set_cons_zero, List.set_cons_succ]
      refine AnyS.take 13 (show _ = some _ from rfl) rfl (by kernel_rfl) (by kernel_rfl) (by kernel_rfl) (by kernel_rfl) (fun _ _ _ h => h) ⟨m3, cm, e0, e1⟩ (by rfl) (fun w' hSw => by obtain ⟨s1, s2, s3, s4⟩ := hSw; go_simp; try with_reducible rfl) ?_
      try simp only [Act.put, List.setIfInBounds_toArray, List.set_cons_zero, List.set_cons_succ]
      refine AnyS.take 14 (show _ = some _ from rfl) rfl (by kernel_rfl) (by kernel_rfl) (by kernel_rfl) (by kernel_rfl) (fun _ _ _ h => h) ⟨m3, cm, e0, e1⟩ (by rfl) (fun w' hSw => by obtain ⟨s1, s2, s3, s4⟩ := hSw; go_simp; try with_reducible rfl) ?_
      try simp only [Act.put, List.setIfInBounds_toArray, List.set_cons_zero, List.set_cons_succ]
      refine AnyS.one 8 (by kernel_rfl) (show _ = some _ from rfl) (fun K' hK' => ?_)
      go_simp
      refine hK' _ _ ⟨?_, fun _ => ⟨m31, cm1, e01, e11⟩⟩
      clear hK' K'
      try simp only [Act.put, List.setIfInBounds_toArray, List.set_cons_zero, List.set_cons_succ]
      refine AnyS.one 15 (by kernel_rfl) (show _ = some _ from rfl) (fun K' hK' => step_append_run (by rfl) _ _ _ _ (by rfl) (by rfl) _ _ _ (by rfl) (by rfl) hr1 (hK' _ _ ⟨?_, fun _ => ⟨m35, cm5, e05, e15⟩⟩))
      try simp only [Act.put, List.setIfInBounds_toArray, List.set_cons_zero, List.set_cons_succ]
      refine AnyS.take 16 (show _ = some _ from rfl) rfl (by kernel_rfl) (by kernel_rfl) (by kernel_rfl) (by kernel_rfl) (fun _ _ _ h => h) ⟨m35, cm5, e05, e15⟩ (by rfl) (fun w' hSw => by obtain ⟨s1, s2, s3, s4⟩ := hSw; go_simp; try with_reducible rfl) ?_
      try simp only [Act.put, List.setIfInBounds_toArray, List.set_cons_zero, List.set_cons_succ]
      refine AnyS.one 17 (by kernel_rfl) (show _ = some _ from rfl) (fun K' hK' => ?_)
      go_simp
      refine hK' _ _ ⟨?_, fun _ => ⟨m36, cm6, e06, e16⟩⟩
      clear hK' K'
      try simp only [Act.put, List.setIfInBounds_toArray, List.set_cons_zero, List.set_cons_succ]
      refine AnyS.one 18 (by kernel_rfl) (show _ = some _ from rfl) (fun K' hK' => step_append_run (by rfl) _ _ _ _ (by rfl) (by rfl) _ _ _ (by rfl) (by rfl) hr2 (hK' _ _ ⟨?_, fun _ => ⟨z0, zm, ze0, ze1⟩⟩))
      try simp only [Act.put, List.setIfInBounds_toArray, List.set_cons_zero, List.set_cons_succ]
      refine AnyS.take 19 (show _ = some _ from rfl) rfl (by kernel_rfl) (by kernel_rfl) (by kernel_rfl) (by kernel_rfl) (fun _ _ _ h => h) ⟨z0, zm, ze0, ze1⟩ (by rfl) (fun w' hSw => by obtain ⟨s1, s2, s3, s4⟩ := hSw; go_simp; try with_reducible rfl) ?_
      try simp only [Act.put, List.setIfInBounds_toArray, List.set_cons_zero, List.set_cons_succ]
      refine AnyS.one 20 (by kernel_rfl) (show _ = some _ from rfl) (fun K' hK' => ?_)
      go_simp
      refine hK' _ _ ⟨AnyS.done (by kernel_rfl) ?_, fun h => absurd rfl h⟩
      clear hK' K'
      try simp only [Act.put, List.setIfInBounds_toArray, List.set_cons_zero, List.set_cons_succ]
      go_wp2
      exact ⟨⟨k + 1, by go_num, by omega, ⟨_, HX.out.1, HX.out.2.1⟩, HX.out.2.2.1, HX.out.2.2.2.1, HX.out.2.2.2.2.1, HX.out.2.2.2.2.2⟩, by simp [intOf]; omega⟩
    · obtain rfl : k = ss.length := by omega
      have hV' := hV.out
      rw [List.take_length] at hV'
      obtain ⟨v, KV, hO⟩ := hV'
      obtain ⟨av, cv, rfl, _⟩ := hO.reads
      have HO := Lib.hid hO
      have m0 : wr.cell? ⟨w.heap.size + 1 + 1 + 1, 0, none⟩ = some (.slice av ss.length cv) := KV.cell 0
      have q0 : wr.cell? ⟨w.heap.size + 1, 0, none⟩ = some (.slice none 0 0) := hR.out.cell 0
      have fq := hR.out.frozen 0
      clear hO hV KV
      go_wp2
      refine bodyPost_ret (v := .agg #[.slice av ss.length cv]) (by simp [results, Try.results39, go_sem, q0]) rfl ⟨_, _, rfl, ?_, ?_⟩
      · exact (HO.out.far _ _ _ (by omega)).mono (by omega)
      · exact hB.out.setCell (p := ⟨w.heap.size + 1, 0, none⟩) (by simp) _

end Go.Proofs.Ytmmckpjapnkepaa
