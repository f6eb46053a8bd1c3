/- A model in new memory, of the program. Conditions: the model is ok. -/
import Derived.Test.YtmmckpjapnkepaaI4
import Derived.Test.YtmmckpjapnkepaaI5
import Derived.Test.YtmmckpjapnkepaaVS
namespace Go.Proofs.Ytmmckpjapnkepaa
open Go.RowKit Go.Sort

theorem infoSh : (Try.prog.info? 35).map (fun i => (i.zero, i.size, i.bytes)) = some (some (.agg #[.string ByteArray.empty, .slice none 0 0]), 2, 40) := by kernel_rfl
theorem news_two (W : World) (a b : Value) (t : TypeId) (H : Nat) (hH : W.heap.size = H) : ∀ j u, [a, b][j]? = some u → (W.alloc (.cells #[a, b] t)).cell? ((⟨H, 0, none⟩ : Addr).add j) = some u := by
  subst hH
  exact World.news_of_block (cs := #[a, b]) (t := t) (fr := (0, 0)) (heap_alloc_new W _)
theorem takeSh (ss : List ShD) (k : Nat) (h : k < ss.length) : ss.take (k + 1) = ss.take k ++ [ss.getD k sh0] := by
  rw [List.take_succ_eq_append_getElem h, List.getD, List.getElem?_eq_getElem h]; rfl
theorem own_block_type {w : World} {base K : Nat} {e : TypeId} {v : Value} {n : Nat} {xs : List Value} (h : w.ownsRow base e K v n xs) (i : Nat) (hi : v.ownBlock = some i) : ∃ cur, w.heap[i]? = some (.cells cur e (0, 0)) := by
  rcases h.2 with ⟨rfl, _⟩ | ⟨g, cap, cur, rfl, _, hg, _⟩
  · cases hi
  · simp only [Value.ownBlock, Option.some.injEq] at hi
    subst hi
    exact ⟨cur, hg⟩

set_option linter.unusedSimpArgs false in
set_option maxRecDepth 100000 in
set_option maxHeartbeats 8000000 in
theorem modelCopy_any (a : Option Addr) (cap : Nat) (ss : List ShD) (w : World) (hok : MdFine ss) (hx : Hid (ShAt w a ss)) :
    Calls Try.prog 69 #[.agg #[.slice a ss.length cap]] w fun e w' => ∃ b c, e = .returned (.agg #[.slice b ss.length c]) ∧ OwnSh w' w.heap.size (.slice b ss.length c) ss ∧ Below w.heap.size w w' := by
  obtain ⟨i0, hi0, hz0, hz1, hz2⟩ := info_parts infoSh
  have h4 := hok.1
  have HOK := Lib.hid hok
  have KR : Hid (∃ w0, (((w.alloc (.cells #[.slice a ss.length cap] 25)).alloc (.cells #[.slice none 0 0] 25)).alloc (.cells #[.slice none 0 0] 25)) = w0 ∧
      Below w.heap.size w w0 ∧ Blk w0 w.heap.size #[.slice a ss.length cap] 25 ∧ Blk w0 (w.heap.size + 1) #[.slice none 0 0] 25 ∧ Blk w0 (w.heap.size + 1 + 1) #[.slice none 0 0] 25 ∧ w.heap.size + 3 = w0.heap.size) := by
    refine ⟨_, rfl, ?_, ?_, ?_, ?_, ?_⟩
    · exact (((Below.refl _ _).alloc (Nat.le_refl _) _).alloc (by simp) _).alloc (by simp; omega) _
    · exact ((Blk.new w _ _).below ((Below.refl _ _).alloc (Nat.le_refl _) _) (by simp)).below ((Below.refl _ _).alloc (Nat.le_refl _) _) (by simp; try omega)
    · have := Blk.new (w.alloc (.cells #[.slice a ss.length cap] 25)) #[.slice none 0 0] 25
      simp only [World.size_alloc] at this
      exact this.below ((Below.refl _ _).alloc (Nat.le_refl _) _) (by simp)
    · have := Blk.new ((w.alloc (.cells #[.slice a ss.length cap] 25)).alloc (.cells #[.slice none 0 0] 25)) #[.slice none 0 0] 25
      simp only [World.size_alloc] at this
      exact this
    · simp
  obtain ⟨w0, HW, HB, KM, KRs, KX, hsz⟩ := KR.out
  clear KR hok
  have c0 : w0.cell? ⟨w.heap.size, 0, none⟩ = some (.slice a ss.length cap) := KM.cell 0
  go_enter Try.func69, Try.ntmps69
  go_wp2_with fail
  clear HW
  have HBh := Lib.hid HB
  have KRh := Lib.hid KRs
  have KXh := Lib.hid KX
  have Hsz := Lib.hid hsz
  clear HB KM KRs KX hsz c0
  go_loopw [9] (fun i wr => ∃ k : Nat, i = .int .i64 (k : Int) ∧ k ≤ ss.length ∧ Hid (∃ v, Blk wr (w.heap.size + 1 + 1) #[v] 25 ∧ OwnSh wr (w.heap.size + 3) v (ss.take k)) ∧ Hid (Blk wr (w.heap.size + 1) #[.slice none 0 0] 25) ∧ Hid (Below w.heap.size w wr) ∧ Hid (w.heap.size + 3 ≤ wr.heap.size)) (fun i _ => ss.length - (intOf i).toNat)
  case atStart => exact ⟨0, rfl, by omega, ⟨_, KXh.out, OwnSh.nil _ _⟩, KRh, HBh, by have := Hsz.out; show _ ≤ _; omega⟩
  case round =>
    obtain ⟨k, rfl, hk, hV, hR, hB, hS⟩ := hrel
    by_cases hlt : k < ss.length
    · have i0' : (0 : Int) ≤ (k : Int) := by omega
      have i1' : (k : Int) < (ss.length : Int) := by omega
      have hs4 := hS.out
      obtain ⟨b, off, rfl, hc⟩ := (hx.out.below hB.out).resolve_left (fun e => by subst e; simp at hlt)
      obtain ⟨e0, v1, e1, hv⟩ := hc k hlt
      have hfin := HOK.out.2.1 k hlt
      have HT := Lib.hid (takeSh ss k hlt)
      have hkl : (ss.take k).length = k := by rw [List.length_take]; omega
      clear hc
      generalize ss.getD k sh0 = q at e0 e1 hv hfin HT
      obtain ⟨nm, xs⟩ := q
      obtain ⟨a1, c1, rfl, _, _, hx1⟩ := hv
      obtain ⟨f1, f2, f3⟩ := hfin
      simp only at e0 e1 hx1 f1 f2 f3
      have hn3 := f1.1.2
      have HF3 : Hid (∀ j, j < xs.length → (xs.getD j ByteArray.empty).size ≤ 1000) := fun j hj => by have := f3 j hj; unfold Short9 at this; omega
      have hBa : Below wr.heap.size wr (wr.alloc (.cells #[.string nm, .slice a1 xs.length c1] 35)).drew := ((Below.refl _ _).alloc (Nat.le_refl _) _).drew
      have HBa := Lib.hid hBa
      have m0 : (wr.alloc (.cells #[.string nm, .slice a1 xs.length c1] 35)).drew.cell? ⟨wr.heap.size, 0, none⟩ = some (.string nm) := by show (wr.alloc _).cell? _ = _; rw [World.cell?_alloc_mark]; rfl
      have m1 : (wr.alloc (.cells #[.string nm, .slice a1 xs.length c1] 35)).drew.cell? ⟨wr.heap.size, 1, none⟩ = some (.slice a1 xs.length c1) := by show (wr.alloc _).cell? _ = _; rw [World.cell?_alloc_mark]; rfl
      have HSC := Lib.hid (shelfCopy_any nm nm a1 c1 xs (wr.alloc (.cells #[.string nm, .slice a1 xs.length c1] 35)).drew (by omega) (by omega) (by omega) HF3 (hx1.below hBa))
      have hx3 : xs.length ≤ 3 := by omega
      clear f1 f2 f3 hx1
      obtain ⟨v, KV, hO⟩ := hV.out
      obtain ⟨av, cv, rfl, _⟩ := hO.reads
      rw [hkl] at KV
      have Ka := Lib.hid (KV.below hBa KV.lt)
      have mo : (wr.alloc (.cells #[.string nm, .slice a1 xs.length c1] 35)).drew.cell? ⟨w.heap.size + 1 + 1, 0, none⟩ = some (.slice av k cv) := Ka.out.cell 0
      have HO := Lib.hid hO
      have HKL := Lib.hid hkl
      have HRa := Lib.hid (hR.out.below hBa hR.out.lt)
      clear hBa KV hO hV hkl
      go_wp2_with fail
      refine AnyS.start (S := (fun w' : World => w'.cell? ⟨w.heap.size + 1 + 1, 0, none⟩ = some (.slice av k cv) ∧ w'.cell? ⟨wr.heap.size, 0, none⟩ = some (.string nm) ∧ w'.cell? ⟨wr.heap.size, 1, none⟩ = some (.slice a1 xs.length c1))) (L := 9) (by kernel_rfl) ?_
      refine AnyS.take 0 (show _ = some _ from rfl) rfl (by kernel_rfl) (by kernel_rfl) (by kernel_rfl) (by kernel_rfl) (fun _ _ _ h => h) ⟨mo, m0, m1⟩ (by rfl) (fun w' hSw => by obtain ⟨s1, s2, s3⟩ := hSw; go_simp; try with_reducible rfl) ?_
      try simp only [Act.put, List.setIfInBounds_toArray, List.set_cons_zero, List.set_cons_succ]
      refine AnyS.take 1 (show _ = some _ from rfl) rfl (by kernel_rfl) (by kernel_rfl) (by kernel_rfl) (by kernel_rfl) (fun _ _ _ h => h) ⟨mo, m0, m1⟩ (by rfl) (fun w' hSw => by obtain ⟨s1, s2, s3⟩ := hSw; go_simp; try with_reducible rfl) ?_
      try simp only [Act.put, List.setIfInBounds_toArray, List.set_cons_zero, List.set_cons_succ]
      refine AnyS.take 2 (show _ = some _ from rfl) rfl (by kernel_rfl) (by kernel_rfl) (by kernel_rfl) (by kernel_rfl) (fun _ _ _ h => h) ⟨mo, m0, m1⟩ (by rfl) (fun w' hSw => by obtain ⟨s1, s2, s3⟩ := hSw; go_simp; try with_reducible rfl) ?_
      try simp only [Act.put, List.setIfInBounds_toArray, List.set_cons_zero, List.set_cons_succ]
      refine AnyS.take 3 (show _ = some _ from rfl) rfl (by kernel_rfl) (by kernel_rfl) (by kernel_rfl) (by kernel_rfl) (fun _ _ _ h => h) ⟨mo, m0, m1⟩ (by rfl) (fun w' hSw => by obtain ⟨s1, s2, s3⟩ := hSw; go_simp; try with_reducible rfl) ?_
      try simp only [Act.put, List.setIfInBounds_toArray, List.set_cons_zero, List.set_cons_succ]
      refine AnyS.take 4 (show _ = some _ from rfl) rfl (by kernel_rfl) (by kernel_rfl) (by kernel_rfl) (by kernel_rfl) (fun _ _ _ h => h) ⟨mo, m0, m1⟩ (by rfl) (fun w' hSw => by obtain ⟨s1, s2, s3⟩ := hSw; go_simp; try with_reducible rfl) ?_
      try simp only [Act.put, List.setIfInBounds_toArray, List.set_cons_zero, List.set_cons_succ]
      refine AnyS.one 5 (by kernel_rfl) (show _ = some _ from rfl) (fun K' hK' => ?_)
      go_simp
      go_at_call 58
      refine HSC.out.mono ?_
      rintro e w2 ⟨gx, cx, rfl, hox, hB2⟩
      have mo2 := cell_below hB2 mo
      have m02 := cell_below hB2 m0
      have m12 := cell_below hB2 m1
      have HO2 := Lib.hid hox
      have HB2 := Lib.hid hB2
      clear hB2 hox mo
      refine hK' _ _ ⟨?_, fun _ => ⟨mo2, m02, m12⟩⟩
      clear hK' K'
      try simp only [Act.put, List.setIfInBounds_toArray, List.set_cons_zero, List.set_cons_succ]
      have hB6 : Below wr.heap.size wr (w2.alloc (.cells #[.string nm, .slice (some ⟨gx, 0, none⟩) xs.length cx] 35)) := (HBa.out.trans (HB2.out.mono HBa.out.size)).alloc (Nat.le_trans HBa.out.size HB2.out.size) _
      obtain ⟨ys, g, k1, k2, k3, k4⟩ := HO.out.rows
      rw [HKL.out] at k1
      have hyl : ys.length = k * 2 := k1.1
      have hown := own_below k1 hB6
      have hbt := own_block_type hown
      obtain ⟨g2, cap2, w7, hr2, ho2, hg2, hat2, hl2⟩ := run_append_lies (w2.alloc (.cells #[.string nm, .slice (some ⟨gx, 0, none⟩) xs.length cx] 35)) 23 23 (w.heap.size + 3) 35 i0 _ 2 40 Try.underlying23 hi0 hz0 hz1 hz2 rfl (by omega) (.slice av k cv) k ys hown
        ⟨w2.heap.size, 0, none⟩ 1 1 [.string nm, .slice (some ⟨gx, 0, none⟩) xs.length cx] rfl (news_two w2 _ _ _ _ rfl) (by simp [Value.oneCell']) (by omega) (by unfold maxLen; omega) (by omega) (by have := hB6.size; omega) _ rfl
      have hBw6 : Below w.heap.size w (w2.alloc (.cells #[.string nm, .slice (some ⟨gx, 0, none⟩) xs.length cx] 35)) := hB.out.trans (hB6.mono hB.out.size)
      have hB7 : Below w.heap.size w w7 := hBw6.grown hg2 (by have := hB6.size; omega) (fun i e => by have := (hown.lt i e).1; omega)
      have hB26 : Below w2.heap.size w2 (w2.alloc (.cells #[.string nm, .slice (some ⟨gx, 0, none⟩) xs.length cx] 35)) := (Below.refl _ _).alloc (Nat.le_refl _) _
      have K2 := Ka.out.below HB2.out Ka.out.lt
      have R2 := HRa.out.below HB2.out HRa.out.lt
      have hne : ∀ D cs, Blk (w2.alloc (.cells #[.string nm, .slice (some ⟨gx, 0, none⟩) xs.length cx] 35)) D cs 25 → Blk w7 D cs 25 := fun D cs h => h.gb hg2 (own_blk_ne hown h (by decide))
      have K7 := hne _ _ (K2.below hB26 K2.lt)
      have R7 := hne _ _ (R2.below hB26 R2.lt)
      have o2 := cell_below hB26 mo2
      have n2 := cell_below hB26 m02
      have n3 := cell_below hB26 m12
      have hpl : wr.heap.size < w2.heap.size := World.block_lt_of_cell? w2 _ m02
      have o7 : w7.cell? ⟨w.heap.size + 1 + 1, 0, none⟩ = some (.slice av k cv) := K7.cell 0
      have f7 := K7.frozen 0
      have hpn : ∀ i, (Value.slice av k cv).ownBlock = some i → i ≠ wr.heap.size := fun i e q => by have := (k1.lt i e).2; omega
      have q0 : w7.cell? ⟨wr.heap.size, 0, none⟩ = some (.string nm) := (hg2.cell_far ⟨wr.heap.size, 0, none⟩ (by show wr.heap.size < _; have := hB26.size; omega) (fun e => hpn _ e.symm rfl)).trans n2
      have q1 : w7.cell? ⟨wr.heap.size, 1, none⟩ = some (.slice a1 xs.length c1) := (hg2.cell_far ⟨wr.heap.size, 1, none⟩ (by show wr.heap.size < _; have := hB26.size; omega) (fun e => hpn _ e.symm rfl)).trans n3
      have HX : Hid (Blk (w7.setCell ⟨w.heap.size + 1 + 1, 0, none⟩ (.slice (some ⟨g2, 0, none⟩) (k + 1) cap2)) (w.heap.size + 1 + 1) #[.slice (some ⟨g2, 0, none⟩) (k + 1) cap2] 25 ∧ OwnSh (w7.setCell ⟨w.heap.size + 1 + 1, 0, none⟩ (.slice (some ⟨g2, 0, none⟩) (k + 1) cap2)) (w.heap.size + 3) (.slice (some ⟨g2, 0, none⟩) (k + 1) cap2) (ss.take (k + 1)) ∧
          Blk (w7.setCell ⟨w.heap.size + 1 + 1, 0, none⟩ (.slice (some ⟨g2, 0, none⟩) (k + 1) cap2)) (w.heap.size + 1) #[.slice none 0 0] 25 ∧
          Below w.heap.size w (w7.setCell ⟨w.heap.size + 1 + 1, 0, none⟩ (.slice (some ⟨g2, 0, none⟩) (k + 1) cap2)) ∧ w.heap.size + 3 ≤ (w7.setCell ⟨w.heap.size + 1 + 1, 0, none⟩ (.slice (some ⟨g2, 0, none⟩) (k + 1) cap2)).heap.size) := by
        have hO7 : OwnSh w7 (w.heap.size + 3) (.slice (some ⟨g2, 0, none⟩) (k + 1) cap2) (ss.take (k + 1)) := by
          rw [HT.out]
          exact OwnSh.more (w0 := wr) (base' := (wr.alloc (.cells #[.string nm, .slice a1 xs.length c1] 35)).drew.heap.size) (fun j hj => (k2 j hj).below hB6) k3 k4 (by rw [HKL.out]; exact hyl) (own_below HO2.out hB26) HBa.out.size (Nat.le_trans hS.out HBa.out.size) (by rw [HKL.out]; exact ho2) hg2 hbt
        refine ⟨K7.set 0 _, hO7.other K7 (by decide) (by decide) 0 _, R7.other _ _ _ (by omega), hB7.setCell (p := ⟨w.heap.size + 1 + 1, 0, none⟩) (by simp; omega) _, ?_⟩
        have := hB6.size
        have := hg2.size
        rw [World.size_setCell]; omega
      clear hB6 hBw6 hB7 hB26 K2 R2 K7 R7 hne hown hbt ho2 hg2 hat2 hl2 k1 k2 k3 k4 hpn hyl HO2 HB2 HO HKL HRa Ka HBa HT HSC
      refine AnyS.one 6 (by kernel_rfl) (show _ = some _ from rfl) (fun K' hK' => ?_)
      go_simp
      refine hK' _ _ ⟨?_, fun _ => ⟨o2, n2, n3⟩⟩
      clear hK' K'
      try simp only [Act.put, List.setIfInBounds_toArray, List.set_cons_zero, List.set_cons_succ]
      refine AnyS.one 7 (by kernel_rfl) (show _ = some _ from rfl) (fun K' hK' => step_append_run (by rfl) _ _ _ _ (by rfl) (by rfl) _ _ _ (by rfl) (by rfl) hr2 (hK' _ _ ⟨?_, fun _ => ⟨o7, q0, q1⟩⟩))
      try simp only [Act.put, List.setIfInBounds_toArray, List.set_cons_zero, List.set_cons_succ]
      refine AnyS.take 8 (show _ = some _ from rfl) rfl (by kernel_rfl) (by kernel_rfl) (by kernel_rfl) (by kernel_rfl) (fun _ _ _ h => h) ⟨o7, q0, q1⟩ (by rfl) (fun w' hSw => by obtain ⟨s1, s2, s3⟩ := hSw; go_simp; try with_reducible rfl) ?_
      try simp only [Act.put, List.setIfInBounds_toArray, List.set_cons_zero, List.set_cons_succ]
      refine AnyS.one 9 (by kernel_rfl) (show _ = some _ from rfl) (fun K' hK' => ?_)
      go_simp
      refine hK' _ _ ⟨AnyS.done (by kernel_rfl) ?_, fun h => absurd rfl h⟩
      clear hK' K'
      try simp only [Act.put, List.setIfInBounds_toArray, List.set_cons_zero, List.set_cons_succ]
      go_wp2
      exact ⟨⟨k + 1, by go_num, by omega, ⟨_, HX.out.1, HX.out.2.1⟩, HX.out.2.2.1, HX.out.2.2.2.1, HX.out.2.2.2.2⟩, by simp [intOf]; omega⟩
    · obtain rfl : k = ss.length := by omega
      have hV' := hV.out
      rw [List.take_length] at hV'
      obtain ⟨v, KV, hO⟩ := hV'
      obtain ⟨av, cv, rfl, _⟩ := hO.reads
      have HO := Lib.hid hO
      have m0 : wr.cell? ⟨w.heap.size + 1 + 1, 0, none⟩ = some (.slice av ss.length cv) := KV.cell 0
      have q0 : wr.cell? ⟨w.heap.size + 1, 0, none⟩ = some (.slice none 0 0) := hR.out.cell 0
      have fq := hR.out.frozen 0
      clear hO hV KV
      go_wp2
      refine bodyPost_ret (v := .agg #[.slice av ss.length cv]) (by simp [results, Try.results69, go_sem, q0]) rfl ⟨_, _, rfl, ?_, ?_⟩
      · exact (HO.out.far _ _ _ (by omega)).mono (by omega)
      · exact hB.out.setCell (p := ⟨w.heap.size + 1, 0, none⟩) (by simp) _

end Go.Proofs.Ytmmckpjapnkepaa
