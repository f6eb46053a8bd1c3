/- A drawn model: volumes that are read, and only the reader's own block turns. Conditions: the reader's place is small. -/
import Derived.Test.YtmmckpjapnkepaaJC
namespace Go.Proofs.Ytmmckpjapnkepaa
open Go.RowKit Go.Sort

theorem infoShJ : (Try.prog.info? 35).map (fun i => (i.zero, i.size, i.bytes)) = some (some (.agg #[.string ByteArray.empty, .slice none 0 0]), 2, 40) := by kernel_rfl
theorem infoTxJ : (Try.prog.info? 9).map (fun i => (i.zero, i.size, i.bytes)) = some (some (.string ByteArray.empty), 1, 16) := by kernel_rfl
theorem gb_drew (w : World) (r : Option Nat) : w.grownBy w.drew r := ⟨rfl, rfl, rfl, Nat.le_refl _, fun _ _ _ => rfl⟩
theorem gb_below {w w' : World} (h : Below w.heap.size w w') (r : Option Nat) : w.grownBy w' r := ⟨h.os, h.tape, h.output, h.size, fun k hk _ => h.block k hk⟩
theorem Rd.under {n₀ B p : Nat} {w w' : World} (h : Rd n₀ B p w) (hB : Below w.heap.size w w') : Rd n₀ B p w' := h.kept (gb_below hB none) (fun k e => by cases e)
theorem md_start (n₀ B p : Nat) (w : World) (hR : Rd n₀ B p w) : ∃ w1, ((w.alloc (.cells #[.slice none 0 0] 25)).alloc (.cells #[] 35)).alloc (.cells #[.slice (some ⟨w.heap.size + 1, 0, none⟩) 0 0] 25) = w1 ∧
    MdI n₀ B p w.heap.size (w.heap.size + 1 + 1) (.slice (some ⟨w.heap.size + 1, 0, none⟩) 0 0) [] w w1 := by
  have hb1 : Below (w.heap.size + 1) (w.alloc (.cells #[.slice none 0 0] 25)) (((w.alloc (.cells #[.slice none 0 0] 25)).alloc (.cells #[] 35)).alloc (.cells #[.slice (some ⟨w.heap.size + 1, 0, none⟩) 0 0] 25)) :=
    ((Below.refl _ _).alloc (by simp) _).alloc (by simp) _
  refine ⟨_, rfl, (((hR.alloc _).alloc _).alloc _), ?_, (Blk.new w _ _).below hb1 (by omega), ?_, ((World.grownBy_alloc w _ _).trans (World.grownBy_alloc _ _ _)).trans (World.grownBy_alloc _ _ _), fun j hj => by simp at hj⟩
  · have := Blk.new ((w.alloc (.cells #[.slice none 0 0] 25)).alloc (.cells #[] 35)) #[.slice (some ⟨w.heap.size + 1, 0, none⟩) 0 0] 25
    simp only [World.size_alloc] at this
    exact this
  · have h1 : ((w.alloc (.cells #[.slice none 0 0] 25)).alloc (.cells #[] 35)).ownsRow w.heap.size 35 2 (.slice (some ⟨w.heap.size + 1, 0, none⟩) 0 0) 0 [] := by
      have := World.ownsRow_made (e := 35) (size := 2) (base := w.heap.size) (w.alloc (.cells #[.slice none 0 0] 25)) #[] 0 (by simp) (by simp [maxLen]) (by simp)
      simp only [World.size_alloc] at this
      exact this
    exact ⟨[], fun _ => 0, own_gb h1 (World.grownBy_alloc _ _ none) (fun i e => by cases e), fun j hj => by simp at hj, fun i j _ hj => by simp at hj⟩

set_option linter.unusedSimpArgs false in
set_option maxRecDepth 100000 in
set_option maxHeartbeats 8000000 in
theorem l73Model_any (n₀ B p : Nat) (w : World) (hp : p ≤ 700000) (hR : Rd n₀ B p w) :
    Calls Try.prog 34 #[.pointer (some ⟨B, 0, none⟩)] w (MdDrawn n₀ B p w) := by
  obtain ⟨i0, hi0, hz0, hz1, hz2⟩ := info_parts infoShJ
  obtain ⟨i1, hi1, hy0, hy1, hy2⟩ := info_parts infoTxJ
  obtain ⟨w1, HW, hI1⟩ := md_start n₀ B p w hR
  have hBl := hR.lt
  have HI1 := Lib.hid hI1
  have HP := Lib.hid (pick_any n₀ B p 5 w1 (by omega) hI1.rd)
  clear hI1 hR
  go_enter Try.func34, Try.ntmps34
  go_wp2_with fail
  refine HP.out.mono ?_
  rintro e w2 ⟨n0, rfl, hn0, hn5, hR2, hg2⟩
  have hn4 := hn5 (by omega)
  obtain ⟨n0, rfl⟩ := Int.eq_ofNat_of_zero_le hn0
  have HI2 := Lib.hid (HI1.out.grow hBl (by omega) hg2 hR2)
  clear hn5 hR2 hg2 hn0 HP
  generalize hgD : w.heap.size + 1 + 1 = D at HI2 ⊢
  have hD : w.heap.size < D := by omega
  clear hgD HI1 HW
  generalize (Value.slice (some ⟨w.heap.size + 1, 0, none⟩) 0 0) = v0 at HI2
  go_wp2_with fail
  go_loopw [4] (fun s4 wr => ∃ (i q : Nat) (v : Value) (ss : List ShD), s4 = .int .i64 (i : Int) ∧ ss.length + i ≤ 4 ∧ q + i * 60 ≤ p + 241 ∧ Hid (MdI n₀ B q w.heap.size D v ss w wr)) (fun s4 _ => (intOf s4).toNat)
  case atStart => exact ⟨n0, p + 1, v0, [], rfl, by simp; omega, by omega, HI2⟩
  case round =>
    obtain ⟨i, q, v, ss, rfl, hsi, hqi, hU⟩ := hrel
    obtain ⟨av, cv, rfl, _⟩ := hU.out.own.reads
    have hws : w.heap.size ≤ wr.heap.size := hU.out.gb.size
    by_cases hlt : 0 < i
    · go_wp2_with fail
      refine (ofLit_any n₀ B q _ 5 _ 10 _ (by omega) (hU.out.rd.alloc _) (by omega) (by omega) (by have := hU.out.rd.lt; omega) (Lib.hid (litAt_new wr _ 10 rfl))).mono ?_
      rintro e w3 ⟨nm, rfl, hnm, hR3, hg3⟩
      have HI3 := Lib.hid (hU.out.grow hBl hD ((World.grownBy_alloc wr _ _).trans hg3) hR3)
      have hw3 : w.heap.size ≤ w3.heap.size := HI3.out.gb.size
      have hI4 := HI3.out.grow hBl hD (World.grownBy_alloc w3 (.cells #[.string nm, .slice none 0 0] 35) _) (HI3.out.rd.alloc _)
      have hK4 := Blk.new w3 #[.string nm, .slice none 0 0] 35
      have hg4 := World.grownBy_alloc w3 (.cells #[.string nm, .slice none 0 0] 35) (some B)
      have m4 : (w3.alloc (.cells #[.string nm, .slice none 0 0] 35)).cell? ⟨D, 0, none⟩ = some (.slice av ss.length cv) := hI4.box.cell 0
      have HFd := Lib.hid (l14Find_any av cv ss nm _ (by unfold maxLen; omega) hI4.own.reads.at)
      have HI4 := Lib.hid hI4
      have HK4 := Lib.hid hK4
      have HG4 := Lib.hid hg4
      clear hR3 hg3 hI4 hK4 hg4
      go_wp2_with fail
      generalize w3.alloc (.cells #[.string nm, .slice none 0 0] 35) = w4 at HI4 HK4 HG4 HFd ⊢
      refine HFd.out.mono ?_
      rintro e w5 ⟨⟨z, rfl, hz⟩, hB5⟩
      have HI5 := Lib.hid (HI4.out.grow hBl hD (gb_below hB5 _) (HI4.out.rd.under hB5))
      have HM5 : Hid (MdM n₀ B (q + 1) w3.heap.size w3.heap.size nm (.slice none 0 0) [] w3 w5) :=
        ⟨HI5.out.rd, HK4.out.below hB5 HK4.out.lt, ⟨rfl, .inl ⟨rfl, rfl⟩⟩, HG4.out.trans (gb_below hB5 _), fun j hj => by simp at hj⟩
      clear hB5 hz HFd HI4 HK4 HG4
      by_cases hzc : 0 ≤ z
      · have d0 : decide (z ≥ 0) = true := by simp; omega
        have d0' : decide (0 ≤ z) = true := by simp; omega
        go_wp2
        exact ⟨⟨i - 1, q + 1, _, ss, by congr 1; omega, by omega, by omega, HI5⟩, by simp [intOf]; omega⟩
      · have d0 : decide (z ≥ 0) = false := by simp; omega
        have d0' : decide (0 ≤ z) = false := by simp; omega
        clear HI5
        have hBS : B < w3.heap.size := by omega
        generalize hgS : w3.heap.size = X at HM5 hBS ⊢
        have HX3 := Lib.hid hgS
        clear hgS
        go_wp2_with fail
        go_loopw [6] (fun s6 wx => ∃ (q5 : Nat) (v' : Value) (xs : List ByteArray), s6 = .int .i64 (xs.length : Int) ∧ xs.length ≤ 3 ∧ q5 ≤ q + 1 + xs.length * 19 ∧ Hid (MdM n₀ B q5 X X nm v' xs w3 wx)) (fun s6 _ => 3 - (intOf s6).toNat)
        case atStart => exact ⟨q + 1, _, [], rfl, by simp, by simp, HM5⟩
        case round =>
          obtain ⟨q5, v', xs, rfl, hx3, hq5, hM⟩ := hrel
          by_cases hk : xs.length < 3
          · have c1 : wr.cell? ⟨X, 1, none⟩ = some v' := hM.out.box.cell 1
            have c1d : wr.drew.cell? ⟨X, 1, none⟩ = some v' := c1
            have HT := Lib.hid (l71Text_any n₀ B q5 9 wr.drew (by omega) (by omega) hM.out.rd.drew)
            go_wp2_with fail
            refine AnyS.start (S := (fun w' : World => w'.cell? ⟨X, 1, none⟩ = some v')) (L := 7) (by kernel_rfl) ?_
            refine AnyS.take 0 (show _ = some _ from rfl) rfl (by kernel_rfl) (by kernel_rfl) (by kernel_rfl) (by kernel_rfl) (fun _ _ _ h => h) c1d (by rfl) (fun w' hSw => by obtain s1 := hSw; go_simp; try with_reducible rfl) ?_
            try simp only [Act.put, List.setIfInBounds_toArray, List.set_cons_zero, List.set_cons_succ]
            refine AnyS.take 1 (show _ = some _ from rfl) rfl (by kernel_rfl) (by kernel_rfl) (by kernel_rfl) (by kernel_rfl) (fun _ _ _ h => h) c1d (by rfl) (fun w' hSw => by obtain s1 := hSw; go_simp; try with_reducible rfl) ?_
            try simp only [Act.put, List.setIfInBounds_toArray, List.set_cons_zero, List.set_cons_succ]
            refine AnyS.take 2 (show _ = some _ from rfl) rfl (by kernel_rfl) (by kernel_rfl) (by kernel_rfl) (by kernel_rfl) (fun _ _ _ h => h) c1d (by rfl) (fun w' hSw => by obtain s1 := hSw; go_simp; try with_reducible rfl) ?_
            try simp only [Act.put, List.setIfInBounds_toArray, List.set_cons_zero, List.set_cons_succ]
            refine AnyS.one 3 (by kernel_rfl) (show _ = some _ from rfl) (fun K' hK' => ?_)
            go_simp
            go_at_call 37
            refine HT.out.mono ?_
            rintro e w6 ⟨t, q6, rfl, ht, hq6, hR6, hg6⟩
            have hg6w : wr.grownBy w6 (some B) := (gb_drew wr _).trans hg6
            obtain ⟨hown, hmore⟩ := hM.out.more hBS hBS (by rw [HX3.out]; exact Nat.le_refl _) (by rw [HX3.out]; exact Nat.le_refl _) hg6w hR6 ht
            have hX6 : X ≤ w6.heap.size := by have := hM.out.box.lt; have := hg6w.size; omega
            have c6 : w6.cell? ⟨X, 1, none⟩ = some v' := hg6w.cell c1 (by simp; omega)
            have c6a := cell_below ((Below.refl _ w6).alloc (Nat.le_refl _) (.cells #[.string t] 9)) c6
            obtain ⟨g4, cap4, w7, hr7, ho7, hg7, hat7, hl7⟩ := run_append_lies (w6.alloc (.cells #[.string t] 9)) 33 33 X 9 i1 _ 1 16 Try.underlying33 hi1 hy0 hy1 hy2 rfl (by omega) v' xs.length (txC xs) hown ⟨w6.heap.size, 0, none⟩ 1 1 [.string t] rfl (news_new w6 _ 9 _ rfl) (by simp [Value.oneCell']) (by omega) (by unfold maxLen; omega) (by omega) (by simp; omega) _ rfl
            obtain ⟨hb7, hM7⟩ := hmore g4 cap4 w7 ho7 hg7
            have c7 : w7.cell? ⟨X, 1, none⟩ = some v' := hb7.cell 1
            have f7 := hb7.frozen 1
            clear hat7 hl7 hg6 hg6w hR6
            go_simp
            refine hK' _ _ ⟨?_, fun _ => c6⟩
            clear hK' K'
            try simp only [Act.put, List.setIfInBounds_toArray, List.set_cons_zero, List.set_cons_succ]
            refine AnyS.one 4 (by kernel_rfl) (show _ = some _ from rfl) (fun K' hK' => ?_)
            go_simp
            refine hK' _ _ ⟨?_, fun _ => c6a⟩
            clear hK' K'
            try simp only [Act.put, List.setIfInBounds_toArray, List.set_cons_zero, List.set_cons_succ]
            refine AnyS.one 5 (by kernel_rfl) (show _ = some _ from rfl) (fun K' hK' => step_append_run (by rfl) _ _ _ _ (by rfl) (by rfl) _ _ _ (by rfl) (by rfl) hr7 (hK' _ _ ⟨?_, fun _ => c7⟩))
            try simp only [Act.put, List.setIfInBounds_toArray, List.set_cons_zero, List.set_cons_succ]
            refine AnyS.one 6 (by kernel_rfl) (show _ = some _ from rfl) (fun K' hK' => ?_)
            go_simp
            refine hK' _ _ ⟨?_, fun _ => c7⟩
            clear hK' K'
            try simp only [Act.put, List.setIfInBounds_toArray, List.set_cons_zero, List.set_cons_succ]
            refine AnyS.one 7 (by kernel_rfl) (show _ = some _ from rfl) (fun K' hK' => ?_)
            go_simp
            refine hK' _ _ ⟨AnyS.done (by kernel_rfl) ?_, fun h => absurd rfl h⟩
            clear hK' K'
            try simp only [Act.put, List.setIfInBounds_toArray, List.set_cons_zero, List.set_cons_succ]
            have HM7 := Lib.hid hM7
            clear hM7 hb7 ho7 hg7 hr7 hown hmore
            go_wp2
            exact ⟨⟨q6, _, xs ++ [t], by simp, by simp; omega, by simp; omega, by simpa using HM7⟩, by simp [intOf]; omega⟩
          · have h3 : Hid (xs.length = 3) := by show xs.length = 3; omega
            obtain ⟨gx, cx, rfl⟩ : ∃ gx cx, v' = .slice (some ⟨gx, 0, none⟩) xs.length cx := by
              rcases hM.out.own.2 with ⟨_, h⟩ | ⟨g1, c1, _, e, _⟩
              · omega
              · exact ⟨g1, c1, e⟩
            obtain ⟨ys, hown', HX'⟩ := HI3.out.more hBl hD hw3 (Nat.le_refl _) (by rw [HX3.out]; exact hM.out) hnm h3.out
            have HX := Lib.hid HX'
            have hID := (HI3.out.grow hBl hD hM.out.gb hM.out.rd)
            have k1 : wr.cell? ⟨D, 0, none⟩ = some (.slice av ss.length cv) := hID.box.cell 0
            have n0 : wr.cell? ⟨X, 0, none⟩ = some (.string nm) := hM.out.box.cell 0
            have n1 : wr.cell? ⟨X, 1, none⟩ = some (.slice (some ⟨gx, 0, none⟩) xs.length cx) := hM.out.box.cell 1
            have hnews := news_pair wr (.string nm) (.slice (some ⟨gx, 0, none⟩) xs.length cx) 35
            have hbase : w.heap.size ≤ (wr.alloc (.cells #[.string nm, .slice (some ⟨gx, 0, none⟩) xs.length cx] 35)).heap.size := by have := hID.gb.size; simp; omega
            clear hID HX' hM
            go_wp2_with (at_builtin; refine wpList_append_lies _ rfl _ _ 23 rfl w.heap.size 35 i0 _ 2 40 Try.underlying23 hi0 hz0 hz1 hz2 rfl (by omega) _ ss.length ys rfl hown' ⟨_, 0, none⟩ 1 1 [.string nm, .slice (some ⟨gx, 0, none⟩) xs.length cx] rfl rfl hnews (by simp [Value.oneCell']) (by omega) (by simp [maxLen]; omega) (by omega) hbase _ rfl ?_; intro g4 cap4 w9 hown4 hgrow4 hat4 hlt4; obtain ⟨hb9, hN⟩ := HX.out g4 cap4 w9 hown4 hgrow4; have z9 : w9.cell? ⟨D, 0, none⟩ = some (.slice av ss.length cv) := hb9.cell 0; have f9 := hb9.frozen 0; have HN := Lib.hid hN; clear hown4 hgrow4 hat4 hlt4 hN hb9)
            exact ⟨⟨i - 1, q5, _, ss ++ [⟨nm, xs⟩], by congr 1; omega, by simp; omega, by have := h3.out; omega, by simpa using HN⟩, by simp [intOf]; omega⟩
    · obtain rfl : i = 0 := by omega
      have HP12 := Lib.hid (pick_any n₀ B q 12 wr (by omega) hU.out.rd)
      go_wp2_with fail
      refine HP12.out.mono ?_
      rintro e w2 ⟨v2, rfl, hv20, hv2n, hR2, hg2⟩
      have HI := Lib.hid (hU.out.grow hBl hD hg2 hR2)
      clear hv2n hR2 hg2 HP12 hU
      by_cases hv : 0 < v2
      · have dv : decide (v2 > 0) = true := by simp; omega
        obtain ⟨a1, a2, a3, hF⟩ := HI.out.plain (p := p) hBl (Nat.le_refl _) (by omega) (by omega)
        have HF := Lib.hid hF
        clear hF hv HI
        go_wp2
        refine bodyPost_ret (v := .agg #[.slice av ss.length cv]) (by simp [results, Try.results34, go_sem, a2]) rfl HF.out
      · have dv : decide (v2 > 0) = false := by simp; omega
        by_cases hl0 : ss.length = 0
        · obtain rfl : ss = [] := List.eq_nil_of_length_eq_zero hl0
          simp only [List.length_nil] at HI hsi
          obtain ⟨a1, a2, a3, hF⟩ := HI.out.plain (p := p) hBl (Nat.le_refl _) (by simp) (by omega)
          have a1' : w2.cell? ⟨D, 0, none⟩ = some (.slice av 0 cv) := a1
          have HF : Hid (MdDrawn n₀ B p w (.returned (.agg #[.slice av 0 cv])) (w2.setCell ⟨w.heap.size, 0, none⟩ (.slice av 0 cv))) := hF
          clear hF hv HI a1 hl0
          simp only [List.length_nil]
          go_wp2
          refine bodyPost_ret (v := .agg #[.slice av 0 cv]) (by simp [results, Try.results34, go_sem, a2]) rfl HF.out
        · have hn0 : (0 : Int) < (ss.length : Int) := by omega
          have dl : ((ss.length : Int) == 0) = false := by simp; intro e; subst e; simp at hl0
          have dl' : decide ((ss.length : Int) = 0) = false := decide_eq_false (by omega)
          have b1 : w2.cell? ⟨D, 0, none⟩ = some (.slice av ss.length cv) := HI.out.box.cell 0
          have HP4 := Lib.hid (pick_any n₀ B (q + 1) 4 w2 (by omega) HI.out.rd)
          clear hl0
          go_wp2_with fail
          refine HP4.out.mono ?_
          rintro e w3 ⟨v3, rfl, hv30, hv3n, hR3, hg3⟩
          have hv34 := hv3n (by omega)
          have hI3 := HI.out.grow hBl hD hg3 hR3
          have hI3d := hI3.grow hBl hD (gb_drew w3 _) hI3.rd.drew
          obtain ⟨gr, cap, g0, c0, hF⟩ := hI3.first (p := p) hBl hD (Nat.le_refl _) (by omega) (by omega) (by omega)
          obtain ⟨grd, capd, g0d, c0d, hFd⟩ := hI3d.first (p := p) hBl hD (Nat.le_refl _) (by omega) (by omega) (by omega)
          have b3 : w3.cell? ⟨D, 0, none⟩ = some (.slice av ss.length cv) := hI3.box.cell 0
          have hsz3 : w.heap.size ≤ w3.heap.size := hI3.gb.size
          have HF := Lib.hid hF
          have HFd := Lib.hid hFd
          clear hv3n hR3 hg3 HP4 HI b1 hF hFd hI3 hI3d
          have hv4 : v3 = 0 ∨ v3 = 1 ∨ v3 = 2 ∨ v3 = 3 := by omega
          clear hv30 hv34
          rcases hv4 with rfl | rfl | rfl | rfl
          · clear HF
            have he := HFd.out.eq
            cases he
            have n0 : w3.drew.cell? ⟨grd, 0, none⟩ = some (.string (nmAt ss 0)) := HFd.out.n0
            have n1 := HFd.out.n1
            have b3d : w3.drew.cell? ⟨D, 0, none⟩ = some (.slice (some ⟨grd, 0, none⟩) ss.length cv) := b3
            obtain ⟨ys, hown, hmore⟩ := HFd.out.twice
            obtain ⟨g2, cap2, w5, hr2, ho2, hg2, hat2, hl2⟩ := run_append_lies (w3.drew.alloc (.cells #[.string (nmAt ss 0), .slice (some ⟨g0d, 0, none⟩) 3 c0d] 35)) 23 23 w.heap.size 35 i0 _ 2 40 Try.underlying23 hi0 hz0 hz1 hz2 rfl (by omega) (.slice (some ⟨grd, 0, none⟩) ss.length cv) ss.length ys hown
              ⟨w3.drew.heap.size, 0, none⟩ 1 1 [.string (nmAt ss 0), .slice (some ⟨g0d, 0, none⟩) 3 c0d] rfl (news_pair w3.drew _ _ _) (by simp [Value.oneCell']) (by omega) (by unfold maxLen; omega) (by omega) (by simp; omega) _ rfl
            obtain ⟨hb5, e1, e2, e3, hE⟩ := hmore g2 cap2 w5 ho2 hg2
            have b4 := cell_below ((Below.refl _ w3.drew).alloc (Nat.le_refl _) (.cells #[.string (nmAt ss 0), .slice (some ⟨g0d, 0, none⟩) 3 c0d] 35)) b3d
            have b5 : w5.cell? ⟨D, 0, none⟩ = some (.slice (some ⟨grd, 0, none⟩) ss.length cv) := hb5.cell 0
            have f5 := hb5.frozen 0
            have HE := Lib.hid hE
            have HE1 := Lib.hid e1
            have HE2 := Lib.hid e2
            have HE3 := Lib.hid e3
            generalize nmAt ss 0 = N at n0 hr2 b4
            clear hown hmore ho2 hg2 hat2 hl2 hb5 hE HFd b3 e1 e2 e3
            go_wp2_with fail
            refine AnyS.start (S := (fun w' : World => w'.cell? ⟨D, 0, none⟩ = some (.slice (some ⟨grd, 0, none⟩) ss.length cv))) (L := 9) (by kernel_rfl) ?_
            refine AnyS.take 0 (show _ = some _ from rfl) rfl (by kernel_rfl) (by kernel_rfl) (by kernel_rfl) (by kernel_rfl) (fun _ _ _ h => h) b3d (by rfl) (fun w' hSw => by obtain s1 := hSw; go_simp; try with_reducible rfl) ?_
            try simp only [Act.put, List.setIfInBounds_toArray, List.set_cons_zero, List.set_cons_succ]
            refine AnyS.take 1 (show _ = some _ from rfl) rfl (by kernel_rfl) (by kernel_rfl) (by kernel_rfl) (by kernel_rfl) (fun _ _ _ h => h) b3d (by rfl) (fun w' hSw => by obtain s1 := hSw; go_simp; try with_reducible rfl) ?_
            try simp only [Act.put, List.setIfInBounds_toArray, List.set_cons_zero, List.set_cons_succ]
            refine AnyS.take 2 (show _ = some _ from rfl) rfl (by kernel_rfl) (by kernel_rfl) (by kernel_rfl) (by kernel_rfl) (fun _ _ _ h => h) b3d (by rfl) (fun w' hSw => by obtain s1 := hSw; go_simp; try with_reducible rfl) ?_
            try simp only [Act.put, List.setIfInBounds_toArray, List.set_cons_zero, List.set_cons_succ]
            refine AnyS.take 3 (show _ = some _ from rfl) rfl (by kernel_rfl) (by kernel_rfl) (by kernel_rfl) (by kernel_rfl) (fun _ _ _ h => h) b3d (by rfl) (fun w' hSw => by obtain s1 := hSw; go_simp; try with_reducible rfl) ?_
            try simp only [Act.put, List.setIfInBounds_toArray, List.set_cons_zero, List.set_cons_succ]
            refine AnyS.take 4 (show _ = some _ from rfl) rfl (by kernel_rfl) (by kernel_rfl) (by kernel_rfl) (by kernel_rfl) (fun _ _ _ h => h) b3d (by rfl) (fun w' hSw => by obtain s1 := hSw; go_simp; rw [if_pos (show 0 < ss.length by omega)]) ?_
            try simp only [Act.put, List.setIfInBounds_toArray, List.set_cons_zero, List.set_cons_succ]
            refine AnyS.one 5 (by kernel_rfl) (show _ = some _ from rfl) (fun K' hK' => ?_)
            go_simp
            refine hK' _ _ ⟨?_, fun _ => b3d⟩
            clear hK' K'
            try simp only [Act.put, List.setIfInBounds_toArray, List.set_cons_zero, List.set_cons_succ]
            refine AnyS.one 6 (by kernel_rfl) (show _ = some _ from rfl) (fun K' hK' => ?_)
            go_simp
            refine hK' _ _ ⟨?_, fun _ => b4⟩
            clear hK' K'
            try simp only [Act.put, List.setIfInBounds_toArray, List.set_cons_zero, List.set_cons_succ]
            refine AnyS.one 7 (by kernel_rfl) (show _ = some _ from rfl) (fun K' hK' => step_append_run (by rfl) _ _ _ _ (by rfl) (by rfl) _ _ _ (by rfl) (by rfl) hr2 (hK' _ _ ⟨?_, fun _ => b5⟩))
            try simp only [Act.put, List.setIfInBounds_toArray, List.set_cons_zero, List.set_cons_succ]
            refine AnyS.one 8 (by kernel_rfl) (show _ = some _ from rfl) (fun K' hK' => ?_)
            go_simp
            refine hK' _ _ ⟨?_, fun _ => b5⟩
            clear hK' K'
            try simp only [Act.put, List.setIfInBounds_toArray, List.set_cons_zero, List.set_cons_succ]
            refine AnyS.one 9 (by kernel_rfl) (show _ = some _ from rfl) (fun K' hK' => ?_)
            go_simp
            refine hK' _ _ ⟨AnyS.done (by kernel_rfl) ?_, fun h => absurd rfl h⟩
            clear hK' K'
            try simp only [Act.put, List.setIfInBounds_toArray, List.set_cons_zero, List.set_cons_succ]
            have e1 := HE1.out
            have e2 := HE2.out
            have e3 := HE3.out
            go_wp2
            refine bodyPost_ret (v := .agg #[.slice (some ⟨g2, 0, none⟩) (ss.length + 1) cap2]) (by simp [results, Try.results34, go_sem, e2]) rfl HE.out
          · have he := HF.out.eq
            cases he
            clear HFd
            have n0 := HF.out.n0
            have f0 := HF.out.f0
            obtain ⟨e1, e2, e3, hE⟩ := HF.out.named ⟨#[65]⟩ (by decide)
            obtain ⟨w5, HW5⟩ : ∃ w5, w3.setCell ⟨gr, 0, none⟩ (.string ⟨#[65]⟩) = w5 := ⟨_, rfl⟩
            rw [HW5] at e1 e2 e3 hE
            have HE := Lib.hid hE
            clear hE HF
            go_wp2
            refine bodyPost_ret (v := .agg #[.slice (some ⟨gr, 0, none⟩) ss.length cv]) (by simp [results, Try.results34, go_sem, e2]) rfl HE.out
          · clear HF
            have he := HFd.out.eq
            cases he
            have n1 : w3.drew.cell? ⟨grd, 1, none⟩ = some (.slice (some ⟨g0d, 0, none⟩) 3 c0d) := HFd.out.n1
            have f1 := HFd.out.f1
            have hc3 := HFd.out.c3.1
            have hc4 := HFd.out.c3.2
            unfold maxLen at hc4
            have b3d : w3.drew.cell? ⟨D, 0, none⟩ = some (.slice (some ⟨grd, 0, none⟩) ss.length cv) := b3
            obtain ⟨e1, e2, e3, hE⟩ := HFd.out.cut
            have HE := Lib.hid hE
            have HE1 := Lib.hid e1
            have HE2 := Lib.hid e2
            have HE3 := Lib.hid e3
            clear hE HFd e1 e2 e3 b3
            go_wp2_with fail
            refine AnyS.start (S := (fun w' : World => w'.cell? ⟨D, 0, none⟩ = some (.slice (some ⟨grd, 0, none⟩) ss.length cv) ∧ w'.cell? ⟨grd, 1, none⟩ = some (.slice (some ⟨g0d, 0, none⟩) 3 c0d))) (L := 10) (by kernel_rfl) ?_
            generalize w3.drew = wd at HE HE1 HE2 HE3 n1 f1 b3d ⊢
            refine AnyS.take 0 (show _ = some _ from rfl) rfl (by kernel_rfl) (by kernel_rfl) (by kernel_rfl) (by kernel_rfl) (fun _ _ _ h => h) ⟨b3d, n1⟩ (by rfl) (fun w' hSw => by obtain ⟨s1, s2⟩ := hSw; go_simp; try with_reducible rfl) ?_
            try simp only [Act.put, List.setIfInBounds_toArray, List.set_cons_zero, List.set_cons_succ]
            refine AnyS.take 1 (show _ = some _ from rfl) rfl (by kernel_rfl) (by kernel_rfl) (by kernel_rfl) (by kernel_rfl) (fun _ _ _ h => h) ⟨b3d, n1⟩ (by rfl) (fun w' hSw => by obtain ⟨s1, s2⟩ := hSw; go_simp; try with_reducible rfl) ?_
            try simp only [Act.put, List.setIfInBounds_toArray, List.set_cons_zero, List.set_cons_succ]
            refine AnyS.take 2 (show _ = some _ from rfl) rfl (by kernel_rfl) (by kernel_rfl) (by kernel_rfl) (by kernel_rfl) (fun _ _ _ h => h) ⟨b3d, n1⟩ (by rfl) (fun w' hSw => by obtain ⟨s1, s2⟩ := hSw; go_simp; try with_reducible rfl) ?_
            try simp only [Act.put, List.setIfInBounds_toArray, List.set_cons_zero, List.set_cons_succ]
            refine AnyS.take 3 (show _ = some _ from rfl) rfl (by kernel_rfl) (by kernel_rfl) (by kernel_rfl) (by kernel_rfl) (fun _ _ _ h => h) ⟨b3d, n1⟩ (by rfl) (fun w' hSw => by obtain ⟨s1, s2⟩ := hSw; go_simp; try with_reducible rfl) ?_
            try simp only [Act.put, List.setIfInBounds_toArray, List.set_cons_zero, List.set_cons_succ]
            refine AnyS.take 4 (show _ = some _ from rfl) rfl (by kernel_rfl) (by kernel_rfl) (by kernel_rfl) (by kernel_rfl) (fun _ _ _ h => h) ⟨b3d, n1⟩ (by rfl) (fun w' hSw => by obtain ⟨s1, s2⟩ := hSw; go_simp; rw [if_pos (show 0 < ss.length by omega)]) ?_
            try simp only [Act.put, List.setIfInBounds_toArray, List.set_cons_zero, List.set_cons_succ]
            refine AnyS.take 5 (show _ = some _ from rfl) rfl (by kernel_rfl) (by kernel_rfl) (by kernel_rfl) (by kernel_rfl) (fun _ _ _ h => h) ⟨b3d, n1⟩ (by rfl) (fun w' hSw => by obtain ⟨s1, s2⟩ := hSw; go_simp; try with_reducible rfl) ?_
            try simp only [Act.put, List.setIfInBounds_toArray, List.set_cons_zero, List.set_cons_succ]
            refine AnyS.take 6 (show _ = some _ from rfl) rfl (by kernel_rfl) (by kernel_rfl) (by kernel_rfl) (by kernel_rfl) (fun _ _ _ h => h) ⟨b3d, n1⟩ (by rfl) (fun w' hSw => by obtain ⟨s1, s2⟩ := hSw; go_simp; try with_reducible rfl) ?_
            try simp only [Act.put, List.setIfInBounds_toArray, List.set_cons_zero, List.set_cons_succ]
            refine AnyS.one 7 (by kernel_rfl) (show _ = some _ from rfl) (fun K' hK' => ?_)
            go_simp
            refine hK' _ _ ⟨?_, fun _ => ⟨b3d, n1⟩⟩
            clear hK' K'
            try simp only [Act.put, List.setIfInBounds_toArray, List.set_cons_zero, List.set_cons_succ]
            refine AnyS.one 8 (by kernel_rfl) (show _ = some _ from rfl) (fun K' hK' => ?_)
            go_simp; rw [if_pos (show 0 < ss.length by omega)]; go_simp
            refine hK' _ _ ⟨?_, fun _ => ⟨b3d, n1⟩⟩
            clear hK' K'
            try simp only [Act.put, List.setIfInBounds_toArray, List.set_cons_zero, List.set_cons_succ]
            refine AnyS.one 9 (by kernel_rfl) (show _ = some _ from rfl) (fun K' hK' => ?_)
            go_simp
            refine hK' _ _ ⟨?_, fun _ => ⟨b3d, n1⟩⟩
            clear hK' K'
            try simp only [Act.put, List.setIfInBounds_toArray, List.set_cons_zero, List.set_cons_succ]
            refine AnyS.one 10 (by kernel_rfl) (show _ = some _ from rfl) (fun K' hK' => ?_)
            go_simp
            refine hK' _ _ ⟨AnyS.done (by kernel_rfl) ?_, fun h => absurd rfl h⟩
            clear hK' K'
            try simp only [Act.put, List.setIfInBounds_toArray, List.set_cons_zero, List.set_cons_succ]
            have e1 := HE1.out
            have e2 := HE2.out
            have e3 := HE3.out
            go_wp2
            refine bodyPost_ret (v := .agg #[.slice (some ⟨grd, 0, none⟩) ss.length cv]) (by simp [results, Try.results34, go_sem, e2]) rfl HE.out
          · have he := HF.out.eq
            cases he
            clear HFd
            have n1 := HF.out.n1
            obtain ⟨T0, t0⟩ := HF.out.t0
            have z0 := HF.out.z0
            obtain ⟨e1, e2, e3, hE⟩ := HF.out.long ⟨#[48, 49, 50, 51, 52, 53, 54, 55, 56, 57]⟩ (by decide)
            obtain ⟨w5, HW5⟩ : ∃ w5, w3.setCell ⟨g0, 0, none⟩ (.string ⟨#[48, 49, 50, 51, 52, 53, 54, 55, 56, 57]⟩) = w5 := ⟨_, rfl⟩
            rw [HW5] at e1 e2 e3 hE
            have HE := Lib.hid hE
            clear hE HF
            go_wp2
            refine bodyPost_ret (v := .agg #[.slice (some ⟨gr, 0, none⟩) ss.length cv]) (by simp [results, Try.results34, go_sem, e2]) rfl HE.out

end Go.Proofs.Ytmmckpjapnkepaa
