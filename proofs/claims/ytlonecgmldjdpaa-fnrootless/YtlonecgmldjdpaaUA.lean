/- All pointers of volumes that lie in older memory, of both sides. Conditions: none but the row's own bound on sizes. -/
import Derived.Test.YtlonecgmldjdpaaU4
namespace Go.Proofs.Ytlonecgmldjdpaa
open Go.RowKit Go.Sort

set_option maxRecDepth 100000 in
set_option maxHeartbeats 2000000 in
theorem ptrsOf_at (a : Option Addr) (cap : Nat) (vs : List VolD) (w0 w : World) (hT : Hid (Threes vs)) (hZ : Hid (Below w0.heap.size w0 w)) (hx : Hid (VolsAt w0 a vs)) :
    Calls Try.prog 31 #[.slice a vs.length cap] w fun e w' => ∃ v xs, e = .returned v ∧ w'.ownsRow w.heap.size 36 3 v (allOf vs).length xs ∧ PtRow w0 (allOf vs) xs ∧ Below w.heap.size w w' := by
  obtain ⟨i0, hi0, hz0, hz1, hz2⟩ := info_parts infoPt
  have hn := hT.out.1
  go_enter Try.func31, Try.ntmps31
  go_wp2_with fail
  go_loopw [3, 8] (fun o i wr => ∃ k : Nat, i = .int .i64 (k : Int) ∧ k ≤ vs.length ∧ Hid (Below w.heap.size w wr) ∧ Hid (∃ xs, wr.ownsRow w.heap.size 36 3 o (k * 3) xs ∧ PtRow w0 (allTo vs k) xs)) (fun _ i _ => vs.length - (intOf i).toNat)
  case atStart => exact ⟨0, rfl, by omega, Below.refl _ _, [], World.ownsRow_nil _ _ _ _, PtRow.nil _⟩
  case round =>
    obtain ⟨k, rfl, hk, hB, hO⟩ := hrel
    by_cases hlt : k < vs.length
    · obtain ⟨b, off, rfl, hc⟩ := hx.out.resolve_left (fun e => by subst e; simp at hlt)
      obtain ⟨c0, u1, c1, hu1⟩ := hc k hlt
      have h3 := hT.out.2 k hlt
      have Hs := Lib.hid (allTo_succ vs k hlt)
      clear hc
      generalize vs.getD k vol0 = q at c0 hu1 h3 Hs
      obtain ⟨nm, qs⟩ := q
      simp only at c0 hu1 h3 Hs
      obtain ⟨a1, cap1, rfl, hcap1, hcm1, hat1⟩ := hu1
      rw [h3] at c1 hcap1
      obtain ⟨b1, o1, rfl, _⟩ := hat1.resolve_left (fun e => by subst e; simp at h3)
      obtain ⟨xs, hown, hrow⟩ := hO.out
      obtain ⟨news, hnrow, hnew0⟩ := ptRow_of hat1
      have hBa : Below wr.heap.size wr (wr.alloc (.cells #[.string nm, .slice (some ⟨b1, o1, none⟩) 3 cap1] 34)) := (Below.refl _ _).alloc (Nat.le_refl _) _
      have HB1 := Lib.hid (hB.out.trans (hBa.mono hB.out.size))
      have hnews : ∀ j u, news[j]? = some u → (wr.alloc (.cells #[.string nm, .slice (some ⟨b1, o1, none⟩) 3 cap1] 34)).cell? ((⟨b1, o1, none⟩ : Addr).add j) = some u := fun j u h => by
        have := hnew0 j u h
        exact ((hZ.out.trans (HB1.out.mono hZ.out.size)).cell (World.block_lt_of_cell? w0 _ this)).trans this
      have hnl : news.length = 9 := by have := hnrow.1; rw [h3] at this; exact this
      have hown' := own_below hown hBa
      have HR : Hid (PtRow w0 (allTo vs (k + 1)) (xs ++ news)) := by rw [Hs.out]; exact hrow.append hnrow
      have Hlk : Hid (∀ i, u3.ownBlock = some i → w.heap.size ≤ i) := fun i e => (hown.lt i e).1
      have hsz : w.heap.size ≤ wr.heap.size := hB.out.size
      have hone := hnrow.oneCell
      have c0' := cell_below (hZ.out.trans (hB.out.mono hZ.out.size)) c0
      have c1' := cell_below (hZ.out.trans (hB.out.mono hZ.out.size)) c1
      clear hBa hown hrow hO hnew0 hat1 h3 hnrow c0 c1
      have HX : Hid (∀ w4 : World, (wr.alloc (.cells #[.string nm, .slice (some ⟨b1, o1, none⟩) 3 cap1] 34)).grownBy w4 u3.ownBlock → Below w.heap.size w w4) := fun w4 hg => HB1.out.grown hg (by have := hB.out.size; simp; omega) Hlk.out
      go_wp2_with (at_builtin; refine wpList_append_lies _ rfl _ _ 32 rfl w.heap.size 36 i0 _ 3 40 Try.underlying32 hi0 hz0 hz1 hz2 rfl (by omega) _ (k * 3) xs rfl hown' ⟨b1, o1, none⟩ 3 cap1 news rfl hnl hnews hone (by omega) (by simp [maxLen]; omega) (by omega) (by simp; omega) _ rfl ?_; intro g cap w4 hown4 hgrow4 hat4 hlt4)
      exact ⟨⟨k + 1, by go_num, by omega, HX.out w4 hgrow4, xs ++ news, by rw [show (k + 1) * 3 = k * 3 + 3 by omega]; exact hown4, HR.out⟩, by simp [intOf]; omega⟩
    · obtain rfl : k = vs.length := by omega
      go_wp2
      go_ret
      obtain ⟨xs, hown, hrow⟩ := hO.out
      refine ⟨_, xs, rfl, ?_, ?_, hB.out⟩
      · rw [← allTo_all vs vs.length (Nat.le_refl _), allTo_length hT.out _ (Nat.le_refl _)]; exact hown
      · rw [← allTo_all vs vs.length (Nat.le_refl _)]; exact hrow

set_option maxRecDepth 100000 in
set_option maxHeartbeats 2000000 in
theorem l2All_at (t : Int) (a : Option Addr) (cap : Nat) (vs : List VolD) (w0 w : World) (hT : Hid (Threes vs)) (hZ : Hid (Below w0.heap.size w0 w)) (hx : Hid (VolsAt w0 a vs)) :
    Calls Try.prog 35 #[.agg #[.int .i64 t, .slice a vs.length cap]] w fun e w' => ∃ v xs, e = .returned v ∧ w'.ownsRow w.heap.size 36 3 v (allOf vs).length xs ∧ PtRow w0 (allOf vs) xs ∧ Below w.heap.size w w' := by
  obtain ⟨i0, hi0, hz0, hz1, hz2⟩ := info_parts infoPt
  have hn := hT.out.1
  have hB0 : Below w.heap.size w (w.alloc (.cells #[.int .i64 t, .slice a vs.length cap] 25)) := (Below.refl _ _).alloc (Nat.le_refl _) _
  have HB0 := Lib.hid hB0
  have Hc : Hid ((w.alloc (.cells #[.int .i64 t, .slice a vs.length cap] 25)).cell? ⟨w.heap.size, 1, none⟩ = some (.slice a vs.length cap)) := by
    show (w.alloc (.cells #[.int .i64 t, .slice a vs.length cap] 25)).cell? ⟨w.heap.size, 1, none⟩ = _
    rw [World.cell?_alloc_mark]; rfl
  have hs1 : (w.alloc (.cells #[.int .i64 t, .slice a vs.length cap] 25)).heap.size = w.heap.size + 1 := by simp
  have Hs1 := Lib.hid hs1
  clear hB0 hs1
  go_enter Try.func35, Try.ntmps35
  go_wp2_with fail
  generalize w.alloc (.cells #[.int .i64 t, .slice a vs.length cap] 25) = w1 at HB0 Hc Hs1 ⊢
  have Hown0 := Lib.hid (World.ownsRow_made (e := 36) (size := 3) w1 #[] 0 (Nat.le_refl _) (by simp [maxLen]) (by simp))
  have HBm : Hid (Below w1.heap.size w1 (w1.alloc (.cells #[] 36))) := (Below.refl _ _).alloc (Nat.le_refl _) _
  rw [← Hs1.out]
  go_loopw [3, 4] (fun o i wr => ∃ k : Nat, i = .int .i64 (k : Int) ∧ k ≤ vs.length ∧ Hid (Below w1.heap.size w1 wr) ∧ Hid (∃ xs, wr.ownsRow w1.heap.size 36 3 o (k * 3) xs ∧ PtRow w0 (allTo vs k) xs)) (fun _ i _ => vs.length - (intOf i).toNat)
  case atStart => exact ⟨0, rfl, by omega, HBm, [], Hown0.out, PtRow.nil _⟩
  case round =>
    obtain ⟨k, rfl, hk, hB, hO⟩ := hrel
    have cb := cell_below hB.out Hc.out
    have HBw := Lib.hid (HB0.out.trans (hB.out.mono HB0.out.size))
    by_cases hlt : k < vs.length
    · obtain ⟨b, off, rfl, hc⟩ := hx.out.resolve_left (fun e => by subst e; simp at hlt)
      obtain ⟨c0, u1, c1, hu1⟩ := hc k hlt
      have h3 := hT.out.2 k hlt
      have Hs := Lib.hid (allTo_succ vs k hlt)
      clear hc
      generalize vs.getD k vol0 = q at c0 hu1 h3 Hs
      obtain ⟨nm, qs⟩ := q
      simp only at c0 hu1 h3 Hs
      obtain ⟨a1, cap1, rfl, hcap1, hcm1, hat1⟩ := hu1
      rw [h3] at c1 hcap1
      obtain ⟨b1, o1, rfl, _⟩ := hat1.resolve_left (fun e => by subst e; simp at h3)
      obtain ⟨xs, hown, hrow⟩ := hO.out
      obtain ⟨news, hnrow, hnew0⟩ := ptRow_of hat1
      have hnews : ∀ j u, news[j]? = some u → wr.cell? ((⟨b1, o1, none⟩ : Addr).add j) = some u := fun j u h => by
        have := hnew0 j u h
        exact ((hZ.out.trans (HBw.out.mono hZ.out.size)).cell (World.block_lt_of_cell? w0 _ this)).trans this
      have hnl : news.length = 9 := by have := hnrow.1; rw [h3] at this; exact this
      have HR : Hid (PtRow w0 (allTo vs (k + 1)) (xs ++ news)) := by rw [Hs.out]; exact hrow.append hnrow
      have Hlk : Hid (∀ i, u3.ownBlock = some i → w1.heap.size ≤ i) := fun i e => (hown.lt i e).1
      have hsz : w1.heap.size ≤ wr.heap.size := hB.out.size
      have hone := hnrow.oneCell
      have c1' := cell_below (hZ.out.trans (HBw.out.mono hZ.out.size)) c1
      clear hrow hO hnew0 hat1 h3 hnrow c0 c1
      have HX : Hid (∀ w4 : World, wr.grownBy w4 u3.ownBlock → Below w1.heap.size w1 w4) := fun w4 hg => hB.out.grown hg hB.out.size Hlk.out
      go_wp2_with (at_builtin; refine wpList_append_lies _ rfl _ _ 32 rfl w1.heap.size 36 i0 _ 3 40 Try.underlying32 hi0 hz0 hz1 hz2 rfl (by omega) _ (k * 3) xs rfl hown ⟨b1, o1, none⟩ 3 cap1 news rfl hnl hnews hone (by omega) (by simp [maxLen]; omega) (by omega) (by omega) _ rfl ?_; intro g cap w4 hown4 hgrow4 hat4 hlt4)
      exact ⟨⟨k + 1, by go_num, by omega, HX.out w4 hgrow4, xs ++ news, by rw [show (k + 1) * 3 = k * 3 + 3 by omega]; exact hown4, HR.out⟩, by simp [intOf]; omega⟩
    · obtain rfl : k = vs.length := by omega
      go_wp2
      go_ret
      obtain ⟨xs, hown, hrow⟩ := hO.out
      refine ⟨_, xs, rfl, ?_, ?_, HBw.out⟩
      · rw [← allTo_all vs vs.length (Nat.le_refl _), allTo_length hT.out _ (Nat.le_refl _)]; exact own_mono hown HB0.out.size
      · rw [← allTo_all vs vs.length (Nat.le_refl _)]; exact hrow

end Go.Proofs.Ytlonecgmldjdpaa
