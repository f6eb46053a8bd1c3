/- The exact laws' own copies of pointers, volumes and roots: they own all their memory. Conditions: sizes of at most 2^20. -/
import Derived.Test.YtlonecgmldjdpaaS7
namespace Go.Proofs.Ytlonecgmldjdpaa
open Go.RowKit Go.Sort

/-- POINTERS OF ONE's OWN, with their places. -/
def PtRowD (w : World) (base : Nat) (ps : List PtrD) (k : Nat) (xs : List Value) : Prop :=
  xs.length = ps.length * 3 ∧ ∀ j, j < k → xs[j * 3]? = some (.int .i64 (ps.getD j ptr0).size) ∧ xs[j * 3 + 1]? = some (.int .i64 (ps.getD j ptr0).sum) ∧ ∃ u, xs[j * 3 + 2]? = some u ∧ OwnPl w base u (ps.getD j ptr0).places
def OwnPtD (w : World) (base : Nat) (v : Value) (ps : List PtrD) : Prop := ∃ xs, w.ownsRow base 36 3 v ps.length xs ∧ PtRowD w base ps ps.length xs
/-- VOLUMES OF ONE's OWN, with their pointers. -/
def VoRowD (w : World) (base : Nat) (vs : List VolD) (k : Nat) (xs : List Value) : Prop :=
  xs.length = vs.length * 2 ∧ ∀ j, j < k → xs[j * 2]? = some (.string (vs.getD j vol0).name) ∧ ∃ u, xs[j * 2 + 1]? = some u ∧ OwnPtD w base u (vs.getD j vol0).blocks
def OwnVoD (w : World) (base : Nat) (v : Value) (vs : List VolD) : Prop := ∃ xs, w.ownsRow base 34 2 v vs.length xs ∧ VoRowD w base vs vs.length xs

theorem OwnPl.mono {w : World} {base base' : Nat} {v : Value} {ps : List PlD} (h : OwnPl w base v ps) (hb : base' ≤ base) : OwnPl w base' v ps := own_mono h hb
theorem OwnPl.far {w : World} {base : Nat} {v : Value} {ps : List PlD} (h : OwnPl w base v ps) (p o : Nat) (u : Value) (hp : p < base) : OwnPl (w.setCell ⟨p, o, none⟩ u) base v ps := own_far h p o u hp
theorem PtRowD.mono {w : World} {base base' : Nat} {ps : List PtrD} {k : Nat} {xs : List Value} (h : PtRowD w base ps k xs) (hb : base' ≤ base) : PtRowD w base' ps k xs :=
  ⟨h.1, fun j hj => by obtain ⟨h1, h2, u, h3, h4⟩ := h.2 j hj; exact ⟨h1, h2, u, h3, h4.mono hb⟩⟩
theorem PtRowD.below {w w' : World} {base : Nat} {ps : List PtrD} {k : Nat} {xs : List Value} (h : PtRowD w base ps k xs) (hB : Below w.heap.size w w') : PtRowD w' base ps k xs :=
  ⟨h.1, fun j hj => by obtain ⟨h1, h2, u, h3, h4⟩ := h.2 j hj; exact ⟨h1, h2, u, h3, h4.below hB⟩⟩
theorem PtRowD.far {w : World} {base : Nat} {ps : List PtrD} {k : Nat} {xs : List Value} (h : PtRowD w base ps k xs) (p o : Nat) (u : Value) (hp : p < base) : PtRowD (w.setCell ⟨p, o, none⟩ u) base ps k xs :=
  ⟨h.1, fun j hj => by obtain ⟨h1, h2, u', h3, h4⟩ := h.2 j hj; exact ⟨h1, h2, u', h3, h4.far p o u hp⟩⟩
theorem OwnPtD.mono {w : World} {base base' : Nat} {v : Value} {ps : List PtrD} (h : OwnPtD w base v ps) (hb : base' ≤ base) : OwnPtD w base' v ps := by
  obtain ⟨xs, h1, h2⟩ := h; exact ⟨xs, own_mono h1 hb, h2.mono hb⟩
theorem OwnPtD.below {w w' : World} {base : Nat} {v : Value} {ps : List PtrD} (h : OwnPtD w base v ps) (hB : Below w.heap.size w w') : OwnPtD w' base v ps := by
  obtain ⟨xs, h1, h2⟩ := h; exact ⟨xs, own_below h1 hB, h2.below hB⟩
theorem OwnPtD.far {w : World} {base : Nat} {v : Value} {ps : List PtrD} (h : OwnPtD w base v ps) (p o : Nat) (u : Value) (hp : p < base) : OwnPtD (w.setCell ⟨p, o, none⟩ u) base v ps := by
  obtain ⟨xs, h1, h2⟩ := h; exact ⟨xs, own_far h1 p o u hp, h2.far p o u hp⟩
theorem OwnPtD.reads {w : World} {base : Nat} {v : Value} {ps : List PtrD} (h : OwnPtD w base v ps) : PtrsV w v ps := by
  obtain ⟨xs, h1, h2⟩ := h
  exact OwnPt.reads ⟨xs, h1, h2.1, fun j hj => by obtain ⟨a, b, u, c, d⟩ := h2.2 j hj; exact ⟨a, b, u, c, d.reads⟩⟩
theorem VoRowD.mono {w : World} {base base' : Nat} {vs : List VolD} {k : Nat} {xs : List Value} (h : VoRowD w base vs k xs) (hb : base' ≤ base) : VoRowD w base' vs k xs :=
  ⟨h.1, fun j hj => by obtain ⟨h1, u, h3, h4⟩ := h.2 j hj; exact ⟨h1, u, h3, h4.mono hb⟩⟩
theorem VoRowD.below {w w' : World} {base : Nat} {vs : List VolD} {k : Nat} {xs : List Value} (h : VoRowD w base vs k xs) (hB : Below w.heap.size w w') : VoRowD w' base vs k xs :=
  ⟨h.1, fun j hj => by obtain ⟨h1, u, h3, h4⟩ := h.2 j hj; exact ⟨h1, u, h3, h4.below hB⟩⟩
theorem VoRowD.far {w : World} {base : Nat} {vs : List VolD} {k : Nat} {xs : List Value} (h : VoRowD w base vs k xs) (p o : Nat) (u : Value) (hp : p < base) : VoRowD (w.setCell ⟨p, o, none⟩ u) base vs k xs :=
  ⟨h.1, fun j hj => by obtain ⟨h1, u', h3, h4⟩ := h.2 j hj; exact ⟨h1, u', h3, h4.far p o u hp⟩⟩
theorem OwnVoD.mono {w : World} {base base' : Nat} {v : Value} {vs : List VolD} (h : OwnVoD w base v vs) (hb : base' ≤ base) : OwnVoD w base' v vs := by
  obtain ⟨xs, h1, h2⟩ := h; exact ⟨xs, own_mono h1 hb, h2.mono hb⟩
theorem OwnVoD.below {w w' : World} {base : Nat} {v : Value} {vs : List VolD} (h : OwnVoD w base v vs) (hB : Below w.heap.size w w') : OwnVoD w' base v vs := by
  obtain ⟨xs, h1, h2⟩ := h; exact ⟨xs, own_below h1 hB, h2.below hB⟩
theorem OwnVoD.far {w : World} {base : Nat} {v : Value} {vs : List VolD} (h : OwnVoD w base v vs) (p o : Nat) (u : Value) (hp : p < base) : OwnVoD (w.setCell ⟨p, o, none⟩ u) base v vs := by
  obtain ⟨xs, h1, h2⟩ := h; exact ⟨xs, own_far h1 p o u hp, h2.far p o u hp⟩
theorem OwnVoD.reads {w : World} {base : Nat} {v : Value} {vs : List VolD} (h : OwnVoD w base v vs) : VolsV w v vs := by
  obtain ⟨xs, ho, hr⟩ := h
  have ho' := ho
  rcases ho.2 with ⟨rfl, hk⟩ | ⟨g, cap, cur, rfl, hb, hg, hkc, hcm, hcs, hx⟩
  · have : vs = [] := List.eq_nil_of_length_eq_zero hk
    subst this
    exact ⟨none, 0, rfl, Nat.le_refl _, by simp [maxLen], .inl rfl⟩
  · refine ⟨some ⟨g, 0, none⟩, cap, rfl, hkc, hcm, .inr ⟨g, 0, rfl, fun j hj => ?_⟩⟩
    obtain ⟨h1, u, h3, h4⟩ := hr.2 j hj
    have e0 := (own_cell ho' (j * 2) (by omega)).1
    have e1 := (own_cell ho' (j * 2 + 1) (by omega)).1
    rw [h1] at e0
    rw [h3] at e1
    exact ⟨by rw [Nat.zero_add]; exact e0, u, by rw [Nat.zero_add]; exact e1, h4.reads⟩

theorem infoVo : (Try.prog.info? 34).map (fun i => (i.zero, i.size, i.bytes)) = some (some (.agg #[.string ByteArray.empty, .slice none 0 0]), 2, 40) := by kernel_rfl

theorem PtRowD.next {w : World} {base : Nat} {ps : List PtrD} {k : Nat} {xs : List Value} {z s : Int} {u : Value} (h : PtRowD w base ps k xs) (hk : k < ps.length) (h1 : (ps.getD k ptr0).size = z) (h2 : (ps.getD k ptr0).sum = s) (h3 : OwnPl w base u (ps.getD k ptr0).places) :
    PtRowD w base ps (k + 1) (((xs.set (k * 3) (.int .i64 z)).set (k * 3 + 1) (.int .i64 s)).set (k * 3 + 2) u) := by
  have hl := h.1
  refine ⟨by simp only [List.length_set]; exact hl, fun j hj => ?_⟩
  by_cases e : j = k
  · subst e
    refine ⟨?_, ?_, u, ?_, h3⟩
    · rw [List.getElem?_set_ne (by omega), List.getElem?_set_ne (by omega), List.getElem?_set_self (by omega), h1]
    · rw [List.getElem?_set_ne (by omega), List.getElem?_set_self (by simp only [List.length_set]; omega), h2]
    · rw [List.getElem?_set_self (by simp only [List.length_set]; omega)]
  · obtain ⟨a, b, u', c, d⟩ := h.2 j (by omega)
    refine ⟨?_, ?_, u', ?_, d⟩
    · rw [List.getElem?_set_ne (by omega), List.getElem?_set_ne (by omega), List.getElem?_set_ne (by omega)]; exact a
    · rw [List.getElem?_set_ne (by omega), List.getElem?_set_ne (by omega), List.getElem?_set_ne (by omega)]; exact b
    · rw [List.getElem?_set_ne (by omega), List.getElem?_set_ne (by omega), List.getElem?_set_ne (by omega)]; exact c
theorem VoRowD.next {w : World} {base : Nat} {vs : List VolD} {k : Nat} {xs : List Value} {nm : ByteArray} {u : Value} (h : VoRowD w base vs k xs) (hk : k < vs.length) (h1 : (vs.getD k vol0).name = nm) (h3 : OwnPtD w base u (vs.getD k vol0).blocks) :
    VoRowD w base vs (k + 1) ((xs.set (k * 2) (.string nm)).set (k * 2 + 1) u) := by
  have hl := h.1
  refine ⟨by simp only [List.length_set]; exact hl, fun j hj => ?_⟩
  by_cases e : j = k
  · subst e
    refine ⟨?_, u, ?_, h3⟩
    · rw [List.getElem?_set_ne (by omega), List.getElem?_set_self (by omega), h1]
    · rw [List.getElem?_set_self (by simp only [List.length_set]; omega)]
  · obtain ⟨a, u', c, d⟩ := h.2 j (by omega)
    refine ⟨?_, u', ?_, d⟩
    · rw [List.getElem?_set_ne (by omega), List.getElem?_set_ne (by omega)]; exact a
    · rw [List.getElem?_set_ne (by omega), List.getElem?_set_ne (by omega)]; exact c

set_option maxRecDepth 100000 in
set_option maxHeartbeats 1000000 in
theorem toPtrS_any (a : Option Addr) (cap : Nat) (ps : List PtrD) (w : World) (hs : Hid (PtSmall 1048576 ps)) (hx : Hid (PtrsAt w a ps)) :
    Calls Try.prog 111 #[.slice a ps.length cap] w fun e w' => ∃ v, e = .returned v ∧ OwnPtD w' w.heap.size v ps ∧ Below w.heap.size w w' := by
  obtain ⟨i0, hi0, hz0, hz1, hz2⟩ := info_parts infoPt
  have hl := hs.out.1
  go_enter Try.func111, Try.ntmps111
  go_wp2_with (at_make; refine wpList_make_full _ rfl _ _ 32 rfl w.heap.size 36 i0 _ 3 Try.underlying32 hi0 hz0 hz1 .i64 .i64 _ _ ps.length rfl rfl rfl rfl (by rw [hz2]; omega) (by unfold maxLen; omega) (Nat.le_refl _) ?_; intro w1 hown hgrow)
  have hlen : (madeCells (Value.agg #[.int .i64 0, .int .i64 0, .slice none 0 0]).cells (ps.length * 3)).toList.length = ps.length * 3 := hown.1
  generalize (madeCells (Value.agg #[.int .i64 0, .int .i64 0, .slice none 0 0]).cells (ps.length * 3)).toList = ys0 at hown hlen
  have HB1 : Hid (Below w.heap.size w w1) := ⟨hgrow.os, hgrow.tape, hgrow.output, hgrow.size, fun k hk => hgrow.block k hk (by simp)⟩
  have hs1 : w.heap.size + 1 ≤ w1.heap.size := by have := (hown.lt w.heap.size rfl).2; omega
  have Hown := Lib.hid hown
  clear hown hgrow
  go_loopw [4] (fun i wr => ∃ k : Nat, i = .int .i64 (k : Int) ∧ k ≤ ps.length ∧ Hid (Below w.heap.size w wr ∧ w.heap.size + 1 ≤ wr.heap.size ∧ ∃ ys, PtRowD wr (w.heap.size + 1) ps k ys ∧ wr.ownsRow w.heap.size 36 3 (.slice (some ⟨w.heap.size, 0, none⟩) ps.length ps.length) ps.length ys)) (fun i _ => ps.length - (intOf i).toNat)
  case atStart => exact ⟨0, rfl, by omega, HB1.out, hs1, ys0, ⟨hlen, fun j hj => by omega⟩, Hown.out⟩
  case round =>
    obtain ⟨k, rfl, hk, hI⟩ := hrel
    by_cases hlt : k < ps.length
    · obtain ⟨hB, hsr, ys, hd, ho⟩ := hI.out
      obtain ⟨b, off, rfl, hc⟩ := (hx.out.below hB).resolve_left (fun e => by subst e; simp at hlt)
      obtain ⟨c0, c1, u, c2, hu⟩ := hc k hlt
      have hsm := hs.out.2 k hlt
      have Hd := Lib.hid hd
      have Ho := Lib.hid ho
      have HB := Lib.hid hB
      generalize hg : ps.getD k ptr0 = q at c0 c1 hu hsm
      have Hg := Lib.hid hg
      clear hg
      obtain ⟨z, s, qs⟩ := q
      obtain ⟨a1, cap1, rfl, hcl1, hm1, hx1⟩ := hu
      simp only at c0 c1 c2 hsm hx1 hcl1
      have HX1 := Lib.hid hx1
      clear hc hd ho hB hI hx1
      go_wp2_with fail
      refine (toPtr_any z s a1 cap1 qs _ hsm HX1).mono ?_
      rintro e w2 ⟨v2, rfl, ho2, hB2⟩
      have HO2 := Lib.hid (own_below Ho.out hB2)
      obtain ⟨x0, f0, _, hxl⟩ := own_cell HO2.out (k * 3) (by omega)
      obtain ⟨x1, f1, _, _⟩ := own_cell HO2.out (k * 3 + 1) (by omega)
      obtain ⟨x2, f2, _, _⟩ := own_cell HO2.out (k * 3 + 2) (by omega)
      rw [List.getElem?_eq_getElem (by omega)] at x0 x1 x2
      generalize ys[k * 3]'(by omega) = y0 at x0
      generalize ys[k * 3 + 1]'(by omega) = y1 at x1
      generalize ys[k * 3 + 2]'(by omega) = y2 at x2
      have HB2 := Lib.hid (HB.out.trans (hB2.mono HB.out.size))
      have HP2 := Lib.hid (ho2.mono (show w.heap.size + 1 ≤ wr.heap.size by omega))
      have hs2 : w.heap.size + 1 ≤ w2.heap.size := by have := hB2.size; omega
      obtain ⟨a2, cap2, rfl, _⟩ := ho2.reads
      have HN : Hid (Below w.heap.size w (((w2.setCell ⟨w.heap.size, k * 3, none⟩ (.int .i64 z)).setCell ⟨w.heap.size, k * 3 + 1, none⟩ (.int .i64 s)).setCell ⟨w.heap.size, k * 3 + 2, none⟩ (.slice a2 qs.length cap2)) ∧ w.heap.size + 1 ≤ (((w2.setCell ⟨w.heap.size, k * 3, none⟩ (.int .i64 z)).setCell ⟨w.heap.size, k * 3 + 1, none⟩ (.int .i64 s)).setCell ⟨w.heap.size, k * 3 + 2, none⟩ (.slice a2 qs.length cap2)).heap.size ∧ ∃ ys, PtRowD (((w2.setCell ⟨w.heap.size, k * 3, none⟩ (.int .i64 z)).setCell ⟨w.heap.size, k * 3 + 1, none⟩ (.int .i64 s)).setCell ⟨w.heap.size, k * 3 + 2, none⟩ (.slice a2 qs.length cap2)) (w.heap.size + 1) ps (k + 1) ys ∧ (((w2.setCell ⟨w.heap.size, k * 3, none⟩ (.int .i64 z)).setCell ⟨w.heap.size, k * 3 + 1, none⟩ (.int .i64 s)).setCell ⟨w.heap.size, k * 3 + 2, none⟩ (.slice a2 qs.length cap2)).ownsRow w.heap.size 36 3 (.slice (some ⟨w.heap.size, 0, none⟩) ps.length ps.length) ps.length ys) :=
        ⟨((HB2.out.setCell (p := ⟨w.heap.size, k * 3, none⟩) (Nat.le_refl _) _).setCell (p := ⟨w.heap.size, k * 3 + 1, none⟩) (Nat.le_refl _) _).setCell (p := ⟨w.heap.size, k * 3 + 2, none⟩) (Nat.le_refl _) _, by simpa using hs2, _,
          ((((Hd.out.below hB2).next hlt (by rw [Hg.out]) (by rw [Hg.out]) (by rw [Hg.out]; exact HP2.out)).far _ _ _ (by omega)).far _ _ _ (by omega)).far _ _ _ (by omega), own_set (own_set (own_set HO2.out _ _) _ _) _ _⟩
      clear hB2 hxl ho2
      go_wp2
      exact ⟨⟨k + 1, by go_num, by omega, HN⟩, by simp [intOf]; omega⟩
    · obtain rfl : k = ps.length := by omega
      go_wp2
      go_ret
      obtain ⟨hB, _, ys, hd, ho⟩ := hI.out
      exact ⟨_, rfl, ⟨ys, ho, hd.mono (by omega)⟩, hB⟩

set_option maxRecDepth 100000 in
set_option maxHeartbeats 1000000 in
theorem toVol_any (nm : ByteArray) (a : Option Addr) (cap : Nat) (ps : List PtrD) (w : World) (hs : Hid (PtSmall 1048576 ps)) (hx : Hid (PtrsAt w a ps)) :
    Calls Try.prog 82 #[.agg #[.string nm, .slice a ps.length cap]] w fun e w' => ∃ v, e = .returned (.agg #[.string nm, v]) ∧ OwnPtD w' w.heap.size v ps ∧ Below w.heap.size w w' := by
  have hB0 : Below w.heap.size w (((w.alloc (.cells #[.string nm, .slice a ps.length cap] 109)).alloc (.cells #[.string ByteArray.empty, .slice none 0 0] 34)).alloc (.cells #[.string nm, .slice none 0 0] 34)) := (((Below.refl _ w).alloc (Nat.le_refl _) _).alloc (by simp) _).alloc (by simp; omega) _
  have HB0 := Lib.hid hB0
  clear hB0
  go_enter Try.func82, Try.ntmps82
  go_wp2_with fail
  refine (toPtrS_any a cap ps _ hs (hx.out.below HB0.out)).mono ?_
  rintro e w1 ⟨v, rfl, ho, hB1⟩
  obtain ⟨hc, hf⟩ := bcell hB1
  have HO : Hid (OwnPtD w1 (w.heap.size + 3) v ps) := by
    have := ho
    simp only [World.size_alloc] at this
    exact this
  have HB1 := Lib.hid (HB0.out.trans (hB1.mono HB0.out.size))
  obtain ⟨a2, cap2, rfl, _⟩ := OwnPtD.reads HO.out
  clear ho hB1
  go_wp2
  refine bodyPost_ret (v := .agg #[.string nm, .slice a2 ps.length cap2]) (by simp [results, Try.results82, go_sem, hc]) rfl ⟨_, rfl, ?_, ?_⟩
  · exact (((HO.out.far _ _ _ (by omega)).far _ _ _ (by omega)).far _ _ _ (by omega)).mono (by omega)
  · exact ((HB1.out.setCell (p := ⟨w.heap.size + 1 + 1, 1, none⟩) (by simp; omega) _).setCell (p := ⟨w.heap.size + 1, 0, none⟩) (by simp) _).setCell (p := ⟨w.heap.size + 1, 1, none⟩) (by simp) _

set_option maxRecDepth 100000 in
set_option maxHeartbeats 1000000 in
theorem toVolS_any (a : Option Addr) (cap : Nat) (vs : List VolD) (w : World) (hs : Hid (VoSmall 1048576 vs)) (hx : Hid (VolsAt w a vs)) :
    Calls Try.prog 54 #[.slice a vs.length cap] w fun e w' => ∃ v, e = .returned v ∧ OwnVoD w' w.heap.size v vs ∧ Below w.heap.size w w' := by
  obtain ⟨i0, hi0, hz0, hz1, hz2⟩ := info_parts infoVo
  have hl := hs.out.1
  go_enter Try.func54, Try.ntmps54
  go_wp2_with (at_make; refine wpList_make_full _ rfl _ _ 23 rfl w.heap.size 34 i0 _ 2 Try.underlying23 hi0 hz0 hz1 .i64 .i64 _ _ vs.length rfl rfl rfl rfl (by rw [hz2]; omega) (by unfold maxLen; omega) (Nat.le_refl _) ?_; intro w1 hown hgrow)
  have hlen : (madeCells (Value.agg #[.string ByteArray.empty, .slice none 0 0]).cells (vs.length * 2)).toList.length = vs.length * 2 := hown.1
  generalize (madeCells (Value.agg #[.string ByteArray.empty, .slice none 0 0]).cells (vs.length * 2)).toList = ys0 at hown hlen
  have HB1 : Hid (Below w.heap.size w w1) := ⟨hgrow.os, hgrow.tape, hgrow.output, hgrow.size, fun k hk => hgrow.block k hk (by simp)⟩
  have hs1 : w.heap.size + 1 ≤ w1.heap.size := by have := (hown.lt w.heap.size rfl).2; omega
  have Hown := Lib.hid hown
  clear hown hgrow
  go_loopw [4] (fun i wr => ∃ k : Nat, i = .int .i64 (k : Int) ∧ k ≤ vs.length ∧ Hid (Below w.heap.size w wr ∧ w.heap.size + 1 ≤ wr.heap.size ∧ ∃ ys, VoRowD wr (w.heap.size + 1) vs k ys ∧ wr.ownsRow w.heap.size 34 2 (.slice (some ⟨w.heap.size, 0, none⟩) vs.length vs.length) vs.length ys)) (fun i _ => vs.length - (intOf i).toNat)
  case atStart => exact ⟨0, rfl, by omega, HB1.out, hs1, ys0, ⟨hlen, fun j hj => by omega⟩, Hown.out⟩
  case round =>
    obtain ⟨k, rfl, hk, hI⟩ := hrel
    by_cases hlt : k < vs.length
    · obtain ⟨hB, hsr, ys, hd, ho⟩ := hI.out
      obtain ⟨b, off, rfl, hc⟩ := (hx.out.below hB).resolve_left (fun e => by subst e; simp at hlt)
      obtain ⟨c0, u, c1, hu⟩ := hc k hlt
      have hsm := (hs.out.2 k hlt).2
      have Hd := Lib.hid hd
      have Ho := Lib.hid ho
      have HB := Lib.hid hB
      generalize hg : vs.getD k vol0 = q at c0 hu hsm
      have Hg := Lib.hid hg
      clear hg
      obtain ⟨nm, qs⟩ := q
      obtain ⟨a1, cap1, rfl, hcl1, hm1, hx1⟩ := hu
      simp only at c0 c1 hsm hx1 hcl1
      have HX1 := Lib.hid hx1
      clear hc hd ho hB hI hx1
      go_wp2_with fail
      refine (toVol_any nm a1 cap1 qs _ hsm HX1).mono ?_
      rintro e w2 ⟨v2, rfl, ho2, hB2⟩
      have HO2 := Lib.hid (own_below Ho.out hB2)
      obtain ⟨x0, f0, _, hxl⟩ := own_cell HO2.out (k * 2) (by omega)
      obtain ⟨x1, f1, _, _⟩ := own_cell HO2.out (k * 2 + 1) (by omega)
      rw [List.getElem?_eq_getElem (by omega)] at x0 x1
      generalize ys[k * 2]'(by omega) = y0 at x0
      generalize ys[k * 2 + 1]'(by omega) = y1 at x1
      have HB2 := Lib.hid (HB.out.trans (hB2.mono HB.out.size))
      have HP2 := Lib.hid (ho2.mono (show w.heap.size + 1 ≤ wr.heap.size by omega))
      have hs2 : w.heap.size + 1 ≤ w2.heap.size := by have := hB2.size; omega
      obtain ⟨a2, cap2, rfl, _⟩ := ho2.reads
      have HN : Hid (Below w.heap.size w ((w2.setCell ⟨w.heap.size, k * 2, none⟩ (.string nm)).setCell ⟨w.heap.size, k * 2 + 1, none⟩ (.slice a2 qs.length cap2)) ∧ w.heap.size + 1 ≤ ((w2.setCell ⟨w.heap.size, k * 2, none⟩ (.string nm)).setCell ⟨w.heap.size, k * 2 + 1, none⟩ (.slice a2 qs.length cap2)).heap.size ∧ ∃ ys, VoRowD ((w2.setCell ⟨w.heap.size, k * 2, none⟩ (.string nm)).setCell ⟨w.heap.size, k * 2 + 1, none⟩ (.slice a2 qs.length cap2)) (w.heap.size + 1) vs (k + 1) ys ∧ ((w2.setCell ⟨w.heap.size, k * 2, none⟩ (.string nm)).setCell ⟨w.heap.size, k * 2 + 1, none⟩ (.slice a2 qs.length cap2)).ownsRow w.heap.size 34 2 (.slice (some ⟨w.heap.size, 0, none⟩) vs.length vs.length) vs.length ys) :=
        ⟨(HB2.out.setCell (p := ⟨w.heap.size, k * 2, none⟩) (Nat.le_refl _) _).setCell (p := ⟨w.heap.size, k * 2 + 1, none⟩) (Nat.le_refl _) _, by simpa using hs2, _,
          (((Hd.out.below hB2).next hlt (by rw [Hg.out]) (by rw [Hg.out]; exact HP2.out)).far _ _ _ (by omega)).far _ _ _ (by omega), own_set (own_set HO2.out _ _) _ _⟩
      clear hB2 hxl ho2
      go_wp2
      exact ⟨⟨k + 1, by go_num, by omega, HN⟩, by simp [intOf]; omega⟩
    · obtain rfl : k = vs.length := by omega
      go_wp2
      go_ret
      obtain ⟨hB, _, ys, hd, ho⟩ := hI.out
      exact ⟨_, rfl, ⟨ys, ho, hd.mono (by omega)⟩, hB⟩

set_option maxRecDepth 100000 in
set_option maxHeartbeats 1000000 in
theorem toRoot_any (t : Int) (a : Option Addr) (cap : Nat) (vs : List VolD) (w : World) (hs : Hid (VoSmall 1048576 vs)) (hx : Hid (VolsAt w a vs)) :
    Calls Try.prog 25 #[.agg #[.int .i64 t, .slice a vs.length cap]] w fun e w' => ∃ v, e = .returned (.agg #[.int .i64 t, v]) ∧ OwnVoD w' w.heap.size v vs ∧ Below w.heap.size w w' := by
  have hB0 : Below w.heap.size w (((w.alloc (.cells #[.int .i64 t, .slice a vs.length cap] 52)).alloc (.cells #[.int .i64 0, .slice none 0 0] 25)).alloc (.cells #[.int .i64 t, .slice none 0 0] 25)) := (((Below.refl _ w).alloc (Nat.le_refl _) _).alloc (by simp) _).alloc (by simp; omega) _
  have HB0 := Lib.hid hB0
  clear hB0
  go_enter Try.func25, Try.ntmps25
  go_wp2_with fail
  refine (toVolS_any a cap vs _ hs (hx.out.below HB0.out)).mono ?_
  rintro e w1 ⟨v, rfl, ho, hB1⟩
  obtain ⟨hc, hf⟩ := bcell hB1
  have HO : Hid (OwnVoD w1 (w.heap.size + 3) v vs) := by
    have := ho
    simp only [World.size_alloc] at this
    exact this
  have HB1 := Lib.hid (HB0.out.trans (hB1.mono HB0.out.size))
  obtain ⟨a2, cap2, rfl, _⟩ := OwnVoD.reads HO.out
  clear ho hB1
  go_wp2
  refine bodyPost_ret (v := .agg #[.int .i64 t, .slice a2 vs.length cap2]) (by simp [results, Try.results25, go_sem, hc]) rfl ⟨_, rfl, ?_, ?_⟩
  · exact (((HO.out.far _ _ _ (by omega)).far _ _ _ (by omega)).far _ _ _ (by omega)).mono (by omega)
  · exact ((HB1.out.setCell (p := ⟨w.heap.size + 1 + 1, 1, none⟩) (by simp; omega) _).setCell (p := ⟨w.heap.size + 1, 0, none⟩) (by simp) _).setCell (p := ⟨w.heap.size + 1, 1, none⟩) (by simp) _

end Go.Proofs.Ytlonecgmldjdpaa
