/- The exact laws' own helpers for models: copies, and marks on them. Conditions: none but the row's own bound on sizes. -/
import Derived.Test.YtmmckpjapnkepaaI7
import Derived.Test.YtmmckpjapnkepaaMK
import Derived.Test.YtmmckpjapnkepaaGT8
namespace Go.Proofs.Ytmmckpjapnkepaa
open Go.RowKit Go.Sort

/-- VOLUMES OF ONE's OWN, with their pointers. -/
def SxRow (w : World) (base : Nat) (vs : List ShD) (k : Nat) (xs : List Value) : Prop :=
  xs.length = vs.length * 2 ∧ ∀ j, j < k → xs[j * 2]? = some (.string (vs.getD j sh0).name) ∧ ∃ u, xs[j * 2 + 1]? = some u ∧ OwnTx w base u (vs.getD j sh0).blocks
def OwnSx (w : World) (base : Nat) (v : Value) (vs : List ShD) : Prop := ∃ xs, w.ownsRow base 35 2 v vs.length xs ∧ SxRow w base vs vs.length xs

theorem SxRow.mono {w : World} {base base' : Nat} {vs : List ShD} {k : Nat} {xs : List Value} (h : SxRow w base vs k xs) (hb : base' ≤ base) : SxRow w base' vs k xs :=
  ⟨h.1, fun j hj => by obtain ⟨h1, u, h3, h4⟩ := h.2 j hj; exact ⟨h1, u, h3, own_mono h4 hb⟩⟩
theorem SxRow.below {w w' : World} {base : Nat} {vs : List ShD} {k : Nat} {xs : List Value} (h : SxRow w base vs k xs) (hB : Below w.heap.size w w') : SxRow w' base vs k xs :=
  ⟨h.1, fun j hj => by obtain ⟨h1, u, h3, h4⟩ := h.2 j hj; exact ⟨h1, u, h3, own_below h4 hB⟩⟩
theorem SxRow.far {w : World} {base : Nat} {vs : List ShD} {k : Nat} {xs : List Value} (h : SxRow w base vs k xs) (p o : Nat) (u : Value) (hp : p < base) : SxRow (w.setCell ⟨p, o, none⟩ u) base vs k xs :=
  ⟨h.1, fun j hj => by obtain ⟨h1, u', h3, h4⟩ := h.2 j hj; exact ⟨h1, u', h3, own_far h4 p o u hp⟩⟩
theorem OwnSx.mono {w : World} {base base' : Nat} {v : Value} {vs : List ShD} (h : OwnSx w base v vs) (hb : base' ≤ base) : OwnSx w base' v vs := by
  obtain ⟨xs, h1, h2⟩ := h; exact ⟨xs, own_mono h1 hb, h2.mono hb⟩
theorem OwnSx.below {w w' : World} {base : Nat} {v : Value} {vs : List ShD} (h : OwnSx w base v vs) (hB : Below w.heap.size w w') : OwnSx w' base v vs := by
  obtain ⟨xs, h1, h2⟩ := h; exact ⟨xs, own_below h1 hB, h2.below hB⟩
theorem OwnSx.far {w : World} {base : Nat} {v : Value} {vs : List ShD} (h : OwnSx w base v vs) (p o : Nat) (u : Value) (hp : p < base) : OwnSx (w.setCell ⟨p, o, none⟩ u) base v vs := by
  obtain ⟨xs, h1, h2⟩ := h; exact ⟨xs, own_far h1 p o u hp, h2.far p o u hp⟩
theorem OwnSx.reads {w : World} {base : Nat} {v : Value} {vs : List ShD} (h : OwnSx w base v vs) : ShV w v vs := by
  obtain ⟨xs, ho, hr⟩ := h
  have ho' := ho
  rcases ho.2 with ⟨rfl, hk⟩ | ⟨g, cap, cur, rfl, hb, hg, hkc, hcm, hcs, hx⟩
  · have : vs = [] := List.eq_nil_of_length_eq_zero hk
    subst this
    exact ⟨none, 0, rfl, Nat.le_refl _, by simp [maxLen], .inl rfl⟩
  · refine ⟨some ⟨g, 0, none⟩, cap, rfl, hkc, hcm, .inr ⟨g, 0, rfl, fun j hj => ?_⟩⟩
    obtain ⟨h1, u, h3, h4⟩ := hr.2 j hj
    have e0 := (own_cell ho' (j * 2) (by omega)).1
    have e1 := (own_cell ho' (j * 2 + 1) (by omega)).1
    rw [h1] at e0
    rw [h3] at e1
    exact ⟨by rw [Nat.zero_add]; exact e0, u, by rw [Nat.zero_add]; exact e1, h4.reads⟩

theorem infoShl : (Try.prog.info? 35).map (fun i => (i.zero, i.size, i.bytes)) = some (some (.agg #[.string ByteArray.empty, .slice none 0 0]), 2, 40) := by kernel_rfl

theorem SxRow.next {w : World} {base : Nat} {vs : List ShD} {k : Nat} {xs : List Value} {nm : ByteArray} {u : Value} (h : SxRow w base vs k xs) (hk : k < vs.length) (h1 : (vs.getD k sh0).name = nm) (h3 : OwnTx w base u (vs.getD k sh0).blocks) :
    SxRow w base vs (k + 1) ((xs.set (k * 2) (.string nm)).set (k * 2 + 1) u) := by
  have hl := h.1
  refine ⟨by simp only [List.length_set]; exact hl, fun j hj => ?_⟩
  by_cases e : j = k
  · subst e
    refine ⟨?_, u, ?_, h3⟩
    · rw [List.getElem?_set_ne (by omega), List.getElem?_set_self (by omega), h1]
    · rw [List.getElem?_set_self (by simp only [List.length_set]; omega)]
  · obtain ⟨a, u', c, d⟩ := h.2 j (by omega)
    refine ⟨?_, u', ?_, d⟩
    · rw [List.getElem?_set_ne (by omega), List.getElem?_set_ne (by omega)]; exact a
    · rw [List.getElem?_set_ne (by omega), List.getElem?_set_ne (by omega)]; exact c

set_option maxRecDepth 100000 in
set_option maxHeartbeats 1000000 in
theorem toShelf_any (nm : ByteArray) (a : Option Addr) (cap : Nat) (ps : List ByteArray) (w : World) (hl : ps.length ≤ 1048576) (hx : Hid (TxAt w a ps)) :
    Calls Try.prog 76 #[.agg #[.string nm, .slice a ps.length cap]] w fun e w' => ∃ v, e = .returned (.agg #[.string nm, v]) ∧ OwnTx w' w.heap.size v ps ∧ Below w.heap.size w w' := by
  have hB0 : Below w.heap.size w (((w.alloc (.cells #[.string nm, .slice a ps.length cap] 113)).alloc (.cells #[.string ByteArray.empty, .slice none 0 0] 35)).alloc (.cells #[.string nm, .slice none 0 0] 35)) := (((Below.refl _ w).alloc (Nat.le_refl _) _).alloc (by simp) _).alloc (by simp; omega) _
  have HB0 := Lib.hid hB0
  clear hB0
  go_enter Try.func76, Try.ntmps76
  go_wp2_with fail
  refine (toTx_any a cap ps _ hl (hx.out.below HB0.out)).mono ?_
  rintro e w1 ⟨v, rfl, ho, hB1⟩
  obtain ⟨hc, hf⟩ := bcell hB1
  have HO : Hid (OwnTx w1 (w.heap.size + 3) v ps) := by
    have := ho
    simp only [World.size_alloc] at this
    exact this
  have HB1 := Lib.hid (HB0.out.trans (hB1.mono HB0.out.size))
  obtain ⟨a2, cap2, rfl, _⟩ := OwnTx.reads HO.out
  clear ho hB1
  go_wp2
  refine bodyPost_ret (v := .agg #[.string nm, .slice a2 ps.length cap2]) (by simp [results, Try.results76, go_sem, hc]) rfl ⟨_, rfl, ?_, ?_⟩
  · exact own_mono (own_far (own_far (own_far HO.out _ _ _ (by omega)) _ _ _ (by omega)) _ _ _ (by omega)) (by omega)
  · exact ((HB1.out.setCell (p := ⟨w.heap.size + 1 + 1, 1, none⟩) (by simp; omega) _).setCell (p := ⟨w.heap.size + 1, 0, none⟩) (by simp) _).setCell (p := ⟨w.heap.size + 1, 1, none⟩) (by simp) _

set_option maxRecDepth 100000 in
set_option maxHeartbeats 1000000 in
theorem toShelfS_any (a : Option Addr) (cap : Nat) (vs : List ShD) (w : World) (hs : Hid (MdSmall vs)) (hx : Hid (ShAt w a vs)) :
    Calls Try.prog 62 #[.slice a vs.length cap] w fun e w' => ∃ v, e = .returned v ∧ OwnSx w' w.heap.size v vs ∧ Below w.heap.size w w' := by
  obtain ⟨i0, hi0, hz0, hz1, hz2⟩ := info_parts infoShl
  have hl := hs.out.1
  go_enter Try.func62, Try.ntmps62
  go_wp2_with (at_make; refine wpList_make_full _ rfl _ _ 23 rfl w.heap.size 35 i0 _ 2 Try.underlying23 hi0 hz0 hz1 .i64 .i64 _ _ vs.length rfl rfl rfl rfl (by rw [hz2]; omega) (by unfold maxLen; omega) (Nat.le_refl _) ?_; intro w1 hown hgrow)
  have hlen : (madeCells (Value.agg #[.string ByteArray.empty, .slice none 0 0]).cells (vs.length * 2)).toList.length = vs.length * 2 := hown.1
  generalize (madeCells (Value.agg #[.string ByteArray.empty, .slice none 0 0]).cells (vs.length * 2)).toList = ys0 at hown hlen
  have HB1 : Hid (Below w.heap.size w w1) := ⟨hgrow.os, hgrow.tape, hgrow.output, hgrow.size, fun k hk => hgrow.block k hk (by simp)⟩
  have hs1 : w.heap.size + 1 ≤ w1.heap.size := by have := (hown.lt w.heap.size rfl).2; omega
  have Hown := Lib.hid hown
  clear hown hgrow
  go_loopw [4] (fun i wr => ∃ k : Nat, i = .int .i64 (k : Int) ∧ k ≤ vs.length ∧ Hid (Below w.heap.size w wr ∧ w.heap.size + 1 ≤ wr.heap.size ∧ ∃ ys, SxRow wr (w.heap.size + 1) vs k ys ∧ wr.ownsRow w.heap.size 35 2 (.slice (some ⟨w.heap.size, 0, none⟩) vs.length vs.length) vs.length ys)) (fun i _ => vs.length - (intOf i).toNat)
  case atStart => exact ⟨0, rfl, by omega, HB1.out, hs1, ys0, ⟨hlen, fun j hj => by omega⟩, Hown.out⟩
  case round =>
    obtain ⟨k, rfl, hk, hI⟩ := hrel
    by_cases hlt : k < vs.length
    · obtain ⟨hB, hsr, ys, hd, ho⟩ := hI.out
      obtain ⟨b, off, rfl, hc⟩ := (hx.out.below hB).resolve_left (fun e => by subst e; simp at hlt)
      obtain ⟨c0, u, c1, hu⟩ := hc k hlt
      have hsm := (hs.out.2 k hlt).2.1
      have Hd := Lib.hid hd
      have Ho := Lib.hid ho
      have HB := Lib.hid hB
      generalize hg : vs.getD k sh0 = q at c0 hu hsm
      have Hg := Lib.hid hg
      clear hg
      obtain ⟨nm, qs⟩ := q
      obtain ⟨a1, cap1, rfl, hcl1, hm1, hx1⟩ := hu
      simp only at c0 c1 hsm hx1 hcl1
      have HX1 := Lib.hid hx1
      clear hc hd ho hB hI hx1
      go_wp2_with fail
      refine (toShelf_any nm a1 cap1 qs _ hsm HX1).mono ?_
      rintro e w2 ⟨v2, rfl, ho2, hB2⟩
      have HO2 := Lib.hid (own_below Ho.out hB2)
      obtain ⟨x0, f0, _, hxl⟩ := own_cell HO2.out (k * 2) (by omega)
      obtain ⟨x1, f1, _, _⟩ := own_cell HO2.out (k * 2 + 1) (by omega)
      rw [List.getElem?_eq_getElem (by omega)] at x0 x1
      generalize ys[k * 2]'(by omega) = y0 at x0
      generalize ys[k * 2 + 1]'(by omega) = y1 at x1
      have HB2 := Lib.hid (HB.out.trans (hB2.mono HB.out.size))
      have HP2 : Hid (OwnTx w2 (w.heap.size + 1) v2 qs) := own_mono ho2 (show w.heap.size + 1 ≤ wr.heap.size by omega)
      have hs2 : w.heap.size + 1 ≤ w2.heap.size := by have := hB2.size; omega
      obtain ⟨a2, cap2, rfl, _⟩ := OwnTx.reads ho2
      have HN : Hid (Below w.heap.size w ((w2.setCell ⟨w.heap.size, k * 2, none⟩ (.string nm)).setCell ⟨w.heap.size, k * 2 + 1, none⟩ (.slice a2 qs.length cap2)) ∧ w.heap.size + 1 ≤ ((w2.setCell ⟨w.heap.size, k * 2, none⟩ (.string nm)).setCell ⟨w.heap.size, k * 2 + 1, none⟩ (.slice a2 qs.length cap2)).heap.size ∧ ∃ ys, SxRow ((w2.setCell ⟨w.heap.size, k * 2, none⟩ (.string nm)).setCell ⟨w.heap.size, k * 2 + 1, none⟩ (.slice a2 qs.length cap2)) (w.heap.size + 1) vs (k + 1) ys ∧ ((w2.setCell ⟨w.heap.size, k * 2, none⟩ (.string nm)).setCell ⟨w.heap.size, k * 2 + 1, none⟩ (.slice a2 qs.length cap2)).ownsRow w.heap.size 35 2 (.slice (some ⟨w.heap.size, 0, none⟩) vs.length vs.length) vs.length ys) :=
        ⟨(HB2.out.setCell (p := ⟨w.heap.size, k * 2, none⟩) (Nat.le_refl _) _).setCell (p := ⟨w.heap.size, k * 2 + 1, none⟩) (Nat.le_refl _) _, by simpa using hs2, _,
          (((Hd.out.below hB2).next hlt (by rw [Hg.out]) (by rw [Hg.out]; exact HP2.out)).far _ _ _ (by omega)).far _ _ _ (by omega), own_set (own_set HO2.out _ _) _ _⟩
      clear hB2 hxl ho2
      go_wp2
      exact ⟨⟨k + 1, by go_num, by omega, HN⟩, by simp [intOf]; omega⟩
    · obtain rfl : k = vs.length := by omega
      go_wp2
      go_ret
      obtain ⟨hB, _, ys, hd, ho⟩ := hI.out
      exact ⟨_, rfl, ⟨ys, ho, hd.mono (by omega)⟩, hB⟩

set_option maxRecDepth 100000 in
set_option maxHeartbeats 1000000 in
theorem toModel_any (a : Option Addr) (cap : Nat) (vs : List ShD) (w : World) (hs : Hid (MdSmall vs)) (hx : Hid (ShAt w a vs)) :
    Calls Try.prog 28 #[.agg #[.slice a vs.length cap]] w fun e w' => ∃ b c, e = .returned (.agg #[.slice b vs.length c]) ∧ OwnSx w' w.heap.size (.slice b vs.length c) vs ∧ Below w.heap.size w w' := by
  have hB0 : Below w.heap.size w (((w.alloc (.cells #[.slice a vs.length cap] 46)).alloc (.cells #[.slice none 0 0] 25)).alloc (.cells #[.slice none 0 0] 25)) := (((Below.refl _ w).alloc (Nat.le_refl _) _).alloc (by simp) _).alloc (by simp; omega) _
  have HB0 := Lib.hid hB0
  clear hB0
  go_enter Try.func28, Try.ntmps28
  go_wp2_with fail
  refine (toShelfS_any a cap vs _ hs (hx.out.below HB0.out)).mono ?_
  rintro e w1 ⟨v, rfl, ho, hB1⟩
  obtain ⟨hc, hf⟩ := bcell hB1
  have HO : Hid (OwnSx w1 (w.heap.size + 3) v vs) := by
    have := ho
    simp only [World.size_alloc] at this
    exact this
  have HB1 := Lib.hid (HB0.out.trans (hB1.mono HB0.out.size))
  obtain ⟨a2, cap2, rfl, _⟩ := OwnSx.reads HO.out
  clear ho hB1
  go_wp2
  refine bodyPost_ret (v := .agg #[.slice a2 vs.length cap2]) (by simp [results, Try.results28, go_sem, hc]) rfl ⟨a2, cap2, rfl, ?_, ?_⟩
  · exact ((HO.out.far _ _ _ (by omega)).far _ _ _ (by omega)).mono (by omega)
  · exact (HB1.out.setCell (p := ⟨w.heap.size + 1 + 1, 0, none⟩) (by simp; omega) _).setCell (p := ⟨w.heap.size + 1, 0, none⟩) (by simp) _

end Go.Proofs.Ytmmckpjapnkepaa
