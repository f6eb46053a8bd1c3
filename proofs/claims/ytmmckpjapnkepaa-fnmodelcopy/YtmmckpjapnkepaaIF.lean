/- ModelWrite of the program. Conditions: none but the row's own bound on sizes. -/
import Derived.Test.YtmmckpjapnkepaaIE
namespace Go.Proofs.Ytmmckpjapnkepaa
open Go.RowKit Go.Sort

theorem codeIn_write (ss : List ShD) (nm : ByteArray) (b : Int) (t : ByteArray) : CodeIn (writeTo ss nm b t).2 := by
  unfold writeTo
  split
  · unfold wrCode
    simp only
    split
    · split
      · exact .inl rfl
      · exact .inr (.inr (.inr (.inr rfl)))
    · exact .inr (.inr (.inl rfl))
  · exact .inr (.inr (.inr (.inr rfl)))

set_option maxRecDepth 100000 in
set_option maxHeartbeats 1000000 in
theorem write1_any (base D p1 p2 p3 : Nat) (ss : List ShD) (nm : ByteArray) (b : Int) (t : ByteArray) (w : World) (hbs : base ≤ w.heap.size) (hL : Lib w base D ss) (hok : MdFine ss) (hn : nm.size ≤ maxLen) (hts : t.size ≤ 1048576)
    (c1 : w.cell? ⟨p1, 0, none⟩ = some (.string nm)) (c2 : w.cell? ⟨p2, 0, none⟩ = some (.int .i64 b)) (c3 : w.cell? ⟨p3, 0, none⟩ = some (.string t)) :
    Calls Try.prog 43 #[.pointer (some ⟨D, 0, none⟩), .pointer (some ⟨p1, 0, none⟩), .pointer (some ⟨p2, 0, none⟩), .pointer (some ⟨p3, 0, none⟩)] w (DoneLib base D (writeTo ss nm b t) w) := by
  have HW := Lib.hid (libWrite_any base D ss nm b t w hbs hL hok hn hts)
  clear hL hok hn hts hbs
  go_enter Try.func43, Try.ntmps43
  go_wp2_with fail
  refine HW.out.mono ?_
  rintro e w1 ⟨rfl, hL, hB⟩
  have H := Lib.hid (And.intro hL hB)
  clear hL hB
  generalize hv : wrV (writeTo ss nm b t).2 = v
  have HV := Lib.hid hv
  clear hv
  go_wp2
  go_ret
  exact ⟨ret_v HV.out.symm, H.out.1, H.out.2⟩

set_option maxRecDepth 100000 in
set_option maxHeartbeats 2000000 in
theorem implWrite_any (a : Option Addr) (cap : Nat) (ss : List ShD) (nm : ByteArray) (b : Int) (t : ByteArray) (w : World) (hs : MdSmall ss) (hn : nm.size ≤ maxLen) (hts : t.size ≤ 1048576) (hx : Hid (ShAt w a ss)) :
    Calls Try.prog 14 #[.agg #[.slice a ss.length cap], .string nm, .int .i64 b, .string t] w (MdDone (writeTo ss nm b t) w) := by
  obtain ⟨w0, HW, hB, hK, hsz, k1, k2, k3⟩ : ∃ w0, (((((w.alloc (.cells #[.slice a ss.length cap] 25)).alloc (.cells #[.string nm] 9)).alloc (.cells #[.int .i64 b] 3)).alloc (.cells #[.string t] 9)).alloc (.cells #[.slice none 0 0] 25)) = w0 ∧ Below w.heap.size w w0 ∧ Blk w0 (w.heap.size + 1 + 1 + 1 + 1) #[.slice none 0 0] 25 ∧ (w0.heap.size = w.heap.size + 5 ∧ w0.cell? ⟨w.heap.size, 0, none⟩ = some (.slice a ss.length cap)) ∧ w0.cell? ⟨w.heap.size + 1, 0, none⟩ = some (.string nm) ∧ w0.cell? ⟨w.heap.size + 1 + 1, 0, none⟩ = some (.int .i64 b) ∧ w0.cell? ⟨w.heap.size + 1 + 1 + 1, 0, none⟩ = some (.string t) := by
    refine ⟨_, rfl, (((((Below.refl _ _).alloc (Nat.le_refl _) _).alloc (by simp; try omega) _).alloc (by simp; try omega) _).alloc (by simp; try omega) _).alloc (by simp; try omega) _, ?_, ⟨by simp, by simp [go_sem]⟩, by simp [go_sem], by simp [go_sem], by simp [go_sem]⟩
    have := Blk.new ((((w.alloc (.cells #[.slice a ss.length cap] 25)).alloc (.cells #[.string nm] 9)).alloc (.cells #[.int .i64 b] 3)).alloc (.cells #[.string t] 9)) #[.slice none 0 0] 25
    simp only [World.size_alloc] at this
    exact this
  obtain ⟨hsz, m0⟩ := hsz
  have HB := Lib.hid hB
  have KR := Lib.hid hK
  have Hsz := Lib.hid hsz
  have HX := Lib.hid (hx.out.below hB)
  have HRR : Hid (Calls Try.prog 42 #[.agg #[.slice a ss.length cap], .func (.func 43) #[] #[.pointer (some ⟨w.heap.size + 1, 0, none⟩), .pointer (some ⟨w.heap.size + 1 + 1, 0, none⟩), .pointer (some ⟨w.heap.size + 1 + 1 + 1, 0, none⟩)]] w0 (MdDone (writeTo ss nm b t) w0)) := by
    by_cases hok : MdFine ss
    · exact rearranged3_ok _ _ _ _ a cap ss _ w0 hok (codeIn_write ss nm b t) HX (enters_of Try.func43 (by kernel_rfl) rfl) (fun base D W hBW hb0 hbW hL => write1_any base D _ _ _ ss nm b t W hbW hL hok hn hts (cell_below hBW k1) (cell_below hBW k2) (cell_below hBW k3))
    · rw [writeTo_no hok]
      exact rearranged3_no _ _ _ _ a cap ss w0 hs hok HX
  clear hB hK hsz hs
  go_enter Try.func14, Try.ntmps14
  go_wp2_with fail
  clear HW
  refine HRR.out.mono ?_
  rintro e w1 ⟨v, rfl, hO, hB1⟩
  obtain ⟨av, cv, rfl, _⟩ := hO.reads
  have HO := Lib.hid (hO.mono (show w.heap.size + 1 ≤ w0.heap.size by have := Hsz.out; omega))
  have HO0 := Lib.hid hO
  have KR1 := Lib.hid (KR.out.below hB1 KR.out.lt)
  have q0 : w1.cell? ⟨w.heap.size + 1 + 1 + 1 + 1, 0, none⟩ = some (.slice none 0 0) := KR1.out.cell 0
  have fq := KR1.out.frozen 0
  have HE := Lib.hid (HB.out.trans (hB1.mono HB.out.size))
  clear hO hB1 k1 k2 k3 m0
  generalize hc : (writeTo ss nm b t).2 = c
  have HC := Lib.hid hc
  clear hc
  go_wp2
  refine bodyPost_ret (v := .tuple #[.agg #[.slice av (writeTo ss nm b t).1.length cv], .int .i64 c]) (by simp [results, Try.results14, go_sem, q0]) rfl ⟨_, by rw [HC.out], (HO0.out.far _ _ _ (by have := Hsz.out; omega)).mono (by have := Hsz.out; omega), HE.out.setCell (p := ⟨w.heap.size + 1 + 1 + 1 + 1, 0, none⟩) (by simp; try omega) _⟩

end Go.Proofs.Ytmmckpjapnkepaa
