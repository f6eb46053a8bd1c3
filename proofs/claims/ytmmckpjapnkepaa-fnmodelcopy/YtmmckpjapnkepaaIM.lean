/- ModelMake of the program. Conditions: none but the row's own bound on sizes. -/
import Derived.Test.YtmmckpjapnkepaaIL
namespace Go.Proofs.Ytmmckpjapnkepaa
open Go.RowKit Go.Sort Go.Lib Go.Maps

theorem addCode_in (ss : List ShD) (nm : ByteArray) : CodeIn (addCode ss nm) := by
  unfold addCode
  split
  · exact .inr (.inl rfl)
  · split
    · exact .inr (.inr (.inr (.inl rfl)))
    · exact .inl rfl
theorem codeIn_make (ss : List ShD) (nm : ByteArray) : CodeIn (makeTo ss nm).2 := by
  unfold makeTo
  split
  · exact addCode_in ss nm
  · exact .inr (.inr (.inr (.inr rfl)))

set_option linter.unusedSimpArgs false in
set_option maxRecDepth 100000 in
set_option maxHeartbeats 2000000 in
theorem make1_any (base D p1 : Nat) (ss : List ShD) (nm : ByteArray) (w : World) (hbs : base ≤ w.heap.size) (hp1 : p1 < base) (hL : Lib w base D ss) (hok : MdFine ss) (hn : nm.size ≤ 1048576)
    (c1 : w.cell? ⟨p1, 0, none⟩ = some (.string nm)) :
    Calls Try.prog 56 #[.pointer (some ⟨D, 0, none⟩), .pointer (some ⟨p1, 0, none⟩)] w (DoneLib base D (makeTo ss nm) w) := by
  have HR : Hid (makeTo ss nm = (addTo ss nm none3, addCode ss nm)) := by unfold makeTo; rw [if_pos hok]; exact rfl
  have hmk := mk_three w
  obtain ⟨wa, HWa, hBa, hOa⟩ : ∃ wa, (w.alloc (.cells #[.string ByteArray.empty, .string ByteArray.empty, .string ByteArray.empty] 9)).drew = wa ∧ Below w.heap.size w wa ∧ OwnTx wa w.heap.size (.slice (some ⟨w.heap.size, 0, none⟩) none3.length 3) none3 :=
    ⟨_, rfl, ((Below.refl _ _).alloc (Nat.le_refl _) _).drew, own_below (own_three w) ((Below.refl _ _).drew)⟩
  rw [HWa] at hmk
  have hta : TxAt wa (some ⟨w.heap.size, 0, none⟩) none3 := by
    obtain ⟨a, cp, e, _, _, h⟩ := hOa.reads
    injection e with e
    rw [e]; exact h
  have c0 : w.drew.cell? ⟨p1, 0, none⟩ = some (.string nm) := c1
  have ca := cell_below hBa c1
  have HBa := Lib.hid (hBa.mono hbs)
  have hba : base ≤ wa.heap.size := by have := hBa.size; omega
  have HSC : Hid (Calls Try.prog 58 #[.agg #[.string ⟨#[]⟩, .slice (some ⟨w.heap.size, 0, none⟩) 3 3], .string nm] wa fun e w' => ∃ gx c, e = .returned (.agg #[.string nm, .slice (some ⟨gx, 0, none⟩) 3 c]) ∧ OwnTx w' wa.heap.size (.slice (some ⟨gx, 0, none⟩) none3.length c) none3 ∧ Below wa.heap.size wa w') :=
    shelfCopy_any ⟨#[]⟩ nm (some ⟨w.heap.size, 0, none⟩) 3 none3 wa hn (by decide) (by decide) (fun j hj => by have := none3_short j hj; unfold Short9 at this; omega) hta
  have HAD := Lib.hid (fun gx cx W (hB : Below wa.heap.size wa W) (hx : OwnTx W wa.heap.size (.slice (some ⟨gx, 0, none⟩) none3.length cx) none3) =>
    show Calls Try.prog 57 #[.pointer (some ⟨D, 0, none⟩), .agg #[.string nm, .slice (some ⟨gx, 0, none⟩) 3 cx]] W (DoneLib base D (addTo ss nm none3, addCode ss nm) W) from libAdd_any base D gx cx ss nm none3 wa W hba (hL.below hBa) hB hok (by unfold maxLen; omega) hx)
  clear hL hok hOa hBa hta
  go_enter Try.func56, Try.ntmps56
  go_wp2_with fail
  refine AnyS.start (S := (fun w' : World => w'.cell? ⟨p1, 0, none⟩ = some (.string nm))) (L := 6) (by kernel_rfl) ?_
  refine AnyS.take 0 (show _ = some _ from rfl) rfl (by kernel_rfl) (by kernel_rfl) (by kernel_rfl) (by kernel_rfl) (fun _ _ _ h => h) c0 (by rfl) (fun w' hSw => by obtain s1 := hSw; go_simp; try with_reducible rfl) ?_
  try simp only [Act.put, List.setIfInBounds_toArray, List.set_cons_zero, List.set_cons_succ]
  refine AnyS.take 3 (show _ = some _ from rfl) rfl (by kernel_rfl) (by kernel_rfl) (by kernel_rfl) (by kernel_rfl) (fun _ _ _ h => h) c0 (by rfl) (fun w' hSw => by obtain s1 := hSw; go_simp; try with_reducible rfl) ?_
  try simp only [Act.put, List.setIfInBounds_toArray, List.set_cons_zero, List.set_cons_succ]
  refine AnyS.one 1 (by kernel_rfl) (show _ = some _ from rfl) (fun K' hK' => step_make_run (by rfl) _ _ _ _ (by rfl) (by rfl) _ _ _ (by rfl) (by rfl) hmk (hK' _ _ ⟨?_, fun _ => ca⟩))
  try simp only [Act.put, List.setIfInBounds_toArray, List.set_cons_zero, List.set_cons_succ]
  refine AnyS.one 2 (by kernel_rfl) (show _ = some _ from rfl) (fun K' hK' => ?_)
  go_simp
  refine hK' _ _ ⟨?_, fun _ => ca⟩
  clear hK' K'
  try simp only [Act.put, List.setIfInBounds_toArray, List.set_cons_zero, List.set_cons_succ]
  refine AnyS.one 4 (by kernel_rfl) (show _ = some _ from rfl) (fun K' hK' => ?_)
  go_simp
  go_at_call 58
  refine (HSC.out).mono ?_
  rintro e w2 ⟨gx, cx, rfl, hx2, hB2⟩
  go_simp
  refine hK' _ _ ⟨?_, fun _ => cell_below hB2 ca⟩
  clear hK' K'
  try simp only [Act.put, List.setIfInBounds_toArray, List.set_cons_zero, List.set_cons_succ]
  have HA2 := Lib.hid (HAD.out gx cx w2 hB2 hx2)
  have HB2 := Lib.hid (HBa.out.trans (hB2.mono hba))
  have c2 := cell_below hB2 ca
  clear hx2
  refine AnyS.one 5 (by kernel_rfl) (show _ = some _ from rfl) (fun K' hK' => ?_)
  go_simp
  go_at_call 57
  refine HA2.out.mono ?_
  rintro e w3 ⟨rfl, hL3, hB3⟩
  have HL3 := Lib.hid hL3
  have HB3 := Lib.hid (HB2.out.trans hB3)
  have c3 : w3.cell? ⟨p1, 0, none⟩ = some (.string nm) := (hB3.cell (p := ⟨p1, 0, none⟩) hp1).trans c2
  go_simp
  refine hK' _ _ ⟨?_, fun _ => c3⟩
  clear hK' K'
  try simp only [Act.put, List.setIfInBounds_toArray, List.set_cons_zero, List.set_cons_succ]
  generalize hv : wrV (addCode ss nm) = v
  have HV := Lib.hid hv
  clear hv hL3 hB3
  refine AnyS.one 6 (by kernel_rfl) (show _ = some _ from rfl) (fun K' hK' => ?_)
  go_simp
  refine hK' _ _ ⟨AnyS.done (by kernel_rfl) ?_, fun h => absurd rfl h⟩
  clear hK' K'
  try simp only [Act.put, List.setIfInBounds_toArray, List.set_cons_zero, List.set_cons_succ]
  go_wp2
  go_ret
  exact doneLib HR.out HV.out.symm HL3.out HB3.out

set_option maxRecDepth 100000 in
set_option maxHeartbeats 2000000 in
theorem implMake_any (a : Option Addr) (cap : Nat) (ss : List ShD) (nm : ByteArray) (w : World) (hs : MdSmall ss) (hn : nm.size ≤ 1048576) (hx : Hid (ShAt w a ss)) :
    Calls Try.prog 23 #[.agg #[.slice a ss.length cap], .string nm] w (MdDone (makeTo ss nm) w) := by
  obtain ⟨w0, HW, hB, hK, hsz, k1⟩ : ∃ w0, (((w.alloc (.cells #[.slice a ss.length cap] 25)).alloc (.cells #[.string nm] 9)).alloc (.cells #[.slice none 0 0] 25)) = w0 ∧ Below w.heap.size w w0 ∧ Blk w0 (w.heap.size + 1 + 1) #[.slice none 0 0] 25 ∧ (w0.heap.size = w.heap.size + 3 ∧ w0.cell? ⟨w.heap.size, 0, none⟩ = some (.slice a ss.length cap)) ∧ w0.cell? ⟨w.heap.size + 1, 0, none⟩ = some (.string nm) := by
    refine ⟨_, rfl, (((Below.refl _ _).alloc (Nat.le_refl _) _).alloc (by simp; try omega) _).alloc (by simp; try omega) _, ?_, ⟨by simp, by simp [go_sem]⟩, by simp [go_sem]⟩
    have := Blk.new ((w.alloc (.cells #[.slice a ss.length cap] 25)).alloc (.cells #[.string nm] 9)) #[.slice none 0 0] 25
    simp only [World.size_alloc] at this
    exact this
  obtain ⟨hsz, m0⟩ := hsz
  have HB := Lib.hid hB
  have KR := Lib.hid hK
  have Hsz := Lib.hid hsz
  have HX := Lib.hid (hx.out.below hB)
  have HRR : Hid (Calls Try.prog 42 #[.agg #[.slice a ss.length cap], .func (.func 56) #[] #[.pointer (some ⟨w.heap.size + 1, 0, none⟩)]] w0 (MdDone (makeTo ss nm) w0)) := by
    by_cases hok : MdFine ss
    · exact rearranged1_ok _ _ a cap ss _ w0 hok (codeIn_make ss nm) HX (enters_of Try.func56 (by kernel_rfl) rfl) (fun base D W hBW hb0 hbW hL => make1_any base D _ ss nm W hbW (by have := Hsz.out; omega) hL hok hn (cell_below hBW k1))
    · rw [makeTo_no hok]
      exact rearranged1_no _ _ a cap ss w0 hs hok HX
  clear hB hK hsz hs
  go_enter Try.func23, Try.ntmps23
  go_wp2_with fail
  clear HW
  refine HRR.out.mono ?_
  rintro e w1 ⟨v, rfl, hO, hB1⟩
  obtain ⟨av, cv, rfl, _⟩ := hO.reads
  have HO := Lib.hid (hO.mono (show w.heap.size + 1 ≤ w0.heap.size by have := Hsz.out; omega))
  have HO0 := Lib.hid hO
  have KR1 := Lib.hid (KR.out.below hB1 KR.out.lt)
  have q0 : w1.cell? ⟨w.heap.size + 1 + 1, 0, none⟩ = some (.slice none 0 0) := KR1.out.cell 0
  have fq := KR1.out.frozen 0
  have HE := Lib.hid (HB.out.trans (hB1.mono HB.out.size))
  clear hO hB1 k1 m0
  generalize hc : (makeTo ss nm).2 = c
  have HC := Lib.hid hc
  clear hc
  go_wp2
  refine bodyPost_ret (v := .tuple #[.agg #[.slice av (makeTo ss nm).1.length cv], .int .i64 c]) (by simp [results, Try.results23, go_sem, q0]) rfl ⟨_, by rw [HC.out], (HO0.out.far _ _ _ (by have := Hsz.out; omega)).mono (by have := Hsz.out; omega), HE.out.setCell (p := ⟨w.heap.size + 1 + 1, 0, none⟩) (by simp; try omega) _⟩

end Go.Proofs.Ytmmckpjapnkepaa
