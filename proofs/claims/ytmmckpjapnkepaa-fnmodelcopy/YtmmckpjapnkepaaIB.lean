/- Reading and writing a block of a model, of the program. Conditions: none but the row's own bound on sizes. -/
import Derived.Test.YtmmckpjapnkepaaIA
namespace Go.Proofs.Ytmmckpjapnkepaa
open Go.RowKit Go.Sort Go.Maps

set_option maxRecDepth 100000 in
set_option maxHeartbeats 2000000 in
theorem implMdRead_any (a : Option Addr) (cap : Nat) (ss : List ShD) (nm : ByteArray) (b : Int) (w : World) (hs : MdSmall ss) (hn : nm.size ≤ maxLen) (hx : Hid (ShAt w a ss)) :
    Calls Try.prog 16 #[.agg #[.slice a ss.length cap], .string nm, .int .i64 b] w fun e w' => e = .returned (.tuple #[.string (readTo ss nm b), .int .i64 (readCode ss nm b)]) ∧ Below w.heap.size w w' := by
  have hB : Below w.heap.size w (w.alloc (.cells #[.slice a ss.length cap] 25)) := (Below.refl _ _).alloc (Nat.le_refl _) _
  have HB := Lib.hid hB
  have HX := Lib.hid (hx.out.below hB)
  have HS := Lib.hid hs
  clear hB hs
  by_cases hok : MdFine ss
  · have HO := Lib.hid (libraryOf_ok a cap ss (w.alloc (.cells #[.slice a ss.length cap] 25)) hok HX)
    by_cases hh : HasNm ss nm
    · by_cases hb : 0 ≤ b ∧ b ≤ 2
      · have HCz := Lib.hid (readCode_ok hok hh hb)
        have HRz := Lib.hid (readTo_ok HCz.out)
        obtain ⟨q, rfl⟩ := Int.eq_ofNat_of_zero_le hb.1
        have hq : q ≤ 2 := by omega
        have HBk := Lib.hid (fun D W (h : Lib W (w.alloc (.cells #[.slice a ss.length cap] 25)).heap.size D ss) => blockOf_ok _ D ss nm q W h hok hn hh hq)
        clear hok hh hb
        go_enter Try.func16, Try.ntmps16
        go_wp2_with fail
        refine HO.out.mono ?_
        rintro e w1 ⟨D, rfl, hL, hB1⟩
        have HB1 := Lib.hid (HB.out.trans (hB1.mono HB.out.size))
        have HBd := Lib.hid (HBk.out D w1 hL)
        clear hL hB1
        go_wp2_with fail
        refine HBd.out.mono ?_
        rintro e w2 ⟨g, rfl, ht, rfl⟩
        obtain ⟨e0, _, _, _⟩ := ht
        have HRq : Hid ((blAt ss (whereSh ss nm)).getD q ByteArray.empty = readTo ss nm (q : Int)) := HRz.out.symm
        generalize (blAt ss (whereSh ss nm)).getD q ByteArray.empty = t at e0 HRq
        go_wp2
        go_ret2
        exact ⟨ret_si HRq.out HCz.out.symm, HB1.out⟩
      · have HCz := Lib.hid (readCode_bad hok hh hb)
        have HRz := Lib.hid (readTo_not (ss := ss) (nm := nm) (b := b) (by rw [HCz.out]; decide))
        have HBk := Lib.hid (fun D W (h : Lib W (w.alloc (.cells #[.slice a ss.length cap] 25)).heap.size D ss) => blockOf_bad _ D ss nm b W h hok.2.2 hn hh hb)
        have HCo := Lib.hid (fun W => codeOf_block W)
        clear hok hh hb
        go_enter Try.func16, Try.ntmps16
        go_wp2_with fail
        refine HO.out.mono ?_
        rintro e w1 ⟨D, rfl, hL, hB1⟩
        have HB1 := Lib.hid (HB.out.trans (hB1.mono HB.out.size))
        have HBd := Lib.hid (HBk.out D w1 hL)
        clear hL hB1
        go_wp2_with fail
        refine HBd.out.mono ?_
        rintro e w2 ⟨rfl, rfl⟩
        go_wp2_with fail
        refine (HCo.out _).mono ?_
        rintro e w3 ⟨rfl, rfl⟩
        go_wp2
        go_ret2
        exact ⟨ret_si HRz.out.symm HCz.out.symm, HB1.out⟩
    · have HCz := Lib.hid (readCode_none (b := b) hok hh)
      have HRz := Lib.hid (readTo_not (ss := ss) (nm := nm) (b := b) (by rw [HCz.out]; decide))
      have HBk := Lib.hid (fun D W (h : Lib W (w.alloc (.cells #[.slice a ss.length cap] 25)).heap.size D ss) => blockOf_none _ D ss nm b W h hn hh)
      have HCo := Lib.hid (fun W => codeOf_there W)
      clear hok hh
      go_enter Try.func16, Try.ntmps16
      go_wp2_with fail
      refine HO.out.mono ?_
      rintro e w1 ⟨D, rfl, hL, hB1⟩
      have HB1 := Lib.hid (HB.out.trans (hB1.mono HB.out.size))
      have HBd := Lib.hid (HBk.out D w1 hL)
      clear hL hB1
      go_wp2_with fail
      refine HBd.out.mono ?_
      rintro e w2 ⟨rfl, rfl⟩
      go_wp2_with fail
      refine (HCo.out _).mono ?_
      rintro e w3 ⟨rfl, rfl⟩
      go_wp2
      go_ret2
      exact ⟨ret_si HRz.out.symm HCz.out.symm, HB1.out⟩
  · have HO := Lib.hid (libraryOf_no a cap ss (w.alloc (.cells #[.slice a ss.length cap] 25)) HS.out hok HX)
    have HCz := Lib.hid (readCode_no (nm := nm) (b := b) hok)
    have HRz := Lib.hid (readTo_not (ss := ss) (nm := nm) (b := b) (by rw [HCz.out]; decide))
    have HCo := Lib.hid (fun W => codeOf_ok W)
    clear hok
    go_enter Try.func16, Try.ntmps16
    go_wp2_with fail
    refine HO.out.mono ?_
    rintro e w1 ⟨rfl, hB1⟩
    have HB1 := Lib.hid (HB.out.trans (hB1.mono HB.out.size))
    clear hB1
    go_wp2_with fail
    refine (HCo.out _).mono ?_
    rintro e w3 ⟨rfl, rfl⟩
    go_wp2
    go_ret2
    exact ⟨ret_si HRz.out.symm HCz.out.symm, HB1.out⟩

theorem wrCode_ok {ss : List ShD} {nm : ByteArray} {b : Int} {t : ByteArray} (h : HasNm ss nm) (hb : 0 ≤ b ∧ b ≤ 2) (ht : t.size ≤ 9) : wrCode ss nm b t = 0 := by unfold wrCode; rw [if_pos h, if_pos ⟨hb, ht⟩]
theorem wrCode_bad {ss : List ShD} {nm : ByteArray} {b : Int} {t : ByteArray} (h : HasNm ss nm) (hb : ¬((0 ≤ b ∧ b ≤ 2) ∧ t.size ≤ 9)) : wrCode ss nm b t = 4 := by unfold wrCode; rw [if_pos h, if_neg hb]
theorem wrCode_none {ss : List ShD} {nm : ByteArray} {b : Int} {t : ByteArray} (h : ¬HasNm ss nm) : wrCode ss nm b t = 2 := by unfold wrCode; rw [if_neg h]
theorem writeTo_ok {ss : List ShD} {nm : ByteArray} {b : Int} {t : ByteArray} (h : MdFine ss) (hc : wrCode ss nm b t = 0) : writeTo ss nm b t = (setSh ss (whereSh ss nm) b.toNat t, 0) := by unfold writeTo; rw [if_pos h, if_pos hc, hc]
theorem writeTo_not {ss : List ShD} {nm : ByteArray} {b : Int} {t : ByteArray} (h : MdFine ss) (hc : wrCode ss nm b t ≠ 0) : writeTo ss nm b t = (ss, wrCode ss nm b t) := by unfold writeTo; rw [if_pos h, if_neg hc]
theorem writeTo_no {ss : List ShD} {nm : ByteArray} {b : Int} {t : ByteArray} (h : ¬MdFine ss) : writeTo ss nm b t = ([], 4) := by unfold writeTo; rw [if_neg h]

/-- SOMETHING WAS DONE to a library: what is wrong, by its code, and what it is then. -/
def DoneLib (base D : Nat) (r : List ShD × Int) (w : World) (e : Ending) (w' : World) : Prop := e = .returned (wrV r.2) ∧ Lib w' base D r.1 ∧ Below base w w'
theorem ret_v {a b : Value} (h : a = b) : Ending.returned a = .returned b := by rw [h]
theorem doneLib {base D : Nat} {r : List ShD × Int} {w w' : World} {v : Value} {ss' : List ShD} {c : Int} (hr : r = (ss', c)) (hv : v = wrV c) (hL : Lib w' base D ss') (hB : Below base w w') : DoneLib base D r w (.returned v) w' := by
  subst hr
  exact ⟨ret_v hv, hL, hB⟩

set_option maxRecDepth 100000 in
set_option maxHeartbeats 2000000 in
theorem libWrite_any (base D : Nat) (ss : List ShD) (nm : ByteArray) (b : Int) (t : ByteArray) (w : World) (hbs : base ≤ w.heap.size) (hL : Lib w base D ss) (hok : MdFine ss) (hn : nm.size ≤ maxLen) (hts : t.size ≤ 1048576) :
    Calls Try.prog 44 #[.pointer (some ⟨D, 0, none⟩), .string nm, .int .i64 b, .string t] w (DoneLib base D (writeTo ss nm b t) w) := by
  have HLI := Lib.hid hL
  by_cases hh : HasNm ss nm
  · by_cases hb : 0 ≤ b ∧ b ≤ 2
    · by_cases ht : t.size ≤ 9
      · have HW := Lib.hid (writeTo_ok hok (wrCode_ok hh hb ht))
        obtain ⟨q, rfl⟩ := Int.eq_ofNat_of_zero_le hb.1
        have HBk := Lib.hid (blockOf_ok base D ss nm q w hL hok hn hh (by omega))
        have HI := Lib.hid (fun W => isBlockText_any t W)
        rw [tt_true (show Short9 t from ht)] at HI
        have HC := Lib.hid (fun W => cloneTx_any t (by omega) W)
        clear hh hb hok hL ht
        go_enter Try.func44, Try.ntmps44
        go_wp2_with fail
        refine HBk.out.mono ?_
        rintro e w1 ⟨g, rfl, ht, rfl⟩
        have HT := Lib.hid ht
        obtain ⟨e0, f0, hg, _⟩ := ht
        generalize (blAt ss (whereSh ss nm)).getD q ByteArray.empty = y at e0
        go_wp2_with fail
        refine (HI.out _).mono ?_
        rintro e w2 ⟨rfl, rfl⟩
        go_wp2_with fail
        refine (HC.out _).mono ?_
        rintro e w3 ⟨rfl, hB3⟩
        have e1 := cell_below hB3 e0
        have hgl := World.block_lt_of_cell? w _ e0
        have f1 : w3.frozen? ⟨g, q, none⟩ = false := (hB3.frozen (p := ⟨g, q, none⟩) hgl).trans f0
        have HL3 := Lib.hid (HT.out.2.2.2 w3 hB3 t)
        have HB3 := Lib.hid ((hB3.mono hbs).setCell (p := ⟨g, q, none⟩) hg (.string t))
        clear hB3
        go_wp2
        go_ret
        exact doneLib HW.out rfl HL3.out HB3.out
      · have hnot : ¬((0 ≤ b ∧ b ≤ 2) ∧ t.size ≤ 9) := fun h => ht h.2
        have HC4 := wrCode_bad hh hnot
        have HW := Lib.hid (writeTo_not (nm := nm) (b := b) (t := t) hok (by rw [HC4]; decide))
        rw [HC4] at HW
        obtain ⟨q, rfl⟩ := Int.eq_ofNat_of_zero_le hb.1
        have HBk := Lib.hid (blockOf_ok base D ss nm q w hL hok hn hh (by omega))
        have HI := Lib.hid (fun W => isBlockText_any t W)
        rw [tt_false (show ¬Short9 t from ht)] at HI
        clear hh hb hok hL ht hnot HC4
        go_enter Try.func44, Try.ntmps44
        go_wp2_with fail
        refine HBk.out.mono ?_
        rintro e w1 ⟨g, rfl, ht, rfl⟩
        clear ht
        go_wp2_with fail
        refine (HI.out _).mono ?_
        rintro e w2 ⟨rfl, rfl⟩
        go_wp2
        go_ret
        exact doneLib HW.out rfl HLI.out (Below.refl _ _)
    · have hnot : ¬((0 ≤ b ∧ b ≤ 2) ∧ t.size ≤ 9) := fun h => hb h.1
      have HC4 := wrCode_bad hh hnot
      have HW := Lib.hid (writeTo_not (nm := nm) (b := b) (t := t) hok (by rw [HC4]; decide))
      rw [HC4] at HW
      have HBk := Lib.hid (blockOf_bad base D ss nm b w hL hok.2.2 hn hh hb)
      clear hh hb hok hL hnot HC4
      go_enter Try.func44, Try.ntmps44
      go_wp2_with fail
      refine HBk.out.mono ?_
      rintro e w1 ⟨rfl, rfl⟩
      go_wp2
      go_ret
      exact doneLib HW.out rfl HLI.out (Below.refl _ _)
  · have HC2 := wrCode_none (b := b) (t := t) hh
    have HW := Lib.hid (writeTo_not (nm := nm) (b := b) (t := t) hok (by rw [HC2]; decide))
    rw [HC2] at HW
    have HBk := Lib.hid (blockOf_none base D ss nm b w hL hn hh)
    clear hh hok hL HC2
    go_enter Try.func44, Try.ntmps44
    go_wp2_with fail
    refine HBk.out.mono ?_
    rintro e w1 ⟨rfl, rfl⟩
    go_wp2
    go_ret
    exact doneLib HW.out rfl HLI.out (Below.refl _ _)

end Go.Proofs.Ytmmckpjapnkepaa
