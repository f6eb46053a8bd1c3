/- Reading a block, of the specification. Conditions: none but the row's own bound on sizes. -/
import Derived.Test.YtpdfbdplmljfiaaI1
namespace Go.Proofs.Ytpdfbdplmljfiaa
open Go.RowKit Go.Sort

theorem where_yes {ss : List ShD} (hd : Distinct ss) {nm : ByteArray} (h : HasNm ss nm) {z : Int} (hz : WhereSh ss nm z) : z = (whereSh ss nm : Int) := by
  rcases hz with ⟨k, rfl, hk, _⟩ | ⟨_, hn⟩
  · rw [whereSh_eq hd hk]
  · exact (hn h).elim
theorem where_no {ss : List ShD} {nm : ByteArray} (h : ¬HasNm ss nm) {z : Int} (hz : WhereSh ss nm z) : z = -1 := by
  rcases hz with ⟨k, rfl, hk, _⟩ | ⟨e, _⟩
  · exact (h ⟨k, hk⟩).elim
  · exact e
theorem readCode_no {ss : List ShD} {nm : ByteArray} {b : Int} (h : ¬MdFine ss) : readCode ss nm b = 4 := by unfold readCode; rw [if_neg h]
theorem readCode_none {ss : List ShD} {nm : ByteArray} {b : Int} (h : MdFine ss) (hn : ¬HasNm ss nm) : readCode ss nm b = 2 := by unfold readCode; rw [if_pos h, if_neg hn]
theorem readCode_bad {ss : List ShD} {nm : ByteArray} {b : Int} (h : MdFine ss) (hn : HasNm ss nm) (hb : ¬(0 ≤ b ∧ b ≤ 2)) : readCode ss nm b = 4 := by unfold readCode; rw [if_pos h, if_pos hn, if_neg hb]
theorem readCode_ok {ss : List ShD} {nm : ByteArray} {b : Int} (h : MdFine ss) (hn : HasNm ss nm) (hb : 0 ≤ b ∧ b ≤ 2) : readCode ss nm b = 0 := by unfold readCode; rw [if_pos h, if_pos hn, if_pos hb]
theorem readTo_ok {ss : List ShD} {nm : ByteArray} {b : Int} (h : readCode ss nm b = 0) : readTo ss nm b = (blAt ss (whereSh ss nm)).getD b.toNat ByteArray.empty := by unfold readTo; rw [if_pos h]
theorem readTo_not {ss : List ShD} {nm : ByteArray} {b : Int} (h : readCode ss nm b ≠ 0) : readTo ss nm b = ByteArray.empty := by unfold readTo; rw [if_neg h]
theorem ret_si {a b : ByteArray} {x y : Int} (h : a = b) (k : x = y) : Ending.returned (.tuple #[.string a, .int .i64 x]) = .returned (.tuple #[.string b, .int .i64 y]) := by rw [h, k]

end Go.Proofs.Ytpdfbdplmljfiaa
