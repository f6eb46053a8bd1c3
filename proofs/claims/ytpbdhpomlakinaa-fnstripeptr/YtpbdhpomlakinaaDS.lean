/- What is drawn for StripePtr: a text and places; nothing old turns. Conditions: none. -/
import Derived.Test.YtpbdhpomlakinaaD8
namespace Go.Proofs.Ytpbdhpomlakinaa
open Go.RowKit Go.Sort

/-- A DRAWN TEXT AND PLACES. -/
def DrawnSt (w : World) (e : Ending) (w' : World) : Prop :=
  ∃ (s : ByteArray) (ps : List PlD) (v : Value), e = .returned (.tuple #[.string s, v]) ∧ s.size ≤ 9 ∧ PlacesV w' v ps ∧ ps.length ≤ 11 ∧ Below w.heap.size w w'

set_option maxRecDepth 100000 in
set_option maxHeartbeats 2000000 in
theorem drawStripe_any (a : Option Addr) (len cap : Nat) (z : List Int) (w : World) (h : IsBytes w a len cap z) :
    Calls Try.prog 36 #[.slice a len cap] w (DrawnSt w) := by
  obtain ⟨i0, hi0, hz0, hz1, hz2⟩ := info_parts infoPl
  have H := Lib.hid h
  clear h
  go_enter Try.func36, Try.ntmps36
  go_wp2_with fail
  refine (l6Open_any a len cap z _ H.out).mono ?_
  rintro e w1 ⟨B, rfl, hR1, hB1⟩
  have hB : w.heap.size ≤ B := hR1.1
  have HBw1 := Lib.hid hB1
  have HR1 := Lib.hid hR1
  clear hR1 hB1
  go_wp2_with fail
  refine (l71Disks_any _ B 0 _ (by omega) HR1.out).mono ?_
  rintro e w2 ⟨n, rfl, hn, hR2, hg2⟩
  have HBw2 := Lib.hid (HBw1.out.trans (Below.ofGrown hg2 hB HBw1.out.size))
  have HR2 := Lib.hid hR2
  have Hn := Lib.hid hn
  clear hR2 hg2 hn
  go_wp2_with fail
  refine (l71Text_any _ B (0 + 1) 9 _ (by omega) (by omega) HR2.out).mono ?_
  rintro e w3 ⟨s, q3, rfl, hs9, hq3, hR3, hg3⟩
  have HBw3 := Lib.hid (HBw2.out.trans (Below.ofGrown hg3 hB HBw2.out.size))
  have HR3 := Lib.hid hR3
  clear hR3 hg3
  have hs' : (s.size : Int) ≤ 9 := by omega
  go_wp2_with fail
  refine (l2Cols_any _ _ (by omega) (by omega)).mono ?_
  rintro e w4 ⟨rfl, rfl⟩
  obtain ⟨m, hm⟩ : ∃ m : Nat, ((s.size : Int) + 2) / 3 + 1 = (m : Int) := ⟨(s.size + 2) / 3 + 1, by omega⟩
  have hm5 : m ≤ 4 := by omega
  have HP := Lib.hid (l71Places_any _ B q3 m n _ (by omega) (by omega) Hn.out HR3.out)
  rw [← hm] at HP
  have Hm := Lib.hid hm
  clear hm
  go_wp2_with fail
  refine HP.out.mono ?_
  rintro e w5 ⟨v5, ps, q5, rfl, ho5, hpl, hq5, hR5, hg5⟩
  have HBw5 := Lib.hid (HBw3.out.trans (Below.ofGrown hg5 hB HBw3.out.size))
  have hp0 : 0 < ps.length := by have := Hm.out; omega
  have hp4 : ps.length ≤ 4 := by omega
  have hlo : B < w3.heap.size := HR3.out.lt
  have HO5 := Lib.hid ho5
  have HR5 := Lib.hid hR5
  clear hpl hR5 hg5
  go_wp2_with fail
  refine (pick_any _ B q5 16 _ (by omega) HR5.out).mono ?_
  rintro e w6 ⟨v, rfl, hv0, hvn, hR6, hg6⟩
  have hv16 := hvn (by omega)
  have hnb : v5.ownBlock = none ∨ v5.ownBlock ≠ some B := .inr (fun e => by have := (HO5.out.lt B e).1; omega)
  have ho6 := World.ownsRow.kept HO5.out hg6 hnb
  have HBw6 := Lib.hid (HBw5.out.trans (Below.ofGrown hg6 hB HBw5.out.size))
  have hb5 := World.ownsRow.lt HO5.out
  clear hvn hR6 hg6 hnb ho5
  rcases ho6.2 with ⟨_, hn0⟩ | ⟨g, c, cur, rfl, hbg, _, hkc, _⟩
  · omega
  have HO6 := Lib.hid ho6
  have hbase : w3.heap.size ≤ w6.heap.size := by have := (ho6.lt g rfl).2; omega
  by_cases v0 : v = 0
  · have hown := ho6.alloc (.cells #[.int .i64 0, .int .i64 0] 53)
    have hnews := news_two w6 (.int .i64 0) (.int .i64 0) 53 w6.heap.size rfl
    have HX : Hid (∀ g4 cap4 w4, w4.ownsRow w3.heap.size 53 2 (.slice (some ⟨g4, 0, none⟩) (ps.length + 1) cap4) (ps.length + 1) (plCells ps ++ [.int .i64 0, .int .i64 0]) → (w6.alloc (.cells #[.int .i64 0, .int .i64 0] 53)).grownBy w4 (Value.slice (some ⟨g, 0, none⟩) ps.length c).ownBlock →
        PlacesV w4 (.slice (some ⟨g4, 0, none⟩) (ps.length + 1) cap4) (ps ++ [(0, 0)]) ∧ Below w.heap.size w w4) := fun g4 cap4 w4 h4 hg4 => by
      refine ⟨OwnPl.reads (base := w3.heap.size) ?_ |> fun h => by simpa using h, ?_⟩
      · unfold OwnPl
        rw [plCells_snoc, List.length_append]
        exact h4
      · have hBa := HBw6.out.alloc HBw6.out.size (.cells #[.int .i64 0, .int .i64 0] 53)
        exact hBa.grown hg4 hBa.size (fun i e => by have := (ho6.lt i e).1; have := HBw3.out.size; omega)
    subst v0
    generalize hys : plCells ps = ys at hown HX
    clear hv0 hv16 ho6 hys HO5 HR5 HP
    go_wp2_with (at_builtin; refine wpList_append_lies _ rfl _ _ 26 rfl w3.heap.size 53 i0 _ 2 16 Try.underlying26 hi0 hz0 hz1 hz2 rfl (by omega) _ ps.length ys rfl hown ⟨_, 0, none⟩ 1 1 [.int .i64 0, .int .i64 0] rfl rfl hnews (by simp [Value.oneCell']) (by omega) (by simp [maxLen]; omega) (by omega) (by simp; omega) _ rfl ?_; intro g4 cap4 w7 hown4 hgrow4 hat4 hlt4; have HY := Lib.hid (HX.out g4 cap4 w7 hown4 hgrow4); clear hown4 hgrow4 hat4)
    go_ret2
    exact ⟨s, ps ++ [(0, 0)], _, rfl, hs9, HY.out.1, by simp; omega, HY.out.2⟩
  · have e0 : (v == 0) = false := by simp [v0]
    by_cases v1 : v = 1
    · subst v1
      have hc := (own_cell ho6 1 (by omega))
      obtain ⟨x1, f1, _, _⟩ := hc
      have HY : Hid (PlacesV (w6.setCell ⟨g, 1, none⟩ (.int .i64 (-1))) (.slice (some ⟨g, 0, none⟩) ps.length c) (ps.set 0 ((ps.getD 0 pl0).1, -1)) ∧ Below w.heap.size w (w6.setCell ⟨g, 1, none⟩ (.int .i64 (-1)))) := by
        refine ⟨?_, HBw6.out.setCell (p := ⟨g, 1, none⟩) (by show w.heap.size ≤ g; have := (ho6.lt g rfl).1; have := HBw3.out.size; omega) _⟩
        have := own_set ho6 1 (.int .i64 (-1))
        rw [← plCells_set1 ps (-1) hp0] at this
        have h2 : OwnPl (w6.setCell ⟨g, 1, none⟩ (.int .i64 (-1))) w3.heap.size (.slice (some ⟨g, 0, none⟩) (ps.set 0 ((ps.getD 0 pl0).1, -1)).length c) (ps.set 0 ((ps.getD 0 pl0).1, -1)) := by
          unfold OwnPl
          rw [List.length_set]
          exact this
        have h3 := h2.reads
        rw [List.length_set] at h3
        exact h3
      rw [List.getElem?_eq_getElem (by rw [plCells_length]; omega)] at x1
      generalize (plCells ps)[1]'_ = y1 at x1
      clear v0 hv0 hv16 ho6 HO5 HR5 HP
      go_wp2
      go_ret2
      exact ⟨s, _, _, rfl, hs9, HY.out.1, by rw [List.length_set]; omega, HY.out.2⟩
    · have e1 : (v == 1) = false := by simp [v1]
      clear v0 v1 hv0 hv16 HO5 HR5 HP
      go_wp2
      go_ret2
      exact ⟨s, ps, _, rfl, hs9, OwnPl.reads HO6.out, by omega, HBw6.out⟩

end Go.Proofs.Ytpbdhpomlakinaa
