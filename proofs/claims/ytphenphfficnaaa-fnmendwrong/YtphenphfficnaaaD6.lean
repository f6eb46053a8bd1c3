/- What is drawn for ColsOf, TextOf, ParityOf and MendOf. Conditions: none. -/
import Derived.Test.YtphenphfficnaaaD5
namespace Go.Proofs.Ytphenphfficnaaa
open Go.RowKit

/-- DRAWN TEXTS, in a row of their own. -/
def StrsDrawn (w : World) (e : Ending) (w' : World) : Prop :=
  ∃ (a : Option Addr) (cap : Nat) (xs : List ByteArray), e = .returned (.slice a xs.length cap) ∧ 1 ≤ xs.length ∧ xs.length ≤ 6 ∧ w'.ownsRow w.heap.size 9 1 (.slice a xs.length cap) xs.length (xs.map Value.string) ∧ Below w.heap.size w w'
def TextDrawn (w : World) (e : Ending) (w' : World) : Prop :=
  ∃ (a : Option Addr) (cap : Nat) (xs : List ByteArray) (n : Int), e = .returned (.tuple #[.slice a xs.length cap, .int .i64 n]) ∧ xs.length ≤ 6 ∧ (-10 ≤ n ∧ n ≤ 30) ∧ w'.ownsRow w.heap.size 9 1 (.slice a xs.length cap) xs.length (xs.map Value.string) ∧ Below w.heap.size w w'
def MendDrawn (w : World) (e : Ending) (w' : World) : Prop :=
  ∃ (a : Option Addr) (cap : Nat) (xs : List ByteArray) (p : ByteArray) (i : Int), e = .returned (.tuple #[.slice a xs.length cap, .string p, .int .i64 i]) ∧ xs.length ≤ 6 ∧ (-10 ≤ i ∧ i ≤ 30) ∧ w'.ownsRow w.heap.size 9 1 (.slice a xs.length cap) xs.length (xs.map Value.string) ∧ Below w.heap.size w w'

set_option maxHeartbeats 1000000 in
theorem drawCols_any (a : Option Addr) (len cap : Nat) (z : List Int) (w : World) (h : IsBytes w a len cap z) :
    Calls Try.prog 22 #[.slice a len cap] w (Drawn 10 w) := by
  have H := Lib.hid h
  clear h
  go_enter Try.func22, Try.ntmps22
  go_wp2_with fail
  refine (l6Open_any a len cap z _ H.out).mono ?_
  rintro e w1 ⟨B, rfl, hR, hB⟩
  go_wp2_with fail
  refine (pick_any w.heap.size B 0 20 _ (by omega) hR).mono ?_
  rintro e w2 ⟨v, rfl, hv0, hvn, hR2, hg2⟩
  have hv20 := hvn (by omega)
  obtain ⟨m, hm⟩ : ∃ m : Nat, 9 + v / 18 = (m : Int) := ⟨(9 + v / 18).toNat, by omega⟩
  have hm10 : m ≤ 10 := by omega
  clear hvn
  go_wp2_with fail
  refine (l71Text_any w.heap.size B 1 m _ (by omega) (by omega) hR2).mono ?_
  rintro e w3 ⟨s, q, rfl, hs, hq, hR3, hg3⟩
  go_wp2
  go_ret
  exact ⟨s, rfl, by omega, hB.trans ((Below.ofGrown hg2 hR.1 hB.size).trans (Below.ofGrown hg3 hR.1 (by have := hB.size; have := hg2.size; omega)))⟩

set_option maxHeartbeats 1000000 in
theorem drawParity_any (a : Option Addr) (len cap : Nat) (z : List Int) (w : World) (h : IsBytes w a len cap z) :
    Calls Try.prog 29 #[.slice a len cap] w (StrsDrawn w) := by
  have H := Lib.hid h
  clear h
  go_enter Try.func29, Try.ntmps29
  go_wp2_with fail
  refine (l6Open_any a len cap z _ H.out).mono ?_
  rintro e w1 ⟨B, rfl, hR, hB⟩
  go_wp2_with fail
  refine (l71Cols_any w.heap.size B 0 _ (by omega) hR).mono ?_
  rintro e w2 ⟨v, xs, q, rfl, h1, h6, hq, hrow, hg⟩
  obtain ⟨a2, cap2, rfl, _, _, _⟩ := strs_of_owns hrow.1
  go_wp2
  go_ret
  exact ⟨a2, cap2, xs, rfl, h1, h6, owns_base hrow.1 hB.size, hB.trans (Below.ofGrown hg hR.1 hB.size)⟩

set_option maxRecDepth 100000 in
set_option maxHeartbeats 2000000 in
theorem drawText_any (a : Option Addr) (len cap : Nat) (z : List Int) (w : World) (h : IsBytes w a len cap z) :
    Calls Try.prog 27 #[.slice a len cap] w (TextDrawn w) := by
  have H := Lib.hid h
  clear h
  go_enter Try.func27, Try.ntmps27
  go_wp2_with fail
  refine (l6Open_any a len cap z _ H.out).mono ?_
  rintro e w1 ⟨B, rfl, hR, hB⟩
  go_wp2_with fail
  refine (l71Cols_any w.heap.size B 0 _ (by omega) hR).mono ?_
  rintro e w2 ⟨v, xs, q, rfl, h1, h6, hq, hrow, hg⟩
  obtain ⟨a2, cap2, rfl, _, _, _⟩ := strs_of_owns hrow.1
  go_wp2_with fail
  refine (pick_any w.heap.size B q 3 _ (by omega) hrow.2.1).mono ?_
  rintro e w3 ⟨v3, rfl, hv30, hv3n, hR3, hg3⟩
  have hv3 := hv3n (by omega)
  have hrow3 := hrow.grown hR3 hg3
  have hgw3 := hg.trans hg3
  clear hv3n
  go_wp2_with fail
  refine (pick_any w.heap.size B (q + 1) 2 _ (by omega) hR3).mono ?_
  rintro e w4 ⟨v4, rfl, hv40, hv4n, hR4, hg4⟩
  have hrow4 := Lib.hid (hrow3.grown hR4 hg4)
  have hgw4 := Lib.hid (hgw3.trans hg4)
  have q1 := hB.size
  have hB4 : Below w.heap.size w w4 := hB.trans (Below.ofGrown hgw4.out hR.1 q1)
  have HB4 := Lib.hid hB4
  have q4 := hB4.size
  have HB1 := hR.1
  clear hv4n hrow hg hrow3 hgw3 hR3 hg3 hg4 hB4
  by_cases v0 : v4 = 0
  · subst v0
    have d1 : decide (v3 < (xs.length : Int) * 3) = true := by simp; omega
    go_wp2_with fail
    refine (l71Text_any w.heap.size B (q + 1 + 1) 8 _ (by omega) (by omega) hR4).mono ?_
    rintro e w5 ⟨s, q5, rfl, hs, hq5, hR5, hg5⟩
    go_wp2_with fail
    generalize htt : s ++ _ = t
    have hts : t.size = s.size + 1 := by rw [← htt, ByteArray.size_append]; rfl
    have Ht := Lib.hid hts
    have ht9 : t.size ≤ 9 := by omega
    clear htt hts
    refine (specCols_any t (by unfold maxLen; omega) _).mono ?_
    rintro e w6 ⟨v6, rfl, hown6, hB6⟩
    have hcl : (colsOf t).length ≤ 3 := by unfold colsOf; split <;> (try rw [colsTo_length]) <;> (first | omega | simp)
    obtain ⟨a6, cap6, rfl, _, _, _⟩ := strs_of_owns hown6
    have q5' := hg5.size
    have HF : Hid (Below w.heap.size w w6) := HB4.out.trans ((Below.ofGrown hg5 HB1 q4).trans (hB6.mono (by omega)))
    have Ho6 := Lib.hid (owns_base hown6 (show w.heap.size ≤ w5.heap.size by omega))
    clear hown6 hB6 hg5
    generalize colsOf t = ys at hcl Ho6 ⊢
    go_wp2
    go_ret2
    exact ⟨a6, cap6, ys, _, rfl, by omega, by omega, Ho6.out, HF.out⟩
  · have e0 : (v4 == 0) = false := beq_eq_false_iff_ne.2 v0
    clear v0
    go_wp2_with fail
    refine (pick_any w.heap.size B (q + 1 + 1) 12 _ (by omega) hR4).mono ?_
    rintro e w5 ⟨v5, rfl, hv50, hv5n, hR5, hg5⟩
    have hv5 := hv5n (by omega)
    have hrow5 := Lib.hid (hrow4.out.grown hR5 hg5)
    have HF : Hid (Below w.heap.size w w5) := HB4.out.trans (Below.ofGrown hg5 HB1 q4)
    clear hv5n hg5
    go_wp2
    go_ret2
    exact ⟨a2, cap2, xs, _, rfl, h6, by omega, owns_base hrow5.out.1 q1, HF.out⟩

set_option maxRecDepth 100000 in
set_option maxHeartbeats 4000000 in
theorem drawMend_any (a : Option Addr) (len cap : Nat) (z : List Int) (w : World) (h : IsBytes w a len cap z) :
    Calls Try.prog 33 #[.slice a len cap] w (MendDrawn w) := by
  have H := Lib.hid h
  clear h
  go_enter Try.func33, Try.ntmps33
  go_wp2_with fail
  refine (l6Open_any a len cap z _ H.out).mono ?_
  rintro e w1 ⟨B, rfl, hR, hB⟩
  have q1 := hB.size
  have HB1 := hR.1
  go_wp2_with fail
  refine (l71Cols_any w.heap.size B 0 _ (by omega) hR).mono ?_
  rintro e w2 ⟨v, xs, q, rfl, h1, h6, hq, hrow, hg⟩
  obtain ⟨a2, cap2, rfl, hlc, _, hst⟩ := strs_of_owns hrow.1
  have HR1 := Lib.hid hrow
  have Hst := Lib.hid hst
  have HBw2 : Hid (Below w.heap.size w w2) := hB.trans (Below.ofGrown hg HB1 q1)
  have q2 := HBw2.out.size
  clear hrow hst hg hB
  go_wp2_with fail
  refine (specParity_any a2 cap2 xs _ (by unfold maxLen; omega) Hst).mono ?_
  rintro e w3 ⟨rfl, hB3⟩
  have HR3 : Hid (Row w.heap.size B q w1.heap.size w3 (.slice a2 xs.length cap2) xs) := ⟨owns_below HR1.out.1 hB3, HR1.out.2.1.kept (grown_below hB3 Option.none) (by simp), HR1.out.2.2.1, by have := HR1.out.2.2.2; have := hB3.size; omega⟩
  have HBw3 : Hid (Below w.heap.size w w3) := HBw2.out.trans (hB3.mono q2)
  have q3 := HBw3.out.size
  generalize parRes xs = p
  clear hB3
  go_wp2_with fail
  refine (pick_any w.heap.size B q _ _ (by omega) HR3.out.2.1).mono ?_
  rintro e w4 ⟨v4, rfl, hv40, hv4n, hR4, hg4⟩
  have hv4 := hv4n (by omega)
  have HR4 := Lib.hid (HR3.out.grown hR4 hg4)
  have HBw4 : Hid (Below w.heap.size w w4) := HBw3.out.trans (Below.ofGrown hg4 HB1 q3)
  have q4 := HBw4.out.size
  clear hv4n hR4 hg4
  go_wp2_with fail
  refine (pick_any w.heap.size B (q + 1) 12 _ (by omega) HR4.out.2.1).mono ?_
  rintro e w5 ⟨v5, rfl, hv50, hv5n, hR5, hg5⟩
  have hv5 := hv5n (by omega)
  have HR5 := Lib.hid (HR4.out.grown hR5 hg5)
  have HBw5 : Hid (Below w.heap.size w w5) := HBw4.out.trans (Below.ofGrown hg5 HB1 q4)
  have q5 := HBw5.out.size
  clear hv5n hR5 hg5
  obtain ⟨m, hm⟩ : ∃ m : Int, v4 - v5 / 11 = m := ⟨_, rfl⟩
  have hmb : -10 ≤ m ∧ m ≤ 30 := by omega
  go_wp2_with fail
  refine (pick_any w.heap.size B (q + 1 + 1) 3 _ (by omega) HR5.out.2.1).mono ?_
  rintro e w6 ⟨v6, rfl, hv60, hv6n, hR6, hg6⟩
  have HR6 := Lib.hid (HR5.out.grown hR6 hg6)
  have HBw6 : Hid (Below w.heap.size w w6) := HBw5.out.trans (Below.ofGrown hg6 HB1 q5)
  have q6 := HBw6.out.size
  clear hv6n hR6 hg6
  go_upto_if 26 with (fail)
  go_cut [7] (fun s7 wx => ∃ (p : ByteArray) (r : Nat), s7 = .string p ∧ r ≤ q + 20 ∧ Hid (Row w.heap.size B r w1.heap.size wx (.slice a2 xs.length cap2) xs) ∧ Hid (Below w.heap.size w wx))
  case first =>
    by_cases v0 : v6 = 0
    · subst v0
      go_wp2_with fail
      refine (l71Text_any w.heap.size B (q + 1 + 1 + 1) 3 _ (by omega) (by omega) HR6.out.2.1).mono ?_
      rintro e w7 ⟨s, q7, rfl, hs, hq7, hR7, hg7⟩
      have HR7 := Lib.hid (HR6.out.grown hR7 hg7)
      have HBw7 : Hid (Below w.heap.size w w7) := HBw6.out.trans (Below.ofGrown hg7 HB1 q6)
      clear hR7 hg7
      go_wp2_with fail
      go_meet
      exact ⟨s, q7, rfl, by omega, HR7, HBw7⟩
    · have e0 : (v6 == 0) = false := beq_eq_false_iff_ne.2 v0
      clear v0
      go_wp2_with fail
      go_meet
      exact ⟨p, q + 1 + 1 + 1, rfl, by omega, HR6, HBw6⟩
  case rest =>
    obtain ⟨p, r, rfl, hr, HR7, HBw7⟩ := hcut
    have q7 := HBw7.out.size
    by_cases hin : 0 ≤ m ∧ m ≤ (xs.length : Int) - 1
    · obtain ⟨k, rfl⟩ := Int.eq_ofNat_of_zero_le hin.1
      have hkl : k < xs.length := by omega
      go_wp2_with fail
      refine (l6In_yes _ _ _ _ hin).mono ?_
      rintro e w8 ⟨rfl, rfl⟩
      go_wp2_with fail
      refine (pick_any w.heap.size B r 2 _ (by omega) HR7.out.2.1).mono ?_
      rintro e w9 ⟨v9, rfl, hv90, hv9n, hR9, hg9⟩
      have HR9 := Lib.hid (HR7.out.grown hR9 hg9)
      have HBw9 : Hid (Below w.heap.size w w9) := HBw7.out.trans (Below.ofGrown hg9 HB1 q7)
      have q9 := HBw9.out.size
      clear hv9n hR9 hg9
      by_cases v0 : v9 = 0
      · subst v0
        go_wp2_with fail
        refine (l71Text_any w.heap.size B (r + 1) 3 _ (by omega) (by omega) HR9.out.2.1).mono ?_
        rintro e w10 ⟨x, q10, rfl, hx, hq10, hR10, hg10⟩
        have HR10 := HR9.out.grown hR10 hg10
        have HBw10 : Below w.heap.size w w10 := HBw9.out.trans (Below.ofGrown hg10 HB1 q9)
        obtain ⟨g, c', hv, hgb, hgl⟩ := HR10.1.form (by omega)
        cases hv
        obtain ⟨hset, hcell, hfr⟩ := owns_set HR10.1 k hkl (.string x)
        rw [← List.map_set] at hset
        have hBs := HBw10.setCell (p := ⟨g, k, none⟩) (by show _ ≤ g; omega) (.string x)
        have Hset := Lib.hid hset
        have HBs := Lib.hid hBs
        clear hset hBs hR10 hg10 HR10 HBw10
        go_wp2
        go_ret3
        exact ⟨some ⟨g, 0, none⟩, cap2, xs.set k x, p, (k : Int), by rw [List.length_set]; rfl, by rw [List.length_set]; exact h6, hmb, by rw [List.length_set]; exact owns_base Hset.out q1, HBs.out⟩
      · have e0 : (v9 == 0) = false := beq_eq_false_iff_ne.2 v0
        clear v0
        go_wp2
        go_ret3
        exact ⟨_, _, xs, p, _, rfl, h6, hmb, owns_base HR9.out.1 q1, HBw9.out⟩
    · go_wp2_with fail
      refine (l6In_no _ _ _ _ hin).mono ?_
      rintro e w8 ⟨rfl, rfl⟩
      clear hin
      go_wp2
      go_ret3
      exact ⟨_, _, xs, p, _, rfl, h6, hmb, owns_base HR7.out.1 q1, HBw7.out⟩

end Go.Proofs.Ytphenphfficnaaa
