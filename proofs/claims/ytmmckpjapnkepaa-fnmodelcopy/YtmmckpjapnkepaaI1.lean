/- Finding a volume, and whether a model is ok, of the specification. Conditions: none but the row's own bound on sizes. -/
import Derived.Test.YtmmckpjapnkepaaI0
import Derived.Test.YtmmckpjapnkepaaTE
namespace Go.Proofs.Ytmmckpjapnkepaa
open Go.RowKit Go.Sort

set_option maxRecDepth 100000 in
set_option maxHeartbeats 1000000 in
theorem l14Find_any (a : Option Addr) (cap : Nat) (ss : List ShD) (nm : ByteArray) (w : World) (hl : ss.length ≤ maxLen) (hx : Hid (ShAt w a ss)) :
    Calls Try.prog 40 #[.agg #[.slice a ss.length cap], .string nm] w fun e w' => (∃ z, e = .returned (.int .i64 z) ∧ WhereSh ss nm z) ∧ Below w.heap.size w w' := by
  unfold maxLen at hl
  have hB : Below w.heap.size w (w.alloc (.cells #[.slice a ss.length cap] 25)) := (Below.refl _ _).alloc (Nat.le_refl _) _
  have HB := Lib.hid hB
  have c0 : (w.alloc (.cells #[.slice a ss.length cap] 25)).cell? ⟨w.heap.size, 0, none⟩ = some (.slice a ss.length cap) := by rw [World.cell?_alloc_mark]; rfl
  have HX := Lib.hid (hx.out.below hB)
  clear hB
  go_enter Try.func40, Try.ntmps40
  go_wp2_with fail
  generalize w.alloc (.cells #[.slice a ss.length cap] 25) = w1 at HB c0 HX ⊢
  go_loop [5] (fun i => ∃ k : Nat, i = .int .i64 (k : Int) ∧ k ≤ ss.length ∧ Hid (∀ j, j < k → nmAt ss j ≠ nm)) (fun i => ss.length - (intOf i).toNat)
  case atStart => exact ⟨0, rfl, by omega, fun j hj => by omega⟩
  case round =>
    obtain ⟨k, rfl, hk, hall⟩ := hrel
    by_cases hlt : k < ss.length
    · obtain ⟨b, off, rfl, hc⟩ := HX.out.resolve_left (fun e => by subst e; simp at hlt)
      obtain ⟨e0, _⟩ := hc k hlt
      clear hc
      have Hg := Lib.hid (show (ss.getD k sh0).name = nmAt ss k from rfl)
      rw [Hg.out] at e0
      clear Hg
      by_cases he : nmAt ss k = nm
      · have HF : Hid (WhereSh ss nm (k : Int)) := .inl ⟨k, rfl, ⟨hlt, he⟩, hall.out⟩
        have hd := text_yes he
        generalize nmAt ss k = x at e0 hd
        clear he
        go_wp2
        go_ret
        exact ⟨⟨_, rfl, HF.out⟩, HB.out⟩
      · have HN : Hid (∀ j, j < k + 1 → nmAt ss j ≠ nm) := fun j hj => by
          by_cases e : j = k
          · subst e; exact he
          · exact hall.out j (by omega)
        have hd := text_no he
        generalize nmAt ss k = x at e0 hd
        clear he
        go_wp2
        exact ⟨⟨k + 1, by go_num, by omega, HN⟩, by simp [intOf]; omega⟩
    · have HF : Hid (WhereSh ss nm (-1)) := .inr ⟨rfl, fun ⟨j, hj, h⟩ => hall.out j (by omega) h⟩
      go_wp2
      go_ret
      exact ⟨⟨_, rfl, HF.out⟩, HB.out⟩

/-- A PART OF A MODEL THAT IS OK. -/
def FineTo (ss : List ShD) (k : Nat) : Prop := (∀ j, j < k → ShFine (ss.getD j sh0)) ∧ ∀ i j, i < j → j < k → nmAt ss i ≠ nmAt ss j
theorem FineTo.all {ss : List ShD} (h4 : ss.length ≤ 4) (h : FineTo ss ss.length) : MdFine ss := ⟨h4, h.1, h.2⟩
theorem where_same {ss : List ShD} {k : Nat} {z : Int} (hlt : k < ss.length) (h : WhereSh ss (nmAt ss k) z) : z = (k : Int) ↔ ∀ i, i < k → nmAt ss i ≠ nmAt ss k := by
  rcases h with ⟨q, rfl, ⟨h1, h2⟩, h3⟩ | ⟨_, h⟩
  · constructor
    · intro e
      have : q = k := by omega
      subst this
      exact h3
    · intro hall
      have : q = k := by
        rcases Nat.lt_trichotomy q k with hl | he | hl
        · exact (hall q hl h2).elim
        · exact he
        · exact (h3 k hl rfl).elim
      omega
  · exact (h ⟨k, hlt, rfl⟩).elim

set_option maxRecDepth 100000 in
set_option maxHeartbeats 2000000 in
theorem specMdOk_any (a : Option Addr) (cap : Nat) (ss : List ShD) (w : World) (hs : MdSmall ss) (hx : Hid (ShAt w a ss)) :
    Calls Try.prog 38 #[.agg #[.slice a ss.length cap]] w fun e w' => e = .returned (.bool (tt (MdFine ss))) ∧ Below w.heap.size w w' := by
  obtain ⟨hl, hsm⟩ := hs
  have HS := Lib.hid hsm
  clear hsm
  by_cases h4 : 4 < ss.length
  · have d4 : decide (4 < (ss.length : Int)) = true := by simp; omega
    rw [tt_false (fun h : MdFine ss => by have := h.1; omega)]
    go_enter Try.func38, Try.ntmps38
    go_wp2
    go_ret
    exact ⟨rfl, (Below.refl _ _).alloc (Nat.le_refl _) _⟩
  · have d4 : decide (4 < (ss.length : Int)) = false := by simp; omega
    have hB : Below w.heap.size w (w.alloc (.cells #[.slice a ss.length cap] 25)) := (Below.refl _ _).alloc (Nat.le_refl _) _
    have HB := Lib.hid hB
    have c0 : (w.alloc (.cells #[.slice a ss.length cap] 25)).cell? ⟨w.heap.size, 0, none⟩ = some (.slice a ss.length cap) := by rw [World.cell?_alloc_mark]; rfl
    have HC0 := Lib.hid c0
    have HX := Lib.hid (hx.out.below hB)
    go_enter Try.func38, Try.ntmps38
    go_wp2_with fail
    clear hB c0
    generalize w.alloc (.cells #[.slice a ss.length cap] 25) = w1 at HB HC0 HX ⊢
    go_loopw [3] (fun i wr => ∃ k : Nat, i = .int .i64 (k : Int) ∧ k ≤ ss.length ∧ Hid (Below w1.heap.size w1 wr) ∧ Hid (FineTo ss k)) (fun i _ => ss.length - (intOf i).toNat)
    case atStart => exact ⟨0, rfl, by omega, Below.refl _ _, fun j hj => by omega, fun i j _ hj => by omega⟩
    case round =>
      obtain ⟨k, rfl, hk, hBr, hall⟩ := hrel
      have c0 := cell_below hBr.out HC0.out
      by_cases hlt : k < ss.length
      · have i1 : (k : Int) < (ss.length : Int) := by omega
        have i0 : (0 : Int) ≤ (k : Int) := by omega
        obtain ⟨b, off, rfl, hc⟩ := (HX.out.below hBr.out).resolve_left (fun e => by subst e; simp at hlt)
        obtain ⟨e0, v, e1, hv⟩ := hc k hlt
        obtain ⟨s0, s1, s2⟩ := HS.out k hlt
        clear hc
        obtain ⟨a1, cap1, rfl, hc1, hm1, hx1⟩ := hv
        have HX1 := Lib.hid hx1
        have HNA := Lib.hid (show (ss.getD k sh0).name = nmAt ss k from rfl)
        have HFK := Lib.hid (show (ss.getD k sh0).name = nmAt ss k ∧ (ss.getD k sh0).blocks = blAt ss k from ⟨rfl, rfl⟩)
        rw [HFK.out.1] at e0 s0
        rw [HFK.out.2] at e1 s1 s2 HX1 hc1
        have HS2 := Lib.hid s2
        have HXr := Lib.hid (HX.out.below hBr.out)
        have HXM := Lib.hid (fun W (hW : Below wr.heap.size wr W) => l14Find_any (some ⟨b, off, none⟩) cap ss (nmAt ss k) W (by unfold maxLen; omega) (HXr.out.below hW))
        have HSF : Hid (∀ z, WhereSh ss (nmAt ss k) z → (z = (k : Int) ↔ ∀ i, i < k → nmAt ss i ≠ nmAt ss k)) := fun z h => where_same hlt h
        have HOK : Hid (MdFine ss → (NameOk (nmAt ss k) ∧ (blAt ss k).length = 3 ∧ AllTx Short9 (blAt ss k)) ∧ ∀ i, i < k → nmAt ss i ≠ nmAt ss k) := fun h => ⟨h.2.1 k hlt, fun i hi => h.2.2 i k hi hlt⟩
        have HNX : Hid ((NameOk (nmAt ss k) ∧ (blAt ss k).length = 3 ∧ AllTx Short9 (blAt ss k)) → (∀ i, i < k → nmAt ss i ≠ nmAt ss k) → FineTo ss (k + 1)) := fun h1 h2 => ⟨fun j hj => by
            by_cases e : j = k
            · subst e; exact h1
            · exact hall.out.1 j (by omega), fun i j hij hj => by
            by_cases e : j = k
            · subst e; exact h2 i hij
            · exact hall.out.2 i j hij (by omega)⟩
        clear hx1 s2 HFK HNA
        generalize nmAt ss k = nm at e0 s0 HXM HSF HOK HNX
        generalize blAt ss k = xs at e1 s1 HX1 HS2 hc1 HOK HNX
        have hBa : Below wr.heap.size wr (wr.alloc (.cells #[.string nm, .slice a1 xs.length cap1] 35)) := (Below.refl _ _).alloc (Nat.le_refl _) _
        have HBa := Lib.hid hBa
        have m0 : (wr.alloc (.cells #[.string nm, .slice a1 xs.length cap1] 35)).cell? ⟨wr.heap.size, 0, none⟩ = some (.string nm) := by rw [World.cell?_alloc_mark]; rfl
        have m1 : (wr.alloc (.cells #[.string nm, .slice a1 xs.length cap1] 35)).cell? ⟨wr.heap.size, 1, none⟩ = some (.slice a1 xs.length cap1) := by rw [World.cell?_alloc_mark]; rfl
        have HM := Lib.hid (And.intro m0 m1)
        have HCa := Lib.hid (cell_below hBa c0)
        have HN := Lib.hid (l2Name_any nm (wr.alloc (.cells #[.string nm, .slice a1 xs.length cap1] 35)) (by unfold maxLen; omega))
        clear hBa m0 m1
        by_cases hn : NameOk nm
        · rw [tt_true hn] at HN
          have Hn := Lib.hid hn
          clear hn
          by_cases h3 : xs.length = 3
          · have d3 : ((xs.length : Int) != 3) = false := by simp; omega
            have H3 := Lib.hid h3
            have hx3 : xs.length ≤ 3 := by omega
            clear h3
            go_wp2_with fail
            refine HN.out.mono ?_
            rintro e w2 ⟨rfl, rfl⟩
            obtain ⟨m0, m1⟩ := HM.out
            have c0 := HCa.out
            go_wp2_with fail
            refine (HXM.out _ HBa.out).mono ?_
            rintro e w2 ⟨⟨z, rfl, hz⟩, hB2⟩
            have m0 := cell_below hB2 HM.out.1
            have m1 := cell_below hB2 HM.out.2
            have c0 := cell_below hB2 HCa.out
            have HB2 := Lib.hid (HBa.out.trans (hB2.mono HBa.out.size))
            have HZ := Lib.hid hz
            clear hz hB2
            by_cases hzk : z = (k : Int)
            · subst hzk
              have HD := Lib.hid ((HSF.out _ HZ.out).1 rfl)
              have d5 : ((k : Int) != (k : Int)) = false := by simp
              have HBw := Lib.hid (hBr.out.trans (HB2.out.mono hBr.out.size))
              have HX2 := Lib.hid (HX1.out.below HB2.out)
              clear c0
              go_wp2_with fail
              go_loop [5] (fun i => ∃ q : Nat, i = .int .i64 (q : Int) ∧ q ≤ xs.length ∧ Hid (∀ j, j < q → (xs.getD j ByteArray.empty).size ≤ 9)) (fun i => xs.length - (intOf i).toNat)
              case atStart => exact ⟨0, rfl, by omega, fun j hj => by omega⟩
              case round =>
                obtain ⟨q, rfl, hq, hall2⟩ := hrel
                by_cases hlq : q < xs.length
                · obtain ⟨b2, off2, rfl, hc2⟩ := HX2.out.resolve_left (fun e => by subst e; simp at hlq)
                  have e2 := hc2 q hlq
                  have s3 := HS2.out q hlq
                  clear hc2
                  have HSh : Hid (MdFine ss → (xs.getD q ByteArray.empty).size ≤ 9) := fun h => (HOK.out h).1.2.2 q hlq
                  have HNx : Hid ((xs.getD q ByteArray.empty).size ≤ 9 → ∀ j, j < q + 1 → (xs.getD j ByteArray.empty).size ≤ 9) := fun h j hj => by
                    by_cases e : j = q
                    · subst e; exact h
                    · exact hall2.out j (by omega)
                  generalize xs.getD q ByteArray.empty = x at e2 s3 HSh HNx
                  by_cases h9 : 9 < x.size
                  · have d9 : decide (9 < (x.size : Int)) = true := by simp; omega
                    have HF : Hid (tt (MdFine ss) = false) := tt_false (fun h => by have := HSh.out h; omega)
                    go_wp2
                    go_ret
                    exact ⟨ret_bool' HF.out.symm, HB.out.trans (HBw.out.mono HB.out.size)⟩
                  · have d9 : decide (9 < (x.size : Int)) = false := by simp; omega
                    have HN9 := Lib.hid (HNx.out (by omega))
                    go_wp2
                    exact ⟨⟨q + 1, by go_num, by omega, HN9⟩, by simp [intOf]; omega⟩
                · have HA : Hid (AllTx Short9 xs) := fun j hj => hall2.out j (by omega)
                  have HNk := Lib.hid (HNX.out ⟨Hn.out, H3.out, HA.out⟩ HD.out)
                  clear hall2 HA
                  go_wp2
                  exact ⟨⟨k + 1, by go_num, by omega, HBw, HNk⟩, by simp [intOf]; omega⟩
            · have d5 : (z != (k : Int)) = true := by simp [hzk]
              have HF : Hid (tt (MdFine ss) = false) := tt_false (fun h => hzk ((HSF.out _ HZ.out).2 (HOK.out h).2))
              clear hzk
              go_wp2
              go_ret
              exact ⟨ret_bool' HF.out.symm, HB.out.trans ((hBr.out.trans (HB2.out.mono hBr.out.size)).mono HB.out.size)⟩
          · have d3 : ((xs.length : Int) != 3) = true := by simp; omega
            have HF : Hid (tt (MdFine ss) = false) := tt_false (fun h => h3 (HOK.out h).1.2.1)
            clear h3
            go_wp2_with fail
            refine HN.out.mono ?_
            rintro e w2 ⟨rfl, rfl⟩
            obtain ⟨m0, m1⟩ := HM.out
            go_wp2
            go_ret
            exact ⟨ret_bool' HF.out.symm, HB.out.trans ((hBr.out.trans (HBa.out.mono hBr.out.size)).mono HB.out.size)⟩
        · rw [tt_false hn] at HN
          have HF : Hid (tt (MdFine ss) = false) := tt_false (fun h => hn (HOK.out h).1.1)
          clear hn
          go_wp2_with fail
          refine HN.out.mono ?_
          rintro e w2 ⟨rfl, rfl⟩
          go_wp2
          go_ret
          exact ⟨ret_bool' HF.out.symm, HB.out.trans ((hBr.out.trans (HBa.out.mono hBr.out.size)).mono HB.out.size)⟩
      · have HF : Hid (tt (MdFine ss) = true) := tt_true (FineTo.all (by omega) (by rw [show ss.length = k by omega]; exact hall.out))
        go_wp2
        go_ret
        exact ⟨ret_bool' HF.out.symm, HB.out.trans (hBr.out.mono HB.out.size)⟩

end Go.Proofs.Ytmmckpjapnkepaa
