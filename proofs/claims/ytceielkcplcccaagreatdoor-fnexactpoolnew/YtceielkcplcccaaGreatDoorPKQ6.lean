/- RootText of the specification. Conditions: the row's own bounds. Words as a line, and numbers as words, of the program. Conditions: the table of powers of ten lies there; short texts. -/
import Derived.Test.YtceielkcplcccaaGreatDoorPKQ4
import Derived.Test.YtceielkcplcccaaGreatDoorPKShelf
import Derived.Lib.SmallJoins
import Derived.Lib.AppendIntMem
namespace Go.Proofs.YtceielkcplcccaaGreatDoor
open Go.RowKit Go.Sort

/-- THE TEXT OF A ROOT, with its sum. -/
def bodyT (r : RootD) : ByteArray := roT r r.vols.length
def sumT (r : RootD) : Int := sumTo (bodyT r) (bodyT r).size
def fullT (r : RootD) : ByteArray := bodyT r ++ ⟨#[115, 117, 109, 32]⟩ ++ tx (dz (sumT r)) ++ ⟨#[10]⟩
noncomputable def rootT (n : Int) (r : RootD) : ByteArray := if tt (RootOkP n r) = true then fullT r else ⟨#[]⟩
theorem rootT_ok {n : Int} {r : RootD} (h : RootOkP n r) : rootT n r = fullT r := by rw [rootT, if_pos (tt_true h)]
theorem rootT_no {n : Int} {r : RootD} (h : ¬RootOkP n r) : rootT n r = ⟨#[]⟩ := by rw [rootT, if_neg (by rw [tt_false h]; decide)]
theorem sumT_bd (r : RootD) (h : SmallRoot r) : 0 ≤ sumT r ∧ sumT r ≤ 9223372036854775807 := by
  have hz : (bodyT r).size ≤ 2600 := roT_size r h _ (Nat.le_refl _)
  have := sumTo_bdw (bodyT r) (bodyT r).size (by omega)
  unfold sumT
  omega

set_option maxRecDepth 100000 in
set_option maxHeartbeats 2000000 in
theorem specText_any (n : Int) (r : RootD) (a : Option Addr) (cap : Nat) (w : World) (hl : r.vols.length ≤ maxLen) (hnm : Hid (∀ j, j < r.vols.length → (r.vols.getD j vol0).name.size ≤ maxLen)) (hx : Hid (VolsAt w a r.vols)) :
    Calls Tryz.prog 23 #[.int .i64 n, .agg #[.int .i64 r.txg, .slice a r.vols.length cap]] w fun e w' => e = .returned (.string (rootT n r)) ∧ Below w.heap.size w w' := by
  have hB0 : Below w.heap.size w (w.alloc (.cells #[.int .i64 r.txg, .slice a r.vols.length cap] 25)) := (Below.refl _ _).alloc (Nat.le_refl _) _
  have HO := Lib.hid (specRoot_any n r a cap _ hl hnm (hx.out.below hB0))
  have HB0 := Lib.hid hB0
  clear hB0
  by_cases hok : RootOkP n r
  · rw [tt_true hok] at HO
    have HT := Lib.hid (fun W h => l2Text_any r a cap W hok.small h)
    have hz : (bodyT r).size ≤ 2600 := roT_size r hok.small _ (Nat.le_refl _)
    have HC := Lib.hid (fun W => l2Check_any (bodyT r) (by omega) W)
    have hsb := sumT_bd r hok.small
    have HD := Lib.hid (fun W => l6Dec_int (sumT r) hsb.1 hsb.2 W)
    have hdz := dz_size (sumT r) hsb.2
    have HR : Hid (rootT n r = bodyT r ++ ⟨#[115, 117, 109, 32]⟩ ++ tx (dz (sumT r)) ++ ⟨#[10]⟩) := rootT_ok hok
    have HC' : Hid (∀ W, Calls Tryz.prog 45 #[.string (bodyT r)] W fun e w' => e = .returned (.int .i64 (sumT r)) ∧ W = w') := HC
    have HT' : Hid (∀ W, Hid (VolsAt W a r.vols) → Calls Tryz.prog 43 #[.agg #[.int .i64 r.txg, .slice a r.vols.length cap]] W fun e w' => e = .returned (.string (bodyT r)) ∧ Below W.heap.size W w') := HT
    clear HC HT hok
    generalize rootT n r = R at HR ⊢
    generalize tx (dz (sumT r)) = D at HR HD hdz
    generalize sumT r = S at HC' HD hsb
    generalize bodyT r = T at HR HC' HT' hz
    obtain ⟨t, vs⟩ := r
    simp only at HO HT' hx HB0 ⊢
    clear hl hnm
    go_enter Tryz.func23, Tryz.ntmps23
    go_wp2_with fail
    refine HO.out.mono ?_
    rintro e w1 ⟨rfl, hB1⟩
    have c0 : w1.cell? ⟨w.heap.size, 0, none⟩ = some (.int .i64 t) := (hB1.cell (p := ⟨w.heap.size, 0, none⟩) (by simp)).trans (by rw [World.cell?_alloc_mark]; rfl)
    have c1 : w1.cell? ⟨w.heap.size, 1, none⟩ = some (.slice a vs.length cap) := (hB1.cell (p := ⟨w.heap.size, 1, none⟩) (by simp)).trans (by rw [World.cell?_alloc_mark]; rfl)
    have HB1 := Lib.hid (HB0.out.trans (hB1.mono HB0.out.size))
    clear hB1 HB0 HO
    go_wp2_with fail
    refine (HT'.out _ (hx.out.below HB1.out)).mono ?_
    rintro e w2 ⟨rfl, hB2⟩
    have HB2 := Lib.hid (HB1.out.trans (hB2.mono HB1.out.size))
    clear hB2 HB1 HT' c0 c1
    go_wp2_with fail
    refine (HC'.out _).mono ?_
    rintro e w3 ⟨rfl, rfl⟩
    go_wp2_with fail
    refine (HD.out _).mono ?_
    rintro e w3 ⟨rfl, hB3⟩
    have HB3 := Lib.hid (HB2.out.trans (hB3.mono HB2.out.size))
    clear hB3 HB2
    go_wp2_with fail
    go_ret
    exact ⟨ret_text HR.out.symm, HB3.out⟩
  · rw [tt_false hok] at HO
    have HR := Lib.hid (rootT_no hok)
    generalize rootT n r = R at HR ⊢
    obtain ⟨t, vs⟩ := r
    simp only at HO HB0 ⊢
    clear hl hnm hok
    go_enter Tryz.func23, Tryz.ntmps23
    go_wp2_with fail
    refine HO.out.mono ?_
    rintro e w1 ⟨rfl, hB1⟩
    have HB1 := Lib.hid (HB0.out.trans (hB1.mono HB0.out.size))
    clear hB1 HB0 HO
    go_wp2_with fail
    go_ret
    exact ⟨ret_text HR.out.symm, HB1.out⟩

end Go.Proofs.YtceielkcplcccaaGreatDoor

namespace Go.Proofs.YtceielkcplcccaaGreatDoor
open Go.RowKit Go.Sort

/-- THE TABLE OF POWERS OF TEN lies there. -/
def Tab (w : World) : Prop := Lib.TabIs Tryz.prog w "internal/strconv.uint64pow10" .u64 Lib.pow10Tab
theorem tab_named : (Tryz.prog.globalNamed "internal/strconv.uint64pow10").isSome = true := by kernel_rfl
theorem Tab.below {w w' : World} (h : Tab w) (hB : Below w.heap.size w w') : Tab w' := by
  obtain ⟨g, hg⟩ := Option.isSome_iff_exists.1 tab_named
  exact Go.Joins.tab_stays hg h hB (Nat.le_refl _)

theorem itoa_dz (n : Int) (h : 0 ≤ n) : Lib.itoa n = dz n := by rw [Lib.itoa, if_neg (by omega)]; rfl
theorem itoa_int (n : Int) (h0 : 0 ≤ n) (h1 : n ≤ 9223372036854775807) (w : World) (hT : Tab w) :
    Calls Tryz.prog 28 #[.int .i64 n] w fun e w' => e = .returned (.string (tx (dz n))) ∧ Below w.heap.size w w' := by
  refine (Tryz.strconv_Itoa n (by omega) h1 w hT).mono ?_
  rintro e w' ⟨rfl, k, os, rfl⟩
  exact ⟨ret_text (by rw [itoa_dz n h0]; rfl), Lib.below_grow _ _ (Nat.le_refl _) _ _⟩

/-- WORDS THAT LIE BEHIND AN ADDRESS. -/
def WordsAt (w : World) (b o : Nat) (xs : List ByteArray) : Prop := ∀ (j : Nat) x, xs[j]? = some x → w.cell? ⟨b, o + j, none⟩ = some (.string x)
def lineT (xs : List ByteArray) : ByteArray := tx (Lib.join (xs.map (·.data.toList)) [32] ++ [10])
set_option maxRecDepth 100000 in
set_option maxHeartbeats 1000000 in
theorem lineOf_any (b o c : Nat) (xs : List ByteArray) (w : World) (hc : Hid (WordsAt w b o xs)) (hb : b < w.heap.size) (hcap : xs.length ≤ c) (hn : xs.length ≤ 1000) (hlen : Hid ((lineT xs).size ≤ 100000)) :
    Calls Tryz.prog 27 #[.slice (some ⟨b, o, none⟩) xs.length c] w fun e w' => e = .returned (.string (lineT xs)) ∧ Below w.heap.size w w' := by
  have hl : (Lib.join (xs.map (·.data.toList)) [32]).length ≤ 100000 := by
    have := hlen.out
    rw [lineT, tx_size, List.length_append] at this
    omega
  have HJ := Lib.hid (Tryz.strings_Join b o c xs ⟨#[32]⟩ w hc.out hb (by omega) hcap (by show (Lib.join (xs.map (·.data.toList)) [32]).length ≤ _; omega))
  have HR : Hid ((⟨(Lib.join (xs.map (·.data.toList)) [32]).toArray⟩ : ByteArray) ++ ⟨#[10]⟩ = lineT xs) := by
    show tx (Lib.join (xs.map (·.data.toList)) [32]) ++ tx [10] = _
    rw [tx_add]; rfl
  have hz : (⟨(Lib.join (xs.map (·.data.toList)) [32]).toArray⟩ : ByteArray).size ≤ 100000 := by
    show (tx (Lib.join (xs.map (·.data.toList)) [32])).size ≤ _
    rw [tx_size]; exact hl
  have HJ' : Hid (Calls Tryz.prog 50 #[.slice (some ⟨b, o, none⟩) xs.length c, .string ⟨#[32]⟩] w fun e w' => e = .returned (.string ⟨(Lib.join (xs.map (·.data.toList)) [32]).toArray⟩) ∧ Below w.heap.size w w') := HJ
  clear HJ hl hlen
  generalize (⟨(Lib.join (xs.map (·.data.toList)) [32]).toArray⟩ : ByteArray) = J at HJ' HR hz
  generalize lineT xs = L at HR ⊢
  go_enter Tryz.func27, Tryz.ntmps27
  go_wp2_with fail
  refine HJ'.out.mono ?_
  rintro e w1 ⟨rfl, hB1⟩
  go_wp2_with fail
  go_ret
  exact ⟨ret_text HR.out, hB1⟩

end Go.Proofs.YtceielkcplcccaaGreatDoor
