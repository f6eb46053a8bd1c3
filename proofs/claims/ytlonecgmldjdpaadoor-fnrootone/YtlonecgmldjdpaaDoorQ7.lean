/- Words as a line, and numbers as words, of the program. Conditions: the table of powers of ten lies there; short texts. -/
import Derived.Test.YtlonecgmldjdpaaDoorQ6
import Derived.Test.YtlonecgmldjdpaaDoorShelf
import Derived.Lib.SmallJoins
import Derived.Lib.AppendIntMem
namespace Go.Proofs.YtlonecgmldjdpaaDoor
open Go.RowKit Go.Sort

/-- THE TABLE OF POWERS OF TEN lies there. -/
def Tab (w : World) : Prop := Lib.TabIs Tryd.prog w "internal/strconv.uint64pow10" .u64 Lib.pow10Tab
theorem tab_named : (Tryd.prog.globalNamed "internal/strconv.uint64pow10").isSome = true := by kernel_rfl
theorem Tab.below {w w' : World} (h : Tab w) (hB : Below w.heap.size w w') : Tab w' := by
  obtain ⟨g, hg⟩ := Option.isSome_iff_exists.1 tab_named
  exact Go.Joins.tab_stays hg h hB (Nat.le_refl _)

theorem itoa_dz (n : Int) (h : 0 ≤ n) : Lib.itoa n = dz n := by rw [Lib.itoa, if_neg (by omega)]; rfl
theorem itoa_int (n : Int) (h0 : 0 ≤ n) (h1 : n ≤ 9223372036854775807) (w : World) (hT : Tab w) :
    Calls Tryd.prog 17 #[.int .i64 n] w fun e w' => e = .returned (.string (tx (dz n))) ∧ Below w.heap.size w w' := by
  refine (Tryd.strconv_Itoa n (by omega) h1 w hT).mono ?_
  rintro e w' ⟨rfl, k, os, rfl⟩
  exact ⟨ret_text (by rw [itoa_dz n h0]; rfl), Lib.below_grow _ _ (Nat.le_refl _) _ _⟩

/-- WORDS THAT LIE BEHIND AN ADDRESS. -/
def WordsAt (w : World) (b o : Nat) (xs : List ByteArray) : Prop := ∀ (j : Nat) x, xs[j]? = some x → w.cell? ⟨b, o + j, none⟩ = some (.string x)
def lineT (xs : List ByteArray) : ByteArray := tx (Lib.join (xs.map (·.data.toList)) [32] ++ [10])
set_option maxRecDepth 100000 in
set_option maxHeartbeats 1000000 in
theorem lineOf_any (b o c : Nat) (xs : List ByteArray) (w : World) (hc : Hid (WordsAt w b o xs)) (hb : b < w.heap.size) (hcap : xs.length ≤ c) (hn : xs.length ≤ 1000) (hlen : Hid ((lineT xs).size ≤ 100000)) :
    Calls Tryd.prog 16 #[.slice (some ⟨b, o, none⟩) xs.length c] w fun e w' => e = .returned (.string (lineT xs)) ∧ Below w.heap.size w w' := by
  have hl : (Lib.join (xs.map (·.data.toList)) [32]).length ≤ 100000 := by
    have := hlen.out
    rw [lineT, tx_size, List.length_append] at this
    omega
  have HJ := Lib.hid (Tryd.strings_Join b o c xs ⟨#[32]⟩ w hc.out hb (by omega) hcap (by show (Lib.join (xs.map (·.data.toList)) [32]).length ≤ _; omega))
  have HR : Hid ((⟨(Lib.join (xs.map (·.data.toList)) [32]).toArray⟩ : ByteArray) ++ ⟨#[10]⟩ = lineT xs) := by
    show tx (Lib.join (xs.map (·.data.toList)) [32]) ++ tx [10] = _
    rw [tx_add]; rfl
  have hz : (⟨(Lib.join (xs.map (·.data.toList)) [32]).toArray⟩ : ByteArray).size ≤ 100000 := by
    show (tx (Lib.join (xs.map (·.data.toList)) [32])).size ≤ _
    rw [tx_size]; exact hl
  have HJ' : Hid (Calls Tryd.prog 43 #[.slice (some ⟨b, o, none⟩) xs.length c, .string ⟨#[32]⟩] w fun e w' => e = .returned (.string ⟨(Lib.join (xs.map (·.data.toList)) [32]).toArray⟩) ∧ Below w.heap.size w w') := HJ
  clear HJ hl hlen
  generalize (⟨(Lib.join (xs.map (·.data.toList)) [32]).toArray⟩ : ByteArray) = J at HJ' HR hz
  generalize lineT xs = L at HR ⊢
  go_enter Tryd.func16, Tryd.ntmps16
  go_wp2_with fail
  refine HJ'.out.mono ?_
  rintro e w1 ⟨rfl, hB1⟩
  go_wp2_with fail
  go_ret
  exact ⟨ret_text HR.out, hB1⟩

end Go.Proofs.YtlonecgmldjdpaaDoor
