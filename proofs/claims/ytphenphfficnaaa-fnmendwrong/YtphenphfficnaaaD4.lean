/- What is drawn for XorOf: two texts of at most five bytes. Conditions: none. -/
import Derived.Test.YtphenphfficnaaaD3
namespace Go.Proofs.Ytphenphfficnaaa
open Go.RowKit

/-- TWO DRAWN TEXTS. -/
def Drawn2 (m : Nat) (w : World) (e : Ending) (w' : World) : Prop := ∃ s t : ByteArray, e = .returned (.tuple #[.string s, .string t]) ∧ s.size ≤ m ∧ t.size ≤ m ∧ Below w.heap.size w w'

set_option maxHeartbeats 1000000 in
theorem drawXor_any (a : Option Addr) (len cap : Nat) (z : List Int) (w : World) (h : IsBytes w a len cap z) :
    Calls Try.prog 19 #[.slice a len cap] w (Drawn2 5 w) := by
  have H := Lib.hid h
  clear h
  go_enter Try.func19, Try.ntmps19
  go_wp2_with fail
  refine (l6Open_any a len cap z _ H.out).mono ?_
  rintro e w1 ⟨B, rfl, hR, hB⟩
  go_wp2_with fail
  refine (l71Text_any w.heap.size B 0 5 _ (by omega) (by omega) hR).mono ?_
  rintro e w2 ⟨s, q, rfl, hs, hq, hR2, hg⟩
  go_wp2_with fail
  refine (l71Text_any w.heap.size B q 5 _ (by omega) (by omega) hR2).mono ?_
  rintro e w3 ⟨t, q2, rfl, ht, hq2, hR3, hg3⟩
  go_wp2
  go_ret2
  exact ⟨s, t, rfl, hs, ht, hB.trans ((Below.ofGrown hg hR.1 hB.size).trans (Below.ofGrown hg3 hR.1 (by have := hB.size; have := hg.size; omega)))⟩

end Go.Proofs.Ytphenphfficnaaa
