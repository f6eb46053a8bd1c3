/- What marks leave: places and boxes in other memory. Conditions: none. -/
import Derived.Test.YtlonecgmldjdpaaE4
namespace Go.Proofs.Ytlonecgmldjdpaa
open Go.RowKit Go.Sort

/-- What lies ahead of the marked memory. -/
theorem Mk.placesLow {lo hi : Nat} {w0 w w' : World} {a : Option Addr} {ps : List PlD} (h : Mk lo hi w w') (hp : PlacesAt w0 a ps) (hB : Below w0.heap.size w0 w) (hl : w0.heap.size ≤ lo) : PlacesAt w' a ps :=
  hp.below (hB.trans (h.low.mono hl))
/-- What lies behind it. -/
theorem Mk.own {lo hi base K : Nat} {w w' : World} {e : TypeId} {v : Value} {n : Nat} {xs : List Value} (h : Mk lo hi w w') (ho : w.ownsRow base e K v n xs) (hb : hi ≤ base) : w'.ownsRow base e K v n xs := by
  refine ⟨ho.1, ?_⟩
  rcases ho.2 with hn | ⟨g, cap, cur, hv, hg, hh, rest⟩
  · exact .inl hn
  · exact .inr ⟨g, cap, cur, hv, hg, (h.high g (by omega) (Array.getElem?_eq_some_iff.1 hh).1).trans hh, rest⟩
theorem Mk.cellLow {lo hi : Nat} {w w' : World} {b o : Nat} {v : Value} (h : Mk lo hi w w') (hc : w.cell? ⟨b, o, none⟩ = some v) (hb : b < lo) : w'.cell? ⟨b, o, none⟩ = some v := (h.low.cell (p := ⟨b, o, none⟩) hb).trans hc
theorem Mk.cellHigh {lo hi : Nat} {w w' : World} {b o : Nat} {v : Value} (h : Mk lo hi w w') (hc : w.cell? ⟨b, o, none⟩ = some v) (hb : hi ≤ b) : w'.cell? ⟨b, o, none⟩ = some v :=
  (World.cell?_of_block (w := w) (h.high b hb (World.block_lt_of_cell? w _ hc))).trans hc
theorem Mk.volsLow {lo hi : Nat} {w0 w w' : World} {a : Option Addr} {vs : List VolD} (h : Mk lo hi w w') (hp : VolsAt w0 a vs) (hB : Below w0.heap.size w0 w) (hl : w0.heap.size ≤ lo) : VolsAt w' a vs :=
  hp.below (hB.trans (h.low.mono hl))

end Go.Proofs.Ytlonecgmldjdpaa
