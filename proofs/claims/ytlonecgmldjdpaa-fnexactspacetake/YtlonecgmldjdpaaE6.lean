/- Two roots: sizes of the second, shapes in a wider memory. Conditions: the row's own bound on sizes. -/
import Derived.Test.YtlonecgmldjdpaaE5
namespace Go.Proofs.Ytlonecgmldjdpaa
open Go.RowKit Go.Sort

set_option maxRecDepth 100000 in
set_option maxHeartbeats 1000000 in
theorem szRoot_at (t : Int) (a : Option Addr) (cap left : Nat) (vs : List VolD) (w : World) (hl : vs.length ≤ maxLen) (hle : left ≤ 1048576) (hnm : Hid (∀ j, j < vs.length → (vs.getD j vol0).name.size ≤ maxLen)) (hx : Hid (VolsAt w a vs)) :
    Calls Try.prog 24 #[.agg #[.int .i64 t, .slice a vs.length cap], .int .i64 (left : Int)] w (LeftIf (VoSmall 1048576 vs) left w) := by
  have hB : Below w.heap.size w (w.alloc (.cells #[.int .i64 t, .slice a vs.length cap] 52)) := (Below.refl _ _).alloc (Nat.le_refl _) _
  have HB := Lib.hid hB
  have HX := Lib.hid (hx.out.below hB)
  clear hB
  have HC := Lib.hid (szVolS_any 1048576 a cap left vs _ hl hnm (Nat.le_refl _) hle HX)
  go_enter Try.func24, Try.ntmps24
  go_wp2_with fail
  refine HC.out.mono ?_
  rintro e w1 ⟨he, hB1⟩
  have HB1 := Lib.hid (HB.out.trans (hB1.mono HB.out.size))
  clear hB1
  rcases he with rfl | ⟨r2, rfl, hr2, hs⟩
  · go_wp2
    go_ret
    exact ⟨.inl rfl, HB1.out⟩
  · have d1 : decide ((r2 : Int) < 0) = false := by simp
    have HS := Lib.hid hs
    clear hs
    go_wp2
    go_ret
    exact ⟨.inr ⟨r2, rfl, hr2, HS.out⟩, HB1.out⟩

theorem PlSh.wide {w : World} {lo hi lo' hi' : Nat} {a : Option Addr} {n : Nat} (h : PlSh w lo hi a n) (h1 : lo' ≤ lo) (h2 : hi ≤ hi') : PlSh w lo' hi' a n := by
  rcases h with h | ⟨b, off, e, hb, hb', hc⟩
  · exact .inl h
  · exact .inr ⟨b, off, e, by omega, by omega, hc⟩
theorem PtSh.wide {w : World} {lo hi lo' hi' : Nat} {a : Option Addr} {n : Nat} (h : PtSh w lo hi a n) (h1 : lo' ≤ lo) (h2 : hi ≤ hi') : PtSh w lo' hi' a n := by
  rcases h with h | ⟨b, off, e, hb, hb', hc⟩
  · exact .inl h
  · refine .inr ⟨b, off, e, by omega, by omega, fun j hj => ?_⟩
    obtain ⟨f1, f2, a', n', c', k1, k2, k3⟩ := hc j hj
    exact ⟨f1, f2, a', n', c', k1, k2, k3.wide h1 h2⟩
theorem VoSh.wide {w : World} {lo hi lo' hi' : Nat} {a : Option Addr} {n : Nat} (h : VoSh w lo hi a n) (h1 : lo' ≤ lo) (h2 : hi ≤ hi') : VoSh w lo' hi' a n := by
  rcases h with h | ⟨b, off, e, hb, hb', hc⟩
  · exact .inl h
  · refine .inr ⟨b, off, e, by omega, by omega, fun j hj => ?_⟩
    obtain ⟨f1, a', n', c', k1, k2, k3⟩ := hc j hj
    exact ⟨f1, a', n', c', k1, k2, k3.wide h1 h2⟩

/-- WHAT IS KNOWN ahead of the marks on two roots. -/
structure Rest2 (na nb : Nat) (ps : List PlD) (w w3 w5 w8 : World) (a3 a4 b4 a5 : Option Addr) (c5 : Nat) : Prop where
  b3 : Below w.heap.size w w3
  b35 : Below w3.heap.size w3 w5
  b58 : Below w5.heap.size w5 w8
  w0 : PlacesAt w3 a3 ps
  sh1 : VoSh w5 w3.heap.size w5.heap.size a4 na
  sh2 : VoSh w5 w3.heap.size w5.heap.size b4 nb
  own : OwnPl w8 w5.heap.size (.slice a5 ps.length c5) ps
theorem Rest2.shape1 {na nb : Nat} {ps : List PlD} {w w3 w5 w8 : World} {a3 a4 b4 a5 : Option Addr} {c5 : Nat} (h : Rest2 na nb ps w w3 w5 w8 a3 a4 b4 a5 c5) : VoSh w8 w3.heap.size w5.heap.size a4 na := h.sh1.mk (Mk.of_below h.b58 h.b35.size)
theorem Rest2.shape2 {na nb : Nat} {ps : List PlD} {w w3 w5 w8 w9 : World} {a3 a4 b4 a5 : Option Addr} {c5 : Nat} (h : Rest2 na nb ps w w3 w5 w8 a3 a4 b4 a5 c5) (hm : Mk w3.heap.size w5.heap.size w8 w9) : VoSh w9 w3.heap.size w5.heap.size b4 nb := (h.sh2.mk (Mk.of_below h.b58 h.b35.size)).mk hm
theorem Rest2.marked {na nb : Nat} {ps : List PlD} {w w3 w5 w8 w9 : World} {a3 a4 b4 a5 : Option Addr} {c5 : Nat} (h : Rest2 na nb ps w w3 w5 w8 a3 a4 b4 a5 c5) (hm : Mk w3.heap.size w5.heap.size w8 w9) :
    Below w.heap.size w w3 ∧ Below w3.heap.size w3 w9 ∧ OwnPl w9 w5.heap.size (.slice a5 ps.length c5) ps ∧ PlacesAt w9 a3 ps := by
  have hB : Below w3.heap.size w3 w9 := (h.b35.trans (h.b58.mono h.b35.size)).trans hm.low
  exact ⟨h.b3, hB, hm.own h.own (Nat.le_refl _), h.w0.below hB⟩

end Go.Proofs.Ytlonecgmldjdpaa
