/- Plain facts on mending: what is found fits the parity, and what is lost is found. Conditions: columns. -/
import Derived.Test.YtphenphfficnaaaT6
namespace Go.Proofs.Ytphenphfficnaaa

theorem xorS_cancel (p b : ByteArray) (h : b.size ≤ p.size) : xorS (xorS p b) b = p := by
  refine text_ext (by rw [xorS_size, xorS_size]; omega) fun i _ => ?_
  exact xorS_back p b i
/-- What is found, put where it was lost, has the parity. -/
theorem mend_parity (xs : List ByteArray) (p : ByteArray) (m : Nat) (h : MendOk xs p m) : ColsOk (xs.set m (parOf (xs.set m p))) ∧ parOf (xs.set m (parOf (xs.set m p))) = p := by
  have hm := h.1
  have h3 := (mendOk_iff xs p m hm).1 h
  have hX : (parOf (xs.set m p)).size = 3 := parOf_size h.2
  refine ⟨((mendOk_iff xs (parOf (xs.set m p)) m hm).2 ⟨h3.1, hX, h3.2.2⟩).2, ?_⟩
  rw [← mendTo_eq xs (parOf (xs.set m p)) m hm h3.1, ← mendTo_eq xs p m hm h3.1]
  have hp := h3.2.1
  have hall := h3.2.2
  clear hX h
  match xs, m, hm, h3.1, hall with
  | [a], 0, _, _, _ => rfl
  | [a, b], 0, _, _, hall =>
    have hb : b.size = 3 := hall 1 (by simp) (by omega)
    show xorS (xorS p b) b = p
    exact xorS_cancel p b (by omega)
  | [a, b], 1, _, _, hall =>
    have ha : a.size = 3 := hall 0 (by simp) (by omega)
    show xorS (xorS p a) a = p
    exact xorS_cancel p a (by omega)
  | [a, b, c], 0, _, _, hall =>
    have hb : b.size = 3 := hall 1 (by simp) (by omega)
    have hc : c.size = 3 := hall 2 (by simp) (by omega)
    show xorS (xorS (xorS (xorS p b) c) b) c = p
    rw [xorS_assoc (xorS p b) c b, xorS_comm c b, ← xorS_assoc, xorS_cancel p b (by omega), xorS_cancel p c (by omega)]
  | [a, b, c], 1, _, _, hall =>
    have ha : a.size = 3 := hall 0 (by simp) (by omega)
    have hc : c.size = 3 := hall 2 (by simp) (by omega)
    show xorS (xorS (xorS (xorS p a) c) a) c = p
    rw [xorS_assoc (xorS p a) c a, xorS_comm c a, ← xorS_assoc, xorS_cancel p a (by omega), xorS_cancel p c (by omega)]
  | [a, b, c], 2, _, _, hall =>
    have ha : a.size = 3 := hall 0 (by simp) (by omega)
    have hb : b.size = 3 := hall 1 (by simp) (by omega)
    show xorS (xorS (xorS (xorS p a) b) a) b = p
    rw [xorS_assoc (xorS p a) b a, xorS_comm b a, ← xorS_assoc, xorS_cancel p a (by omega), xorS_cancel p b (by omega)]

theorem set_set {xs : List ByteArray} (m : Nat) (y p : ByteArray) : (xs.set m y).set m p = xs.set m p := List.set_set ..

/-- A column that is lost is found: the parity and all others give it, whatever stands there now. -/
theorem mend_back (xs : List ByteArray) (m : Nat) (h : ColsOk xs) (hm : m < xs.length) (y : ByteArray) :
    MendOk (xs.set m y) (parOf xs) m ∧ parOf ((xs.set m y).set m (parOf xs)) = xs.getD m ByteArray.empty := by
  have hP : (parOf xs).size = 3 := parOf_size h
  have hx : ∀ j, j < xs.length → (xs.getD j ByteArray.empty).size = 3 := h.2
  have hok : MendOk xs (parOf xs) m := (mendOk_iff xs (parOf xs) m hm).2 ⟨h.1.2, hP, fun j hj _ => hx j hj⟩
  refine ⟨⟨by rw [List.length_set]; exact hm, by rw [set_set]; exact hok.2⟩, ?_⟩
  rw [set_set, ← mendTo_eq xs (parOf xs) m hm h.1.2]
  have h3 := h.1.2
  clear hok hP h
  match xs, m, hm, h3, hx with
  | [a], 0, _, _, hx => show xorS ByteArray.empty a = a; exact xorS_none a
  | [a, b], 0, _, _, hx =>
    have ha : a.size = 3 := hx 0 (by simp)
    have hb : b.size = 3 := hx 1 (by simp)
    show xorS (xorS (xorS ByteArray.empty a) b) b = a
    rw [xorS_none, xorS_cancel a b (by omega)]
  | [a, b], 1, _, _, hx =>
    have ha : a.size = 3 := hx 0 (by simp)
    have hb : b.size = 3 := hx 1 (by simp)
    show xorS (xorS (xorS ByteArray.empty a) b) a = b
    rw [xorS_none, xorS_comm a b, xorS_cancel b a (by omega)]
  | [a, b, c], 0, _, _, hx =>
    have ha : a.size = 3 := hx 0 (by simp)
    have hb : b.size = 3 := hx 1 (by simp)
    have hc : c.size = 3 := hx 2 (by simp)
    show xorS (xorS (xorS (xorS (xorS ByteArray.empty a) b) c) b) c = a
    rw [xorS_none, xorS_assoc (xorS a b) c b, xorS_comm c b, ← xorS_assoc, xorS_cancel a b (by omega), xorS_cancel a c (by omega)]
  | [a, b, c], 1, _, _, hx =>
    have ha : a.size = 3 := hx 0 (by simp)
    have hb : b.size = 3 := hx 1 (by simp)
    have hc : c.size = 3 := hx 2 (by simp)
    show xorS (xorS (xorS (xorS (xorS ByteArray.empty a) b) c) a) c = b
    rw [xorS_none, xorS_comm a b, xorS_assoc (xorS b a) c a, xorS_comm c a, ← xorS_assoc, xorS_cancel b a (by omega), xorS_cancel b c (by omega)]
  | [a, b, c], 2, _, _, hx =>
    have ha : a.size = 3 := hx 0 (by simp)
    have hb : b.size = 3 := hx 1 (by simp)
    have hc : c.size = 3 := hx 2 (by simp)
    show xorS (xorS (xorS (xorS (xorS ByteArray.empty a) b) c) a) b = c
    rw [xorS_none, xorS_comm (xorS a b) c, xorS_assoc c (xorS a b) a, xorS_comm a b, xorS_cancel b a (by omega), xorS_cancel c b (by omega)]

theorem text_some {p : ByteArray} (h : 0 < p.size) : p.toList.isEmpty = false := by
  rw [Lib.toList_data]
  cases hp : p.data.toList with
  | nil =>
    have : p.data.toList.length = 0 := by rw [hp]; rfl
    have h2 : p.data.toList.length = p.size := by simp
    omega
  | cons x l => rfl

/-- The cells of texts, to be appended. -/
theorem news_strs {w : World} {b off : Nat} {xs : List ByteArray} (hc : ∀ j, j < xs.length → w.cell? ⟨b, off + j, none⟩ = some (.string (xs.getD j ByteArray.empty))) :
    ∀ j u, (xs.map Value.string)[j]? = some u → w.cell? ((⟨b, off, none⟩ : Addr).add j) = some u := fun j u hu => by
  have hj : j < xs.length := by have := (List.getElem?_eq_some_iff.1 hu).1; simpa using this
  have hadd : (⟨b, off, none⟩ : Addr).add j = ⟨b, off + j, none⟩ := by unfold Addr.add; split <;> simp_all
  rw [hadd, hc j hj]
  rw [List.getElem?_map, List.getElem?_eq_getElem hj] at hu
  rw [List.getD, List.getElem?_eq_getElem hj]
  exact hu

end Go.Proofs.Ytphenphfficnaaa
