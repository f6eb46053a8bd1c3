/- A volume less: rows of one's own from which an element is taken out in place. Conditions: none. -/
import Derived.Test.YtmmckpjapnkepaaI6
import Derived.Laws.IdiomCopy
namespace Go.Proofs.Ytmmckpjapnkepaa
open Go.RowKit Go.Sort

def layL : List Value → Nat → List Value → List Value
  | ys, _, [] => ys
  | ys, o, v :: r => layL (ys.set o v) (o + 1) r
theorem layL_len : ∀ (vs ys : List Value) (o : Nat), (layL ys o vs).length = ys.length
  | [], _, _ => rfl
  | v :: r, ys, o => by show (layL (ys.set o v) (o + 1) r).length = _; rw [layL_len r, List.length_set]
theorem layL_get : ∀ (vs ys : List Value) (o j : Nat), (layL ys o vs)[j]? = if o ≤ j ∧ j < o + vs.length ∧ j < ys.length then vs[j - o]? else ys[j]?
  | [], ys, o, j => by
    show ys[j]? = _
    rw [if_neg (by simp; omega)]
  | v :: r, ys, o, j => by
    show (layL (ys.set o v) (o + 1) r)[j]? = _
    rw [layL_get r, List.length_set, List.length_cons]
    by_cases e : o = j
    · subst e
      rw [if_neg (by omega)]
      by_cases hl : o < ys.length
      · rw [if_pos ⟨Nat.le_refl _, by omega, hl⟩, List.getElem?_set_self hl, Nat.sub_self]; rfl
      · rw [if_neg (by omega), List.getElem?_set, if_pos rfl, if_neg hl, List.getElem?_eq_none (by omega)]
    · rw [List.getElem?_set_ne e]
      by_cases h : o + 1 ≤ j ∧ j < o + 1 + r.length ∧ j < ys.length
      · rw [if_pos h, if_pos ⟨by omega, by omega, h.2.2⟩, show j - o = (j - (o + 1)) + 1 by omega, List.getElem?_cons_succ]
      · rw [if_neg h, if_neg (by omega)]
theorem own_setCells {base K : Nat} {e : TypeId} {g n cap : Nat} : ∀ (vs : List Value) (o : Nat) (w : World) (ys : List Value), w.ownsRow base e K (.slice (some ⟨g, 0, none⟩) n cap) n ys → (w.setCells g o vs).ownsRow base e K (.slice (some ⟨g, 0, none⟩) n cap) n (layL ys o vs)
  | [], _, _, _, h => h
  | v :: r, o, w, ys, h => own_setCells r (o + 1) (w.setCell ⟨g, o, none⟩ v) (ys.set o v) (own_set h o v)
theorem own_setCells_other {base K : Nat} {e : TypeId} {v : Value} {n : Nat} {xs : List Value} {g : Nat} (hp : v.ownBlock ≠ some g) : ∀ (vs : List Value) (o : Nat) (w : World), w.ownsRow base e K v n xs → (w.setCells g o vs).ownsRow base e K v n xs
  | [], _, _, h => h
  | u :: r, o, w, h => own_setCells_other hp r (o + 1) (w.setCell ⟨g, o, none⟩ u) (own_other h g o u hp)
theorem Blk.setCells_other {D g : Nat} {cs : Array Value} {t : TypeId} (hne : g ≠ D) : ∀ (vs : List Value) (o : Nat) (w : World), Blk w D cs t → Blk (w.setCells g o vs) D cs t
  | [], _, _, h => h
  | u :: r, o, w, h => Blk.setCells_other hne r (o + 1) (w.setCell ⟨g, o, none⟩ u) (h.other g o u hne)
theorem Below.setCells_own {n g : Nat} {w0 : World} (hg : n ≤ g) : ∀ (vs : List Value) (o : Nat) (w : World), Below n w0 w → Below n w0 (w.setCells g o vs)
  | [], _, _, h => h
  | u :: r, o, w, h => Below.setCells_own hg r (o + 1) (w.setCell ⟨g, o, none⟩ u) (h.setCell (p := ⟨g, o, none⟩) hg u)
theorem own_cut {w : World} {base K : Nat} {e : TypeId} {g n m cap : Nat} {ys : List Value} (h : w.ownsRow base e K (.slice (some ⟨g, 0, none⟩) n cap) n ys) (hm : m ≤ n) : w.ownsRow base e K (.slice (some ⟨g, 0, none⟩) m cap) m (ys.take (m * K)) := by
  have hle : m * K ≤ n * K := Nat.mul_le_mul_right K hm
  refine ⟨by rw [List.length_take, h.1]; omega, .inr ?_⟩
  rcases h.2 with ⟨hv, _⟩ | ⟨g', cap', cur, hv, hb, hg, hkc, hcm, hcs, hx⟩
  · cases hv
  · cases hv
    exact ⟨g, cap, cur, rfl, hb, hg, by omega, hcm, hcs, by rw [← hx, List.take_take, Nat.min_eq_left hle]⟩

theorem erase_get (ss : List ShD) (k j : Nat) : (ss.eraseIdx k).getD j sh0 = ss.getD (if j < k then j else j + 1) sh0 := by
  rw [List.getD_eq_getElem?_getD, List.getElem?_eraseIdx, List.getD_eq_getElem?_getD]
  split <;> rfl
theorem erase_len {ss : List ShD} {k : Nat} (hk : k < ss.length) : (ss.eraseIdx k).length = ss.length - 1 := by rw [List.length_eraseIdx, if_pos hk]

/-- A VOLUME LESS, in place; what lies behind the rest does not matter. -/
theorem OwnSh.erase {w : World} {base : Nat} {ss : List ShD} {gs cap k : Nat} {ys : List Value} {g : Nat → Nat} (k1 : w.ownsRow base 35 2 (.slice (some ⟨gs, 0, none⟩) ss.length cap) ss.length ys) (k2 : ∀ j, j < ss.length → ShC w base ss g ys j) (k3 : ∀ i j, i < j → j < ss.length → g i ≠ g j)
    (hk : k < ss.length) (zs : List Value) : OwnSh ((w.setCells gs (k * 2) (ys.drop ((k + 1) * 2))).setCells gs ((ss.length - 1) * 2) zs) base (.slice (some ⟨gs, 0, none⟩) (ss.length - 1) cap) (ss.eraseIdx k) := by
  have hyl : ys.length = ss.length * 2 := k1.1
  have hcell : ∀ j r, j < ss.length - 1 → r < 2 → ((layL (layL ys (k * 2) (ys.drop ((k + 1) * 2))) ((ss.length - 1) * 2) zs).take ((ss.length - 1) * 2))[j * 2 + r]? = ys[(if j < k then j else j + 1) * 2 + r]? := by
    intro j r hj hr
    rw [List.getElem?_take, if_pos (by omega), layL_get, if_neg (by omega), layL_get, List.length_drop, hyl]
    by_cases h : j < k
    · rw [if_neg (by omega), if_pos h]
    · rw [if_pos ⟨by omega, by omega, by omega⟩, if_neg h, List.getElem?_drop, show (k + 1) * 2 + (j * 2 + r - k * 2) = (j + 1) * 2 + r by omega]
  refine ⟨(layL (layL ys (k * 2) (ys.drop ((k + 1) * 2))) ((ss.length - 1) * 2) zs).take ((ss.length - 1) * 2), fun j => g (if j < k then j else j + 1), ?_, fun j hj => ?_, fun i j hij hj => ?_⟩
  · rw [erase_len hk]
    exact own_cut (own_setCells zs _ _ _ (own_setCells (ys.drop ((k + 1) * 2)) _ _ _ k1)) (by omega)
  · rw [erase_len hk] at hj
    obtain ⟨c0, c, c1, c2⟩ := k2 (if j < k then j else j + 1) (by split <;> omega)
    unfold ShC
    rw [erase_get]
    have e0 := hcell j 0 hj (by omega)
    have e1 := hcell j 1 hj (by omega)
    have hne := own_apart k1 c2 (by decide) gs rfl
    exact ⟨e0.trans c0, c, e1.trans c1, own_setCells_other hne zs _ _ (own_setCells_other hne _ _ _ c2)⟩
  · rw [erase_len hk] at hj
    by_cases h1 : i < k
    · by_cases h2 : j < k
      · simp only [if_pos h1, if_pos h2]; exact k3 i j hij (by omega)
      · simp only [if_pos h1, if_neg h2]; exact k3 i (j + 1) (by omega) (by omega)
    · simp only [if_neg h1, if_neg (show ¬j < k by omega)]; exact k3 (i + 1) (j + 1) (by omega) (by omega)

theorem nmAt_erase (ss : List ShD) (k j : Nat) : nmAt (ss.eraseIdx k) j = nmAt ss (if j < k then j else j + 1) := by unfold nmAt; rw [erase_get]
theorem fine_erase {ss : List ShD} (h : MdFine ss) {k : Nat} (hk : k < ss.length) : MdFine (ss.eraseIdx k) := by
  have hl := erase_len hk
  have h4 := h.1
  refine ⟨by omega, fun j hj => ?_, fun i j hij hj => ?_⟩
  · rw [erase_get]
    exact h.2.1 _ (by split <;> omega)
  · rw [nmAt_erase, nmAt_erase]
    exact h.2.2 _ _ (by split <;> split <;> omega) (by split <;> omega)

theorem dropTo_no {ss : List ShD} {nm : ByteArray} (h : ¬MdFine ss) : dropTo ss nm = ([], 4) := by unfold dropTo; rw [if_neg h]
theorem dropTo_none {ss : List ShD} {nm : ByteArray} (h : MdFine ss) (hh : ¬HasNm ss nm) : dropTo ss nm = (ss, 2) := by unfold dropTo; rw [if_pos h, if_neg hh]
theorem dropTo_any {ss : List ShD} {nm : ByteArray} (h : MdFine ss) (hh : HasNm ss nm) : dropTo ss nm = (ss.eraseIdx (whereSh ss nm), 0) := by unfold dropTo; rw [if_pos h, if_pos hh]
theorem drop_fine (ss : List ShD) (nm : ByteArray) : MdFine (dropTo ss nm).1 := by
  by_cases h : MdFine ss
  · by_cases hh : HasNm ss nm
    · rw [dropTo_any h hh]; exact fine_erase h (whereSh_at hh).1
    · rw [dropTo_none h hh]; exact h
  · rw [dropTo_no h]; exact ⟨by simp, fun j hj => by simp at hj, fun i j _ hj => by simp at hj⟩

end Go.Proofs.Ytmmckpjapnkepaa
