/- Volumes as one thinks of them: plain data, when they are ok, and how they lie in memory. Conditions: none. -/
import Derived.Test.YtmmckpjapnkepaaGT3
import Derived.Test.YtmmckpjapnkepaaGT5
import Derived.Test.YtmmckpjapnkepaaGT9
import Derived.Test.YtmmckpjapnkepaaHT3
import Derived.Test.YtmmckpjapnkepaaNM
namespace Go.Proofs.Ytmmckpjapnkepaa
open Go.RowKit Go.Sort

structure ShD where
  name : ByteArray
  blocks : List ByteArray
def sh0 : ShD := ⟨ByteArray.empty, []⟩
def nmAt (ss : List ShD) (j : Nat) : ByteArray := (ss.getD j sh0).name
def blAt (ss : List ShD) (j : Nat) : List ByteArray := (ss.getD j sh0).blocks
def Short9 (t : ByteArray) : Prop := t.size ≤ 9
/-- A VOLUME IS OK; A MODEL IS OK. -/
def ShFine (s : ShD) : Prop := NameOk s.name ∧ s.blocks.length = 3 ∧ AllTx Short9 s.blocks
def AllSh (P : ShD → Prop) (ss : List ShD) : Prop := ∀ j, j < ss.length → P (ss.getD j sh0)
def Distinct (ss : List ShD) : Prop := ∀ i j, i < j → j < ss.length → nmAt ss i ≠ nmAt ss j
def MdFine (ss : List ShD) : Prop := ss.length ≤ 4 ∧ AllSh ShFine ss ∧ Distinct ss
def HasNm (ss : List ShD) (nm : ByteArray) : Prop := ∃ j, j < ss.length ∧ nmAt ss j = nm
/-- WHERE A VOLUME IS. -/
def At (ss : List ShD) (nm : ByteArray) (k : Nat) : Prop := k < ss.length ∧ nmAt ss k = nm
def WhereSh (ss : List ShD) (nm : ByteArray) (z : Int) : Prop := (∃ k : Nat, z = (k : Int) ∧ At ss nm k ∧ ∀ j, j < k → nmAt ss j ≠ nm) ∨ (z = -1 ∧ ¬HasNm ss nm)
theorem at_one {ss : List ShD} (h : Distinct ss) {nm : ByteArray} {i j : Nat} (hi : At ss nm i) (hj : At ss nm j) : i = j := by
  rcases Nat.lt_trichotomy i j with hl | he | hl
  · exact (h i j hl hj.1 (hi.2.trans hj.2.symm)).elim
  · exact he
  · exact (h j i hl hi.1 (hj.2.trans hi.2.symm)).elim

/-- VOLUMES THAT LIE BEHIND AN ADDRESS. -/
def ShAt (w : World) (a : Option Addr) (ss : List ShD) : Prop :=
  ss = [] ∨ ∃ b off, a = some ⟨b, off, none⟩ ∧ ∀ j, j < ss.length → w.cell? ⟨b, off + j * 2, none⟩ = some (.string (ss.getD j sh0).name) ∧ ∃ v, w.cell? ⟨b, off + j * 2 + 1, none⟩ = some v ∧ TxV w v (ss.getD j sh0).blocks
def ShV (w : World) (v : Value) (ss : List ShD) : Prop := ∃ a cap, v = .slice a ss.length cap ∧ ss.length ≤ cap ∧ cap ≤ maxLen ∧ ShAt w a ss
theorem ShAt.below {w w' : World} {a : Option Addr} {ss : List ShD} (h : ShAt w a ss) (hB : Below w.heap.size w w') : ShAt w' a ss := by
  rcases h with h | ⟨b, off, e, hc⟩
  · exact .inl h
  · refine .inr ⟨b, off, e, fun j hj => ?_⟩
    obtain ⟨h1, v, h3, h4⟩ := hc j hj
    exact ⟨cell_below hB h1, v, cell_below hB h3, h4.below hB⟩
theorem ShV.below {w w' : World} {v : Value} {ss : List ShD} (h : ShV w v ss) (hB : Below w.heap.size w w') : ShV w' v ss := by
  obtain ⟨a, cap, e, h1, h2, h3⟩ := h; exact ⟨a, cap, e, h1, h2, h3.below hB⟩
theorem ShV.at {w : World} {a : Option Addr} {n c : Nat} {ss : List ShD} (h : ShV w (.slice a n c) ss) : ShAt w a ss := by
  obtain ⟨a', cap, e, _, _, h3⟩ := h
  injection e with e
  rw [e]; exact h3
/-- SMALL ENOUGH. -/
def ShSmall (s : ShD) : Prop := s.name.size ≤ 1048576 ∧ s.blocks.length ≤ 1048576 ∧ ∀ j, j < s.blocks.length → (s.blocks.getD j ByteArray.empty).size ≤ 1048576
def MdSmall (ss : List ShD) : Prop := ss.length ≤ 1048576 ∧ AllSh ShSmall ss
theorem ShFine.small {s : ShD} (h : ShFine s) : ShSmall s := ⟨by have := h.1.1.2; omega, by have := h.2.1; omega, fun j hj => by have := h.2.2 j hj; unfold Short9 at this; omega⟩
theorem MdFine.small {ss : List ShD} (h : MdFine ss) : MdSmall ss := ⟨by have := h.1; omega, fun j hj => (h.2.1 j hj).small⟩

/-- THE CELLS OF VOLUMES that lie in rows of their own: g tells where the texts of each lie. -/
def ShC (w : World) (base : Nat) (ss : List ShD) (g : Nat → Nat) (ys : List Value) (j : Nat) : Prop :=
  ys[j * 2]? = some (.string (ss.getD j sh0).name) ∧ ∃ cap, ys[j * 2 + 1]? = some (.slice (some ⟨g j, 0, none⟩) (ss.getD j sh0).blocks.length cap) ∧ OwnTx w base (.slice (some ⟨g j, 0, none⟩) (ss.getD j sh0).blocks.length cap) (ss.getD j sh0).blocks
/-- VOLUMES OF ONE's OWN. -/
def OwnSh (w : World) (base : Nat) (v : Value) (ss : List ShD) : Prop :=
  ∃ (ys : List Value) (g : Nat → Nat), w.ownsRow base 35 2 v ss.length ys ∧ (∀ j, j < ss.length → ShC w base ss g ys j) ∧ ∀ i j, i < j → j < ss.length → g i ≠ g j
theorem ShC.below {w w' : World} {base : Nat} {ss : List ShD} {g : Nat → Nat} {ys : List Value} {j : Nat} (h : ShC w base ss g ys j) (hB : Below w.heap.size w w') : ShC w' base ss g ys j := by
  obtain ⟨h1, c, h2, h3⟩ := h; exact ⟨h1, c, h2, own_below h3 hB⟩
theorem ShC.mono {w : World} {base base' : Nat} {ss : List ShD} {g : Nat → Nat} {ys : List Value} {j : Nat} (h : ShC w base ss g ys j) (hb : base' ≤ base) : ShC w base' ss g ys j := by
  obtain ⟨h1, c, h2, h3⟩ := h; exact ⟨h1, c, h2, own_mono h3 hb⟩
theorem ShC.far {w : World} {base : Nat} {ss : List ShD} {g : Nat → Nat} {ys : List Value} {j : Nat} (h : ShC w base ss g ys j) (p o : Nat) (u : Value) (hp : p < base) : ShC (w.setCell ⟨p, o, none⟩ u) base ss g ys j := by
  obtain ⟨h1, c, h2, h3⟩ := h; exact ⟨h1, c, h2, own_far h3 p o u hp⟩
theorem ShC.gb {w w' : World} {base : Nat} {ss : List ShD} {g : Nat → Nat} {ys : List Value} {j : Nat} {r : Option Nat} (h : ShC w base ss g ys j) (hg : w.grownBy w' r) (hne : r ≠ some (g j)) : ShC w' base ss g ys j := by
  obtain ⟨h1, c, h2, h3⟩ := h; exact ⟨h1, c, h2, own_gb h3 hg (fun i e => by rw [e] at hne; simp only [Value.ownBlock]; exact fun k => hne k.symm)⟩
theorem ShC.lt {w : World} {base : Nat} {ss : List ShD} {g : Nat → Nat} {ys : List Value} {j : Nat} (h : ShC w base ss g ys j) : base ≤ g j ∧ g j < w.heap.size := by
  obtain ⟨_, c, _, h3⟩ := h; exact h3.lt _ rfl
theorem OwnSh.below {w w' : World} {base : Nat} {v : Value} {ss : List ShD} (h : OwnSh w base v ss) (hB : Below w.heap.size w w') : OwnSh w' base v ss := by
  obtain ⟨ys, g, h1, h2, h3⟩ := h; exact ⟨ys, g, own_below h1 hB, fun j hj => (h2 j hj).below hB, h3⟩
theorem OwnSh.mono {w : World} {base base' : Nat} {v : Value} {ss : List ShD} (h : OwnSh w base v ss) (hb : base' ≤ base) : OwnSh w base' v ss := by
  obtain ⟨ys, g, h1, h2, h3⟩ := h; exact ⟨ys, g, own_mono h1 hb, fun j hj => (h2 j hj).mono hb, h3⟩
theorem OwnSh.far {w : World} {base : Nat} {v : Value} {ss : List ShD} (h : OwnSh w base v ss) (p o : Nat) (u : Value) (hp : p < base) : OwnSh (w.setCell ⟨p, o, none⟩ u) base v ss := by
  obtain ⟨ys, g, h1, h2, h3⟩ := h; exact ⟨ys, g, own_far h1 p o u hp, fun j hj => (h2 j hj).far p o u hp, h3⟩
/-- A store into a block of another type leaves them. -/
theorem OwnSh.other {w : World} {base : Nat} {v : Value} {ss : List ShD} (h : OwnSh w base v ss) {D : Nat} {cs : Array Value} {t : TypeId} (hb : Blk w D cs t) (h1 : 35 ≠ t) (h2 : 9 ≠ t) (o : Nat) (u : Value) : OwnSh (w.setCell ⟨D, o, none⟩ u) base v ss := by
  obtain ⟨ys, g, k1, k2, k3⟩ := h
  refine ⟨ys, g, own_other k1 D o u (own_blk_ne k1 hb h1), fun j hj => ?_, k3⟩
  obtain ⟨c1, c, c2, c3⟩ := k2 j hj
  exact ⟨c1, c, c2, own_other c3 D o u (own_blk_ne c3 hb h2)⟩
/-- So does whatever turns a map, or a block of another type. -/
theorem OwnSh.gb {w w' : World} {base : Nat} {v : Value} {ss : List ShD} {r : Option Nat} (h : OwnSh w base v ss) (hg : w.grownBy w' r) (hne : ∀ i, r = some i → ¬∃ cs t fr, w.heap[i]? = some (.cells cs t fr) ∧ (t = 35 ∨ t = 9)) : OwnSh w' base v ss := by
  obtain ⟨ys, g, k1, k2, k3⟩ := h
  refine ⟨ys, g, own_gb k1 hg (fun i e k => ?_), fun j hj => (k2 j hj).gb hg (fun e => ?_), k3⟩
  · rcases k1.2 with ⟨rfl, _⟩ | ⟨b, cap, cur, rfl, _, hb, _⟩
    · cases k
    · simp only [Value.ownBlock, Option.some.injEq] at k
      subst k
      exact hne _ e ⟨_, _, _, hb, .inl rfl⟩
  · obtain ⟨_, c, _, h3⟩ := k2 j hj
    rcases h3.2 with ⟨hv, _⟩ | ⟨b, cap, cur, hv, _, hb, _⟩
    · cases hv
    · cases hv
      exact hne _ e ⟨_, _, _, hb, .inr rfl⟩
theorem OwnSh.reads {w : World} {base : Nat} {v : Value} {ss : List ShD} (h : OwnSh w base v ss) : ShV w v ss := by
  obtain ⟨ys, g, h1, h2, _⟩ := h
  have h1' := h1
  rcases h1.2 with ⟨rfl, hk⟩ | ⟨b, cap, cur, rfl, hb, hg, hkc, hcm, hcs, hx⟩
  · have : ss = [] := List.eq_nil_of_length_eq_zero hk
    subst this
    exact ⟨none, 0, rfl, Nat.le_refl _, by simp [maxLen], .inl rfl⟩
  · refine ⟨some ⟨b, 0, none⟩, cap, rfl, hkc, hcm, .inr ⟨b, 0, rfl, fun j hj => ?_⟩⟩
    obtain ⟨q0, c, q1, q2⟩ := h2 j hj
    have e0 := (own_cell h1' (j * 2) (by omega)).1
    have e1 := (own_cell h1' (j * 2 + 1) (by omega)).1
    rw [q0] at e0
    rw [q1] at e1
    rw [Nat.zero_add]
    exact ⟨e0, _, e1, q2.reads⟩
theorem OwnSh.nil (w : World) (base : Nat) : OwnSh w base (.slice none 0 0) [] :=
  ⟨[], fun _ => 0, ⟨rfl, .inl ⟨rfl, rfl⟩⟩, fun j hj => by simp at hj, fun i j _ hj => by simp at hj⟩
/-- The texts of each lie before where the world ends. -/
theorem OwnSh.rows {w : World} {base : Nat} {v : Value} {ss : List ShD} (h : OwnSh w base v ss) : ∃ (ys : List Value) (g : Nat → Nat), w.ownsRow base 35 2 v ss.length ys ∧ (∀ j, j < ss.length → ShC w base ss g ys j) ∧ (∀ i j, i < j → j < ss.length → g i ≠ g j) ∧ ∀ j, j < ss.length → g j < w.heap.size := by
  obtain ⟨ys, g, h1, h2, h3⟩ := h; exact ⟨ys, g, h1, h2, h3, fun j hj => (h2 j hj).lt.2⟩

theorem getD_app_lt {ss : List ShD} {s : ShD} {j : Nat} (h : j < ss.length) : (ss ++ [s]).getD j sh0 = ss.getD j sh0 := getD_snoc_lt ss s sh0 j h
theorem getD_app_eq (ss : List ShD) (s : ShD) : (ss ++ [s]).getD ss.length sh0 = s := getD_snoc_eq ss s sh0
/-- A VOLUME MORE, behind an append: its texts lie in a row that is newer than all others. -/
theorem OwnSh.more {w0 w w' : World} {base base' : Nat} {v' : Value} {ss : List ShD} {ys : List Value} {g : Nat → Nat} {nm : ByteArray} {xs : List ByteArray} {c gx : Nat} {r : Option Nat}
    (h2 : ∀ j, j < ss.length → ShC w base ss g ys j) (h3 : ∀ i j, i < j → j < ss.length → g i ≠ g j) (h4 : ∀ j, j < ss.length → g j < w0.heap.size) (hl : ys.length = ss.length * 2)
    (hx : OwnTx w base' (.slice (some ⟨gx, 0, none⟩) xs.length c) xs) (hb' : w0.heap.size ≤ base') (hbb : base ≤ base')
    (hown : w'.ownsRow base 35 2 v' (ss.length + 1) (ys ++ [.string nm, .slice (some ⟨gx, 0, none⟩) xs.length c])) (hg : w.grownBy w' r) (hr : ∀ i, r = some i → ∃ cur, w.heap[i]? = some (.cells cur 35 (0, 0))) :
    OwnSh w' base v' (ss ++ [⟨nm, xs⟩]) := by
  have hne : ∀ {b n : Nat} {xs : List ByteArray} {cp : Nat}, OwnTx w b (.slice (some ⟨n, 0, none⟩) xs.length cp) xs → r ≠ some n := by
    intro b n xs cp ho e
    obtain ⟨cur, hc⟩ := hr n e
    rcases ho.2 with ⟨hv, _⟩ | ⟨g1, cap1, cur1, hv, _, hb1, _⟩
    · cases hv
    · cases hv
      rw [hc] at hb1
      injection hb1 with hb1
      injection hb1 with _ hb1
      exact absurd hb1 (by decide)
  have hgx : base' ≤ gx := (hx.lt _ rfl).1
  refine ⟨_, fun j => if j < ss.length then g j else gx, by rw [List.length_append]; exact hown, fun j hj => ?_, fun i j hij hj => ?_⟩
  · rw [List.length_append, List.length_singleton] at hj
    by_cases hlt : j < ss.length
    · obtain ⟨c1, cp, c2, c3⟩ := h2 j hlt
      unfold ShC
      simp only [if_pos hlt, getD_app_lt hlt]
      refine ⟨?_, cp, ?_, own_gb c3 hg (fun i e => ?_)⟩
      · rw [List.getElem?_append_left (by omega)]; exact c1
      · rw [List.getElem?_append_left (by omega)]; exact c2
      · simp only [Value.ownBlock]; intro k; rw [← k] at e; exact hne c3 e
    · obtain rfl : j = ss.length := by omega
      unfold ShC
      simp only [if_neg hlt, getD_app_eq]
      refine ⟨?_, c, ?_, own_gb (own_mono hx hbb) hg (fun i e => ?_)⟩
      · rw [← hl, List.getElem?_append_right (by omega)]; simp
      · rw [← hl, List.getElem?_append_right (by omega)]; simp
      · simp only [Value.ownBlock]; intro k; rw [← k] at e; exact hne hx e
  · rw [List.length_append, List.length_singleton] at hj
    have hi : i < ss.length := by omega
    simp only [if_pos hi]
    by_cases hlt : j < ss.length
    · rw [if_pos hlt]; exact h3 i j hij hlt
    · rw [if_neg hlt]; have := h4 i hi; omega

section
open Classical
/-- WHAT IS DONE TO A MODEL, as data. -/
def none3 : List ByteArray := [ByteArray.empty, ByteArray.empty, ByteArray.empty]
noncomputable def addCode (ss : List ShD) (nm : ByteArray) : Int := if HasNm ss nm ∨ ¬NameOk nm then 1 else if ss.length = 4 then 3 else 0
noncomputable def addTo (ss : List ShD) (nm : ByteArray) (xs : List ByteArray) : List ShD := if addCode ss nm = 0 then ss ++ [⟨nm, xs⟩] else ss
noncomputable def whereSh (ss : List ShD) (nm : ByteArray) : Nat := if h : ∃ k, At ss nm k then h.choose else 0
noncomputable def makeTo (ss : List ShD) (nm : ByteArray) : List ShD × Int := if MdFine ss then (addTo ss nm none3, addCode ss nm) else ([], 4)
noncomputable def dropTo (ss : List ShD) (nm : ByteArray) : List ShD × Int := if MdFine ss then (if HasNm ss nm then (ss.eraseIdx (whereSh ss nm), 0) else (ss, 2)) else ([], 4)
noncomputable def copyTo (ss : List ShD) (fr nm : ByteArray) : List ShD × Int := if MdFine ss then (if HasNm ss fr then (addTo ss nm (blAt ss (whereSh ss fr)), addCode ss nm) else (ss, 2)) else ([], 4)
noncomputable def wrCode (ss : List ShD) (nm : ByteArray) (b : Int) (t : ByteArray) : Int := if HasNm ss nm then (if (0 ≤ b ∧ b ≤ 2) ∧ t.size ≤ 9 then 0 else 4) else 2
def setSh (ss : List ShD) (k b : Nat) (t : ByteArray) : List ShD := ss.set k ⟨nmAt ss k, (blAt ss k).set b t⟩
noncomputable def writeTo (ss : List ShD) (nm : ByteArray) (b : Int) (t : ByteArray) : List ShD × Int := if MdFine ss then (if wrCode ss nm b t = 0 then setSh ss (whereSh ss nm) b.toNat t else ss, wrCode ss nm b t) else ([], 4)
noncomputable def readCode (ss : List ShD) (nm : ByteArray) (b : Int) : Int := if MdFine ss then (if HasNm ss nm then (if 0 ≤ b ∧ b ≤ 2 then 0 else 4) else 2) else 4
noncomputable def readTo (ss : List ShD) (nm : ByteArray) (b : Int) : ByteArray := if readCode ss nm b = 0 then (blAt ss (whereSh ss nm)).getD b.toNat ByteArray.empty else ByteArray.empty
theorem whereSh_at {ss : List ShD} {nm : ByteArray} (h : HasNm ss nm) : At ss nm (whereSh ss nm) := by
  have h' : ∃ k, At ss nm k := h
  unfold whereSh
  rw [dif_pos h']
  exact h'.choose_spec
theorem whereSh_eq {ss : List ShD} (hd : Distinct ss) {nm : ByteArray} {k : Nat} (h : At ss nm k) : whereSh ss nm = k := at_one hd (whereSh_at ⟨k, h⟩) h
end

end Go.Proofs.Ytmmckpjapnkepaa
