/- Lists of disks of one's own: each disk in rows apart from all others'. Conditions: none. -/
import Derived.Test.YtceielkcplcccaaGreatDoorPKG9
import Derived.Test.YtceielkcplcccaaGreatDoorPKGD
import Derived.Test.YtceielkcplcccaaGreatDoorPKHT2
namespace Go.Proofs.YtceielkcplcccaaGreatDoor
open Go.RowKit Go.Sort

theorem OwnDisk.other {w : World} {base : Nat} {v : Value} {d : DiskD} (h : OwnDisk w base v d) {D : Nat} {cs : Array Value} {t : TypeId} (hb : Blk w D cs t) (n1 : 9 ≠ t) (n2 : 4 ≠ t) (n3 : 41 ≠ t) (o : Nat) (u : Value) : OwnDisk (w.setCell ⟨D, o, none⟩ u) base v d := by
  obtain ⟨v1, v2, v3, v4, e, h1, h2, h3, h4, h5⟩ := h
  exact ⟨v1, v2, v3, v4, e, own_other h1 D o u (own_blk_ne h1 hb n1), own_other h2 D o u (own_blk_ne h2 hb n1), own_other h3 D o u (own_blk_ne h3 hb n2), own_other h4 D o u (own_blk_ne h4 hb n3), h5⟩
theorem OwnDisk.grown {w w' : World} {base : Nat} {v : Value} {d : DiskD} {r : Option Nat} (h : OwnDisk w base v d) (hg : w.grownBy w' r) (hr : ∀ i, r = some i → ∃ cur, w.heap[i]? = some (.cells cur 37 (0, 0))) : OwnDisk w' base v d := by
  obtain ⟨v1, v2, v3, v4, e, h1, h2, h3, h4, h5⟩ := h
  refine ⟨v1, v2, v3, v4, e, own_gb h1 hg (fun i hi => ?_), own_gb h2 hg (fun i hi => ?_), own_gb h3 hg (fun i hi => ?_), own_gb h4 hg (fun i hi => ?_), h5⟩
  all_goals
    obtain ⟨cur, hc⟩ := hr i hi
  · exact own_blk_ne h1 (D := i) (cs := cur) (t := 37) hc (by decide)
  · exact own_blk_ne h2 (D := i) (cs := cur) (t := 37) hc (by decide)
  · exact own_blk_ne h3 (D := i) (cs := cur) (t := 37) hc (by decide)
  · exact own_blk_ne h4 (D := i) (cs := cur) (t := 37) hc (by decide)

/-- THE BLOCKS OF A DISK in a row. -/
def DkE (ys : List Value) (j E : Nat) : Prop := ∃ i u, i < 5 ∧ ys[j * 5 + i]? = some u ∧ u.ownBlock = some E
/-- APART: no two of the first k disks have a block in common. -/
def DkFar (ys : List Value) (k : Nat) : Prop := ∀ i j E, i < k → j < k → i ≠ j → DkE ys i E → ¬DkE ys j E
theorem DkRow.lt {w : World} {base : Nat} {ds : List DiskD} {k : Nat} {ys : List Value} (h : DkRow w base ds k ys) {j E : Nat} (hj : j < k) (hE : DkE ys j E) : base ≤ E ∧ E < w.heap.size := by
  obtain ⟨v1, v2, v3, v4, q0, q1, q2, q3, q4, hv⟩ := h.2 j hj
  obtain ⟨i, u, hi, hu, he⟩ := hE
  have hr := hv.rows_lt _ rfl u
  refine hr ?_ E he
  have : i = 0 ∨ i = 1 ∨ i = 2 ∨ i = 3 ∨ i = 4 := by omega
  rcases this with rfl | rfl | rfl | rfl | rfl
  · rw [Nat.add_zero, q0] at hu; cases hu; simp
  · rw [q1] at hu; cases hu; simp
  · rw [q2] at hu; cases hu; simp
  · rw [q3] at hu; cases hu; simp
  · rw [q4] at hu; cases hu; simp
theorem DkRow.mono {w : World} {base base' : Nat} {ds : List DiskD} {k : Nat} {xs : List Value} (h : DkRow w base ds k xs) (hb : base' ≤ base) : DkRow w base' ds k xs :=
  ⟨h.1, fun j hj => by obtain ⟨v1, v2, v3, v4, q0, q1, q2, q3, q4, hv⟩ := h.2 j hj; exact ⟨v1, v2, v3, v4, q0, q1, q2, q3, q4, hv.mono hb⟩⟩
theorem DkRow.other {w : World} {base : Nat} {ds : List DiskD} {k : Nat} {xs : List Value} (h : DkRow w base ds k xs) {D : Nat} {cs : Array Value} {t : TypeId} (hb : Blk w D cs t) (n1 : 9 ≠ t) (n2 : 4 ≠ t) (n3 : 41 ≠ t) (o : Nat) (u : Value) : DkRow (w.setCell ⟨D, o, none⟩ u) base ds k xs :=
  ⟨h.1, fun j hj => by obtain ⟨v1, v2, v3, v4, q0, q1, q2, q3, q4, hv⟩ := h.2 j hj; exact ⟨v1, v2, v3, v4, q0, q1, q2, q3, q4, hv.other hb n1 n2 n3 o u⟩⟩

/-- DISKS OF ONE's OWN, the first k of them there. -/
def OwnDk (w : World) (base : Nat) (v : Value) (ds : List DiskD) (k : Nat) : Prop :=
  ∃ ys, w.ownsRow base 37 5 v ds.length ys ∧ DkRow w base ds k ys ∧ DkFar ys k
def OwnDks (w : World) (base : Nat) (v : Value) (ds : List DiskD) : Prop := OwnDk w base v ds ds.length
theorem OwnDk.below {w w' : World} {base : Nat} {v : Value} {ds : List DiskD} {k : Nat} (h : OwnDk w base v ds k) (hB : Below w.heap.size w w') : OwnDk w' base v ds k := by
  obtain ⟨ys, h1, h2, h3⟩ := h; exact ⟨ys, own_below h1 hB, h2.below hB, h3⟩
theorem OwnDk.mono {w : World} {base base' : Nat} {v : Value} {ds : List DiskD} {k : Nat} (h : OwnDk w base v ds k) (hb : base' ≤ base) : OwnDk w base' v ds k := by
  obtain ⟨ys, h1, h2, h3⟩ := h; exact ⟨ys, own_mono h1 hb, h2.mono hb, h3⟩
theorem OwnDk.far {w : World} {base : Nat} {v : Value} {ds : List DiskD} {k : Nat} (h : OwnDk w base v ds k) (p o : Nat) (u : Value) (hp : p < base) : OwnDk (w.setCell ⟨p, o, none⟩ u) base v ds k := by
  obtain ⟨ys, h1, h2, h3⟩ := h; exact ⟨ys, own_far h1 p o u hp, h2.far p o u hp, h3⟩
theorem OwnDk.other {w : World} {base : Nat} {v : Value} {ds : List DiskD} {k : Nat} (h : OwnDk w base v ds k) {D : Nat} {cs : Array Value} {t : TypeId} (hb : Blk w D cs t) (n0 : 37 ≠ t) (n1 : 9 ≠ t) (n2 : 4 ≠ t) (n3 : 41 ≠ t) (o : Nat) (u : Value) : OwnDk (w.setCell ⟨D, o, none⟩ u) base v ds k := by
  obtain ⟨ys, h1, h2, h3⟩ := h; exact ⟨ys, own_other h1 D o u (own_blk_ne h1 hb n0), h2.other hb n1 n2 n3 o u, h3⟩
theorem OwnDk.made {w : World} {base : Nat} {v : Value} {ds : List DiskD} {ys : List Value} (h : w.ownsRow base 37 5 v ds.length ys) : OwnDk w base v ds 0 :=
  ⟨ys, h, ⟨h.1, fun j hj => by omega⟩, fun i j E hi => by omega⟩
theorem OwnDks.nil (w : World) (base : Nat) : OwnDks w base (.slice none 0 0) [] :=
  ⟨[], ⟨rfl, .inl ⟨rfl, rfl⟩⟩, ⟨rfl, fun j hj => by simp at hj⟩, fun i j E hi => by simp at hi⟩
theorem OwnDks.reads {w : World} {base : Nat} {v : Value} {ds : List DiskD} (h : OwnDks w base v ds) : DksV w v ds := by
  obtain ⟨ys, h1, h2, _⟩ := h
  have h1' := h1
  rcases h1.2 with ⟨rfl, hk⟩ | ⟨g, cap, cur, rfl, _⟩
  · have : ds = [] := List.eq_nil_of_length_eq_zero hk
    subst this
    exact ⟨none, 0, rfl, Nat.le_refl _, by simp [maxLen], .inl rfl⟩
  · exact h2.reads h1'

/-- A ROW with one disk's cells anew. -/
def set5 (ys : List Value) (k : Nat) (u0 u1 u2 u3 u4 : Value) : List Value := ((((ys.set (k * 5) u0).set (k * 5 + 1) u1).set (k * 5 + 2) u2).set (k * 5 + 3) u3).set (k * 5 + 4) u4
def setW (w : World) (g k : Nat) (u0 u1 u2 u3 u4 : Value) : World := ((((w.setCell ⟨g, k * 5, none⟩ u0).setCell ⟨g, k * 5 + 1, none⟩ u1).setCell ⟨g, k * 5 + 2, none⟩ u2).setCell ⟨g, k * 5 + 3, none⟩ u3).setCell ⟨g, k * 5 + 4, none⟩ u4
theorem set5_length (ys : List Value) (k : Nat) (u0 u1 u2 u3 u4 : Value) : (set5 ys k u0 u1 u2 u3 u4).length = ys.length := by simp [set5]
theorem set5_ne {ys : List Value} {k j i : Nat} {u0 u1 u2 u3 u4 : Value} (h : j ≠ k) (hi : i < 5) : (set5 ys k u0 u1 u2 u3 u4)[j * 5 + i]? = ys[j * 5 + i]? := by
  unfold set5
  rw [List.getElem?_set_ne (by omega), List.getElem?_set_ne (by omega), List.getElem?_set_ne (by omega), List.getElem?_set_ne (by omega), List.getElem?_set_ne (by omega)]
theorem set5_eq {ys : List Value} {k : Nat} {u0 u1 u2 u3 u4 : Value} (h : k * 5 + 4 < ys.length) : (set5 ys k u0 u1 u2 u3 u4)[k * 5]? = some u0 ∧ (set5 ys k u0 u1 u2 u3 u4)[k * 5 + 1]? = some u1 ∧ (set5 ys k u0 u1 u2 u3 u4)[k * 5 + 2]? = some u2 ∧ (set5 ys k u0 u1 u2 u3 u4)[k * 5 + 3]? = some u3 ∧ (set5 ys k u0 u1 u2 u3 u4)[k * 5 + 4]? = some u4 := by
  unfold set5
  refine ⟨?_, ?_, ?_, ?_, ?_⟩
  · rw [List.getElem?_set_ne (by omega), List.getElem?_set_ne (by omega), List.getElem?_set_ne (by omega), List.getElem?_set_ne (by omega), List.getElem?_set_self (by omega)]
  · rw [List.getElem?_set_ne (by omega), List.getElem?_set_ne (by omega), List.getElem?_set_ne (by omega), List.getElem?_set_self (by simp only [List.length_set]; omega)]
  · rw [List.getElem?_set_ne (by omega), List.getElem?_set_ne (by omega), List.getElem?_set_self (by simp only [List.length_set]; omega)]
  · rw [List.getElem?_set_ne (by omega), List.getElem?_set_self (by simp only [List.length_set]; omega)]
  · rw [List.getElem?_set_self (by simp only [List.length_set]; omega)]
theorem dkE_ne {ys : List Value} {k j E : Nat} {u0 u1 u2 u3 u4 : Value} (h : j ≠ k) : DkE (set5 ys k u0 u1 u2 u3 u4) j E ↔ DkE ys j E := by
  constructor
  · rintro ⟨i, u, hi, hu, he⟩; rw [set5_ne h hi] at hu; exact ⟨i, u, hi, hu, he⟩
  · rintro ⟨i, u, hi, hu, he⟩; exact ⟨i, u, hi, by rw [set5_ne h hi]; exact hu, he⟩
theorem dkE_eq {w : World} {base : Nat} {d : DiskD} {ys : List Value} {k E : Nat} {u0 u1 u2 u3 u4 : Value} (h : k * 5 + 4 < ys.length) (ho : OwnDisk w base (.agg #[u0, u1, u2, u3, u4]) d) (hE : DkE (set5 ys k u0 u1 u2 u3 u4) k E) : base ≤ E ∧ E < w.heap.size := by
  obtain ⟨i, u, hi, hu, he⟩ := hE
  obtain ⟨q0, q1, q2, q3, q4⟩ := set5_eq (u0 := u0) (u1 := u1) (u2 := u2) (u3 := u3) (u4 := u4) h
  refine ho.rows_lt _ rfl u ?_ E he
  have : i = 0 ∨ i = 1 ∨ i = 2 ∨ i = 3 ∨ i = 4 := by omega
  rcases this with rfl | rfl | rfl | rfl | rfl
  · rw [Nat.add_zero, q0] at hu; cases hu; simp
  · rw [q1] at hu; cases hu; simp
  · rw [q2] at hu; cases hu; simp
  · rw [q3] at hu; cases hu; simp
  · rw [q4] at hu; cases hu; simp
theorem own_setW {w : World} {base g n cap : Nat} {ys : List Value} (h : w.ownsRow base 37 5 (.slice (some ⟨g, 0, none⟩) n cap) n ys) (k : Nat) (u0 u1 u2 u3 u4 : Value) :
    (setW w g k u0 u1 u2 u3 u4).ownsRow base 37 5 (.slice (some ⟨g, 0, none⟩) n cap) n (set5 ys k u0 u1 u2 u3 u4) := own_set (own_set (own_set (own_set (own_set h _ _) _ _) _ _) _ _) _ _
theorem setW_disk {w : World} {base : Nat} {v : Value} {d : DiskD} (h : OwnDisk w base v d) {g : Nat} {cs : Array Value} (hb : Blk w g cs 37) (k : Nat) (u0 u1 u2 u3 u4 : Value) : OwnDisk (setW w g k u0 u1 u2 u3 u4) base v d :=
  (((((h.other hb (by decide) (by decide) (by decide) _ u0).other (hb.set _ _) (by decide) (by decide) (by decide) _ u1).other ((hb.set _ _).set _ _) (by decide) (by decide) (by decide) _ u2).other (((hb.set _ _).set _ _).set _ _) (by decide) (by decide) (by decide) _ u3).other ((((hb.set _ _).set _ _).set _ _).set _ _) (by decide) (by decide) (by decide) _ u4)
theorem setW_below {w w' : World} {n g : Nat} (h : Below n w w') (hg : n ≤ g) (k : Nat) (u0 u1 u2 u3 u4 : Value) : Below n w (setW w' g k u0 u1 u2 u3 u4) :=
  ((((h.setCell (p := ⟨g, k * 5, none⟩) hg _).setCell (p := ⟨g, k * 5 + 1, none⟩) hg _).setCell (p := ⟨g, k * 5 + 2, none⟩) hg _).setCell (p := ⟨g, k * 5 + 3, none⟩) hg _).setCell (p := ⟨g, k * 5 + 4, none⟩) hg _
theorem setW_size (w : World) (g k : Nat) (u0 u1 u2 u3 u4 : Value) : (setW w g k u0 u1 u2 u3 u4).heap.size = w.heap.size := by simp [setW]
theorem setW_blk {w : World} {D : Nat} {cs : Array Value} {t : TypeId} (h : Blk w D cs t) {g : Nat} (hne : g ≠ D) (k : Nat) (u0 u1 u2 u3 u4 : Value) : Blk (setW w g k u0 u1 u2 u3 u4) D cs t :=
  ((((h.other _ _ _ hne).other _ _ _ hne).other _ _ _ hne).other _ _ _ hne).other _ _ _ hne

theorem getD_setD (ds : List DiskD) (k j : Nat) (d : DiskD) (hk : k < ds.length) : (ds.set k d).getD j disk0 = if k = j then d else ds.getD j disk0 := by
  rw [List.getD, List.getD, List.getElem?_set]
  by_cases e : k = j
  · subst e; rw [if_pos rfl, if_pos rfl, if_pos hk]; rfl
  · rw [if_neg e, if_neg e]

/-- A DISK PUT where another one was, or was to be. -/
theorem OwnDk.put {w0 w : World} {base base' g n cap k m : Nat} {ds : List DiskD} {d : DiskD} {u0 u1 u2 u3 u4 : Value} (h : OwnDk w0 base (.slice (some ⟨g, 0, none⟩) n cap) ds m) (hn : n = ds.length) (hk : k < ds.length) (hkm : k ≤ m)
    (hB : Below w0.heap.size w0 w) (ho : OwnDisk w base' (.agg #[u0, u1, u2, u3, u4]) d) (hb : w0.heap.size ≤ base') (hbb : base ≤ base') (hst : u0 = .int .i64 d.state) :
    OwnDk (setW w g k u0 u1 u2 u3 u4) base (.slice (some ⟨g, 0, none⟩) n cap) (ds.set k d) (if k = m then m + 1 else m) := by
  subst hn
  obtain ⟨ys, h1, h2, h3⟩ := h
  have o1 := own_below h1 hB
  obtain ⟨g', cap', cur, e, _, hblk⟩ := own_form o1 (by omega)
  injection e with e
  injection e with e
  injection e with e _ _
  subst e
  have hlen : k * 5 + 4 < ys.length := by have := h2.1; omega
  obtain ⟨q0, q1, q2, q3, q4⟩ := set5_eq (u0 := u0) (u1 := u1) (u2 := u2) (u3 := u3) (u4 := u4) hlen
  refine ⟨set5 ys k u0 u1 u2 u3 u4, ?_, ⟨by rw [set5_length, List.length_set]; exact h2.1, fun j hj => ?_⟩, fun i j E hi hj hij hEi hEj => ?_⟩
  · rw [List.length_set]; exact own_setW o1 k u0 u1 u2 u3 u4
  · by_cases e : j = k
    · subst e
      rw [getD_setD _ _ _ _ hk, if_pos rfl]
      subst hst
      exact ⟨u1, u2, u3, u4, q0, q1, q2, q3, q4, (setW_disk ho hblk _ _ _ _ _ _).mono hbb⟩
    · rw [getD_setD _ _ _ _ hk, if_neg (fun q => e q.symm)]
      obtain ⟨v1, v2, v3, v4, p0, p1, p2, p3, p4, hv⟩ := h2.2 j (by split at hj <;> omega)
      refine ⟨v1, v2, v3, v4, ?_, ?_, ?_, ?_, ?_, setW_disk (hv.below hB) hblk _ _ _ _ _ _⟩
      · have := set5_ne (ys := ys) (u0 := u0) (u1 := u1) (u2 := u2) (u3 := u3) (u4 := u4) e (show 0 < 5 by omega)
        rw [Nat.add_zero] at this; rw [this]; exact p0
      · rw [set5_ne e (by omega)]; exact p1
      · rw [set5_ne e (by omega)]; exact p2
      · rw [set5_ne e (by omega)]; exact p3
      · rw [set5_ne e (by omega)]; exact p4
  · have hm : ∀ j, j < (if k = m then m + 1 else m) → j ≠ k → j < m := fun j hj e => by split at hj <;> omega
    by_cases ei : i = k
    · subst ei
      have a := dkE_eq hlen ho hEi
      have b := h2.lt (hm j hj (fun q => hij q.symm)) ((dkE_ne (fun q => hij q.symm)).1 hEj)
      omega
    · by_cases ej : j = k
      · subst ej
        have a := dkE_eq hlen ho hEj
        have b := h2.lt (hm i hi ei) ((dkE_ne ei).1 hEi)
        omega
      · exact h3 i j E (hm i hi ei) (hm j hj ej) hij ((dkE_ne ei).1 hEi) ((dkE_ne ej).1 hEj)

/-- A DISK MORE, behind an append. -/
theorem OwnDks.more {w0 w w' : World} {base base' : Nat} {v' : Value} {ds : List DiskD} {ys : List Value} {d : DiskD} {u0 u1 u2 u3 u4 : Value} {r : Option Nat}
    (h2 : DkRow w base ds ds.length ys) (h3 : DkFar ys ds.length) (h4 : ∀ j E, j < ds.length → DkE ys j E → E < w0.heap.size)
    (ho : OwnDisk w base' (.agg #[u0, u1, u2, u3, u4]) d) (hb : w0.heap.size ≤ base') (hbb : base ≤ base') (hst : u0 = .int .i64 d.state)
    (hown : w'.ownsRow base 37 5 v' (ds.length + 1) (ys ++ [u0, u1, u2, u3, u4])) (hg : w.grownBy w' r) (hr : ∀ i, r = some i → ∃ cur, w.heap[i]? = some (.cells cur 37 (0, 0))) :
    OwnDks w' base v' (ds ++ [d]) := by
  have hl := h2.1
  have old : ∀ j i, j < ds.length → i < 5 → (ys ++ [u0, u1, u2, u3, u4])[j * 5 + i]? = ys[j * 5 + i]? := fun j i hj hi => List.getElem?_append_left (by omega)
  have new : ∀ i, (ys ++ [u0, u1, u2, u3, u4])[ds.length * 5 + i]? = [u0, u1, u2, u3, u4][i]? := fun i => by
    rw [List.getElem?_append_right (by omega)]; congr 1; omega
  have oldE : ∀ j E, j < ds.length → DkE (ys ++ [u0, u1, u2, u3, u4]) j E → DkE ys j E := fun j E hj ⟨i, u, hi, hu, he⟩ => ⟨i, u, hi, by rw [← old j i hj hi]; exact hu, he⟩
  have newE : ∀ E, DkE (ys ++ [u0, u1, u2, u3, u4]) ds.length E → base' ≤ E := fun E ⟨i, u, hi, hu, he⟩ => by
    rw [new i] at hu
    exact (ho.rows_lt _ rfl u (List.mem_of_getElem? hu) E he).1
  refine ⟨_, by rw [List.length_append]; exact hown, ⟨by simp [hl]; omega, fun j hj => ?_⟩, fun i j E hi hj hij hEi hEj => ?_⟩
  · rw [List.length_append, List.length_singleton] at hj
    by_cases hlt : j < ds.length
    · obtain ⟨v1, v2, v3, v4, p0, p1, p2, p3, p4, hv⟩ := h2.2 j hlt
      rw [show (ds ++ [d]).getD j disk0 = ds.getD j disk0 from getD_snoc_lt ds d disk0 j hlt]
      refine ⟨v1, v2, v3, v4, ?_, ?_, ?_, ?_, ?_, hv.grown hg hr⟩
      · have := old j 0 hlt (by omega)
        rw [Nat.add_zero] at this; rw [this]; exact p0
      · rw [old j 1 hlt (by omega)]; exact p1
      · rw [old j 2 hlt (by omega)]; exact p2
      · rw [old j 3 hlt (by omega)]; exact p3
      · rw [old j 4 hlt (by omega)]; exact p4
    · obtain rfl : j = ds.length := by omega
      rw [show (ds ++ [d]).getD ds.length disk0 = d from getD_snoc_eq ds d disk0]
      subst hst
      exact ⟨u1, u2, u3, u4, new 0, new 1, new 2, new 3, new 4, (ho.grown hg hr).mono hbb⟩
  · rw [List.length_append, List.length_singleton] at hi hj
    by_cases ei : i < ds.length
    · have a := h4 i E ei (oldE i E ei hEi)
      by_cases ej : j < ds.length
      · exact h3 i j E ei ej hij (oldE i E ei hEi) (oldE j E ej hEj)
      · obtain rfl : j = ds.length := by omega
        have b := newE E hEj
        omega
    · obtain rfl : i = ds.length := by omega
      have b := newE E hEi
      have a := h4 j E (by omega) (oldE j E (by omega) hEj)
      omega
theorem OwnDks.rows {w : World} {base : Nat} {v : Value} {ds : List DiskD} (h : OwnDks w base v ds) : ∃ ys, w.ownsRow base 37 5 v ds.length ys ∧ DkRow w base ds ds.length ys ∧ DkFar ys ds.length ∧ ∀ j E, j < ds.length → DkE ys j E → E < w.heap.size := by
  obtain ⟨ys, h1, h2, h3⟩ := h; exact ⟨ys, h1, h2, h3, fun j E hj hE => (h2.lt hj hE).2⟩

end Go.Proofs.YtceielkcplcccaaGreatDoor
