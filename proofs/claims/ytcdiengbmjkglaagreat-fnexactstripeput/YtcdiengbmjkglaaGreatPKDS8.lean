/- Columns put into a list of disks, of the specification. Conditions: the places are the disks', and the disks are ok. -/
import Derived.Test.YtcdiengbmjkglaaGreatPKDS6
import Derived.Test.YtcdiengbmjkglaaGreatPKMX3
import Derived.Test.YtcdiengbmjkglaaGreatPKVK
namespace Go.Proofs.YtcdiengbmjkglaaGreat
open Go.RowKit Go.Sort

set_option maxRecDepth 100000 in
set_option maxHeartbeats 2000000 in
theorem l11Is_any (a pa : Option Addr) (cap pc : Nat) (ds : List DiskD) (p : PtrD) (w : World) (hl : ds.length ≤ maxLen) (hpl : p.places.length ≤ maxLen) (hx : Hid (DksAt w a ds)) (hp : Hid (PlacesAt w pa p.places)) :
    Calls Tryz.prog 22 #[.slice a ds.length cap, .agg #[.int .i64 p.size, .int .i64 p.sum, .slice pa p.places.length pc]] w fun e w' => e = .returned (.bool (tt (CanHold ds p))) ∧ Below w.heap.size w w' := by
  obtain ⟨z, s, ps⟩ := p
  simp only at hpl hp ⊢
  have hB : Below w.heap.size w (w.alloc (.cells #[.int .i64 z, .int .i64 s, .slice pa ps.length pc] 34)) := (Below.refl _ _).alloc (Nat.le_refl _) _
  have HB := Lib.hid hB
  have K := Blk.new w #[.int .i64 z, .int .i64 s, .slice pa ps.length pc] 34
  have c0 : (w.alloc (.cells #[.int .i64 z, .int .i64 s, .slice pa ps.length pc] 34)).cell? ⟨w.heap.size, 0, none⟩ = some (.int .i64 z) := K.cell 0
  have c1 : (w.alloc (.cells #[.int .i64 z, .int .i64 s, .slice pa ps.length pc] 34)).cell? ⟨w.heap.size, 1, none⟩ = some (.int .i64 s) := K.cell 1
  have c2 : (w.alloc (.cells #[.int .i64 z, .int .i64 s, .slice pa ps.length pc] 34)).cell? ⟨w.heap.size, 2, none⟩ = some (.slice pa ps.length pc) := K.cell 2
  have HS := Lib.hid (specStripes_any a cap ds _ hl (hx.out.below hB))
  by_cases h1 : StripeFine ds
  · rw [tt_true h1] at HS
    have HP := Lib.hid (fun W (hW : Below w.heap.size w W) => l2Ptr_any (ds.length : Int) ⟨z, s, ps⟩ pa pc W h1.1 hpl (hp.out.below hW))
    simp only at HP
    clear hB K
    by_cases h2 : PtrFine (ds.length : Int) ⟨z, s, ps⟩
    · rw [tt_true h2] at HP
      have HE : Hid (tt (CanHold ds ⟨z, s, ps⟩) = decide (z > 0)) := by
        show tt (CanHold ds ⟨z, s, ps⟩) = decide (z > 0)
        by_cases h3 : Nothing ⟨z, s, ps⟩
        · rw [tt_false (fun h => h.2.2 h3), decide_eq_false (by have := h3.1; simp only at this; omega)]
        · rcases h2 with h2 | h2
          · exact absurd h2 h3
          · rw [tt_true (show CanHold ds ⟨z, s, ps⟩ from ⟨h1, ⟨h1.1, .inr h2⟩, h3⟩), decide_eq_true (by have := h2.1; simp only at this; omega)]
      clear h1 h2
      go_enter Tryz.func22, Tryz.ntmps22
      go_wp2_with fail
      refine HS.out.mono ?_
      rintro e w1 ⟨rfl, hB1⟩
      have HB1 := Lib.hid (HB.out.trans (hB1.mono HB.out.size))
      have c0 := cell_below hB1 c0
      have c1 := cell_below hB1 c1
      have c2 := cell_below hB1 c2
      clear hB1 HS HB
      go_wp2_with fail
      refine (HP.out _ HB1.out).mono ?_
      rintro e w2 ⟨rfl, hB2⟩
      have HB2 := Lib.hid (HB1.out.trans (hB2.mono HB1.out.size))
      have c0 := cell_below hB2 c0
      clear hB2 HP HB1 c1 c2
      go_wp2
      go_ret
      exact ⟨ret_bool' HE.out.symm, HB2.out⟩
    · rw [tt_false h2] at HP
      have HE := Lib.hid (tt_false (P := CanHold ds ⟨z, s, ps⟩) (fun h => h2 h.2.1.2))
      clear h1 h2
      go_enter Tryz.func22, Tryz.ntmps22
      go_wp2_with fail
      refine HS.out.mono ?_
      rintro e w1 ⟨rfl, hB1⟩
      have HB1 := Lib.hid (HB.out.trans (hB1.mono HB.out.size))
      have c0 := cell_below hB1 c0
      have c1 := cell_below hB1 c1
      have c2 := cell_below hB1 c2
      clear hB1 HS HB
      go_wp2_with fail
      refine (HP.out _ HB1.out).mono ?_
      rintro e w2 ⟨rfl, hB2⟩
      have HB2 := Lib.hid (HB1.out.trans (hB2.mono HB1.out.size))
      clear hB2 HP HB1
      go_wp2
      go_ret
      exact ⟨ret_bool' HE.out.symm, HB2.out⟩
  · rw [tt_false h1] at HS
    have HE := Lib.hid (tt_false (P := CanHold ds ⟨z, s, ps⟩) (fun h => h1 h.1))
    clear h1 hB K
    go_enter Tryz.func22, Tryz.ntmps22
    go_wp2_with fail
    refine HS.out.mono ?_
    rintro e w1 ⟨rfl, hB1⟩
    have HB1 := Lib.hid (HB.out.trans (hB1.mono HB.out.size))
    clear hB1 HS HB
    go_wp2
    go_ret
    exact ⟨ret_bool' HE.out.symm, HB1.out⟩

/-- A row whose block stands. -/
theorem own_stand {w w' : World} {base K n : Nat} {e : TypeId} {v : Value} {xs : List Value} (h : w.ownsRow base e K v n xs) (hh : ∀ b, v.ownBlock = some b → w'.heap[b]? = w.heap[b]?) : w'.ownsRow base e K v n xs := by
  refine ⟨h.1, ?_⟩
  rcases h.2 with h | ⟨g, cap, cur, rfl, hg, hr, rest⟩
  · exact .inl h
  · exact .inr ⟨g, cap, cur, rfl, hg, (hh g rfl).trans hr, rest⟩
/-- What a write to one disk leaves of the others. -/
theorem DkHole.keepR {w w' : World} {base : Nat} {v v1 v2 v3 v4 : Value} {cs : List DiskD} {i : Nat} {ys : List Value} (h : DkHole w base v cs i ys) (hi : i < cs.length) (hk : KeepR v1 v2 v3 v4 w w')
    (q1 : ys[i * 5 + 1]? = some v1) (q2 : ys[i * 5 + 2]? = some v2) (q3 : ys[i * 5 + 3]? = some v3) (q4 : ys[i * 5 + 4]? = some v4) (hv : ∀ E, DkE ys i E → v.ownBlock ≠ some E) : DkHole w' base v cs i ys := by
  obtain ⟨h1, h2, h3, h4⟩ := h
  have hst : ∀ E, E < w.heap.size → ¬DkE ys i E → w'.heap[E]? = w.heap[E]? := fun E hE hn =>
    hk E hE (fun e => hn ⟨1, _, by omega, q1, e⟩) (fun e => hn ⟨2, _, by omega, q2, e⟩) (fun e => hn ⟨3, _, by omega, q3, e⟩) (fun e => hn ⟨4, _, by omega, q4, e⟩)
  refine ⟨own_stand h1 (fun b hb => hst b (h1.lt b hb).2 (fun k => hv b k hb)), h2, h3, fun j hj hji => ?_⟩
  obtain ⟨u1, u2, u3, u4, p0, p1, p2, p3, p4, hd⟩ := h4 j hj hji
  have hfar : ∀ E, DkE ys j E → ¬DkE ys i E := fun E a b => h3 j i E hj hi hji a b
  refine ⟨u1, u2, u3, u4, p0, p1, p2, p3, p4, ?_⟩
  obtain ⟨w1, w2, w3, w4, e, o1, o2, o3, o4, o5⟩ := hd
  have e' := e
  injection e with e
  injection e with e
  injection e with _ e
  injection e with e1 e
  injection e with e2 e
  injection e with e3 e
  injection e with e4 _
  subst e1 e2 e3 e4
  exact ⟨u1, u2, u3, u4, e', own_stand o1 (fun b hb => hst b (o1.lt b hb).2 (hfar b ⟨1, _, by omega, p1, hb⟩)), own_stand o2 (fun b hb => hst b (o2.lt b hb).2 (hfar b ⟨2, _, by omega, p2, hb⟩)), own_stand o3 (fun b hb => hst b (o3.lt b hb).2 (hfar b ⟨3, _, by omega, p3, hb⟩)), own_stand o4 (fun b hb => hst b (o4.lt b hb).2 (hfar b ⟨4, _, by omega, p4, hb⟩)), o5⟩
/-- The disk that was written, put back. -/
theorem DkHole.put {w : World} {base base' g n cap i n0 : Nat} {cs : List DiskD} {ys : List Value} {d : DiskD} {u0 u1 u2 u3 u4 : Value} (h : DkHole w base (.slice (some ⟨g, 0, none⟩) n cap) cs i ys) (hn : n = cs.length) (hi : i < cs.length)
    (ho : OwnDisk w base' (.agg #[u0, u1, u2, u3, u4]) d) (hbb : base ≤ base') (hst : u0 = .int .i64 d.state) (hnew : ∀ u ∈ [u0, u1, u2, u3, u4], ∀ E, u.ownBlock = some E → DkE ys i E ∨ n0 ≤ E) (hold : ∀ j E, j < cs.length → DkE ys j E → E < n0) :
    ∃ zs, (setW w g i u0 u1 u2 u3 u4).ownsRow base 50 5 (.slice (some ⟨g, 0, none⟩) n cap) (cs.set i d).length zs ∧ DkRow (setW w g i u0 u1 u2 u3 u4) base (cs.set i d) (cs.set i d).length zs ∧ DkFar zs (cs.set i d).length ∧
      ∀ j E, j < cs.length → DkE zs j E → (∃ j', j' < cs.length ∧ DkE ys j' E) ∨ n0 ≤ E := by
  subst hn
  obtain ⟨h1, h2, h3, h4⟩ := h
  obtain ⟨g', cap', cur, e, _, hblk⟩ := own_form h1 (by omega)
  injection e with e
  injection e with e
  injection e with e _ _
  subst e
  have hlen : i * 5 + 4 < ys.length := by omega
  obtain ⟨q0, q1, q2, q3, q4⟩ := set5_eq (u0 := u0) (u1 := u1) (u2 := u2) (u3 := u3) (u4 := u4) hlen
  have hE : ∀ E, DkE (set5 ys i u0 u1 u2 u3 u4) i E → DkE ys i E ∨ n0 ≤ E := fun E ⟨c, u, hc, hu, he⟩ => by
    have : c = 0 ∨ c = 1 ∨ c = 2 ∨ c = 3 ∨ c = 4 := by omega
    rcases this with rfl | rfl | rfl | rfl | rfl
    · rw [Nat.add_zero, q0] at hu; cases hu; exact hnew _ (by simp) E he
    · rw [q1] at hu; cases hu; exact hnew _ (by simp) E he
    · rw [q2] at hu; cases hu; exact hnew _ (by simp) E he
    · rw [q3] at hu; cases hu; exact hnew _ (by simp) E he
    · rw [q4] at hu; cases hu; exact hnew _ (by simp) E he
  refine ⟨set5 ys i u0 u1 u2 u3 u4, ?_, ⟨by rw [set5_length, List.length_set]; exact h2, fun j hj => ?_⟩, fun a b E ha hb hab hEa hEb => ?_, fun j E hj hj' => ?_⟩
  · rw [List.length_set]; exact own_setW h1 i u0 u1 u2 u3 u4
  · rw [List.length_set] at hj
    by_cases e : j = i
    · subst e
      rw [getD_setD _ _ _ _ hi, if_pos rfl]
      subst hst
      exact ⟨u1, u2, u3, u4, q0, q1, q2, q3, q4, (setW_disk ho hblk _ _ _ _ _ _).mono hbb⟩
    · rw [getD_setD _ _ _ _ hi, if_neg (fun q => e q.symm)]
      obtain ⟨v1, v2, v3, v4, p0, p1, p2, p3, p4, hv⟩ := h4 j hj e
      refine ⟨v1, v2, v3, v4, ?_, ?_, ?_, ?_, ?_, setW_disk hv hblk _ _ _ _ _ _⟩
      · have := set5_ne (ys := ys) (u0 := u0) (u1 := u1) (u2 := u2) (u3 := u3) (u4 := u4) e (show 0 < 5 by omega)
        rw [Nat.add_zero] at this; rw [this]; exact p0
      · rw [set5_ne e (by omega)]; exact p1
      · rw [set5_ne e (by omega)]; exact p2
      · rw [set5_ne e (by omega)]; exact p3
      · rw [set5_ne e (by omega)]; exact p4
  · rw [List.length_set] at ha hb
    by_cases ei : a = i
    · subst ei
      have hb' := (dkE_ne (fun q => hab q.symm)).1 hEb
      rcases hE E hEa with q | q
      · exact h3 a b E ha hb hab q hb'
      · have := hold b E hb hb'; omega
    · have ha' := (dkE_ne ei).1 hEa
      by_cases ej : b = i
      · subst ej
        rcases hE E hEb with q | q
        · exact h3 a b E ha hb hab ha' q
        · have := hold a E ha ha'; omega
      · exact h3 a b E ha hb hab ha' ((dkE_ne ej).1 hEb)
  · by_cases e : j = i
    · subst e
      rcases hE E hj' with q | q
      · exact .inl ⟨j, hj, q⟩
      · exact .inr q
    · exact .inl ⟨j, hj, (dkE_ne e).1 hj'⟩
/-- The rows of the disk that is taken out are no rows of disks. -/
theorem DkHole.ne {w : World} {base : Nat} {v v1 v2 v3 v4 : Value} {cs : List DiskD} {i : Nat} {ys : List Value} {d : DiskD} {z : Int} (h : DkHole w base v cs i ys) (ho : Own4 w base v1 v2 v3 v4 d)
    (q0 : ys[i * 5]? = some (.int .i64 z)) (q1 : ys[i * 5 + 1]? = some v1) (q2 : ys[i * 5 + 2]? = some v2) (q3 : ys[i * 5 + 3]? = some v3) (q4 : ys[i * 5 + 4]? = some v4) : ∀ E, DkE ys i E → v.ownBlock ≠ some E := by
  rintro E ⟨c, u, hc, hu, he⟩
  have : c = 0 ∨ c = 1 ∨ c = 2 ∨ c = 3 ∨ c = 4 := by omega
  rcases this with rfl | rfl | rfl | rfl | rfl
  · rw [Nat.add_zero, q0] at hu; cases hu; cases he
  · rw [q1] at hu; cases hu; exact row_ne h.1 ho.1 (by decide) E he
  · rw [q2] at hu; cases hu; exact row_ne h.1 ho.2.1 (by decide) E he
  · rw [q3] at hu; cases hu; exact row_ne h.1 ho.2.2.1 (by decide) E he
  · rw [q4] at hu; cases hu; exact row_ne h.1 ho.2.2.2.1 (by decide) E he

/-- DISKS OF ONE's OWN, none of whose rows lies in block x. -/
def OwnDksX (w : World) (base : Nat) (v : Value) (ds : List DiskD) (x : Nat) : Prop :=
  ∃ ys, w.ownsRow base 50 5 v ds.length ys ∧ DkRow w base ds ds.length ys ∧ DkFar ys ds.length ∧ ∀ j E, j < ds.length → DkE ys j E → E ≠ x
theorem OwnDksX.own {w : World} {base x : Nat} {v : Value} {ds : List DiskD} (h : OwnDksX w base v ds x) : OwnDks w base v ds := by
  obtain ⟨ys, h1, h2, h3, _⟩ := h; exact ⟨ys, h1, h2, h3⟩
theorem OwnDks.noX {w : World} {base x : Nat} {v : Value} {ds : List DiskD} (h : OwnDks w base v ds) (hx : w.heap.size ≤ x) : OwnDksX w base v ds x := by
  obtain ⟨ys, h1, h2, h3⟩ := h; exact ⟨ys, h1, h2, h3, fun j E hj hE e => by have := (h2.lt hj hE).2; omega⟩
theorem OwnDksX.hole {w : World} {base x : Nat} {v : Value} {cs : List DiskD} (h : OwnDksX w base v cs x) {i : Nat} (hi : i < cs.length) : ∃ ys v1 v2 v3 v4, DkHole w base v cs i ys ∧ Own4 w base v1 v2 v3 v4 (cs.getD i disk0) ∧
    ys[i * 5]? = some (.int .i64 (cs.getD i disk0).state) ∧ ys[i * 5 + 1]? = some v1 ∧ ys[i * 5 + 2]? = some v2 ∧ ys[i * 5 + 3]? = some v3 ∧ ys[i * 5 + 4]? = some v4 ∧ (∀ j E, j < cs.length → DkE ys j E → E ≠ x ∧ E < w.heap.size) := by
  obtain ⟨ys, h1, h2, h3, h4⟩ := h
  obtain ⟨v1, v2, v3, v4, q0, q1, q2, q3, q4, u1, u2, u3, u4, e, ho⟩ := h2.2 i hi
  injection e with e
  injection e with e
  injection e with _ e
  injection e with e1 e
  injection e with e2 e
  injection e with e3 e
  injection e with e4 _
  subst e1 e2 e3 e4
  exact ⟨ys, v1, v2, v3, v4, ⟨h1, h2.1, h3, fun j hj _ => h2.2 j hj⟩, ho, q0, q1, q2, q3, q4, fun j E hj hE => ⟨h4 j E hj hE, (h2.lt hj hE).2⟩⟩

end Go.Proofs.YtcdiengbmjkglaaGreat
