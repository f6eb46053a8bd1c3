/- Plain facts of a root with a volume less, and of one with an empty volume more. Conditions: none. -/
import Derived.Test.YtlonecgmldjdpaaMR
namespace Go.Proofs.Ytlonecgmldjdpaa
open Go.RowKit Go.Sort Go.Lib

theorem getD_el {α : Type} {l : List α} {d : α} {i : Nat} (h : i < l.length) : l.getD i d = l[i] := by rw [List.getD, List.getElem?_eq_getElem h]; rfl
theorem apart_iff (ps : List PtrD) : Apart ps ↔ ps.Pairwise (fun p q => ¬Clash q p) := by
  rw [List.pairwise_iff_getElem]
  unfold Apart
  constructor
  · intro h i j hi hj hij
    have := h j hj i hij
    rw [getD_el hj, getD_el hi] at this
    exact this
  · intro h i hi k hk
    rw [getD_el hi, getD_el (show k < ps.length by omega)]
    exact h k i (by omega) hi hk
/-- A VOLUME IS FINE. -/
def VolFn (n : Int) (v : VolD) : Prop := NameOk v.name ∧ v.blocks.length = 3 ∧ ∀ p ∈ v.blocks, PtrOkP n p
theorem fine_iff (n : Int) (vs : List VolD) : VolsFine n vs ↔ vs.length ≤ 4 ∧ (∀ v ∈ vs, VolFn n v) ∧ vs.Pairwise (fun v w => v.name ≠ w.name) := by
  rw [List.pairwise_iff_getElem]
  unfold VolsFine
  constructor
  · rintro ⟨h4, h⟩
    refine ⟨h4, fun v hv => ?_, fun i j hi hj hij => ?_⟩
    · obtain ⟨k, hk, rfl⟩ := List.getElem_of_mem hv
      have := h k hk
      unfold VolFine at this
      rw [getD_el hk] at this
      refine ⟨this.1, this.2.2.1, fun p hp => ?_⟩
      obtain ⟨j, hj, rfl⟩ := List.getElem_of_mem hp
      have := this.2.2.2 j hj
      rw [getD_el hj] at this
      exact this
    · have := (h j hj).2.1 i hij
      rw [getD_el hi, getD_el hj] at this
      exact this
  · rintro ⟨h4, h1, h2⟩
    refine ⟨h4, fun k hk => ?_⟩
    unfold VolFine
    rw [getD_el hk]
    obtain ⟨a, b, c⟩ := h1 _ (List.getElem_mem hk)
    refine ⟨a, fun i hi => ?_, b, fun j hj => ?_⟩
    · rw [getD_el (show i < vs.length by omega)]
      exact h2 i k (by omega) hk hi
    · rw [getD_el hj]
      exact c _ (List.getElem_mem hj)
theorem flat_sub {α β : Type} (f : α → List β) {l m : List α} (h : l.Sublist m) : (l.flatMap f).Sublist (m.flatMap f) := by
  induction h with
  | slnil => exact List.Sublist.refl _
  | cons a _ ih => rw [List.flatMap_cons]; exact ih.trans (List.sublist_append_right _ _)
  | cons_cons a _ ih => rw [List.flatMap_cons, List.flatMap_cons]; exact (List.Sublist.refl _).append ih
theorem split_k {vs : List VolD} {k : Nat} (hk : k < vs.length) : vs = vs.take k ++ vs.getD k vol0 :: vs.drop (k + 1) := by
  rw [getD_el hk, ← List.drop_eq_getElem_cons hk, List.take_append_drop]
theorem less_sub {vs : List VolD} {k : Nat} (hk : k < vs.length) : (vs.take k ++ vs.drop (k + 1)).Sublist vs := by
  conv => rhs; rw [split_k hk]
  exact (List.Sublist.refl _).append (List.sublist_cons_self _ _)
theorem less_ok {n t : Int} {vs : List VolD} {k : Nat} (h : RootOkP n ⟨t, vs⟩) (hk : k < vs.length) : RootOkP n ⟨t, vs.take k ++ vs.drop (k + 1)⟩ := by
  obtain ⟨hp, ht, hf, ha⟩ := h
  simp only at ht hf ha
  rw [fine_iff] at hf
  have hs := less_sub hk
  refine ⟨hp, ht, ?_, ?_⟩
  · show VolsFine n (vs.take k ++ vs.drop (k + 1))
    rw [fine_iff]
    exact ⟨Nat.le_trans hs.length_le hf.1, fun v hv => hf.2.1 v (hs.subset hv), hf.2.2.sublist hs⟩
  · show Apart (allOf (vs.take k ++ vs.drop (k + 1)))
    rw [apart_iff] at ha ⊢
    exact ha.sublist (flat_sub _ hs)
theorem ptr0_ok {n : Int} (h : Pool n) : PtrOkP n ptr0 := ⟨h, .inl ⟨rfl, rfl, rfl⟩⟩
theorem no_clash (p : PtrD) : ¬Clash ptr0 p := fun ⟨⟨j, hj, _⟩, _⟩ => by simp [ptr0] at hj
theorem allOf_more (vs : List VolD) (nm : ByteArray) : allOf (vs ++ [⟨nm, [ptr0, ptr0, ptr0]⟩]) = allOf vs ++ [ptr0, ptr0, ptr0] := by simp [allOf]
theorem more_ok {n t : Int} {vs : List VolD} {k : Nat} (h : RootOkP n ⟨t, vs⟩) (hk : k < vs.length) : RootOkP n ⟨t, (vs.take k ++ vs.drop (k + 1)) ++ [⟨(vs.getD k vol0).name, [ptr0, ptr0, ptr0]⟩]⟩ := by
  obtain ⟨hp, ht, hf', ha'⟩ := less_ok h hk
  obtain ⟨_, _, hf, _⟩ := h
  simp only at hf ht hf' ha'
  rw [fine_iff] at hf hf'
  rw [apart_iff] at ha'
  refine ⟨hp, ht, ?_, ?_⟩
  · show VolsFine n _
    rw [fine_iff]
    have hkm : vs.getD k vol0 ∈ vs := getD_mem hk
    have hpw := hf.2.2
    rw [split_k hk, List.pairwise_append, List.pairwise_cons] at hpw
    refine ⟨?_, fun v hv => ?_, ?_⟩
    · have := hf.1
      simp
      omega
    · rcases List.mem_append.1 hv with hv | hv
      · exact hf'.2.1 v hv
      · rw [List.mem_singleton] at hv
        subst hv
        exact ⟨(hf.2.1 _ hkm).1, rfl, fun p hp' => by
          have : p = ptr0 := by simpa using hp'
          rw [this]; exact ptr0_ok hp⟩
    · rw [List.pairwise_append]
      refine ⟨hf'.2.2, by simp, fun a ha b hb => ?_⟩
      rw [List.mem_singleton] at hb
      subst hb
      rcases List.mem_append.1 ha with ha | ha
      · exact (hpw.2.2 a ha (vs.getD k vol0) List.mem_cons_self : a.name ≠ (vs.getD k vol0).name)
      · exact fun e => hpw.2.1.1 a ha e.symm
  · show Apart (allOf _)
    rw [allOf_more, apart_iff, List.pairwise_append]
    refine ⟨ha', ?_, fun a _ b hb => ?_⟩
    · simp [no_clash]
    · have : b = ptr0 := by simpa using hb
      rw [this]
      exact no_clash a
theorem less_in {n t : Int} {vs : List VolD} {k : Nat} (h : RootOkP n ⟨t, vs⟩) (hk : k < vs.length) {q : PlD} (hq : PlIn q (rpl n ⟨t, vs.take k ++ vs.drop (k + 1)⟩)) : PlIn q (rpl n ⟨t, vs⟩) := by
  rw [in_rpl (less_ok h hk)] at hq
  rw [in_rpl h]
  unfold UsedBy' plsOf at *
  exact (flat_sub _ (flat_sub _ (less_sub hk))).subset hq
theorem more_rpl {n t : Int} {vs : List VolD} {k : Nat} (h : RootOkP n ⟨t, vs⟩) (hk : k < vs.length) : rpl n ⟨t, (vs.take k ++ vs.drop (k + 1)) ++ [⟨(vs.getD k vol0).name, [ptr0, ptr0, ptr0]⟩]⟩ = rpl n ⟨t, vs.take k ++ vs.drop (k + 1)⟩ := by
  rw [rpl_ok (more_ok h hk), rpl_ok (less_ok h hk)]
  congr 1
  funext q
  unfold UsedBy'
  show (q ∈ plsOf (allOf _)) = (q ∈ plsOf (allOf _))
  rw [allOf_more]
  simp [plsOf, ptr0]

end Go.Proofs.Ytlonecgmldjdpaa
