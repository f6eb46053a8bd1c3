/- A root's text that is cut, or changed in one byte, is no root's text, as data. Conditions: the root is ok. -/
import Derived.Test.YtliadobopideaaaGreatDoorPKRR
import Derived.Test.YtliadobopideaaaGreatDoorPKLF
import Derived.Test.YtliadobopideaaaGreatDoorPKC1
namespace Go.Proofs.YtliadobopideaaaGreatDoor
open Go.RowKit Go.Sort

theorem full_parts (r : RootD) : (fullT r).data.toList = [114, 111, 111, 116, 32] ++ (dz r.txg ++ 10 :: (r.vols.flatMap volTx ++ 115 :: ([117, 109, 32] ++ dz (sumT r) ++ [10]))) := by
  unfold fullT bodyT roT
  simp [ByteArray.data_append, tx, rootHd, volsTx]
/-- No text of an ok root is the beginning of another one. -/
theorem full_pre {n : Int} {a b : RootD} {u : List UInt8} (ha : RootOkP n a) (hb : RootOkP n b) (h : (fullT a).data.toList ++ u = (fullT b).data.toList) : a = b := by
  have h1 : [114, 111, 111, 116, 32] ++ (dz a.txg ++ 10 :: (a.vols.flatMap volTx ++ 115 :: (([117, 109, 32] ++ dz (sumT a) ++ [10]) ++ u))) = [114, 111, 111, 116, 32] ++ (dz b.txg ++ 10 :: (b.vols.flatMap volTx ++ 115 :: ([117, 109, 32] ++ dz (sumT b) ++ [10]))) := by
    rw [← full_parts b, ← h, full_parts a]; simp
  have h2 := List.append_cancel_left h1
  obtain ⟨h3, h4⟩ := split_at (dz_no _ (by decide)) (dz_no _ (by decide)) h2
  have k1 := dz_inj ha.2.1.1 hb.2.1.1 h3
  have k2 := vols_inj (vol_one ha) (vol_one hb) h4
  obtain ⟨ta, va⟩ := a
  obtain ⟨tb, vb⟩ := b
  simp only at k1 k2
  rw [k1, k2]
theorem cut_no {n : Int} {r : RootD} {k : Nat} (h : RootOkP n r) (hk : k < (fullT r).size) : ¬ReadsAs n (tx ((fullT r).data.toList.take k)) := by
  rintro ⟨_, h1, h2⟩
  have h3 : (fullT (rootL (tx ((fullT r).data.toList.take k)).data.toList)).data.toList = (fullT r).data.toList.take k := by rw [h2, tx_list]
  have h4 := full_pre (u := (fullT r).data.toList.drop k) h1 h (by rw [h3, List.take_append_drop])
  rw [h4] at h3
  have h5 := congrArg List.length h3
  rw [List.length_take, bytes_len] at h5
  omega

/-! ### one byte changed -/
theorem line_diff {A A' M1 M1' : List UInt8} {k : Nat} (hl : A.length + M1.length = A'.length + M1'.length) (h1 : (115 : UInt8) ∉ M1) (h10 : (10 : UInt8) ∉ M1) (hA' : ∃ B, A' = B ++ [10])
    (hs : ∀ i, i ≠ k → (A ++ 115 :: (M1 ++ [10]))[i]? = (A' ++ 115 :: (M1' ++ [10]))[i]?) : ¬A.length < A'.length := by
  intro hlt
  obtain ⟨B, rfl⟩ := hA'
  rw [List.length_append, List.length_singleton] at hl hlt
  have e1 : ((B ++ [10]) ++ 115 :: (M1' ++ [10]))[B.length]? = some 10 := by
    rw [List.getElem?_append_left (by simp), List.getElem?_append_right (Nat.le_refl _)]; simp
  have e2 : ((B ++ [10]) ++ 115 :: (M1' ++ [10]))[B.length + 1]? = some 115 := by
    rw [List.getElem?_append_right (by simp)]; simp
  have at_M : ∀ j, 1 ≤ j → j ≤ M1.length → ∃ x, (A ++ 115 :: (M1 ++ [10]))[A.length + j]? = some x ∧ x ∈ M1 := fun j hj1 hj2 => by
    rw [List.getElem?_append_right (by omega), show A.length + j - A.length = (j - 1) + 1 by omega, List.getElem?_cons_succ, List.getElem?_append_left (by omega), List.getElem?_eq_getElem (by omega)]
    exact ⟨_, rfl, List.getElem_mem _⟩
  have hk : k = B.length := by
    rcases Nat.eq_or_lt_of_le (show A.length ≤ B.length by omega) with e | e
    · rcases Nat.lt_or_ge B.length k with hh | hh
      · exfalso
        have := hs B.length (by omega)
        rw [e1, ← e, List.getElem?_append_right (Nat.le_refl _)] at this
        simp at this
      · rcases Nat.eq_or_lt_of_le hh with h2 | h2
        · exact h2
        · exfalso
          have := hs B.length (by omega)
          rw [e1, ← e, List.getElem?_append_right (Nat.le_refl _)] at this
          simp at this
    · by_cases hh : B.length = k
      · exact hh.symm
      · exfalso
        have h3 := hs B.length hh
        obtain ⟨x, hx, hm⟩ := at_M (B.length - A.length) (by omega) (by omega)
        rw [show A.length + (B.length - A.length) = B.length by omega] at hx
        rw [hx, e1] at h3
        cases h3
        exact h10 hm
  have h4 := hs (B.length + 1) (by omega)
  obtain ⟨x, hx, hm⟩ := at_M (B.length + 1 - A.length) (by omega) (by omega)
  rw [show A.length + (B.length + 1 - A.length) = B.length + 1 by omega] at hx
  rw [hx, e2] at h4
  cases h4
  exact h1 hm
theorem body_ends (r : RootD) : ∃ B, (bodyT r).data.toList = B ++ [10] := by
  have hp : ∀ p : PtrD, ∃ B, ptrTx p = B ++ [10] := fun p => by
    unfold ptrTx
    split
    · exact ⟨[110, 111, 110, 101], rfl⟩
    · exact ⟨_, rfl⟩
  have hb : ∀ (bs : List PtrD) (h : List UInt8), (∃ B, h = B ++ [10]) → ∃ B, h ++ bs.flatMap ptrTx = B ++ [10] := by
    intro bs
    induction bs with
    | nil => rintro h ⟨B, rfl⟩; exact ⟨B, by simp⟩
    | cons p r ih =>
      intro h _
      obtain ⟨B, hB⟩ := hp p
      rw [List.flatMap_cons, ← List.append_assoc]
      exact ih _ ⟨h ++ B, by rw [hB, List.append_assoc]⟩
  have hv : ∀ v : VolD, ∃ B, volTx v = B ++ [10] := fun v => by
    unfold volTx blocksTx
    rw [List.take_length]
    exact hb v.blocks _ ⟨[118, 111, 108, 32] ++ v.name.data.toList, by unfold volHd; simp⟩
  have ha : ∀ (vs : List VolD) (h : List UInt8), (∃ B, h = B ++ [10]) → ∃ B, h ++ vs.flatMap volTx = B ++ [10] := by
    intro vs
    induction vs with
    | nil => rintro h ⟨B, rfl⟩; exact ⟨B, by simp⟩
    | cons v r ih =>
      intro h _
      obtain ⟨B, hB⟩ := hv v
      rw [List.flatMap_cons, ← List.append_assoc]
      exact ih _ ⟨h ++ B, by rw [hB, List.append_assoc]⟩
  have e : (bodyT r).data.toList = rootHd r ++ r.vols.flatMap volTx := by
    unfold bodyT roT volsTx
    rw [List.take_length]; rfl
  rw [e]
  exact ha r.vols _ ⟨[114, 111, 111, 116, 32] ++ dz r.txg, by unfold rootHd; simp⟩
theorem full_body (r : RootD) : (fullT r).data.toList = (bodyT r).data.toList ++ 115 :: (([117, 109, 32] ++ dz (sumT r)) ++ [10]) := by
  unfold fullT
  simp [ByteArray.data_append, tx]
theorem sum_line (z : Int) : (115 : UInt8) ∉ [117, 109, 32] ++ dz z ∧ (10 : UInt8) ∉ [117, 109, 32] ++ dz z := by
  have h := @dz_dig z
  constructor
  · intro k
    rcases List.mem_append.1 k with k | k
    · revert k; decide
    · have := h _ k; revert this; decide
  · intro k
    rcases List.mem_append.1 k with k | k
    · revert k; decide
    · have := h _ k; revert this; decide
theorem sum_diff {s t : ByteArray} {k : Nat} (hs : ∀ i, i ≠ k → byteAt s i = byteAt t i) (hd : byteAt s k ≠ byteAt t k) : ∀ m, k < m → sumTo s m ≠ sumTo t m := by
  have key : ∀ m, sumTo s m - sumTo t m = if k < m then (byteAt s k - byteAt t k) * (65536 + (k : Int) + 1) else 0 := by
    intro m
    induction m with
    | zero => simp [sumTo]
    | succ m ih =>
      unfold sumTo
      by_cases e : m = k
      · subst e
        rw [if_neg (Nat.lt_irrefl _)] at ih
        rw [if_pos (Nat.lt_succ_self _), Int.sub_mul]
        omega
      · rw [hs m e]
        by_cases h : k < m
        · rw [if_pos h] at ih; rw [if_pos (by omega)]; omega
        · rw [if_neg h] at ih; rw [if_neg (by omega)]; omega
  intro m hm he
  have h := key m
  rw [if_pos hm, he, Int.sub_self] at h
  rcases Int.mul_eq_zero.1 h.symm with h | h
  · omega
  · omega
theorem byte_list {s t : ByteArray} {i : Nat} (hsz : s.size = t.size) : byteAt s i = byteAt t i ↔ s.data.toList[i]? = t.data.toList[i]? := by
  have h1 := bytes_len s
  have h2 := bytes_len t
  unfold byteAt
  by_cases h : i < s.size
  · rw [List.getElem?_eq_getElem (by omega), List.getElem?_eq_getElem (by omega)]
    simp only [Option.some.injEq]
    constructor
    · intro e
      exact UInt8.toNat_inj.1 (by have e2 : ((s.data.toList[i]'(by omega)).toNat : Int) = ((t.data.toList[i]'(by omega)).toNat : Int) := e; omega)
    · intro e; rw [e]
  · rw [List.getElem?_eq_none (by omega), List.getElem?_eq_none (by omega)]
    simp
/-- Two texts of ok roots do not differ in just one byte. -/
theorem no_diff {a b : RootD} {k : Nat} (hsz : (fullT a).size = (fullT b).size) (hs : ∀ i, i ≠ k → byteAt (fullT a) i = byteAt (fullT b) i) (hd : byteAt (fullT a) k ≠ byteAt (fullT b) k) (ha : SmallRoot a) (hb : SmallRoot b) : False := by
  have hs' : ∀ i, i ≠ k → (fullT a).data.toList[i]? = (fullT b).data.toList[i]? := fun i hi => (byte_list hsz).1 (hs i hi)
  have hl : (fullT a).data.toList.length = (fullT b).data.toList.length := by rw [bytes_len, bytes_len, hsz]
  have hd' : (fullT a).data.toList[k]? ≠ (fullT b).data.toList[k]? := fun e => hd ((byte_list hsz).2 e)
  rw [full_body, full_body] at hs' hl hd'
  obtain ⟨a1, a2⟩ := sum_line (sumT a)
  obtain ⟨b1, b2⟩ := sum_line (sumT b)
  have sa := (sumT_bd a ha).1
  have sb := (sumT_bd b hb).1
  have la := bytes_len (bodyT a)
  have lb := bytes_len (bodyT b)
  have hll : (bodyT a).data.toList.length + ([117, 109, 32] ++ dz (sumT a)).length = (bodyT b).data.toList.length + ([117, 109, 32] ++ dz (sumT b)).length := by
    generalize [117, 109, 32] ++ dz (sumT a) = X at hl ⊢
    generalize [117, 109, 32] ++ dz (sumT b) = Y at hl ⊢
    simp only [List.length_append, List.length_cons, List.length_nil] at hl
    omega
  have n1 := line_diff hll a1 a2 (body_ends b) hs'
  have n2 := line_diff hll.symm b1 b2 (body_ends a) (fun i hi => (hs' i hi).symm)
  have he : (bodyT a).data.toList.length = (bodyT b).data.toList.length := by omega
  have hsb : (bodyT a).size = (bodyT b).size := by omega
  by_cases hk : k < (bodyT a).data.toList.length
  · -- in the body: the sum lines are the same
    have hM : ([117, 109, 32] ++ dz (sumT a)) ++ [10] = ([117, 109, 32] ++ dz (sumT b)) ++ [10] := by
      refine List.ext_getElem? fun j => ?_
      have h := hs' ((bodyT a).data.toList.length + 1 + j) (by omega)
      rw [List.getElem?_append_right (by omega), List.getElem?_append_right (by omega), show (bodyT a).data.toList.length + 1 + j - (bodyT a).data.toList.length = j + 1 by omega, show (bodyT a).data.toList.length + 1 + j - (bodyT b).data.toList.length = j + 1 by omega, List.getElem?_cons_succ, List.getElem?_cons_succ] at h
      exact h
    have hz := List.append_cancel_right hM
    have hz2 := dz_inj sa sb (List.append_cancel_left hz)
    have hbs : ∀ i, i ≠ k → byteAt (bodyT a) i = byteAt (bodyT b) i := fun i hi => by
      rw [byte_list hsb]
      by_cases hlt : i < (bodyT a).data.toList.length
      · have h := hs' i hi
        rw [List.getElem?_append_left hlt, List.getElem?_append_left (by omega)] at h
        exact h
      · rw [List.getElem?_eq_none (by omega), List.getElem?_eq_none (by omega)]
    have hbd : byteAt (bodyT a) k ≠ byteAt (bodyT b) k := fun e => by
      rw [byte_list hsb] at e
      rw [List.getElem?_append_left hk, List.getElem?_append_left (by omega)] at hd'
      exact hd' e
    have := sum_diff hbs hbd (bodyT a).size (by omega)
    unfold sumT at hz2
    rw [hsb] at this hz2
    exact this hz2
  · have hB : bodyT a = bodyT b := by
      refine text_ext hsb fun i hi => ?_
      rw [byte_list hsb]
      have h := hs' i (by omega)
      rw [List.getElem?_append_left (by omega), List.getElem?_append_left (by omega)] at h
      exact h
    apply hd'
    have : sumT a = sumT b := by unfold sumT; rw [hB]
    rw [hB, this]
theorem changed_no {n : Int} {r : RootD} {k : Nat} {x : Int} (h : RootOkP n r) (hk : k < (fullT r).size) (hx : 0 ≤ x ∧ x ≤ 255) (hne : x ≠ byteAt (fullT r) k) : ¬ReadsAs n (withAt (fullT r) k x) := by
  rintro ⟨_, h1, h2⟩
  have hw := fun i => withAt_byte (fullT r) k x hk hx i
  have hsz := withAt_size (fullT r) k x
  rw [← h2] at hw hsz
  refine no_diff (k := k) hsz.symm (fun i hi => ?_) ?_ h.small h1.small
  · rw [hw i, if_neg hi]
  · rw [hw k, if_pos rfl]; exact fun e => hne e.symm

theorem full_pos (r : RootD) : 0 < (fullT r).size := by
  rcases Nat.eq_zero_or_pos (fullT r).size with h | h
  · exact absurd (by
      have h2 := bytes_len (fullT r)
      rw [h] at h2
      rw [show fullT r = tx (fullT r).data.toList from rfl, List.eq_nil_of_length_eq_zero h2]; rfl) (fullT_ne r)
  · exact h

end Go.Proofs.YtliadobopideaaaGreatDoor
