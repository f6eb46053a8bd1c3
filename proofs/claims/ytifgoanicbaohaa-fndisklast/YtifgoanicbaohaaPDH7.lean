/- What waits comes to a drive, as its bits say; nothing waits then. Conditions: the disk is ok. -/
import Derived.Test.YtifgoanicbaohaaPDH4
import Derived.Test.YtifgoanicbaohaaPDH6
import Derived.Laws.BitsAllLaws
namespace Go.Proofs.Ytifgoanicbaohaa
open Go.RowKit Go.Sort Go.Shelf

/-- WHAT COMES OF WRITES, by the bits of a number: the first one's is the lowest. -/
def crashTo : DiskD → Int → List PutD → DiskD
  | d, _, [] => d
  | d, keep, p :: ps => crashTo (if keep % 2 = 1 then comeD d p else d) (keep / 2) ps
def crashD (d : DiskD) (keep : Int) : DiskD := let e := crashTo d keep d.wait; ⟨e.state, e.slots, e.rings, e.spoilt, []⟩
theorem crashTo_snoc (d : DiskD) (keep : Int) (ps : List PutD) (p : PutD) : crashTo d keep (ps ++ [p]) = (if (keep / 2 ^ ps.length) % 2 = 1 then comeD (crashTo d keep ps) p else crashTo d keep ps) := by
  induction ps generalizing d keep with
  | nil => simp [crashTo]
  | cons q ps ih =>
    show crashTo _ _ (ps ++ [p]) = _
    rw [ih]
    show _ = if keep / 2 ^ (ps.length + 1) % 2 = 1 then _ else _
    rw [Int.pow_succ, Int.mul_comm, Int.ediv_ediv_of_nonneg (by decide)]
    rfl
theorem crashTo_rows {d : DiskD} (h : HasRows d) (keep : Int) (ps : List PutD) : HasRows (crashTo d keep ps) := by
  induction ps generalizing d keep with
  | nil => exact h
  | cons q ps ih =>
    refine ih ?_ _
    split
    · exact comeD_rows h q
    · exact h
theorem crashTo_wait (d : DiskD) (keep : Int) (ps : List PutD) : (crashTo d keep ps).wait = d.wait ∧ (crashTo d keep ps).state = d.state := by
  induction ps generalizing d keep with
  | nil => exact ⟨rfl, rfl⟩
  | cons q ps ih =>
    have := ih (if keep % 2 = 1 then comeD d q else d) (keep / 2)
    have e : (if keep % 2 = 1 then comeD d q else d).wait = d.wait ∧ (if keep % 2 = 1 then comeD d q else d).state = d.state := by
      split
      · exact comeD_wait d q
      · exact ⟨rfl, rfl⟩
    exact ⟨this.1.trans e.1, this.2.trans e.2⟩

theorem filt_le {l : List Nat} {p q : Nat → Bool} (h : ∀ x ∈ l, p x = true → q x = true) : (l.filter p).length ≤ (l.filter q).length := by
  induction l with
  | nil => exact Nat.le_refl _
  | cons y l ih =>
    have ih' := ih (fun x hx => h x (List.mem_cons_of_mem _ hx))
    simp only [List.filter_cons]
    cases hp : p y
    · cases hq : q y
      · simpa using ih'
      · simp; omega
    · rw [h y List.mem_cons_self hp]
      simp; omega
theorem filt_lt {l : List Nat} {p q : Nat → Bool} (h : ∀ x ∈ l, p x = true → q x = true) (x : Nat) (hx : x ∈ l) (hq : q x = true) (hp : p x = false) : (l.filter p).length < (l.filter q).length := by
  induction l with
  | nil => cases hx
  | cons y l ih =>
    have h' : ∀ x ∈ l, p x = true → q x = true := fun x hx => h x (List.mem_cons_of_mem _ hx)
    simp only [List.filter_cons]
    rcases List.mem_cons.1 hx with e | hx'
    · subst e
      rw [hp, hq]
      have := filt_le h'
      simp; omega
    · have ih' := ih h' hx'
      cases hpy : p y
      · cases hqy : q y
        · simpa using ih'
        · simp; omega
      · rw [h y List.mem_cons_self hpy]
        simp; omega
/-- HOW FAR a pointer is from the end of a chain. -/
def rank (ids : List Nat) : Value → Nat
  | .pointer (some a) => (ids.filter fun i => decide (a.block ≤ i)).length
  | _ => 0
theorem rank_lt {ids : List Nat} (hs : ∀ i j, i < j → j < ids.length → ids.getD i 0 < ids.getD j 0) {k : Nat} (hk : k < ids.length) : rank ids (linkTo ids[k + 1]?) < rank ids (linkTo ids[k]?) := by
  have hmem : ids.getD k 0 ∈ ids := by rw [List.getD, List.getElem?_eq_getElem hk]; exact List.getElem_mem hk
  rw [ptrTo_lt hk]
  by_cases h1 : k + 1 < ids.length
  · rw [ptrTo_lt h1]
    have hh := hs k (k + 1) (by omega) h1
    generalize ids.getD k 0 = a at hmem hh ⊢
    generalize ids.getD (k + 1) 0 = b at hh ⊢
    exact filt_lt (fun x _ hx => by simp at hx ⊢; omega) _ hmem (by simp) (by simp; omega)
  · rw [ptrTo_ge (by omega)]
    show 0 < (ids.filter _).length
    exact List.length_pos_iff.2 (fun e => by
      have : ids.getD k 0 ∈ ids.filter (fun i => decide (ids.getD k 0 ≤ i)) := List.mem_filter.2 ⟨hmem, by simp⟩
      rw [e] at this; cases this)

theorem and_one (k : Int) : bits .and .i64 k 1 = k % 2 := by
  have h2 : (((k % 18446744073709551616).toNat &&& 1 : Nat) : Int) = k % 2 := by
    rw [Nat.and_one_is_mod]
    omega
  have h3 : IntKind.i64.wrap (((k % 18446744073709551616).toNat &&& 1 : Nat) : Int) = k % 2 := by
    rw [h2]
    exact IntWalk.i64_in _ (by omega)
  unfold bits
  simp
  exact h3

set_option maxRecDepth 100000 in
set_option maxHeartbeats 2000000 in
theorem settle_any (base D : Nat) (d : DiskD) (ids : List Nat) (keep : Int) (w : World) (hb : base ≤ w.heap.size) (hk1 : -9223372036854775808 ≤ keep) (hk2 : keep ≤ 9223372036854775807) (hr : HasRows d) (hps : AllPu PutOk d.wait) (hD : Drive w base D d ids) :
    Calls Try.prog 25 #[.pointer (some ⟨D, 0, none⟩), .int .i64 keep] w fun e w' => (∃ v, e = .returned v) ∧ Drive w' base D (crashD d keep) [] ∧ Below base w w' := by
  have HD := Lib.hid hD
  obtain ⟨v1, v2, v3, hbD, hk, h3, hc⟩ := hD
  have hil := hc.1
  have k4 : w.cell? ⟨D, 4, none⟩ = some (linkTo ids[0]?) := hk.cell 4
  have HR := Lib.hid hr
  have HPS := Lib.hid hps
  have Hil := Lib.hid hil
  have HSo := Lib.hid (show ∀ i j, i < j → j < ids.length → ids.getD i 0 < ids.getD j 0 from fun i j h1 h2 => hc.2.2 i j h1 (by omega))
  clear hk h3 hc hr hps hil
  obtain ⟨pa, hpa⟩ : ∃ pa, linkTo ids[0]? = .pointer pa := by
    cases ids[0]? with
    | none => exact ⟨_, rfl⟩
    | some b => exact ⟨_, rfl⟩
  rw [hpa] at k4
  have Hpa := Lib.hid hpa
  clear hpa
  go_enter Try.func25, Try.ntmps25
  go_wp2_with fail
  go_loopw [1, 4] (fun kv one wr => ∃ (k : Nat) (kk : Int), k ≤ d.wait.length ∧ kv = .int .i64 kk ∧ (-9223372036854775808 ≤ kk ∧ kk ≤ 9223372036854775807) ∧ Hid (kk = keep / 2 ^ k) ∧ Hid (one = linkTo ids[k]?) ∧ Hid (Drive wr base D (crashTo d keep (d.wait.take k)) ids) ∧ Hid (Below base w wr)) (fun _ one _ => rank ids one)
  case atStart => exact ⟨0, keep, by omega, rfl, ⟨hk1, hk2⟩, by show _ = _; simp, Hpa.out.symm, HD.out, Below.refl _ _⟩
  case round =>
    obtain ⟨k, kk, hk, rfl, hkk, hdiv, hone, hdr, hB⟩ := hrel
    by_cases hlt : k < d.wait.length
    · have hone' := hone.out.trans (ptrTo_lt (by rw [Hil.out]; exact hlt))
      have hdr0 := hdr.out
      obtain ⟨y1, y2, y3, _, hkD, hR3, hch⟩ := hdr0
      rw [(crashTo_wait d keep (d.wait.take k)).1] at hch
      obtain ⟨c1, c2⟩ := hch.2.1 k hlt
      have htk := Lib.hid (take_snocA d.wait put0 k hlt)
      have hpk := HPS.out k hlt
      have HPk := Lib.hid hpk
      generalize hq : d.wait.getD k put0 = q at c2 htk HPk
      generalize hid : ids.getD k 0 = id at c1 c2 hone'
      obtain ⟨nx, hnx⟩ : ∃ x, linkTo ids[k + 1]? = .pointer x := by
        cases ids[k + 1]? with
        | none => exact ⟨_, rfl⟩
        | some b => exact ⟨_, rfl⟩
      rw [hnx] at c2
      have HN := Lib.hid hnx
      have Hid' := Lib.hid hid
      subst hone'
      have b0 : wr.cell? ⟨id, 0, none⟩ = some (.bool q.ring) := c2.cell 0
      have b1 : wr.cell? ⟨id, 1, none⟩ = some (.int .i64 q.pos) := c2.cell 1
      have b2 : wr.cell? ⟨id, 2, none⟩ = some (.string q.text) := c2.cell 2
      have b3 : wr.cell? ⟨id, 3, none⟩ = some (.pointer nx) := c2.cell 3
      have HM := Lib.hid (rank_lt HSo.out (k := k) (by rw [Hil.out]; exact hlt))
      rw [HN.out, ← hone.out] at HM
      have HK2 := Lib.hid (show kk / 2 = keep / 2 ^ (k + 1) by rw [hdiv.out, Int.pow_succ, Int.ediv_ediv_of_nonneg (Int.pow_nonneg (by decide))])
      have HT := Lib.hid (crashTo_snoc d keep (d.wait.take k) q)
      rw [← htk.out, List.length_take, Nat.min_eq_left (Nat.le_of_lt hlt), ← hdiv.out] at HT
      clear hnx hid hq hpk c1 hkD hR3 hch
      by_cases hbit : kk % 2 = 1
      · have e1 : (bits .and .i64 kk 1 == 1) = true := by rw [and_one]; exact beq_iff_eq.2 hbit
        rw [if_pos hbit] at HT
        clear hbit
        go_wp2_with fail
        refine (come_any base D _ ids q _ (Nat.le_trans hb hB.out.size) (crashTo_rows HR.out _ _) HPk.out hdr.out).mono ?_
        rintro e w2 ⟨⟨v, rfl⟩, hd2, hB2⟩
        have b3' : w2.cell? ⟨id, 3, none⟩ = some (.pointer nx) := by
          obtain ⟨_, _, _, _, _, _, hch⟩ := hd2
          rw [(comeD_wait _ q).1, (crashTo_wait d keep (d.wait.take k)).1] at hch
          have := (hch.2.1 k hlt).2
          rw [Hid'.out, HN.out] at this
          exact this.cell 3
        have HD2 := Lib.hid hd2
        have HB2 := Lib.hid (hB.out.trans hB2)
        clear hd2 hB2 b0 b1 b2 b3
        go_wp2
        exact ⟨⟨k + 1, kk / 2, by omega, rfl, by omega, HK2, HN.out.symm, by rw [HT.out]; exact HD2, HB2⟩, HM.out⟩
      · have e1 : (bits .and .i64 kk 1 == 1) = false := by rw [and_one]; exact beq_eq_false_iff_ne.2 hbit
        rw [if_neg hbit] at HT
        clear hbit
        go_wp2
        exact ⟨⟨k + 1, kk / 2, by omega, rfl, by omega, HK2, HN.out.symm, by rw [HT.out]; exact hdr, hB⟩, HM.out⟩
    · obtain rfl : k = d.wait.length := by omega
      have hone' := hone.out.trans (ptrTo_ge (by rw [Hil.out]; exact Nat.le_refl _))
      subst hone'
      have hdr0 := hdr.out
      rw [List.take_length] at hdr0
      obtain ⟨y1, y2, y3, _, hkD, hR3, hch⟩ := hdr0
      have HKD := Lib.hid hkD
      have q4 : ∃ u, wr.cell? ⟨D, 4, none⟩ = some u := ⟨_, hkD.cell 4⟩
      have q5 : ∃ u, wr.cell? ⟨D, 5, none⟩ = some u := ⟨_, hkD.cell 5⟩
      have q6 : ∃ u, wr.cell? ⟨D, 6, none⟩ = some u := ⟨_, hkD.cell 6⟩
      obtain ⟨u4', q4⟩ := q4
      obtain ⟨u5', q5⟩ := q5
      obtain ⟨u6', q6⟩ := q6
      have g4 := hkD.frozen 4
      have g5 := hkD.frozen 5
      have g6 := hkD.frozen 6
      clear hkD hch
      go_wp2_with fail
      go_end0
      refine ⟨⟨_, rfl⟩, ⟨y1, y2, y3, hbD, ?_, ?_, ?_⟩, ?_⟩
      · exact ((HKD.out.set 4 (.pointer none)).set 5 (.pointer none)).set 6 (.int .i64 0)
      · have a1 := hR3.set HKD.out (by decide) (by decide) 4 (.pointer none)
        have k1 := HKD.out.set 4 (.pointer none)
        have a2 := a1.set k1 (by decide) (by decide) 5 (.pointer none)
        have k2 := k1.set 5 (.pointer none)
        exact a2.set k2 (by decide) (by decide) 6 (.int .i64 0)
      · exact ⟨rfl, fun j hj => by simp [crashD] at hj, fun i j h1 h2 => by simp [crashD] at h2⟩
      · exact ((hB.out.setCell (p := ⟨D, 4, none⟩) hbD _).setCell (p := ⟨D, 5, none⟩) hbD _).setCell (p := ⟨D, 6, none⟩) hbD _

end Go.Proofs.Ytifgoanicbaohaa
