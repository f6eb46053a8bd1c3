/- A byte of a slot that is spoilt, on plain data. Conditions: each theorem names its own. -/
import Derived.Test.YtifgoanicbaohaaPDA0
import Derived.Test.YtifgoanicbaohaaPDN1
namespace Go.Proofs.Ytifgoanicbaohaa

/-- A TEXT with some bits of a byte turned. -/
def turnS (s : ByteArray) (b : Nat) (c : Int) : ByteArray := withAt s b (bits .xor .u8 (byteAt s b) c)
theorem turnS_size (s : ByteArray) (b : Nat) (c : Int) : (turnS s b c).size = s.size := withAt_size s b _
/-- A slot that can be spoilt. -/
def CanSpoil (d : DiskD) (k : Nat) : Prop := (d.slots.getD k ByteArray.empty).size ≠ 0 ∧ d.spoilt.getD k false = false
def spoilOn (d : DiskD) (k b : Nat) (c : Int) : DiskD := ⟨d.state, d.slots.set k (turnS (d.slots.getD k ByteArray.empty) b c), d.rings, d.spoilt.set k true, d.wait⟩
noncomputable def spoilD (d : DiskD) (k b : Nat) (c : Int) : DiskD := if tt (CanSpoil d k) then spoilOn d k b c else d
theorem spoil_yes {d : DiskD} {k : Nat} (h : CanSpoil d k) (b : Nat) (c : Int) : spoilD d k b c = spoilOn d k b c := by unfold spoilD; rw [tt_true h]; rfl
theorem spoil_no {d : DiskD} {k : Nat} (h : ¬CanSpoil d k) (b : Nat) (c : Int) : spoilD d k b c = d := by unfold spoilD; rw [tt_false h]; rfl
theorem spoil_wait (d : DiskD) (k b : Nat) (c : Int) : (spoilD d k b c).wait = d.wait ∧ (spoilD d k b c).state = d.state := by
  by_cases h : CanSpoil d k
  · rw [spoil_yes h]; exact ⟨rfl, rfl⟩
  · rw [spoil_no h]; exact ⟨rfl, rfl⟩
theorem spoil_rows {d : DiskD} (h : HasRows d) (k b : Nat) (c : Int) : HasRows (spoilD d k b c) := by
  by_cases hc : CanSpoil d k
  · rw [spoil_yes hc]
    exact ⟨by simpa [spoilOn] using h.1, h.2.1, by simpa [spoilOn] using h.2.2⟩
  · rw [spoil_no hc]; exact h
theorem spoil_parts {d : DiskD} (h : Parts d) (k b : Nat) (c : Int) : Parts (spoilD d k b c) := by
  refine ⟨spoil_rows h.1 k b c, ?_⟩
  by_cases hc : CanSpoil d k
  · rw [spoil_yes hc]
    refine ⟨fun j hj => ?_, h.2.2⟩
    have hj' : j < d.slots.length := by simpa [spoilOn] using hj
    have h1 := h.1.1
    have h3 := h.1.2.2
    show SlotFine ((d.slots.set k _).getD j ByteArray.empty) ((d.spoilt.set k true).getD j false)
    by_cases hk : k < 12
    · rw [set_getD _ _ _ _ _ (by omega), set_getD _ _ _ _ _ (by omega)]
      by_cases e : k = j
      · subst e
        rw [if_pos rfl, if_pos rfl]
        refine .inr ?_
        rw [turnS_size]
        rcases h.2.1 k hj' with q | q
        · exact absurd q.1 hc.1
        · exact q
      · rw [if_neg e, if_neg e]; exact h.2.1 j hj'
    · rw [List.set_eq_of_length_le (by omega), List.set_eq_of_length_le (by omega)]; exact h.2.1 j hj'
  · rw [spoil_no hc]; exact h.2
theorem can_live {d : DiskD} (h : DiskFine d) {k : Nat} (hk : k < 12) (hc : CanSpoil d k) : d.state ≠ 1 := fun hg => hc.1 ((h.2.2.2.2.2 hg).1 k (by have := h.2.1.1; omega))
theorem spoil_fine {d : DiskD} (h : DiskFine d) {k : Nat} (hk : k < 12) (b : Nat) (c : Int) : DiskFine (spoilD d k b c) := by
  by_cases hc : CanSpoil d k
  · have hp := spoil_parts (fine_parts h) k b c
    rw [spoil_yes hc] at hp ⊢
    exact ⟨h.1, ⟨hp.1.1, hp.1.2.1, hp.1.2.2, h.2.1.2.2.2⟩, hp.2.1, hp.2.2, h.2.2.2.2.1, fun hg => absurd (show d.state = 1 from hg) (can_live h hk hc)⟩
  · rw [spoil_no hc]; exact h
theorem spoil_on_not {d : DiskD} (hr : HasRows d) {k : Nat} (hk : k < 12) (b : Nat) (c : Int) : ¬CanSpoil (spoilOn d k b c) k := by
  intro h
  have := h.2
  simp only [spoilOn] at this
  rw [set_getD _ _ _ _ _ (by have := hr.2.2; omega), if_pos rfl] at this
  cases this
/-- A write that comes last marks its slot as it should be. -/
theorem flush_snoc (d : DiskD) (ps : List PutD) (p : PutD) : crashTo d (-1) (ps ++ [p]) = comeD (crashTo d (-1) ps) p := by
  rw [crashTo_snoc, if_pos]
  have : ∀ k : Nat, ((-1 : Int) / 2 ^ k) % 2 = 1 := fun k => by
    have h : (0 : Int) < 2 ^ k := Int.pow_pos (by decide)
    have e : (-1 : Int) / 2 ^ k = -1 := by
      rw [Int.neg_one_ediv]
      exact congrArg _ (Int.sign_eq_one_of_pos h)
    rw [e]; decide
  exact this _
theorem put_flush {d : DiskD} (hs : d.state ≠ 1) (p : PutD) : crashD (putD d p) (-1) = (let e := comeD (crashTo (putBase d) (-1) (putBase d).wait) p; ⟨e.state, e.slots, e.rings, e.spoilt, []⟩) := by
  rw [put_live hs]
  unfold crashD
  simp only
  have e : ∀ (x y : DiskD) (ps : List PutD), x.state = y.state → x.slots = y.slots → x.rings = y.rings → x.spoilt = y.spoilt → (crashTo x (-1) ps).state = (crashTo y (-1) ps).state ∧ (crashTo x (-1) ps).slots = (crashTo y (-1) ps).slots ∧ (crashTo x (-1) ps).rings = (crashTo y (-1) ps).rings ∧ (crashTo x (-1) ps).spoilt = (crashTo y (-1) ps).spoilt := by
    intro x y ps
    induction ps generalizing x y with
    | nil => exact fun a b c d => ⟨a, b, c, d⟩
    | cons q ps ih =>
      intro a b c d
      show (crashTo (comeD x q) (-1) ps).state = (crashTo (comeD y q) (-1) ps).state ∧ (crashTo (comeD x q) (-1) ps).slots = (crashTo (comeD y q) (-1) ps).slots ∧ (crashTo (comeD x q) (-1) ps).rings = (crashTo (comeD y q) (-1) ps).rings ∧ (crashTo (comeD x q) (-1) ps).spoilt = (crashTo (comeD y q) (-1) ps).spoilt
      refine ih _ _ ?_ ?_ ?_ ?_ <;> (unfold comeD; split <;> simp [a, b, c, d])
  obtain ⟨e1, e2, e3, e4⟩ := e ⟨(putBase d).state, (putBase d).slots, (putBase d).rings, (putBase d).spoilt, (putBase d).wait ++ [p]⟩ (putBase d) ((putBase d).wait ++ [p]) rfl rfl rfl rfl
  rw [e1, e2, e3, e4, flush_snoc]
theorem base_flush (d : DiskD) : crashD (putBase d) (-1) = crashD d (-1) := by
  unfold putBase
  split
  · exact crash_crash d _ _
  · rfl
/-- What is flushed behind a write, field by field. -/
theorem put_flush_of {d : DiskD} (hs : d.state ≠ 1) (p : PutD) : (crashD (putD d p) (-1)).slots = (comeD (crashD d (-1)) p).slots ∧ (crashD (putD d p) (-1)).rings = (comeD (crashD d (-1)) p).rings ∧ (crashD (putD d p) (-1)).spoilt = (comeD (crashD d (-1)) p).spoilt := by
  rw [put_flush hs, ← base_flush d]
  unfold comeD crashD
  cases p.ring <;> exact ⟨rfl, rfl, rfl⟩

end Go.Proofs.Ytifgoanicbaohaa
