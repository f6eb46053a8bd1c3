/- Facts about writes, rings and spoilt bytes of disks as plain data. Conditions: each theorem names its own. -/
import Derived.Test.YtifgoanicbaohaaPDN0
namespace Go.Proofs.Ytifgoanicbaohaa

theorem put_short {d : DiskD} (hs : d.state ≠ 1) (hl : d.wait.length < 40) (p : PutD) : putD d p = ⟨d.state, d.slots, d.rings, d.spoilt, d.wait ++ [p]⟩ := by
  rw [put_live hs]
  unfold putBase
  rw [if_neg (by omega)]
theorem slot_put {k : Nat} (hk : k < 12) {s : ByteArray} (hs : s.size = 3) : PutOk ⟨false, (k : Int), s⟩ := by
  show (if false = true then _ else SlotOk (k : Int) ∧ s.size = 3)
  rw [if_neg (by decide)]
  exact ⟨⟨by omega, by omega⟩, hs⟩
theorem ring_put {k : Nat} (hk : k < 2) {s : ByteArray} (hs : s.size ≤ 700) : PutOk ⟨true, (k : Int), s⟩ := by
  show (if true = true then ((0 : Int) ≤ (k : Int) ∧ (k : Int) ≤ 1) ∧ s.size ≤ 700 else _)
  rw [if_pos rfl]
  exact ⟨⟨by omega, by omega⟩, hs⟩
theorem put_pos {p : PutD} (hp : PutOk p) (hr : p.ring = false) : ∃ k : Nat, k < 12 ∧ p.pos = (k : Int) ∧ p.text.size = 3 := by
  obtain ⟨r, z, s⟩ := p
  simp only at hr
  subst hr
  have hp' : SlotOk z ∧ s.size = 3 := by simpa [PutOk] using hp
  obtain ⟨k, rfl⟩ := Int.eq_ofNat_of_zero_le hp'.1.1
  have := hp'.1.2
  exact ⟨k, by omega, rfl, hp'.2⟩

/-- WHAT IS WRITTEN LAST COUNTS: two more writes to the slot that was written and has come. -/
theorem last_facts {d : DiskD} {p : PutD} (h : DiskFine d) (hp : PutOk p) (hr : p.ring = false) (hs : d.state ≠ 1) {k : Nat} (hk : k < 12) (hpk : p.pos = (k : Int)) {sa sx : ByteArray} (ha : sa.size = 3) (hx : sx.size = 3) :
    ∃ z y1 y, z = crashD (putD d p) (-1) ∧ y1 = putD z ⟨false, (k : Int), sa⟩ ∧ y = putD y1 ⟨false, (k : Int), sx⟩ ∧ DiskFine (putD d p) ∧ DiskFine z ∧ DiskFine y1 ∧ DiskFine y ∧
      readD y (k : Int) = sx ∧ readD (crashD y (-1)) (k : Int) = sx ∧ readD (crashD y 1) (k : Int) = sa ∧ readD (crashD y 0) (k : Int) = p.text ∧ readD (crashD y 2) (k : Int) = sx := by
  have hx1 := put_fine h hp
  have hz := crash_fine hx1 (-1)
  have hpa := slot_put hk ha
  have hpx := slot_put hk hx
  have hy1 := put_fine hz hpa
  have hy := put_fine hy1 hpx
  have hzs : (crashD (putD d p) (-1)).state ≠ 1 := by rw [crash_state, put_state h]; exact hs
  have hrx : readD (putD d p) (k : Int) = p.text := by rw [read_put h hp hk, if_pos ⟨⟨hr, hpk⟩, hs⟩]
  have hrz : (crashD (putD d p) (-1)).slots.getD k ByteArray.empty = p.text := by
    rw [← hrx, ← read_flush hx1 hk, read_eq hz hk]; rfl
  have hzw : (crashD (putD d p) (-1)).wait = [] := rfl
  refine ⟨_, _, _, rfl, rfl, rfl, hx1, hz, hy1, hy, ?_⟩
  generalize crashD (putD d p) (-1) = z at hz hy1 hy hzs hrz hzw ⊢
  have e1 := put_short hzs (by rw [hzw]; decide) ⟨false, (k : Int), sa⟩
  have hy1s : (putD z ⟨false, (k : Int), sa⟩).state ≠ 1 := by rw [put_state hz]; exact hzs
  have r1 : readD (putD (putD z ⟨false, (k : Int), sa⟩) ⟨false, (k : Int), sx⟩) (k : Int) = sx := by rw [read_put hy1 hpx hk, if_pos ⟨⟨rfl, rfl⟩, hy1s⟩]
  refine ⟨r1, (read_flush hy hk).trans r1, ?_⟩
  rw [read_eq (crash_fine hy 1) hk, read_eq (crash_fine hy 0) hk, read_eq (crash_fine hy 2) hk]
  have hyr := (fine_sizes hy).1
  have e2 := put_short hy1s (by rw [e1]; simp [hzw]) ⟨false, (k : Int), sx⟩
  have hw : (putD (putD z ⟨false, (k : Int), sa⟩) ⟨false, (k : Int), sx⟩).wait = [⟨false, (k : Int), sa⟩, ⟨false, (k : Int), sx⟩] := by rw [e2, e1]; simp [hzw]
  have hsl : (putD (putD z ⟨false, (k : Int), sa⟩) ⟨false, (k : Int), sx⟩).slots = z.slots := by rw [e2, e1]
  clear e1 e2 r1 hy1s hy1
  generalize putD (putD z ⟨false, (k : Int), sa⟩) ⟨false, (k : Int), sx⟩ = y at hy hyr hw hsl ⊢
  have c1 : (crashD y 1).slots = (comeD y ⟨false, (k : Int), sa⟩).slots := by unfold crashD; rw [hw]; rfl
  have c0 : (crashD y 0).slots = y.slots := (crash_slots0 y).1
  have c2 : (crashD y 2).slots = (comeD y ⟨false, (k : Int), sx⟩).slots := by unfold crashD; rw [hw]; rfl
  show (crashD y 1).slots.getD k ByteArray.empty = sa ∧ (crashD y 0).slots.getD k ByteArray.empty = p.text ∧ (crashD y 2).slots.getD k ByteArray.empty = sx
  rw [c1, c0, c2, come_slot hyr hpa, come_slot hyr hpx, if_pos ⟨rfl, rfl⟩, if_pos ⟨rfl, rfl⟩, hsl]
  exact ⟨rfl, hrz, rfl⟩

/-- A RING IS NO SLOT. -/
theorem ring_facts {d : DiskD} (h : DiskFine d) {k : Nat} (hk : k < 2) {s : ByteArray} (hs : s.size ≤ 700) :
    DiskFine (putD d ⟨true, (k : Int), s⟩) ∧ (crashD (putD d ⟨true, (k : Int), s⟩) (-1)).slots = (crashD d (-1)).slots ∧ (crashD (putD d ⟨true, (k : Int), s⟩) (-1)).rings.length = 2 ∧ (crashD d (-1)).rings.length = 2 ∧
      (d.state = 1 → crashD (putD d ⟨true, (k : Int), s⟩) (-1) = crashD d (-1)) ∧ (d.state ≠ 1 → (crashD (putD d ⟨true, (k : Int), s⟩) (-1)).rings.getD k ByteArray.empty = s) ∧
      ∀ j, j ≠ k → (crashD (putD d ⟨true, (k : Int), s⟩) (-1)).rings.getD j ByteArray.empty = (crashD d (-1)).rings.getD j ByteArray.empty := by
  have hp := ring_put hk hs
  have hf := put_fine h hp
  have l1 : (crashD (putD d ⟨true, (k : Int), s⟩) (-1)).rings.length = 2 := (crash_fine hf (-1)).2.1.2.1
  have l2 : (crashD d (-1)).rings.length = 2 := (crash_fine h (-1)).2.1.2.1
  by_cases hg : d.state = 1
  · rw [put_gone hg] at hf l1 ⊢
    exact ⟨hf, rfl, l1, l2, fun _ => rfl, fun hn => absurd hg hn, fun _ _ => rfl⟩
  · obtain ⟨e1, e2, _⟩ := put_flush_of hg ⟨true, (k : Int), s⟩
    have e2' : (crashD (putD d ⟨true, (k : Int), s⟩) (-1)).rings = (crashD d (-1)).rings.set k s := e2
    refine ⟨hf, e1, l1, l2, fun hn => absurd hn hg, fun _ => ?_, fun j hj => ?_⟩
    · rw [e2', set_getD _ _ _ _ _ (by omega), if_pos rfl]
    · rw [e2', set_getD _ _ _ _ _ (by omega), if_neg (fun e => hj e.symm)]

/-- NO MORE WRITES WAIT THAN MAY. -/
theorem most_facts {d : DiskD} (p : PutD) (hs : d.state ≠ 1) : (d.wait.length < 40 → (putD d p).wait = d.wait ++ [p]) ∧ (d.wait.length = 40 → putD d p = putD (crashD d (-1)) p ∧ (putD d p).wait = [p]) := by
  refine ⟨fun hl => by rw [put_short hs hl], fun hl => ?_⟩
  have hz : (crashD d (-1)).state ≠ 1 := by rw [crash_state]; exact hs
  have e1 := put_short hz (by rw [crash_wait]; decide) p
  have e2 := put_live hs p
  have e3 : putBase d = crashD d (-1) := by unfold putBase; rw [if_pos hl]
  rw [e3] at e2
  rw [e2, e1]
  exact ⟨rfl, by simp [crash_wait]⟩

/-- ONE BYTE IS SPOILT, ONCE; a write makes it right. -/
theorem spoil_facts {d : DiskD} (h : DiskFine d) {k b : Nat} (hk : k < 12) (c : Int) (hc : CanSpoil d k) {s : ByteArray} (hs : s.size = 3) :
    (spoilD d k b c).slots.getD k ByteArray.empty = turnS (d.slots.getD k ByteArray.empty) b c ∧ (spoilD d k b c).spoilt.getD k false = true ∧ spoilD (spoilD d k b c) k b c = spoilD d k b c ∧
      (crashD (putD (spoilD d k b c) ⟨false, (k : Int), s⟩) (-1)).spoilt.length = 12 ∧ (crashD (putD (spoilD d k b c) ⟨false, (k : Int), s⟩) (-1)).spoilt.getD k false = false := by
  have hf := spoil_fine h hk b c
  have hl : d.state ≠ 1 := can_live h hk hc
  have hl' : (spoilD d k b c).state ≠ 1 := by rw [(spoil_wait d k b c).2]; exact hl
  have hr := (fine_sizes h).1
  have hp := slot_put hk hs
  obtain ⟨_, _, e3⟩ := put_flush_of hl' ⟨false, (k : Int), s⟩
  have e3' : (crashD (putD (spoilD d k b c) ⟨false, (k : Int), s⟩) (-1)).spoilt = (crashD (spoilD d k b c) (-1)).spoilt.set k false := e3
  have l3 : (crashD (spoilD d k b c) (-1)).spoilt.length = 12 := (crash_fine hf (-1)).2.1.2.2.1
  refine ⟨?_, ?_, ?_, ?_, ?_⟩
  · rw [spoil_yes hc]
    show (d.slots.set k _).getD k ByteArray.empty = _
    rw [set_getD _ _ _ _ _ (by have := hr.1; omega), if_pos rfl]
  · rw [spoil_yes hc]
    show (d.spoilt.set k true).getD k false = true
    rw [set_getD _ _ _ _ _ (by have := hr.2.2; omega), if_pos rfl]
  · rw [spoil_yes hc]
    exact spoil_no (spoil_on_not hr hk b c) b c
  · rw [e3', List.length_set]; exact l3
  · rw [e3', set_getD _ _ _ _ _ (by omega), if_pos rfl]

end Go.Proofs.Ytifgoanicbaohaa
