/- What is drawn of disks: the frames of the reader and of the rows of a disk. Conditions: each theorem names its own. -/
import Derived.Test.YtifgoanicbaohaaPDV5
import Derived.Test.YtifgoanicbaohaaPDK
import Derived.Test.YtifgoanicbaohaaPDN3
namespace Go.Proofs.Ytifgoanicbaohaa
open Go.RowKit Go.Sort

theorem grown_bel {w w1 w2 : World} {B : Nat} (hg : w.grownBy w1 (some B)) (hB : Below w.heap.size w1 w2) : w.grownBy w2 (some B) :=
  ⟨hB.os.trans hg.os, hB.tape.trans hg.tape, hB.output.trans hg.output, Nat.le_trans hg.size hB.size, fun k hk hne => (hB.block k hk).trans (hg.block k hk hne)⟩
theorem grown_refl (w : World) (r : Option Nat) : w.grownBy w r := ⟨rfl, rfl, rfl, Nat.le_refl _, fun _ _ _ => rfl⟩
theorem Rd.others {n₀ B p base : Nat} {w w' : World} (h : Rd n₀ B p w) (hb : n₀ ≤ base) (hB : Below base w w') (ho : Others w w') : Rd n₀ B p w' := by
  obtain ⟨h1, a, len, cap, zs, hblk, hlm, hz, hcs⟩ := h
  refine ⟨h1, a, len, cap, zs, ho B _ _ (by decide) (by decide) (by decide) hblk, hlm, hz, ?_⟩
  rcases hcs with h | ⟨b, off, rfl, hb', hc⟩
  · exact .inl h
  · exact .inr ⟨b, off, rfl, hb', fun i hi => (hB.cell (p := ⟨b, off + i, none⟩) (Nat.lt_of_lt_of_le hb' hb)).trans (hc i hi)⟩
theorem Rd.below {n₀ B p : Nat} {w w' : World} (h : Rd n₀ B p w) (hB : Below w.heap.size w w') : Rd n₀ B p w' :=
  Rd.others h (Nat.le_trans h.1 (Nat.le_of_lt h.lt)) hB (others_below hB)
theorem Own4.grown {w w' : World} {B base : Nat} {v1 v2 v3 v4 : Value} {d : DiskD} (h : Own4 w base v1 v2 v3 v4 d) (hg : w.grownBy w' (some B)) (hB : B < base) : Own4 w' base v1 v2 v3 v4 d :=
  ⟨h.1.kept hg (.inr (fun e => by have := (h.1.lt B e).1; omega)), h.2.1.kept hg (.inr (fun e => by have := (h.2.1.lt B e).1; omega)), h.2.2.1.kept hg (.inr (fun e => by have := (h.2.2.1.lt B e).1; omega)), h.2.2.2.1.kept hg (.inr (fun e => by have := (h.2.2.2.1.lt B e).1; omega)), h.2.2.2.2⟩
theorem Blk.grown {w w' : World} {B D : Nat} {cs : Array Value} {t : TypeId} (h : Blk w D cs t) (hg : w.grownBy w' (some B)) (hne : D ≠ B) : Blk w' D cs t := (hg.block D h.lt (by simpa using hne)).trans h
/-- The reader's block holds no texts, truth values. -/
theorem Rd.not_text {n₀ B p : Nat} {w : World} (h : Rd n₀ B p w) (o : Nat) (s : ByteArray) : w.cell? ⟨B, o, none⟩ ≠ some (.string s) := by
  obtain ⟨_, a, len, cap, zs, hblk, _⟩ := h
  have e := Blk.cell (w := w) (D := B) hblk o
  rw [e]
  match o with
  | 0 => intro h; cases h
  | 1 => intro h; cases h
  | o + 2 => intro h; cases h
theorem Rd.not_bool {n₀ B p : Nat} {w : World} (h : Rd n₀ B p w) (o : Nat) (s : Bool) : w.cell? ⟨B, o, none⟩ ≠ some (.bool s) := by
  obtain ⟨_, a, len, cap, zs, hblk, _⟩ := h
  have e := Blk.cell (w := w) (D := B) hblk o
  rw [e]
  match o with
  | 0 => intro h; cases h
  | 1 => intro h; cases h
  | o + 2 => intro h; cases h
theorem cell_grown {w w' : World} {B b o : Nat} {v : Value} (hg : w.grownBy w' (some B)) (hne : b ≠ B) (h : w.cell? ⟨b, o, none⟩ = some v) : w'.cell? ⟨b, o, none⟩ = some v :=
  (World.cell?_of_block (hg.block b (World.block_lt_of_cell? w _ h) (by simpa using hne))).trans h
theorem TxAt.grown {n₀ B p : Nat} {w w' : World} {a : Option Addr} {xs : List ByteArray} (h : TxAt w a xs) (hR : Rd n₀ B p w) (hg : w.grownBy w' (some B)) : TxAt w' a xs := by
  rcases h with h | ⟨b, off, e, hc⟩
  · exact .inl h
  · refine .inr ⟨b, off, e, fun j hj => cell_grown hg (fun eb => ?_) (hc j hj)⟩
    subst eb
    exact hR.not_text _ _ (hc j hj)
theorem BoAt.grown {n₀ B p : Nat} {w w' : World} {a : Option Addr} {xs : List Bool} (h : BoAt w a xs) (hR : Rd n₀ B p w) (hg : w.grownBy w' (some B)) : BoAt w' a xs := by
  rcases h with h | ⟨b, off, e, hc⟩
  · exact .inl h
  · refine .inr ⟨b, off, e, fun j hj => cell_grown hg (fun eb => ?_) (hc j hj)⟩
    subst eb
    exact hR.not_bool _ _ (hc j hj)
theorem PuAt.grown {n₀ B p : Nat} {w w' : World} {a : Option Addr} {xs : List PutD} (h : PuAt w a xs) (hR : Rd n₀ B p w) (hg : w.grownBy w' (some B)) : PuAt w' a xs := by
  rcases h with h | ⟨b, off, e, hc⟩
  · exact .inl h
  · refine .inr ⟨b, off, e, fun j hj => ?_⟩
    have hne : b ≠ B := fun eb => by
      subst eb
      exact hR.not_bool _ _ (hc j hj).1
    exact ⟨cell_grown hg hne (hc j hj).1, cell_grown hg hne (hc j hj).2.1, cell_grown hg hne (hc j hj).2.2⟩
theorem DiskV.grown {n₀ B p : Nat} {w w' : World} {v : Value} {d : DiskD} (h : DiskV w v d) (hR : Rd n₀ B p w) (hg : w.grownBy w' (some B)) : DiskV w' v d := by
  obtain ⟨v1, v2, v3, v4, e, ⟨a1, c1, e1, l1, m1, x1⟩, ⟨a2, c2, e2, l2, m2, x2⟩, ⟨a3, c3, e3, l3, m3, x3⟩, ⟨a4, c4, e4, l4, m4, x4⟩⟩ := h
  exact ⟨v1, v2, v3, v4, e, ⟨a1, c1, e1, l1, m1, x1.grown hR hg⟩, ⟨a2, c2, e2, l2, m2, x2.grown hR hg⟩, ⟨a3, c3, e3, l3, m3, x3.grown hR hg⟩, ⟨a4, c4, e4, l4, m4, x4.grown hR hg⟩⟩

/-- WHAT l71Put ANSWERS: a write. -/
def PutDrawn (n₀ B p : Nat) (w : World) (e : Ending) (w' : World) : Prop :=
  ∃ (x : PutD) (q : Nat), e = .returned (.agg #[.bool x.ring, .int .i64 x.pos, .string x.text]) ∧ PutOk x ∧ q ≤ p + 20 ∧ Rd n₀ B q w' ∧ w.grownBy w' (some B)
/-- A DISK THAT CAN BE READ, as long as the blocks behind the n-th stay. -/
def FarV (n : Nat) (w : World) (v : Value) (d : DiskD) : Prop := ∀ w' : World, (∀ E, n < E → E < w.heap.size → w'.heap[E]? = w.heap[E]?) → DiskV w' v d
/-- WHAT l71Disk ANSWERS: a disk that can be read. -/
def DiskDrawn (n₀ B p : Nat) (w : World) (e : Ending) (w' : World) : Prop :=
  ∃ (d : DiskD) (v : Value) (q : Nat), e = .returned v ∧ FarV w.heap.size w' v d ∧ q ≤ p + 2000 ∧ Rd n₀ B q w' ∧ w.grownBy w' (some B)

theorem size_nul3 (s z : ByteArray) (hz : z = ⟨#[0]⟩) : (s ++ z).size = s.size + 1 := by subst hz; rw [ByteArray.size_append]; rfl
def textLen3 : Value → Nat
  | .string t => t.size
  | _ => 0

set_option maxRecDepth 100000 in
set_option maxHeartbeats 1000000 in
theorem l1Sec3_any (s : ByteArray) (hs : s.size ≤ 3) (w : World) :
    Calls Try.prog 58 #[.string s] w fun e w' => (∃ t : ByteArray, e = .returned (.string t) ∧ t.size = 3) ∧ w = w' := by
  go_enter Try.func58, Try.ntmps58
  go_wp2_with fail
  go_loop [0] (fun v => ∃ t : ByteArray, v = .string t ∧ t.size ≤ 3) (fun v => 3 - textLen3 v)
  case atStart => exact ⟨s, rfl, hs⟩
  case round =>
    obtain ⟨t, rfl, ht⟩ := hrel
    by_cases h3 : t.size < 3
    · go_wp2
      exact ⟨⟨_, rfl, by rw [size_nul3 _ _ rfl]; omega⟩, by simp only [textLen3]; rw [size_nul3 _ _ rfl]; omega⟩
    · go_wp2
      go_ret
      exact ⟨⟨_, rfl, by simp; omega⟩, rfl⟩

end Go.Proofs.Ytifgoanicbaohaa
