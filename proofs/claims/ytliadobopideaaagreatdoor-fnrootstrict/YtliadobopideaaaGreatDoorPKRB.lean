/- The specification's reader of roots: a number of a text. Conditions: none but the row's own bound on sizes. A statement that draws the order of its operations, all of which one last operation waits for: what is read is read first. Conditions: each theorem names its own. Texts in a row, how they lie in memory, rows of one's own, blocks known whole. Conditions: none. Texts that came in, and structs opened field by field. Conditions: none. -/
import Derived.Test.YtliadobopideaaaGreatDoorPKRA
import Derived.Test.YtliadobopideaaaGreatDoorPKR0
import Derived.Lib.Hide
import Derived.OrdersHeld
import Derived.StillTail
import Derived.RegionTactic
import Derived.WalkKit
import Derived.Test.YtliadobopideaaaGreatDoorRows
import Derived.OwnWalk
import Derived.Maps.Range
import Derived.Lib.QuietBelow
import Derived.Deep.QuietTactic
import Derived.BigQuiet
import Derived.IntWalk
import Derived.Deep.AppendLies
import Derived.SliceStrings
import Derived.Deep.RegionHeld3
import Derived.Test.YtliadobopideaaaGreatDoorPKRG
namespace Go.Proofs.YtliadobopideaaaGreatDoor
open Go.RowKit Go.Sort

theorem bytes_len (s : ByteArray) : s.data.toList.length = s.size := Array.length_toList
theorem byte_get {s : ByteArray} {k : Nat} (h : k < s.size) : ∃ b : UInt8, s.data.toList[k]? = some b ∧ byteAt s k = (b.toNat : Int) := by
  have hl : k < s.data.toList.length := by rw [bytes_len]; exact h
  refine ⟨s.data.toList[k], List.getElem?_eq_getElem hl, ?_⟩
  unfold byteAt
  rw [List.getElem?_eq_getElem hl]; rfl
theorem ret_num {a b : Int} (h : a = b) : Ending.returned (.int .i64 a) = .returned (.int .i64 b) := by rw [h]
/-- What stands ahead of place k spells a number. -/
def Spelt (s : ByteArray) (k : Nat) (n : Nat) : Prop := Lib.decFrom 0 (s.data.toList.take k) = some n ∧ n < 10 ^ k
theorem Spelt.next {s : ByteArray} {k n : Nat} (h : Spelt s k n) (hk : k < s.size) (h0 : 48 ≤ byteAt s k) (h1 : byteAt s k ≤ 57) : Spelt s (k + 1) (10 * n + (byteAt s k - 48).toNat) := by
  obtain ⟨b, hb, e⟩ := byte_get hk
  rw [e] at h0 h1 ⊢
  have hd : Lib.digitVal b = some (b.toNat - 48) := by unfold Lib.digitVal; rw [if_pos ⟨by omega, by omega⟩]
  have hn : 10 * n + ((b.toNat : Int) - 48).toNat = n * 10 + (b.toNat - 48) := by omega
  rw [hn]
  refine ⟨Lib.decFrom_take _ k 0 n b _ h.1 hb hd, ?_⟩
  have := h.2
  rw [Nat.pow_succ]
  omega
theorem numL_all {s : ByteArray} {n : Nat} (h : Spelt s s.size n) (h1 : 1 ≤ s.size) (h2 : s.size ≤ 12) : numL s.data.toList = (n : Int) := by
  have hl := bytes_len s
  unfold numL
  rw [if_pos ⟨by omega, by omega⟩]
  have := h.1
  rw [← hl, List.take_length] at this
  rw [this]
theorem numL_size {s : ByteArray} (h : ¬(1 ≤ s.size ∧ s.size ≤ 12)) : numL s.data.toList = -1 := by
  have hl := bytes_len s
  unfold numL
  rw [hl, if_neg h]
theorem numL_bad {s : ByteArray} {k : Nat} (hk : k < s.size) (h : byteAt s k < 48 ∨ 57 < byteAt s k) : numL s.data.toList = -1 := by
  obtain ⟨b, hb, e⟩ := byte_get hk
  unfold numL
  split
  · cases hf : Lib.decFrom 0 s.data.toList with
    | none => rfl
    | some n =>
      obtain ⟨d, hd⟩ := Lib.digit_of_decFrom _ _ _ hf k b hb
      unfold Lib.digitVal at hd
      rw [e] at h
      rw [if_neg (by omega)] at hd
      cases hd
  · rfl

set_option maxRecDepth 100000 in
set_option maxHeartbeats 2000000 in
theorem l2Num_any (s : ByteArray) (w : World) : Calls Tryz.prog 44 #[.string s] w fun e w' => e = .returned (.int .i64 (numL s.data.toList)) ∧ Below w.heap.size w w' := by
  by_cases hs : 1 ≤ s.size ∧ s.size ≤ 12
  · have HI := Lib.hid (fun W => in_yes (s.size : Int) 1 12 W ⟨by omega, by omega⟩)
    have hb := hs.2
    go_enter Tryz.func44, Tryz.ntmps44
    go_wp2_with fail
    refine (HI.out _).mono ?_
    rintro e w1 ⟨rfl, rfl⟩
    go_wp2_with fail
    go_loopw [3, 4] (fun n i wr => ∃ k m : Nat, i = .int .i64 (k : Int) ∧ n = .int .i64 (m : Int) ∧ k ≤ s.size ∧ m < 1000000000000 ∧ Hid (Spelt s k m) ∧ Hid (Below w.heap.size w wr)) (fun _ i _ => s.size - (intOf i).toNat)
    case atStart => exact ⟨0, 0, rfl, rfl, by omega, by omega, ⟨by simp [Lib.decFrom], by simp⟩, Below.refl _ _⟩
    case round =>
      obtain ⟨k, m, rfl, rfl, hk, hm, hS, hB⟩ := hrel
      by_cases hlt : k < s.size
      · have hlow : m < 100000000000 := by
          have h1 := hS.out.2
          have h2 : 10 ^ k ≤ 10 ^ 11 := Nat.pow_le_pow_right (by omega) (by omega)
          omega
        have HE := byteAt_lt hlt
        have HN := Lib.hid (fun h0 h1 => hS.out.next hlt h0 h1)
        have Hb := Lib.hid (fun h => numL_bad hlt h)
        have hb1 := byteAt_bd s k
        rw [HE] at HN Hb hb1
        clear HE
        by_cases h3 : (s[k].toNat : Int) < 48
        · have d3 : decide ((s[k].toNat : Int) < 48) = true := by simp; omega
          have HF := Lib.hid (Hb.out (.inl h3))
          go_wp2
          go_ret
          exact ⟨ret_num HF.out.symm, hB.out⟩
        · have d3 : decide ((s[k].toNat : Int) < 48) = false := by simp; omega
          by_cases h4 : 57 < (s[k].toNat : Int)
          · have d4 : decide (57 < (s[k].toNat : Int)) = true := by simp; omega
            have HF := Lib.hid (Hb.out (.inr h4))
            go_wp2
            go_ret
            exact ⟨ret_num HF.out.symm, hB.out⟩
          · have d4 : decide (57 < (s[k].toNat : Int)) = false := by simp; omega
            have HS := Lib.hid (HN.out (by omega) (by omega))
            have h5 : 48 ≤ s[k].toNat ∧ s[k].toNat ≤ 57 := by omega
            clear HN Hb h3 h4 hb1
            go_wp2
            refine ⟨⟨k + 1, 10 * m + ((s[k].toNat : Int) - 48).toNat, by go_num, ?_, by omega, by omega, HS, hB⟩, by simp [intOf]; omega⟩
            congr 1
            simp
            omega
      · obtain rfl : k = s.size := by omega
        have HF := Lib.hid (numL_all hS.out hs.1 hs.2)
        go_wp2
        go_ret
        exact ⟨ret_num HF.out.symm, hB.out⟩
  · have HI := Lib.hid (fun W => in_no (s.size : Int) 1 12 W (by omega))
    have HF := Lib.hid (numL_size hs)
    clear hs
    go_enter Tryz.func44, Tryz.ntmps44
    go_wp2_with fail
    refine (HI.out _).mono ?_
    rintro e w1 ⟨rfl, rfl⟩
    go_wp2
    go_ret
    exact ⟨ret_num HF.out.symm, Below.refl _ _⟩

end Go.Proofs.YtliadobopideaaaGreatDoor

namespace Go.Proofs.YtliadobopideaaaGreatDoor
open Go.RowKit

section
variable {P : Program} {ops : Array Oper} {Q : Exit → Act → World → Prop} {md : Region.Mode} {S : World → Prop} {L : Nat}
/-- WHATEVER ORDER IS DRAWN, and S holds till the last operation, number L, is done. -/
def AnyS (P : Program) (md : Region.Mode) (ops : Array Oper) (Q : Exit → Act → World → Prop) (S : World → Prop) (L : Nat) : Nat → Array Bool → Act → World → Prop
  | 0, done, a, w => Region.ready md ops done = [] ∧ Q .normal a w
  | n + 1, done, a, w => (∀ k ∈ Region.ready md ops done, wpOp P ops Q k (fun a' w' => AnyS P md ops Q S L n (done.setIfInBounds k true) a' w' ∧ (k ≠ L → S w')) a w) ∧ (Region.ready md ops done = [] → Q .normal a w)
theorem AnyS.any : ∀ (n : Nat) (done : Array Bool) (a : Act) (w : World), AnyS P md ops Q S L n done a w → wpAny P md ops Q n done a w := by
  intro n
  induction n with
  | zero => intro done a w h; exact h
  | succ n ih => intro done a w h; exact ⟨h.2, fun k hk => wpOp_mono (fun a' w' h' => ih _ a' w' h'.1) (h.1 k hk)⟩
theorem AnyS.start {id : Nat} {a : Act} {w : World} (hm : P.follows .mixedOrders = true) (h : AnyS P .any ops Q S L ops.size (Array.replicate ops.size false) a w.drew) : (Code.region id ops true).wp P Q a w :=
  wp_region_any hm (AnyS.any _ _ _ _ h)
theorem AnyS.before {i : Nat} {oi : Oper} {v : Value} (hi : ops[i]? = some oi) (hsel : ∀ (j : Nat) (o : Oper) cs b, ops[j]? = some o → o.op ≠ .select cs b) (hQ : ∀ c a w, Q (.panic c) (a.put oi.dst v) w → Q (.panic c) a w) (hL : Region.waitsFor md ops L i = true) :
    ∀ (n : Nat) (done : Array Bool) (a : Act) (w : World), (∀ j oj, ops[j]? = some oj → j ≠ i → done.getD j true = false → (∀ e ∈ oj.after, Region.binds md e = true → e.on ≠ i) → oi.apart ops oj = true) →
      i ∈ Region.ready md ops done → YieldsIf P ops S oi v a → S w → AnyS P md ops Q S L n (done.setIfInBounds i true) (a.put oi.dst v) w → AnyS P md ops Q S L (n + 1) done a w := by
  intro n
  induction n with
  | zero =>
    intro done a w _ hr hy hS h
    refine ⟨fun j hj => ?_, fun h0 => by rw [h0] at hr; cases hr⟩
    by_cases e : j = i
    · subst e; exact hy.wpOp hi hS ⟨h, fun _ => hS⟩
    · have hj' := ready_mono hj e
      rw [h.1] at hj'
      cases hj'
  | succ n ih =>
    intro done a w hfr hr hy hS h
    refine ⟨fun j hj => ?_, fun h0 => by rw [h0] at hr; cases hr⟩
    by_cases e : j = i
    · subst e; exact hy.wpOp hi hS ⟨h, fun _ => hS⟩
    · obtain ⟨hun, oj, hoj, hdeps⟩ := mem_ready.1 hj
      have hiu := getD_both (mem_ready.1 hr).1
      have hne : ∀ d ∈ oj.after, Region.binds md d = true → d.on ≠ i := fun d hd hb heq => by
        have := hdeps d hd hb
        rw [heq, hiu] at this
        cases this
      have hjL : j ≠ L := fun heq => by
        subst heq
        obtain ⟨o', ho', d, hd, hb, hon⟩ := Region.waitsFor_spec hL
        rw [hoj] at ho'
        cases ho'
        exact hne d hd hb hon
      refine wpOp_mono (fun a' w' h3 => ?_) (wpOp_putIf hoj (hfr j oj hoj e hun hne) (fun cs b => hsel i oi cs b hi) (fun cs b => hsel j oj cs b hoj) hQ hy (h.1 j (ready_mono hj e)))
      obtain ⟨hy', hA, hS'⟩ := h3
      refine ⟨ih _ a' w' (fun k ok hk hki hku hno => hfr k ok hk hki ?_ hno) (ready_mono hr (fun q => e q.symm)) hy' (hS' hjL) ?_, fun _ => hS' hjL⟩
      · by_cases ejk : j = k
        · subst ejk; exact hun
        · rwa [getD_set_ne true ejk] at hku
      · rw [Array.setIfInBounds_comm _ _ e]
        exact hA
/-- What is ready and only reads is taken first. -/
theorem AnyS.take (i : Nat) {d : Option Tmp} {oi : Oper} {v : Value} {n : Nat} {done : Array Bool} {a : Act} {w : World} (hi : ops[i]? = some oi) (hd : oi.dst = d) (hs : Region.noSelect ops = true) (hf : Region.free md ops done i = true) (hr : (Region.ready md ops done).contains i = true)
    (hL : Region.waitsFor md ops L i = true) (hQ : ∀ c a w, Q (.panic c) (a.put d v) w → Q (.panic c) a w) (hS : S w) (hy : Region.wanted oi (yielded ops a.tmps) = true) (hrun : ∀ w, S w → (execOp a.eval oi).run P w = .ok (.value v) w)
    (h : AnyS P md ops Q S L n (done.setIfInBounds i true) (a.put d v) w) : AnyS P md ops Q S L (n + 1) done a w := by
  subst hd
  exact AnyS.before hi (Region.noSelect_spec hs) hQ hL n done a w (Region.free_spec hi hf) (by simpa using hr) (.inl ⟨hy, hrun⟩) hS h
/-- One alone is ready. -/
theorem AnyS.one (i : Nat) {o : Oper} {n : Nat} {done : Array Bool} {a : Act} {w : World} (hr : Region.ready md ops done = [i]) (ho : ops[i]? = some o)
    (h : ∀ K' : Act → World → Prop, (∀ a w, AnyS P md ops Q S L n (done.setIfInBounds i true) a w ∧ (i ≠ L → S w) → K' a w) → if Region.wanted o (yielded ops a.tmps) = true then Oper.wp P o a w K' Q else K' (a.put o.dst undef) w) : AnyS P md ops Q S L (n + 1) done a w := by
  refine ⟨fun k hk => ?_, fun h0 => by rw [hr] at h0; cases h0⟩
  rw [hr] at hk
  obtain rfl : k = i := by simpa using hk
  exact wpOp_step ho h
theorem AnyS.done {n : Nat} {done : Array Bool} {a : Act} {w : World} (hr : Region.ready md ops done = []) (h : Q .normal a w) : AnyS P md ops Q S L n done a w := by
  cases n with
  | zero => exact ⟨hr, h⟩
  | succ n => exact ⟨fun k hk => (by rw [hr] at hk; cases hk), fun _ => h⟩
/-- append, by its run. -/
theorem step_append_run {w w' : World} {o : Oper} {a : Act} {K : Act → World → Prop} {E : Prop} (hgd : o.guard = none) (s x : Operand) (t : TypeId) (d : Option Tmp)
    (ho : o.op = .call { callee := .builtin .append, args := #[s, x], argTypes := #[t, t] }) (hd : o.dst = d) (vs vx u : Value) (hs : a.eval s = vs) (hx : a.eval x = vx) (hrun : (Builtin.append_ #[t, t] o.type #[vs, vx]).run P w = .ok u w')
    (h : K (a.put d u) w') : if Region.wanted o (yielded ops a.tmps) = true then Oper.wp P o a w K Q else E := by
  subst hd
  have hw : Region.wanted o (yielded ops a.tmps) = true := by simp [Region.wanted, hgd]
  rw [if_pos hw]
  unfold Oper.wp
  simp [execOp, ho, resolve, invoke, builtin, hs, hx, hrun, Result.andThen]
  exact h
end

end Go.Proofs.YtliadobopideaaaGreatDoor

namespace Go.Proofs.YtliadobopideaaaGreatDoor
open Go.RowKit Go.Sort

/-- TEXTS, TRUTH VALUES, WRITES THAT LIE BEHIND AN ADDRESS. -/
def TxAt (w : World) (a : Option Addr) (xs : List ByteArray) : Prop :=
  xs = [] ∨ ∃ b off, a = some ⟨b, off, none⟩ ∧ ∀ j, j < xs.length → w.cell? ⟨b, off + j, none⟩ = some (.string (xs.getD j ByteArray.empty))
theorem TxAt.below {w w' : World} {a : Option Addr} {xs : List ByteArray} (h : TxAt w a xs) (hB : Below w.heap.size w w') : TxAt w' a xs := by
  rcases h with h | ⟨b, off, e, hc⟩
  · exact .inl h
  · exact .inr ⟨b, off, e, fun j hj => cell_below hB (hc j hj)⟩
def TxV (w : World) (v : Value) (xs : List ByteArray) : Prop := ∃ a cap, v = .slice a xs.length cap ∧ xs.length ≤ cap ∧ cap ≤ maxLen ∧ TxAt w a xs
theorem TxV.below {w w' : World} {v : Value} {xs : List ByteArray} (h : TxV w v xs) (hB : Below w.heap.size w w') : TxV w' v xs := by
  obtain ⟨a, cap, e, h1, h2, h3⟩ := h; exact ⟨a, cap, e, h1, h2, h3.below hB⟩
/-- THE CELLS of texts, truth values, writes. -/
def txC (xs : List ByteArray) : List Value := xs.map Value.string
theorem txC_get (xs : List ByteArray) (j : Nat) (h : j < xs.length) : (txC xs)[j]? = some (.string (xs.getD j ByteArray.empty)) := by
  rw [txC, List.getElem?_map, List.getD, List.getElem?_eq_getElem h]; rfl
theorem txC_length (xs : List ByteArray) : (txC xs).length = xs.length := by simp [txC]
/-- Rows of two types lie in two blocks. -/
theorem own_apart {w : World} {b1 b2 K1 K2 : Nat} {e1 e2 : TypeId} {v1 v2 : Value} {n1 n2 : Nat} {xs1 xs2 : List Value} (h1 : w.ownsRow b1 e1 K1 v1 n1 xs1) (h2 : w.ownsRow b2 e2 K2 v2 n2 xs2) (he : e1 ≠ e2) (p : Nat) (hp : v1.ownBlock = some p) : v2.ownBlock ≠ some p := by
  intro hq
  rcases h1.2 with ⟨rfl, _⟩ | ⟨g1, cap1, cur1, rfl, _, hg1, _⟩
  · cases hp
  · rcases h2.2 with ⟨rfl, _⟩ | ⟨g2, cap2, cur2, rfl, _, hg2, _⟩
    · cases hq
    · simp only [Value.ownBlock, Option.some.injEq] at hp hq
      rw [hp] at hg1
      rw [hq, hg1] at hg2
      injection hg2 with hg2
      injection hg2 with _ hg2
      exact he hg2

/-- TEXTS, TRUTH VALUES, WRITES OF ONE's OWN. -/
def OwnTx (w : World) (base : Nat) (v : Value) (xs : List ByteArray) : Prop := w.ownsRow base 9 1 v xs.length (txC xs)
theorem OwnTx.reads {w : World} {base : Nat} {v : Value} {xs : List ByteArray} (h : OwnTx w base v xs) : TxV w v xs := by
  have h' := h
  rcases h.2 with ⟨rfl, hk⟩ | ⟨g, cap, cur, rfl, hb, hg, hkc, hcm, hcs, hx⟩
  · have : xs = [] := List.eq_nil_of_length_eq_zero hk
    subst this
    exact ⟨none, 0, rfl, Nat.le_refl _, by simp [maxLen], .inl rfl⟩
  · refine ⟨some ⟨g, 0, none⟩, cap, rfl, hkc, hcm, .inr ⟨g, 0, rfl, fun j hj => ?_⟩⟩
    have e0 := (own_cell h' j (by omega)).1
    rw [txC_get xs j hj] at e0
    rw [Nat.zero_add]; exact e0
theorem box0 (w : World) (cs : Array Value) (t : TypeId) (j : Nat) : (w.alloc (.cells cs t)).cell? ⟨w.heap.size, j, none⟩ = cs[j]? := World.cell?_alloc_mark w cs t (0, 0) j
theorem box_old (w : World) (o : Obj) (b j : Nat) (h : b < w.heap.size) : (w.alloc o).cell? ⟨b, j, none⟩ = w.cell? ⟨b, j, none⟩ := (bcell ((Below.refl _ w).alloc (Nat.le_refl _) o)).1 b j h
theorem box1 (w : World) (o : Obj) (cs : Array Value) (t : TypeId) (j : Nat) : ((w.alloc (.cells cs t)).alloc o).cell? ⟨w.heap.size, j, none⟩ = cs[j]? := (box_old _ _ _ _ (by simp)).trans (box0 w cs t j)
theorem box2 (w : World) (o : Obj) (cs : Array Value) (t : TypeId) (j : Nat) : ((w.alloc o).alloc (.cells cs t)).cell? ⟨w.heap.size + 1, j, none⟩ = cs[j]? := by
  have := box0 (w.alloc o) cs t j
  rw [World.size_alloc] at this
  exact this
/-- A BLOCK that is known whole. -/
def Blk (w : World) (D : Nat) (cs : Array Value) (t : TypeId) : Prop := w.heap[D]? = some (.cells cs t (0, 0))
theorem Blk.cell {w : World} {D : Nat} {cs : Array Value} {t : TypeId} (h : Blk w D cs t) (j : Nat) : w.cell? ⟨D, j, none⟩ = cs[j]? := by unfold Blk at h; simp only [World.cell?, h]; rfl
theorem Blk.frozen {w : World} {D : Nat} {cs : Array Value} {t : TypeId} (h : Blk w D cs t) (j : Nat) : w.frozen? ⟨D, j, none⟩ = false := by unfold Blk at h; simp [World.frozen?, h]
theorem Blk.lt {w : World} {D : Nat} {cs : Array Value} {t : TypeId} (h : Blk w D cs t) : D < w.heap.size := (Array.getElem?_eq_some_iff.1 h).1
theorem Blk.below {w w' : World} {n D : Nat} {cs : Array Value} {t : TypeId} (h : Blk w D cs t) (hB : Below n w w') (hn : D < n) : Blk w' D cs t := (hB.block D hn).trans h
theorem Blk.new (w : World) (cs : Array Value) (t : TypeId) : Blk (w.alloc (.cells cs t)) w.heap.size cs t := heap_alloc_new w _
theorem Blk.set {w : World} {D : Nat} {cs : Array Value} {t : TypeId} (h : Blk w D cs t) (j : Nat) (u : Value) : Blk (w.setCell ⟨D, j, none⟩ u) D (cs.setIfInBounds j u) t := by
  obtain ⟨hlt, hh⟩ := Array.getElem?_eq_some_iff.1 h
  show (w.heap.modify D _)[D]? = _
  rw [Array.getElem?_eq_getElem (by rw [Array.size_modify]; exact hlt), Array.getElem_modify_self, hh]
  rfl
theorem Blk.other {w : World} {D : Nat} {cs : Array Value} {t : TypeId} (h : Blk w D cs t) (E j : Nat) (u : Value) (hne : E ≠ D) : Blk (w.setCell ⟨E, j, none⟩ u) D cs t :=
  (Below.heap_setCell _ _ _ _ (fun e => hne e.symm)).trans h
theorem Blk.type {w : World} {D : Nat} {cs cs' : Array Value} {t t' : TypeId} (h : Blk w D cs t) (h' : Blk w D cs' t') : t = t' := by
  unfold Blk at h h'
  rw [h] at h'
  injection h' with h'
  injection h' with _ h'
theorem below_trans {n : Nat} {w w1 w2 : World} (h : Below n w w1) (k : Below w1.heap.size w1 w2) (hn : n ≤ w1.heap.size) : Below n w w2 := h.trans (k.mono hn)

end Go.Proofs.YtliadobopideaaaGreatDoor

namespace Go.Proofs.YtliadobopideaaaGreatDoor
open Go.Joins Go.ChangeShapes Go.WideShapes Go.RowKit Go.Deep

section
variable {H : Type} {enc : TypeId × Value → H} {P : Program} {w : World} {base : Nat} {spare : Nat → Bool} {held : Bool}
/-- A SLICE OF VALUES OF ONE CELL, OPENED. -/
theorem row_one {t e : TypeId} {fuel : Nat} {v : Value} {x : DataW H × List MemPlace} (ht : P.underlying t = some (.slice e)) (hC : P.cellsOf e = 1) (h : DataW.trod enc P w base spare held fuel t [v] = some x) :
    ∃ (a : Option Addr) (len cap : Nat), v = .slice a len cap ∧ len ≤ cap ∧ cap ≤ maxLen ∧ ∀ i, i < len → ∃ b off, a = some ⟨b, off, none⟩ ∧ ∃ (u : Value) (y : DataW H × List MemPlace) (n : Nat), w.cell? ⟨b, off + i, none⟩ = some u ∧ DataW.trod enc P w base spare held n e [u] = some y := by
  rcases open_slice ht h with ⟨h0, _⟩ | ⟨a, len, cap, m, n, D, Pl, hcs, _, hl, hm, hmm, _, hi⟩
  · injection h0 with h0
    exact ⟨none, 0, 0, h0, Nat.le_refl _, by simp [maxLen], fun i hi => by omega⟩
  · injection hcs with hcs
    have key : ∀ i, i < len → ∃ (u : Value) (y : DataW H × List MemPlace) (n : Nat), w.cell? (a.add i) = some u ∧ DataW.trod enc P w base spare held n e [u] = some y := by
      intro i hil
      have him : i < m := by rw [hmm]; split <;> omega
      obtain ⟨cs', hc, ht'⟩ := hi i him
      rw [hC] at hc
      obtain ⟨_, hcl, hat⟩ := World.cells?_some hc
      obtain ⟨u, rfl⟩ : ∃ u, cs' = [u] := List.length_eq_one_iff.1 hcl
      refine ⟨u, _, _, ?_, ht'⟩
      have := hat 0 (by omega)
      rw [Go.Deep.add_add, Nat.mul_one, Nat.add_zero] at this
      simpa using this
    refine ⟨some a, len, cap, hcs, hl, hm, fun i hil => ?_⟩
    obtain ⟨u, y, n', hc0, _⟩ := key 0 (by omega)
    obtain ⟨b, off, rfl⟩ := addr_plain hc0
    refine ⟨b, off, rfl, ?_⟩
    have := key i hil
    rw [add_plain] at this
    exact this
/-- A STRUCT OF FIELDS OF ONE CELL, OPENED. -/
theorem agg_cells {r : Reach} {b0 : Nat} {t : TypeId} {fs : Array Field} {v : Value} {d : DataW H} {p : List MemPlace} (hs : P.underlying t = some (.struct fs)) (hone : oneCellFields P fs = true) (hC : P.cellsOf t = fs.size)
    (hv : Value.okWide P w r b0 t v) (h : DataW.Trod enc P w base spare held t v d p) :
    ∃ cs : Array Value, v = .agg cs ∧ cs.size = fs.size ∧ ∀ (j : Nat) (f : Field), fs[j]? = some f → ∃ (u : Value) (y : DataW H × List MemPlace) (n : Nat), cs[j]? = some u ∧ DataW.trod enc P w base spare held n f.type [u] = some y := by
  obtain ⟨cs, rfl, hsz⟩ := okWide_struct hs hv
  rw [hC] at hsz
  obtain ⟨fuel, hf⟩ := h
  obtain ⟨ys, n', _, _, _, hyl, hf⟩ := DataW.trod_struct hs hf
  refine ⟨cs, rfl, hsz, fun j f hj => ?_⟩
  obtain ⟨ho, hk⟩ := hone_of hone j f hj
  have hjl : j < fs.size := (Array.getElem?_eq_some_iff.1 hj).1
  have h1 := hf j f hj
  have hvc : (Value.agg cs).cells = cs := rfl
  have h2 : (cs.toList.drop j).take 1 = [cs[j]'(by omega)] := by
    rw [List.drop_eq_getElem_cons (by simp; omega)]
    simp
  rw [ho, hk] at h1
  rw [show (Value.agg cs).cells.toList = cs.toList from rfl] at h1
  rw [h2] at h1
  have hys : ys[j]? = some (ys[j]'(by omega)) := List.getElem?_eq_getElem (by omega)
  exact ⟨_, _, n', Array.getElem?_eq_getElem (by omega), h1.trans hys⟩
end

section
variable {H : Type} {enc : TypeId × Value → H} {w : World} {base : Nat} {spare : Nat → Bool} {held : Bool} {fuel : Nat} {v : Value} {x : DataW H × List MemPlace}
theorem in_texts (h : DataW.trod enc Tryz.prog w base spare held fuel 75 [v] = some x) : ∃ xs, TxV w v xs ∧ ∀ j, j < xs.length → (xs.getD j ByteArray.empty).size ≤ maxLen := by
  obtain ⟨a, len, cap, rfl, hl, hm, hi⟩ := row_one Tryz.underlying75 (by kernel_rfl) h
  obtain ⟨ps, hpl, hps⟩ := choose_list ByteArray.empty len (fun i p => ∃ b off, a = some ⟨b, off, none⟩ ∧ w.cell? ⟨b, off + i, none⟩ = some (.string p) ∧ p.size ≤ maxLen) (fun i hil => by
    obtain ⟨b, off, rfl, u, y, n, c, t⟩ := hi i hil
    obtain ⟨z0, e0, _, hz⟩ := DataW.trod_string Tryz.underlying9 t
    injection e0 with e0
    subst e0
    exact ⟨z0, b, off, rfl, c, hz⟩)
  subst hpl
  refine ⟨ps, ⟨a, cap, rfl, hl, hm, ?_⟩, fun j hj => by obtain ⟨_, _, _, _, hz⟩ := hps j hj; exact hz⟩
  by_cases h0 : ps = []
  · exact .inl h0
  · have hp : 0 < ps.length := List.length_pos_iff.2 h0
    obtain ⟨b, off, rfl, _⟩ := hps 0 hp
    refine .inr ⟨b, off, rfl, fun j hj => ?_⟩
    obtain ⟨b', off', e, h1, h2⟩ := hps j hj
    injection e with e
    injection e with e1 e2
    subst e1
    subst e2
    exact h1
end

end Go.Proofs.YtliadobopideaaaGreatDoor
