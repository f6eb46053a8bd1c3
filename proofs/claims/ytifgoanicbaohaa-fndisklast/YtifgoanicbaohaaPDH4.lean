/- The writes that wait, told as a list; the disk of a drive. Conditions: at most a thousand writes. -/
import Derived.Test.YtifgoanicbaohaaPDH3
namespace Go.Proofs.Ytifgoanicbaohaa
open Go.RowKit Go.Sort Go.Shelf

def sliceLen : Value → Nat
  | .slice _ n _ => n
  | _ => 0
theorem take_snocA {α : Type} (l : List α) (d : α) (k : Nat) (h : k < l.length) : l.take (k + 1) = l.take k ++ [l.getD k d] := by
  rw [List.take_add_one, List.getD, List.getElem?_eq_getElem h]; rfl
theorem ptrTo_lt {ids : List Nat} {k : Nat} (h : k < ids.length) : linkTo ids[k]? = .pointer (some ⟨ids.getD k 0, 0, none⟩) := by
  rw [List.getD, List.getElem?_eq_getElem h]; rfl
theorem ptrTo_ge {ids : List Nat} {k : Nat} (h : ids.length ≤ k) : linkTo ids[k]? = .pointer none := by
  rw [List.getElem?_eq_none h]; rfl

set_option maxRecDepth 100000 in
set_option maxHeartbeats 2000000 in
theorem puts_any (base D : Nat) (d : DiskD) (ids : List Nat) (w : World) (hlen : d.wait.length ≤ 1000) (hD : Drive w base D d ids) :
    Calls Try.prog 53 #[.pointer (some ⟨D, 4, none⟩)] w fun e w' => ∃ v, e = .returned v ∧ OwnPu w' w.heap.size v d.wait ∧ Below w.heap.size w w' := by
  obtain ⟨st, xs, ys, bs, ps⟩ := d
  obtain ⟨v1, v2, v3, hbD, hk, h3, hc⟩ := hD
  simp only at hlen hc ⊢
  have hil := hc.1
  have k4 : w.cell? ⟨D, 4, none⟩ = some (linkTo ids[0]?) := hk.cell 4
  have HC := Lib.hid hc
  clear hk h3 hc
  obtain ⟨i0, hi0, hz0, hz1, hz2⟩ := info_parts infoPu
  obtain ⟨p0, hp0⟩ : ∃ p0, p0 = linkTo ids[0]? := ⟨_, rfl⟩
  rw [← hp0] at k4
  have Hp0 := Lib.hid hp0
  have Hil := Lib.hid hil
  obtain ⟨pa, rfl⟩ : ∃ pa, p0 = .pointer pa := by
    rw [hp0]; cases ids[0]? with
    | none => exact ⟨_, rfl⟩
    | some b => exact ⟨_, rfl⟩
  clear hp0 hil
  go_enter Try.func53, Try.ntmps53
  go_wp2_with fail
  go_loopw [3, 4] (fun o one wr => ∃ k : Nat, k ≤ ps.length ∧ sliceLen o = k ∧ Hid (one = linkTo ids[k]?) ∧ Hid (OwnPu wr w.heap.size o (ps.take k)) ∧ Hid (Below w.heap.size w wr)) (fun o _ _ => ps.length - sliceLen o)
  case atStart => exact ⟨0, by omega, rfl, Hp0.out, World.ownsRow_nil _ _ _ _, Below.refl _ _⟩
  case round =>
    obtain ⟨k, hk, hsl, hone, hown, hB⟩ := hrel
    by_cases hlt : k < ps.length
    · have hone' := hone.out.trans (ptrTo_lt (by rw [Hil.out]; exact hlt))
      obtain ⟨c1, c2⟩ := (HC.out.below hB.out).2.1 k hlt
      have htk := Lib.hid (take_snocA ps put0 k hlt)
      have htl : (ps.take k).length = k := by rw [List.length_take]; omega
      generalize ps.getD k put0 = q at c2 htk
      generalize ids.getD k 0 = id at c1 c2 hone'
      have Hnx := Lib.hid (show ∃ x, linkTo ids[k + 1]? = .pointer x by
        cases ids[k + 1]? with
        | none => exact ⟨_, rfl⟩
        | some b => exact ⟨_, rfl⟩)
      obtain ⟨nx, hnx⟩ := Hnx.out
      rw [hnx] at c2
      have HN := Lib.hid hnx
      obtain ⟨r, z, s⟩ := q
      subst hone'
      have b0 : wr.cell? ⟨id, 0, none⟩ = some (.bool r) := c2.cell 0
      have b1 : wr.cell? ⟨id, 1, none⟩ = some (.int .i64 z) := c2.cell 1
      have b2 : wr.cell? ⟨id, 2, none⟩ = some (.string s) := c2.cell 2
      have b3 : wr.cell? ⟨id, 3, none⟩ = some (.pointer nx) := c2.cell 3
      have hidl := c2.lt
      have hown1 := hown.out
      unfold OwnPu at hown1
      rw [htl] at hown1
      have C2 := Lib.hid c2
      have HSl := Lib.hid hsl
      obtain ⟨ao, lo, co, rfl⟩ : ∃ ao lo co, u3 = .slice ao lo co := by
        obtain ⟨a', c', e, _⟩ := OwnPu.reads hown.out
        exact ⟨_, _, _, e⟩
      have hbw := hB.out.size
      have Hlk : Hid (∀ i, (Value.slice ao lo co).ownBlock = some i → w.heap.size ≤ i) := fun i e => (hown1.lt i e).1
      have Hne := Lib.hid (own_blk_ne hown1 C2.out (by decide))
      clear hnx Hnx c1 c2 hsl htl
      go_wp2_with (at_builtin; refine wpList_append_lies _ rfl _ _ 25 rfl w.heap.size 33 i0 _ 3 32 Try.underlying25 hi0 hz0 hz1 hz2 rfl (by omega) _ k (puC (ps.take k)) rfl (hown1.alloc _) ⟨wr.heap.size, 0, none⟩ 1 1 [.bool r, .int .i64 z, .string s] rfl rfl (World.news_of_block (cs := #[.bool r, .int .i64 z, .string s]) (t := 33) (fr := (0, 0)) (heap_alloc_new wr _)) (by simp [Value.oneCell']) (by omega) (by simp [maxLen]; omega) (by omega) (by simp; omega) _ rfl ?_; intro g cap w4 hown4 hgrow4 hat4 hlt4; have b4 : w4.cell? ⟨id, 3, none⟩ = some (.pointer nx) := ((C2.out.below ((Below.refl _ _).alloc (Nat.le_refl _) _) C2.out.lt).gb hgrow4 Hne.out).cell 3)
      go_roundw
      case rel =>
        refine ⟨k + 1, by omega, rfl, HN.out.symm, ?_, (hB.out.alloc hbw _).grown hgrow4 (by simp; omega) Hlk.out⟩
        show OwnPu _ _ _ _
        unfold OwnPu
        rw [htk.out, puC_append, List.length_append, List.length_singleton, List.length_take, Nat.min_eq_left (by omega)]
        exact hown4
      case measure => have := HSl.out; simp only [sliceLen] at this ⊢; omega
    · obtain rfl : k = ps.length := by omega
      have hone' := hone.out.trans (ptrTo_ge (by rw [Hil.out]; exact Nat.le_refl _))
      subst hone'
      go_wp2
      go_ret
      have := hown.out
      rw [List.take_length] at this
      exact ⟨_, rfl, this, hB.out⟩

end Go.Proofs.Ytifgoanicbaohaa
