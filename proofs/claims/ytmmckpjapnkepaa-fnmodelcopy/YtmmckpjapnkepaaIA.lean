/- Codes of what is wrong, and a block in a library, of the program. Conditions: none but the row's own bound on sizes. -/
import Derived.Test.YtmmckpjapnkepaaI6
import Derived.Test.YtmmckpjapnkepaaI9
namespace Go.Proofs.Ytmmckpjapnkepaa
open Go.RowKit Go.Sort Go.Maps

set_option maxRecDepth 100000 in
set_option maxHeartbeats 1000000 in
theorem codeOf_fine (w : World) : Calls Try.prog 47 #[.nilIface] w fun e w' => e = .returned (.int .i64 0) ∧ w = w' := by
  go_enter Try.func47, Try.ntmps47
  go_wp2
  go_ret
  exact ⟨rfl, rfl⟩
set_option maxRecDepth 100000 in
set_option maxHeartbeats 1000000 in
theorem codeOf_new (w : World) : Calls Try.prog 47 #[.iface 102 (.agg #[])] w fun e w' => e = .returned (.int .i64 1) ∧ w = w' := by
  have tnotNew : ∀ w : World, (Instr.typeAssert (.iface 102 (.agg #[])) 66 102 true).run Try.prog w = .ok (.tuple #[.agg #[], .bool true]) w := fun w => by kernel_rfl
  go_enter Try.func47, Try.ntmps47
  go_wp2
  go_ret
  exact ⟨rfl, rfl⟩
set_option maxRecDepth 100000 in
set_option maxHeartbeats 1000000 in
theorem codeOf_there (w : World) : Calls Try.prog 47 #[.iface 103 (.agg #[])] w fun e w' => e = .returned (.int .i64 2) ∧ w = w' := by
  have tnotNew : ∀ w : World, (Instr.typeAssert (.iface 103 (.agg #[])) 66 102 true).run Try.prog w = .ok (.tuple #[.agg #[], .bool false]) w := fun w => by kernel_rfl
  have tnotThere : ∀ w : World, (Instr.typeAssert (.iface 103 (.agg #[])) 66 103 true).run Try.prog w = .ok (.tuple #[.agg #[], .bool true]) w := fun w => by kernel_rfl
  go_enter Try.func47, Try.ntmps47
  go_wp2
  go_ret
  exact ⟨rfl, rfl⟩
set_option maxRecDepth 100000 in
set_option maxHeartbeats 1000000 in
theorem codeOf_room (w : World) : Calls Try.prog 47 #[.iface 104 (.agg #[])] w fun e w' => e = .returned (.int .i64 3) ∧ w = w' := by
  have tnotNew : ∀ w : World, (Instr.typeAssert (.iface 104 (.agg #[])) 66 102 true).run Try.prog w = .ok (.tuple #[.agg #[], .bool false]) w := fun w => by kernel_rfl
  have tnotThere : ∀ w : World, (Instr.typeAssert (.iface 104 (.agg #[])) 66 103 true).run Try.prog w = .ok (.tuple #[.agg #[], .bool false]) w := fun w => by kernel_rfl
  have tnotRoom : ∀ w : World, (Instr.typeAssert (.iface 104 (.agg #[])) 66 104 true).run Try.prog w = .ok (.tuple #[.agg #[], .bool true]) w := fun w => by kernel_rfl
  go_enter Try.func47, Try.ntmps47
  go_wp2
  go_ret
  exact ⟨rfl, rfl⟩
set_option maxRecDepth 100000 in
set_option maxHeartbeats 1000000 in
theorem codeOf_block (w : World) : Calls Try.prog 47 #[.iface 97 (.agg #[])] w fun e w' => e = .returned (.int .i64 4) ∧ w = w' := by
  have tnotNew : ∀ w : World, (Instr.typeAssert (.iface 97 (.agg #[])) 66 102 true).run Try.prog w = .ok (.tuple #[.agg #[], .bool false]) w := fun w => by kernel_rfl
  have tnotThere : ∀ w : World, (Instr.typeAssert (.iface 97 (.agg #[])) 66 103 true).run Try.prog w = .ok (.tuple #[.agg #[], .bool false]) w := fun w => by kernel_rfl
  have tnotRoom : ∀ w : World, (Instr.typeAssert (.iface 97 (.agg #[])) 66 104 true).run Try.prog w = .ok (.tuple #[.agg #[], .bool false]) w := fun w => by kernel_rfl
  have tnotGot : ∀ w : World, (Instr.typeAssert (.iface 97 (.agg #[])) 66 105 true).run Try.prog w = .ok (.tuple #[.agg #[], .bool false]) w := fun w => by kernel_rfl
  have tnotOpen : ∀ w : World, (Instr.typeAssert (.iface 97 (.agg #[])) 66 106 true).run Try.prog w = .ok (.tuple #[.agg #[], .bool false]) w := fun w => by kernel_rfl
  go_enter Try.func47, Try.ntmps47
  go_wp2
  go_ret
  exact ⟨rfl, rfl⟩
set_option maxRecDepth 100000 in
set_option maxHeartbeats 1000000 in
theorem codeOf_ok (w : World) : Calls Try.prog 47 #[.iface 101 (.agg #[])] w fun e w' => e = .returned (.int .i64 4) ∧ w = w' := by
  have tnotNew : ∀ w : World, (Instr.typeAssert (.iface 101 (.agg #[])) 66 102 true).run Try.prog w = .ok (.tuple #[.agg #[], .bool false]) w := fun w => by kernel_rfl
  have tnotThere : ∀ w : World, (Instr.typeAssert (.iface 101 (.agg #[])) 66 103 true).run Try.prog w = .ok (.tuple #[.agg #[], .bool false]) w := fun w => by kernel_rfl
  have tnotRoom : ∀ w : World, (Instr.typeAssert (.iface 101 (.agg #[])) 66 104 true).run Try.prog w = .ok (.tuple #[.agg #[], .bool false]) w := fun w => by kernel_rfl
  have tnotGot : ∀ w : World, (Instr.typeAssert (.iface 101 (.agg #[])) 66 105 true).run Try.prog w = .ok (.tuple #[.agg #[], .bool false]) w := fun w => by kernel_rfl
  have tnotOpen : ∀ w : World, (Instr.typeAssert (.iface 101 (.agg #[])) 66 106 true).run Try.prog w = .ok (.tuple #[.agg #[], .bool false]) w := fun w => by kernel_rfl
  go_enter Try.func47, Try.ntmps47
  go_wp2
  go_ret
  exact ⟨rfl, rfl⟩
/-- WHAT IS WRONG, by its code. -/
def wrV (c : Int) : Value := if c = 0 then .nilIface else if c = 1 then .iface 102 (.agg #[]) else if c = 2 then .iface 103 (.agg #[]) else if c = 3 then .iface 104 (.agg #[]) else .iface 97 (.agg #[])
theorem codeOf_any (c : Int) (h : c = 0 ∨ c = 1 ∨ c = 2 ∨ c = 3 ∨ c = 4) (w : World) : Calls Try.prog 47 #[wrV c] w fun e w' => e = .returned (.int .i64 c) ∧ w = w' := by
  rcases h with rfl | rfl | rfl | rfl | rfl
  · exact codeOf_fine w
  · exact codeOf_new w
  · exact codeOf_there w
  · exact codeOf_room w
  · exact codeOf_block w

theorem isBlock_any (b : Int) (w : World) : Calls Try.prog 70 #[.int .i64 b] w fun e w' => e = .returned (.bool (tt (0 ≤ b ∧ b ≤ 2))) ∧ w = w' := by
  by_cases h0 : 0 ≤ b
  · have d0 : decide (0 ≤ b) = true := by simpa using h0
    by_cases h1 : b < 3
    · have d1 : decide (b < 3) = true := by simpa using h1
      rw [tt_true (show 0 ≤ b ∧ b ≤ 2 by omega)]
      go_enter Try.func70, Try.ntmps70
      go_wp2
      go_ret
      exact ⟨rfl, rfl⟩
    · have d1 : decide (b < 3) = false := by simpa using h1
      rw [tt_false (show ¬(0 ≤ b ∧ b ≤ 2) by omega)]
      go_enter Try.func70, Try.ntmps70
      go_wp2
      go_ret
      exact ⟨rfl, rfl⟩
  · have d0 : decide (0 ≤ b) = false := by simpa using h0
    rw [tt_false (show ¬(0 ≤ b ∧ b ≤ 2) by omega)]
    go_enter Try.func70, Try.ntmps70
    go_wp2
    go_ret
    exact ⟨rfl, rfl⟩

/-- WHERE A TEXT IS IN A LIBRARY. -/
def TextAt (w : World) (base D : Nat) (ss : List ShD) (k q : Nat) (g : Nat) : Prop :=
  w.cell? ⟨g, q, none⟩ = some (.string ((blAt ss k).getD q ByteArray.empty)) ∧ w.frozen? ⟨g, q, none⟩ = false ∧ base ≤ g ∧ ∀ w', Below w.heap.size w w' → ∀ t, Lib (w'.setCell ⟨g, q, none⟩ (.string t)) base D (setSh ss k q t)
theorem setSh_length (ss : List ShD) (k q : Nat) (t : ByteArray) : (setSh ss k q t).length = ss.length := by simp [setSh]
theorem setSh_get (ss : List ShD) (k q : Nat) (t : ByteArray) (j : Nat) (hk : k < ss.length) : (setSh ss k q t).getD j sh0 = if k = j then ⟨nmAt ss k, (blAt ss k).set q t⟩ else ss.getD j sh0 := by
  unfold setSh
  rw [List.getD, List.getElem?_set]
  by_cases e : k = j
  · subst e; rw [if_pos rfl, if_pos rfl, if_pos hk]; rfl
  · rw [if_neg e, if_neg e]; rfl
theorem txC_set (xs : List ByteArray) (q : Nat) (t : ByteArray) : txC (xs.set q t) = (txC xs).set q (.string t) := by unfold txC; rw [List.map_set]

/-- A store into a text of a library. -/
theorem text_at {w : World} {base D : Nat} {ss : List ShD} {v : Value} {b n k q : Nat} (h1 : base ≤ D) (h2 : base ≤ b) (h3 : n ≤ ss.length) (h4 : Blk w D #[v, .map (some b)] 93) (h6 : PlN w b n ss ss.length) (hk : k < ss.length)
    {ys : List Value} {g : Nat → Nat} (k1 : w.ownsRow base 35 2 v ss.length ys) (k2 : ∀ j, j < ss.length → ShC w base ss g ys j) (k3 : ∀ i j, i < j → j < ss.length → g i ≠ g j) (hq : q < (blAt ss k).length) : TextAt w base D ss k q (g k) := by
  obtain ⟨c0, cp, c1, c2⟩ := k2 k hk
  have hbq : (ss.getD k sh0).blocks = blAt ss k := rfl
  rw [hbq] at c1 c2
  obtain ⟨x0, f0, hb, hl⟩ := own_cell c2 q (by omega)
  rw [txC_get _ q hq] at x0
  have hnb : b ≠ g k := fun e => by
    obtain ⟨D', ho, _⟩ := h6
    obtain ⟨es, ck, he, _⟩ := ho
    rcases c2.2 with ⟨hv, _⟩ | ⟨g1, cap1, cur1, hv, _, hb1, _⟩
    · cases hv
    · cases hv
      rw [← e, he] at hb1
      cases hb1
  have hnd : D ≠ g k := fun e => by
    rcases c2.2 with ⟨hv, _⟩ | ⟨g1, cap1, cur1, hv, _, hb1, _⟩
    · cases hv
    · cases hv
      rw [← e] at hb1
      exact absurd (Blk.type h4 (show Blk w D cur1 9 from hb1)) (by decide)
  refine ⟨x0, f0, hb, fun w' hB t => ?_⟩
  have h4 := h4.below hB h4.lt
  have h6 := h6.below hB
  have k1 := own_below k1 hB
  have k2 := fun j hj => (k2 j hj).below hB
  have c2 := own_below c2 hB
  refine ⟨v, b, n, h1, h2, by rw [setSh_length]; exact h3, h4.other _ _ _ (fun e => hnd e.symm), ⟨ys, g, ?_, fun j hj => ?_, fun i j hij hj => ?_⟩, ?_⟩
  · rw [setSh_length]
    refine own_other k1 _ _ _ (fun e => ?_)
    obtain ⟨cur, hc⟩ := own_block_type k1 _ e
    rcases c2.2 with ⟨hv, _⟩ | ⟨g1, cap1, cur1, hv, _, hb1, _⟩
    · cases hv
    · cases hv
      rw [hc] at hb1
      injection hb1 with hb1
      injection hb1 with _ hb1
      exact absurd hb1 (by decide)
  · rw [setSh_length] at hj
    unfold ShC
    rw [setSh_get ss k q t j hk]
    by_cases e : k = j
    · subst e
      rw [if_pos rfl]
      refine ⟨c0, cp, by simp only [List.length_set]; exact c1, ?_⟩
      simp only [List.length_set]
      unfold OwnTx
      rw [txC_set, List.length_set]
      exact own_set c2 q _
    · rw [if_neg e]
      obtain ⟨d0, dp, d1, d2⟩ := k2 j hj
      refine ⟨d0, dp, d1, own_other d2 _ _ _ (fun q => ?_)⟩
      simp only [Value.ownBlock, Option.some.injEq] at q
      rcases Nat.lt_or_gt_of_ne e with hl | hl
      · exact k3 k j hl hj q.symm
      · exact k3 j k hl hk q
  · rw [setSh_length] at hj; exact k3 i j hij hj
  · rw [setSh_length]
    refine (h6.setCell (a := ⟨g k, q, none⟩) hnb _).congr (fun j hj => ?_)
    show (ss.getD j sh0).name = ((setSh ss k q t).getD j sh0).name
    rw [setSh_get ss k q t j hk]
    by_cases e : k = j
    · subst e; rw [if_pos rfl]; rfl
    · rw [if_neg e]

theorem look_at {w : World} {b n : Nat} {ss : List ShD} (hd : Distinct ss) (h : PlN w b n ss ss.length) {nm : ByteArray} {k : Nat} (hk : At ss nm k) (hs : nm.size ≤ maxLen) :
    (Instr.lookup 78 (.map (some b)) (.string nm) true).run Try.prog w = .ok (.tuple #[.int .i64 (k : Int), .bool true]) w := by
  obtain ⟨h1, h2⟩ := hk
  subst h2
  exact h.look h1 (fun i hi hik e => hd k i hi hik e.symm) hs

set_option maxRecDepth 100000 in
set_option maxHeartbeats 2000000 in
theorem blockOf_none (base D : Nat) (ss : List ShD) (nm : ByteArray) (b : Int) (w : World) (hL : Lib w base D ss) (hn : nm.size ≤ maxLen) (hh : ¬HasNm ss nm) :
    Calls Try.prog 48 #[.pointer (some ⟨D, 0, none⟩), .string nm, .int .i64 b] w fun e w' => e = .returned (.tuple #[.pointer none, .iface 103 (.agg #[])]) ∧ w = w' := by
  obtain ⟨v, bm, n, h1, h2, h3, h4, h5, h6⟩ := hL
  have m1 : w.cell? ⟨D, 1, none⟩ = some (.map (some bm)) := h4.cell 1
  have hlook := h6.miss hh hn
  clear hh h4 h5 h6 h1 h2 h3
  go_enter Try.func48, Try.ntmps48
  go_wp2
  go_ret2
  exact ⟨rfl, rfl⟩

set_option maxRecDepth 100000 in
set_option maxHeartbeats 2000000 in
theorem blockOf_bad (base D : Nat) (ss : List ShD) (nm : ByteArray) (b : Int) (w : World) (hL : Lib w base D ss) (hd : Distinct ss) (hn : nm.size ≤ maxLen) (hh : HasNm ss nm) (hb : ¬(0 ≤ b ∧ b ≤ 2)) :
    Calls Try.prog 48 #[.pointer (some ⟨D, 0, none⟩), .string nm, .int .i64 b] w fun e w' => e = .returned (.tuple #[.pointer none, .iface 97 (.agg #[])]) ∧ w = w' := by
  obtain ⟨v, bm, n, h1, h2, h3, h4, h5, h6⟩ := hL
  have m1 : w.cell? ⟨D, 1, none⟩ = some (.map (some bm)) := h4.cell 1
  have hlook := look_at hd h6 (whereSh_at hh) hn
  have HI := Lib.hid (isBlock_any b w)
  rw [tt_false hb] at HI
  generalize whereSh ss nm = k at hlook
  clear hh h4 h5 h6 h1 h2 h3 hb hd
  go_enter Try.func48, Try.ntmps48
  go_wp2_with fail
  refine HI.out.mono ?_
  rintro e w1 ⟨rfl, rfl⟩
  go_wp2
  go_ret2
  exact ⟨rfl, rfl⟩

set_option maxRecDepth 100000 in
set_option maxHeartbeats 2000000 in
theorem blockOf_ok (base D : Nat) (ss : List ShD) (nm : ByteArray) (q : Nat) (w : World) (hL : Lib w base D ss) (hok : MdFine ss) (hn : nm.size ≤ maxLen) (hh : HasNm ss nm) (hq : q ≤ 2) :
    Calls Try.prog 48 #[.pointer (some ⟨D, 0, none⟩), .string nm, .int .i64 (q : Int)] w fun e w' => ∃ g, e = .returned (.tuple #[.pointer (some ⟨g, q, none⟩), .nilIface]) ∧ TextAt w base D ss (whereSh ss nm) q g ∧ w = w' := by
  obtain ⟨v, bm, n, h1, h2, h3, h4, h5, h6⟩ := hL
  have m0 : w.cell? ⟨D, 0, none⟩ = some v := h4.cell 0
  have m1 : w.cell? ⟨D, 1, none⟩ = some (.map (some bm)) := h4.cell 1
  have hat := whereSh_at hh
  have hlook := look_at hok.2.2 h6 hat hn
  have HI := Lib.hid (isBlock_any (q : Int) w)
  rw [tt_true (show 0 ≤ (q : Int) ∧ (q : Int) ≤ 2 by omega)] at HI
  generalize whereSh ss nm = k at hlook hat
  obtain ⟨hk, _⟩ := hat
  have h4l := hok.1
  have hbl : (blAt ss k).length = 3 := (hok.2.1 k hk).2.1
  obtain ⟨ys, g, k1, k2, k3⟩ := h5
  have HT := Lib.hid (text_at (q := q) h1 h2 h3 h4 h6 hk k1 k2 k3 (by omega))
  obtain ⟨c0, cp, c1, c2⟩ := k2 k hk
  have hbq : (ss.getD k sh0).blocks.length = 3 := hbl
  rw [hbq] at c1
  have hcp : 3 ≤ cp := by
    obtain ⟨_, _, e, h, _⟩ := OwnTx.reads c2
    injection e with _ _ e2
    omega
  obtain ⟨gs, cs, rfl, _, _⟩ := World.ownsRow.form k1 (by omega)
  have e1 := (own_cell k1 (k * 2 + 1) (by omega)).1.trans c1
  have i0 : (0 : Int) ≤ (k : Int) := by omega
  have i1 : (k : Int) < (ss.length : Int) := by omega
  have j0 : (0 : Int) ≤ (q : Int) := by omega
  have j1 : (q : Int) < 3 := by omega
  clear hok hh h4 h6 h1 h2 h3 k1 k2 k3 c0 c1 c2 hbl hbq
  go_enter Try.func48, Try.ntmps48
  go_wp2_with fail
  refine HI.out.mono ?_
  rintro e w1 ⟨rfl, rfl⟩
  go_wp2
  go_ret2
  exact ⟨g k, rfl, HT.out, rfl⟩

end Go.Proofs.Ytmmckpjapnkepaa
