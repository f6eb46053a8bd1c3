/- The specification's reader of roots: the pointer of a line. Conditions: the line has at most 1000 bytes. -/
import Derived.Test.YtliadobopideaaaGreatDoorPKRD
import Derived.Deep.DeepCutAuto
namespace Go.Proofs.YtliadobopideaaaGreatDoor
open Go.ChangeShapes Go.WideShapes Go.ChangeAt Go.RowKit Go.Sort

/-- A POINTER READ. -/
def PtrRead (p : PtrD) (w : World) (e : Ending) (w' : World) : Prop := ∃ v, e = .returned (.agg #[.int .i64 p.size, .int .i64 p.sum, v]) ∧ OwnPl w' w.heap.size v p.places ∧ Below w.heap.size w w'

section
variable {P : Program} {ops : Array Oper} {Q : Exit → Act → World → Prop} {md : Region.Mode} {S : World → Prop}
/-- What an operation that is ready does. -/
def Does (P : Program) (md : Region.Mode) (ops : Array Oper) (Q : Exit → Act → World → Prop) (S : World → Prop) (n : Nat) (done : Array Bool) (i : Nat) (o : Oper) (a : Act) (w : World) : Prop :=
  ∀ K' : Act → World → Prop, (∀ a w, AnyT P md ops Q S n (done.setIfInBounds i true) a w ∧ S w → K' a w) → if Region.wanted o (yielded ops a.tmps) = true then Oper.wp P o a w K' Q else K' (a.put o.dst undef) w
theorem AnyT.two (i j : Nat) {oi oj : Oper} {n : Nat} {done : Array Bool} {a : Act} {w : World} (hr : Region.ready md ops done = [i, j]) (hoi : ops[i]? = some oi) (hoj : ops[j]? = some oj)
    (hi : Does P md ops Q S n done i oi a w) (hj : Does P md ops Q S n done j oj a w) : AnyT P md ops Q S (n + 1) done a w := by
  refine ⟨fun k hk => ?_, fun h0 => by rw [h0] at hr; cases hr⟩
  rw [hr] at hk
  have hk' : k = i ∨ k = j := by simpa using hk
  rcases hk' with rfl | rfl
  · exact wpOp_step hoi hi
  · exact wpOp_step hoj hj
theorem AnyT.three (i j l : Nat) {oi oj ol : Oper} {n : Nat} {done : Array Bool} {a : Act} {w : World} (hr : Region.ready md ops done = [i, j, l]) (hoi : ops[i]? = some oi) (hoj : ops[j]? = some oj) (hol : ops[l]? = some ol)
    (hi : Does P md ops Q S n done i oi a w) (hj : Does P md ops Q S n done j oj a w) (hl : Does P md ops Q S n done l ol a w) : AnyT P md ops Q S (n + 1) done a w := by
  refine ⟨fun k hk => ?_, fun h0 => by rw [h0] at hr; cases hr⟩
  rw [hr] at hk
  have hk' : k = i ∨ k = j ∨ k = l := by simpa using hk
  rcases hk' with rfl | rfl | rfl
  · exact wpOp_step hoi hi
  · exact wpOp_step hoj hj
  · exact wpOp_step hol hl
end
/-- A pointer's box, and no places in it. -/
def Begun (wr wx : World) (s : Value) (x y : Int) : Prop := ∃ D E, s = .pointer (some ⟨D, 0, none⟩) ∧ Hid (Blk wx D #[.int .i64 x, .int .i64 y, .slice (some ⟨E, 0, none⟩) 0 0] 54) ∧ Hid (Blk wx E #[] 83) ∧ Hid (Below wr.heap.size wr wx) ∧ wr.heap.size ≤ D ∧ wr.heap.size ≤ E
theorem Begun.below {wr wx : World} {s : Value} {x y : Int} (h : Begun wr wx s x y) : Below wr.heap.size wr wx := by
  obtain ⟨_, _, _, _, _, h, _⟩ := h
  exact h.out
theorem begun_set {wr w : World} {D E : Nat} {x y : Int} (KD : Blk w D #[.int .i64 0, .int .i64 0, .slice none 0 0] 54) (KE : Blk w E #[] 83) (B : Below wr.heap.size wr w) (hD : wr.heap.size ≤ D) (hE : wr.heap.size ≤ E) :
    Begun wr (((w.setCell ⟨D, 0, none⟩ (.int .i64 x)).setCell ⟨D, 1, none⟩ (.int .i64 y)).setCell ⟨D, 2, none⟩ (.slice (some ⟨E, 0, none⟩) 0 0)) (.pointer (some ⟨D, 0, none⟩)) x y := by
  have hne : D ≠ E := fun e => absurd (Blk.type KD (by rw [e]; exact KE)) (by decide)
  exact ⟨D, E, rfl, ((KD.set 0 _).set 1 _).set 2 _, ((KE.other D 0 _ hne).other D 1 _ hne).other D 2 _ hne, ((B.setCell (p := ⟨D, 0, none⟩) hD _).setCell (p := ⟨D, 1, none⟩) hD _).setCell (p := ⟨D, 2, none⟩) hD _, hD, hE⟩
theorem own_kind {w : World} {D base K n : Nat} {cs : Array Value} {t e : TypeId} {v : Value} {xs : List Value} (h : w.ownsRow base e K v n xs) (k : Blk w D cs t) (hne : t ≠ e) : some D ≠ v.ownBlock := by
  intro he
  rcases h.2 with ⟨rfl, _⟩ | ⟨g, cap, cur, rfl, hb, hg, _⟩
  · simp [Value.ownBlock] at he
  · simp [Value.ownBlock] at he
    subst he
    unfold Blk at k
    rw [hg] at k
    injection k with k
    injection k with _ k
    exact hne k.symm
theorem grown_blk {w w' : World} {D : Nat} {cs : Array Value} {t : TypeId} {row : Option Nat} (k : Blk w D cs t) (G : w.grownBy w' row) (hne : some D ≠ row) : Blk w' D cs t := (G.block D k.lt hne).trans k
theorem news_twoR (W : World) (a b : Value) (t : TypeId) : ∀ j u, [a, b][j]? = some u → (W.alloc (.cells #[a, b] t)).cell? ((⟨W.heap.size, 0, none⟩ : Addr).add j) = some u :=
  World.news_of_block (cs := #[a, b]) (t := t) (fr := (0, 0)) (heap_alloc_new W _)
/-- A place more. -/
theorem round_end {w1 W w9 : World} {D : Nat} {x y a b : Int} {v : Value} {ps : List PlD} {g4 cap4 : Nat} (KD : Blk W D #[.int .i64 x, .int .i64 y, v] 54) (OP : OwnPl W w1.heap.size v ps) (B : Below w1.heap.size w1 W) (hD : w1.heap.size ≤ D)
    (ho : w9.ownsRow w1.heap.size 83 2 (.slice (some ⟨g4, 0, none⟩) (ps.length + 1) cap4) (ps.length + 1) (plCells ps ++ [.int .i64 a, .int .i64 b])) (hg : (W.alloc (.cells #[.int .i64 a, .int .i64 b] 83)).grownBy w9 v.ownBlock) :
    Blk w9 D #[.int .i64 x, .int .i64 y, v] 54 ∧ (∃ u, Blk (w9.setCell ⟨D, 2, none⟩ (.slice (some ⟨g4, 0, none⟩) (ps.length + 1) cap4)) D #[.int .i64 x, .int .i64 y, u] 54 ∧ OwnPl (w9.setCell ⟨D, 2, none⟩ (.slice (some ⟨g4, 0, none⟩) (ps.length + 1) cap4)) w1.heap.size u (ps ++ [(a, b)])) ∧
      Below w1.heap.size w1 (w9.setCell ⟨D, 2, none⟩ (.slice (some ⟨g4, 0, none⟩) (ps.length + 1) cap4)) := by
  have hal : Below W.heap.size W (W.alloc (.cells #[.int .i64 a, .int .i64 b] 83)) := (Below.refl _ _).alloc (Nat.le_refl _) _
  have KD' := KD.below hal KD.lt
  have OP' := own_below OP hal
  have KD9 := grown_blk KD' hg (own_kind OP' KD' (by decide))
  have B9 : Below w1.heap.size w1 w9 := (below_trans B hal B.size).grown hg (Nat.le_trans B.size hal.size) (fun i e => (OP'.lt i e).1)
  refine ⟨KD9, ⟨_, KD9.set 2 _, ?_⟩, B9.setCell (p := ⟨D, 2, none⟩) hD _⟩
  have ho2 : OwnPl w9 w1.heap.size (.slice (some ⟨g4, 0, none⟩) (ps.length + 1) cap4) (ps ++ [(a, b)]) := by
    unfold OwnPl
    rw [List.length_append, List.length_singleton, plCells_end]
    exact ho
  exact own_other ho2 D 2 _ (fun e => own_kind ho2 KD9 (by decide) e.symm)
/-- What stands where no pointer was read. -/
theorem short_end {w w1 wx : World} (B : Below w.heap.size w w1) (K : Blk w1 w.heap.size #[.int .i64 0, .int .i64 0, .slice none 0 0] 54)
    (hx : wx = ((w1.setCell ⟨w.heap.size, 0, none⟩ (.int .i64 0)).setCell ⟨w.heap.size, 1, none⟩ (.int .i64 0)).setCell ⟨w.heap.size, 2, none⟩ (.slice (some ⟨w1.heap.size, 0, none⟩) 0 0)) :
    (OwnPl (wx.alloc (.cells #[] 83)) w.heap.size (.slice (some ⟨w1.heap.size, 0, none⟩) 0 0) [] ∧ Below w.heap.size w (wx.alloc (.cells #[] 83))) ∧ Blk (wx.alloc (.cells #[] 83)) w.heap.size #[.int .i64 0, .int .i64 0, .slice (some ⟨w1.heap.size, 0, none⟩) 0 0] 54 := by
  have hlt := K.lt
  have hsz : wx.heap.size = w1.heap.size := by subst hx; simp
  have hbx : Below w.heap.size w wx := by subst hx; exact ((B.setCell (p := ⟨w.heap.size, 0, none⟩) (Nat.le_refl _) _).setCell (p := ⟨w.heap.size, 1, none⟩) (Nat.le_refl _) _).setCell (p := ⟨w.heap.size, 2, none⟩) (Nat.le_refl _) _
  have hkx : Blk wx w.heap.size #[.int .i64 0, .int .i64 0, .slice (some ⟨w1.heap.size, 0, none⟩) 0 0] 54 := by subst hx; exact ((K.set 0 _).set 1 _).set 2 _
  have hn := heap_alloc_new wx (.cells #[] 83)
  rw [hsz] at hn
  exact ⟨⟨⟨rfl, .inr ⟨w1.heap.size, 0, #[], rfl, by omega, hn, Nat.le_refl _, by simp [maxLen], rfl, rfl⟩⟩, hbx.alloc (by omega) _⟩, hkx.below ((Below.refl _ _).alloc (Nat.le_refl _) _) (by omega)⟩

set_option linter.unusedSimpArgs false in
set_option maxRecDepth 100000 in
set_option maxHeartbeats 8000000 in
theorem l2PtrRead_any (s : ByteArray) (w : World) (hs : s.size ≤ 1000) :
    Calls Tryz.prog 45 #[.string s] w (PtrRead (ptrL s.data.toList) w) := by
  obtain ⟨i0, hi0, hz0, hz1, hz2⟩ := info_parts infoPl
  have hB0 := Lib.hid (show Below w.heap.size w (w.alloc (.cells #[.int .i64 0, .int .i64 0, .slice none 0 0] 54)) from (Below.refl _ _).alloc (Nat.le_refl _) _)
  have K0 := Lib.hid (Blk.new w #[.int .i64 0, .int .i64 0, .slice none 0 0] 54)
  have hc : (32 : UInt8).toNat = 32 := rfl
  have hPN := Lib.hid (ptrL_no (l := s.data.toList))
  have hPY := Lib.hid (ptrL_yes (l := s.data.toList))
  generalize ptrL s.data.toList = P at hPN hPY ⊢
  go_enter Tryz.func45, Tryz.ntmps45
  go_wp2_with fail
  generalize w.alloc (.cells #[.int .i64 0, .int .i64 0, .slice none 0 0] 54) = w0 at hB0 K0 ⊢
  refine (l2Cut_any s 32 _ hs).mono ?_
  rintro e w1 ⟨v1, rfl, hO, hB⟩
  obtain ⟨g, cap, rfl, hcap, hbg, hW⟩ := words_of hO
  have HW := Lib.hid hW
  have hlen := cutL_len 32 s
  have hpos : 0 < (cutL 32 s.data.toList).length := List.length_pos_iff.2 (cutL_ne 32 _)
  have K1 := Lib.hid (K0.out.below hB K0.out.lt)
  have HB1 := Lib.hid (below_trans hB0.out hB hB0.out.size)
  have hws := Lib.hid (fun i => word_size (c := 32) (s := s) i)
  clear hO hB hW hB0 K0
  generalize cutL 32 s.data.toList = L at HW hcap hlen hpos hPN hPY hws
  have c0 : w1.cell? ⟨g, 0, none⟩ = some (.string (tx (L.getD 0 []))) := HW.out 0 hpos
  have hn0 : (0 : Int) < (L.length : Int) := by omega
  have k0 := K1.out.cell 0
  have k1 := K1.out.cell 1
  have k2 := K1.out.cell 2
  have f0 := K1.out.frozen 0
  have f1 := K1.out.frozen 1
  have f2 := K1.out.frozen 2
  have hlt := K1.out.lt
  by_cases hw0 : L.getD 0 [] = [112, 116, 114]
  · rw [hw0] at c0
    have ht : (tx [112, 116, 114]).toList = [112, 116, 114] := by rw [ByteArray.toList_eq]; rfl
    by_cases h3 : L.length < 3
    · have d1 : decide ((L.length : Int) < 3) = true := by simp; omega
      generalize tx [112, 116, 114] = T0 at c0 ht
      go_wp2_with fail
      obtain ⟨HE, KE⟩ := short_end HB1.out K1.out rfl
      have e0 := KE.cell 0
      have e1 := KE.cell 1
      have e2 := KE.cell 2
      clear KE
      refine bodyPost_ret (v := .agg #[.int .i64 0, .int .i64 0, .slice (some ⟨w1.heap.size, 0, none⟩) 0 0]) (by simp [results, Tryz.results45, go_sem, e0, e1, e2]) rfl (by rw [hPN.out (.inr h3)]; exact ⟨_, rfl, HE.1, HE.2⟩)
    · have d1 : decide ((L.length : Int) < 3) = false := by simp; omega
      have c1 : w1.cell? ⟨g, 1, none⟩ = some (.string (tx (L.getD 1 []))) := HW.out 1 (by omega)
      have c2 : w1.cell? ⟨g, 2, none⟩ = some (.string (tx (L.getD 2 []))) := HW.out 2 (by omega)
      have n1 : (1 : Int) < (L.length : Int) := by omega
      have n2 : (2 : Int) < (L.length : Int) := by omega
      have HN1 := Lib.hid (fun W => l2Num_any (tx (L.getD 1 [])) W)
      have HN2 := Lib.hid (fun W => l2Num_any (tx (L.getD 2 [])) W)
      rw [tx_list] at HN1 HN2
      have hp := hPY.out hw0 (by omega)
      generalize numL (L.getD 1 []) = nx at HN1 hp
      generalize numL (L.getD 2 []) = ny at HN2 hp
      have HP := Lib.hid hp
      have hL3 : 3 ≤ L.length := by omega
      clear hp hPY hPN h3 hw0
      generalize tx (L.getD 1 []) = T1 at c1 HN1
      generalize tx (L.getD 2 []) = T2 at c2 HN2
      generalize tx [112, 116, 114] = T0 at c0 ht
      go_upto_region 4 with (fail)
      clear k0 k1 k2 f0 f1 f2 c0 ht d1
      go_cut [4] (fun sx WA => Begun w1 WA sx nx ny)
      case first =>
        have cur : Below w1.heap.size w1 w1.drew := (Below.refl _ _).drew
        refine AnyT.start (S := (fun w' : World => Below w1.heap.size w1 w')) (by kernel_rfl) ?_
        refine AnyT.take 0 (show _ = some _ from rfl) rfl (by kernel_rfl) (by kernel_rfl) (by kernel_rfl) (fun _ _ _ h => h) cur (by first | kernel_rfl | rfl) (fun w' hSw => by clear hSw; go_simp; try with_reducible rfl) ?_
        try simp only [Act.put, List.setIfInBounds_toArray, List.set_cons_zero, List.set_cons_succ]
        refine AnyT.take 1 (show _ = some _ from rfl) rfl (by kernel_rfl) (by kernel_rfl) (by kernel_rfl) (fun _ _ _ h => h) cur (by first | kernel_rfl | rfl) (fun w' hSw => by clear hSw; go_simp; try with_reducible rfl) ?_
        try simp only [Act.put, List.setIfInBounds_toArray, List.set_cons_zero, List.set_cons_succ]
        refine AnyT.take 2 (show _ = some _ from rfl) rfl (by kernel_rfl) (by kernel_rfl) (by kernel_rfl) (fun _ _ _ h => h) cur (by first | kernel_rfl | rfl) (fun w' hSw => by have s0 := cell_below hSw c1; clear hSw; go_simp; try with_reducible rfl) ?_
        try simp only [Act.put, List.setIfInBounds_toArray, List.set_cons_zero, List.set_cons_succ]
        refine AnyT.take 4 (show _ = some _ from rfl) rfl (by kernel_rfl) (by kernel_rfl) (by kernel_rfl) (fun _ _ _ h => h) cur (by first | kernel_rfl | rfl) (fun w' hSw => by clear hSw; go_simp; try with_reducible rfl) ?_
        try simp only [Act.put, List.setIfInBounds_toArray, List.set_cons_zero, List.set_cons_succ]
        refine AnyT.take 5 (show _ = some _ from rfl) rfl (by kernel_rfl) (by kernel_rfl) (by kernel_rfl) (fun _ _ _ h => h) cur (by first | kernel_rfl | rfl) (fun w' hSw => by clear hSw; go_simp; try with_reducible rfl) ?_
        try simp only [Act.put, List.setIfInBounds_toArray, List.set_cons_zero, List.set_cons_succ]
        refine AnyT.take 6 (show _ = some _ from rfl) rfl (by kernel_rfl) (by kernel_rfl) (by kernel_rfl) (fun _ _ _ h => h) cur (by first | kernel_rfl | rfl) (fun w' hSw => by have s0 := cell_below hSw c2; clear hSw; go_simp; try with_reducible rfl) ?_
        try simp only [Act.put, List.setIfInBounds_toArray, List.set_cons_zero, List.set_cons_succ]
        clear c1 c2 n1 n2 hpos hn0
        generalize w1.drew = wr at cur ⊢
        refine AnyT.three 3 8 10 (by kernel_rfl) (show _ = some _ from rfl) (show _ = some _ from rfl) (show _ = some _ from rfl) (fun K' hK' => ?_) (fun K' hK' => ?_) (fun K' hK' => ?_)
        · go_simp
          go_at_call 44
          refine (HN1.out _).mono ?_
          rintro e wc0 ⟨rfl, hB⟩
          have cur := below_trans cur hB cur.size
          clear hB
          go_simp
          refine hK' _ _ ⟨?_, cur⟩
          clear hK' K'
          try simp only [Act.put, List.setIfInBounds_toArray, List.set_cons_zero, List.set_cons_succ]
          refine AnyT.three 7 8 10 (by kernel_rfl) (show _ = some _ from rfl) (show _ = some _ from rfl) (show _ = some _ from rfl) (fun K' hK' => ?_) (fun K' hK' => ?_) (fun K' hK' => ?_)
          · go_simp
            go_at_call 44
            refine (HN2.out _).mono ?_
            rintro e wc1 ⟨rfl, hB⟩
            have cur := below_trans cur hB cur.size
            clear hB
            go_simp
            refine hK' _ _ ⟨?_, cur⟩
            clear hK' K'
            try simp only [Act.put, List.setIfInBounds_toArray, List.set_cons_zero, List.set_cons_succ]
            refine AnyT.two 8 10 (by kernel_rfl) (show _ = some _ from rfl) (show _ = some _ from rfl) (fun K' hK' => ?_) (fun K' hK' => ?_)
            · have hal : Below wc1.heap.size wc1 (wc1.alloc (.cells #[] 83)) := (Below.refl _ _).alloc (Nat.le_refl _) _
              have KE := Lib.hid (Blk.new wc1 #[] 83)
              have hE : w1.heap.size ≤ wc1.heap.size := cur.size
              have cur := below_trans cur hal cur.size
              clear hal
              go_simp
              refine hK' _ _ ⟨?_, cur⟩
              clear hK' K'
              try simp only [Act.put, List.setIfInBounds_toArray, List.set_cons_zero, List.set_cons_succ]
              generalize wc1.alloc (.cells #[] 83) = wc2 at cur KE ⊢
              refine AnyT.take 9 (show _ = some _ from rfl) rfl (by kernel_rfl) (by kernel_rfl) (by kernel_rfl) (fun _ _ _ h => h) cur (by first | kernel_rfl | rfl) (fun w' hSw => by clear hSw; go_simp; try with_reducible rfl) ?_
              try simp only [Act.put, List.setIfInBounds_toArray, List.set_cons_zero, List.set_cons_succ]
              refine AnyT.one 10 (by kernel_rfl) (show _ = some _ from rfl) (fun K' hK' => ?_)
              have hal : Below wc2.heap.size wc2 (wc2.alloc (.cells #[.int .i64 0, .int .i64 0, .slice none 0 0] 54)) := (Below.refl _ _).alloc (Nat.le_refl _) _
              replace KE := Lib.hid (KE.out.below hal KE.out.lt)
              have KD := Lib.hid (Blk.new wc2 #[.int .i64 0, .int .i64 0, .slice none 0 0] 54)
              have hD : w1.heap.size ≤ wc2.heap.size := cur.size
              have cur := below_trans cur hal cur.size
              clear hal
              go_simp
              refine hK' _ _ ⟨?_, cur⟩
              clear hK' K'
              try simp only [Act.put, List.setIfInBounds_toArray, List.set_cons_zero, List.set_cons_succ]
              generalize wc2.alloc (.cells #[.int .i64 0, .int .i64 0, .slice none 0 0] 54) = wc4 at cur KD KE ⊢
              have q0 := KD.out.cell 0
              have q1 := KD.out.cell 1
              have q2 := KD.out.cell 2
              have f0 := KD.out.frozen 0
              have f1 := KD.out.frozen 1
              have f2 := KD.out.frozen 2
              have HG := begun_set (x := nx) (y := ny) KD.out KE.out cur hD hE
              refine AnyT.one 11 (by kernel_rfl) (show _ = some _ from rfl) (fun K' hK' => ?_)
              go_simp
              clear q0 q1 q2 f0 f1 f2
              refine hK' _ _ ⟨AnyT.done (by kernel_rfl) ?_, HG.below⟩
              clear hK' K'
              try simp only [Act.put, List.setIfInBounds_toArray, List.set_cons_zero, List.set_cons_succ]
              go_wp2
              go_meet
              exact HG
            · have hal : Below wc1.heap.size wc1 (wc1.alloc (.cells #[.int .i64 0, .int .i64 0, .slice none 0 0] 54)) := (Below.refl _ _).alloc (Nat.le_refl _) _
              have KD := Lib.hid (Blk.new wc1 #[.int .i64 0, .int .i64 0, .slice none 0 0] 54)
              have hD : w1.heap.size ≤ wc1.heap.size := cur.size
              have cur := below_trans cur hal cur.size
              clear hal
              go_simp
              refine hK' _ _ ⟨?_, cur⟩
              clear hK' K'
              try simp only [Act.put, List.setIfInBounds_toArray, List.set_cons_zero, List.set_cons_succ]
              generalize wc1.alloc (.cells #[.int .i64 0, .int .i64 0, .slice none 0 0] 54) = wc2 at cur KD ⊢
              refine AnyT.one 8 (by kernel_rfl) (show _ = some _ from rfl) (fun K' hK' => ?_)
              have hal : Below wc2.heap.size wc2 (wc2.alloc (.cells #[] 83)) := (Below.refl _ _).alloc (Nat.le_refl _) _
              replace KD := Lib.hid (KD.out.below hal KD.out.lt)
              have KE := Lib.hid (Blk.new wc2 #[] 83)
              have hE : w1.heap.size ≤ wc2.heap.size := cur.size
              have cur := below_trans cur hal cur.size
              clear hal
              go_simp
              refine hK' _ _ ⟨?_, cur⟩
              clear hK' K'
              try simp only [Act.put, List.setIfInBounds_toArray, List.set_cons_zero, List.set_cons_succ]
              generalize wc2.alloc (.cells #[] 83) = wc3 at cur KD KE ⊢
              refine AnyT.take 9 (show _ = some _ from rfl) rfl (by kernel_rfl) (by kernel_rfl) (by kernel_rfl) (fun _ _ _ h => h) cur (by first | kernel_rfl | rfl) (fun w' hSw => by clear hSw; go_simp; try with_reducible rfl) ?_
              try simp only [Act.put, List.setIfInBounds_toArray, List.set_cons_zero, List.set_cons_succ]
              have q0 := KD.out.cell 0
              have q1 := KD.out.cell 1
              have q2 := KD.out.cell 2
              have f0 := KD.out.frozen 0
              have f1 := KD.out.frozen 1
              have f2 := KD.out.frozen 2
              have HG := begun_set (x := nx) (y := ny) KD.out KE.out cur hD hE
              refine AnyT.one 11 (by kernel_rfl) (show _ = some _ from rfl) (fun K' hK' => ?_)
              go_simp
              clear q0 q1 q2 f0 f1 f2
              refine hK' _ _ ⟨AnyT.done (by kernel_rfl) ?_, HG.below⟩
              clear hK' K'
              try simp only [Act.put, List.setIfInBounds_toArray, List.set_cons_zero, List.set_cons_succ]
              go_wp2
              go_meet
              exact HG
          · have hal : Below wc0.heap.size wc0 (wc0.alloc (.cells #[] 83)) := (Below.refl _ _).alloc (Nat.le_refl _) _
            have KE := Lib.hid (Blk.new wc0 #[] 83)
            have hE : w1.heap.size ≤ wc0.heap.size := cur.size
            have cur := below_trans cur hal cur.size
            clear hal
            go_simp
            refine hK' _ _ ⟨?_, cur⟩
            clear hK' K'
            try simp only [Act.put, List.setIfInBounds_toArray, List.set_cons_zero, List.set_cons_succ]
            generalize wc0.alloc (.cells #[] 83) = wc1 at cur KE ⊢
            refine AnyT.two 7 10 (by kernel_rfl) (show _ = some _ from rfl) (show _ = some _ from rfl) (fun K' hK' => ?_) (fun K' hK' => ?_)
            · go_simp
              go_at_call 44
              refine (HN2.out _).mono ?_
              rintro e wc2 ⟨rfl, hB⟩
              replace KE := Lib.hid (KE.out.below hB KE.out.lt)
              have cur := below_trans cur hB cur.size
              clear hB
              go_simp
              refine hK' _ _ ⟨?_, cur⟩
              clear hK' K'
              try simp only [Act.put, List.setIfInBounds_toArray, List.set_cons_zero, List.set_cons_succ]
              refine AnyT.take 9 (show _ = some _ from rfl) rfl (by kernel_rfl) (by kernel_rfl) (by kernel_rfl) (fun _ _ _ h => h) cur (by first | kernel_rfl | rfl) (fun w' hSw => by clear hSw; go_simp; try with_reducible rfl) ?_
              try simp only [Act.put, List.setIfInBounds_toArray, List.set_cons_zero, List.set_cons_succ]
              refine AnyT.one 10 (by kernel_rfl) (show _ = some _ from rfl) (fun K' hK' => ?_)
              have hal : Below wc2.heap.size wc2 (wc2.alloc (.cells #[.int .i64 0, .int .i64 0, .slice none 0 0] 54)) := (Below.refl _ _).alloc (Nat.le_refl _) _
              replace KE := Lib.hid (KE.out.below hal KE.out.lt)
              have KD := Lib.hid (Blk.new wc2 #[.int .i64 0, .int .i64 0, .slice none 0 0] 54)
              have hD : w1.heap.size ≤ wc2.heap.size := cur.size
              have cur := below_trans cur hal cur.size
              clear hal
              go_simp
              refine hK' _ _ ⟨?_, cur⟩
              clear hK' K'
              try simp only [Act.put, List.setIfInBounds_toArray, List.set_cons_zero, List.set_cons_succ]
              generalize wc2.alloc (.cells #[.int .i64 0, .int .i64 0, .slice none 0 0] 54) = wc4 at cur KD KE ⊢
              have q0 := KD.out.cell 0
              have q1 := KD.out.cell 1
              have q2 := KD.out.cell 2
              have f0 := KD.out.frozen 0
              have f1 := KD.out.frozen 1
              have f2 := KD.out.frozen 2
              have HG := begun_set (x := nx) (y := ny) KD.out KE.out cur hD hE
              refine AnyT.one 11 (by kernel_rfl) (show _ = some _ from rfl) (fun K' hK' => ?_)
              go_simp
              clear q0 q1 q2 f0 f1 f2
              refine hK' _ _ ⟨AnyT.done (by kernel_rfl) ?_, HG.below⟩
              clear hK' K'
              try simp only [Act.put, List.setIfInBounds_toArray, List.set_cons_zero, List.set_cons_succ]
              go_wp2
              go_meet
              exact HG
            · have hal : Below wc1.heap.size wc1 (wc1.alloc (.cells #[.int .i64 0, .int .i64 0, .slice none 0 0] 54)) := (Below.refl _ _).alloc (Nat.le_refl _) _
              replace KE := Lib.hid (KE.out.below hal KE.out.lt)
              have KD := Lib.hid (Blk.new wc1 #[.int .i64 0, .int .i64 0, .slice none 0 0] 54)
              have hD : w1.heap.size ≤ wc1.heap.size := cur.size
              have cur := below_trans cur hal cur.size
              clear hal
              go_simp
              refine hK' _ _ ⟨?_, cur⟩
              clear hK' K'
              try simp only [Act.put, List.setIfInBounds_toArray, List.set_cons_zero, List.set_cons_succ]
              generalize wc1.alloc (.cells #[.int .i64 0, .int .i64 0, .slice none 0 0] 54) = wc2 at cur KD KE ⊢
              refine AnyT.one 7 (by kernel_rfl) (show _ = some _ from rfl) (fun K' hK' => ?_)
              go_simp
              go_at_call 44
              refine (HN2.out _).mono ?_
              rintro e wc3 ⟨rfl, hB⟩
              replace KE := Lib.hid (KE.out.below hB KE.out.lt)
              replace KD := Lib.hid (KD.out.below hB KD.out.lt)
              have cur := below_trans cur hB cur.size
              clear hB
              go_simp
              refine hK' _ _ ⟨?_, cur⟩
              clear hK' K'
              try simp only [Act.put, List.setIfInBounds_toArray, List.set_cons_zero, List.set_cons_succ]
              refine AnyT.take 9 (show _ = some _ from rfl) rfl (by kernel_rfl) (by kernel_rfl) (by kernel_rfl) (fun _ _ _ h => h) cur (by first | kernel_rfl | rfl) (fun w' hSw => by clear hSw; go_simp; try with_reducible rfl) ?_
              try simp only [Act.put, List.setIfInBounds_toArray, List.set_cons_zero, List.set_cons_succ]
              have q0 := KD.out.cell 0
              have q1 := KD.out.cell 1
              have q2 := KD.out.cell 2
              have f0 := KD.out.frozen 0
              have f1 := KD.out.frozen 1
              have f2 := KD.out.frozen 2
              have HG := begun_set (x := nx) (y := ny) KD.out KE.out cur hD hE
              refine AnyT.one 11 (by kernel_rfl) (show _ = some _ from rfl) (fun K' hK' => ?_)
              go_simp
              clear q0 q1 q2 f0 f1 f2
              refine hK' _ _ ⟨AnyT.done (by kernel_rfl) ?_, HG.below⟩
              clear hK' K'
              try simp only [Act.put, List.setIfInBounds_toArray, List.set_cons_zero, List.set_cons_succ]
              go_wp2
              go_meet
              exact HG
          · have hal : Below wc0.heap.size wc0 (wc0.alloc (.cells #[.int .i64 0, .int .i64 0, .slice none 0 0] 54)) := (Below.refl _ _).alloc (Nat.le_refl _) _
            have KD := Lib.hid (Blk.new wc0 #[.int .i64 0, .int .i64 0, .slice none 0 0] 54)
            have hD : w1.heap.size ≤ wc0.heap.size := cur.size
            have cur := below_trans cur hal cur.size
            clear hal
            go_simp
            refine hK' _ _ ⟨?_, cur⟩
            clear hK' K'
            try simp only [Act.put, List.setIfInBounds_toArray, List.set_cons_zero, List.set_cons_succ]
            generalize wc0.alloc (.cells #[.int .i64 0, .int .i64 0, .slice none 0 0] 54) = wc1 at cur KD ⊢
            refine AnyT.two 7 8 (by kernel_rfl) (show _ = some _ from rfl) (show _ = some _ from rfl) (fun K' hK' => ?_) (fun K' hK' => ?_)
            · go_simp
              go_at_call 44
              refine (HN2.out _).mono ?_
              rintro e wc2 ⟨rfl, hB⟩
              replace KD := Lib.hid (KD.out.below hB KD.out.lt)
              have cur := below_trans cur hB cur.size
              clear hB
              go_simp
              refine hK' _ _ ⟨?_, cur⟩
              clear hK' K'
              try simp only [Act.put, List.setIfInBounds_toArray, List.set_cons_zero, List.set_cons_succ]
              refine AnyT.one 8 (by kernel_rfl) (show _ = some _ from rfl) (fun K' hK' => ?_)
              have hal : Below wc2.heap.size wc2 (wc2.alloc (.cells #[] 83)) := (Below.refl _ _).alloc (Nat.le_refl _) _
              replace KD := Lib.hid (KD.out.below hal KD.out.lt)
              have KE := Lib.hid (Blk.new wc2 #[] 83)
              have hE : w1.heap.size ≤ wc2.heap.size := cur.size
              have cur := below_trans cur hal cur.size
              clear hal
              go_simp
              refine hK' _ _ ⟨?_, cur⟩
              clear hK' K'
              try simp only [Act.put, List.setIfInBounds_toArray, List.set_cons_zero, List.set_cons_succ]
              generalize wc2.alloc (.cells #[] 83) = wc3 at cur KD KE ⊢
              refine AnyT.take 9 (show _ = some _ from rfl) rfl (by kernel_rfl) (by kernel_rfl) (by kernel_rfl) (fun _ _ _ h => h) cur (by first | kernel_rfl | rfl) (fun w' hSw => by clear hSw; go_simp; try with_reducible rfl) ?_
              try simp only [Act.put, List.setIfInBounds_toArray, List.set_cons_zero, List.set_cons_succ]
              have q0 := KD.out.cell 0
              have q1 := KD.out.cell 1
              have q2 := KD.out.cell 2
              have f0 := KD.out.frozen 0
              have f1 := KD.out.frozen 1
              have f2 := KD.out.frozen 2
              have HG := begun_set (x := nx) (y := ny) KD.out KE.out cur hD hE
              refine AnyT.one 11 (by kernel_rfl) (show _ = some _ from rfl) (fun K' hK' => ?_)
              go_simp
              clear q0 q1 q2 f0 f1 f2
              refine hK' _ _ ⟨AnyT.done (by kernel_rfl) ?_, HG.below⟩
              clear hK' K'
              try simp only [Act.put, List.setIfInBounds_toArray, List.set_cons_zero, List.set_cons_succ]
              go_wp2
              go_meet
              exact HG
            · have hal : Below wc1.heap.size wc1 (wc1.alloc (.cells #[] 83)) := (Below.refl _ _).alloc (Nat.le_refl _) _
              replace KD := Lib.hid (KD.out.below hal KD.out.lt)
              have KE := Lib.hid (Blk.new wc1 #[] 83)
              have hE : w1.heap.size ≤ wc1.heap.size := cur.size
              have cur := below_trans cur hal cur.size
              clear hal
              go_simp
              refine hK' _ _ ⟨?_, cur⟩
              clear hK' K'
              try simp only [Act.put, List.setIfInBounds_toArray, List.set_cons_zero, List.set_cons_succ]
              generalize wc1.alloc (.cells #[] 83) = wc2 at cur KD KE ⊢
              refine AnyT.one 7 (by kernel_rfl) (show _ = some _ from rfl) (fun K' hK' => ?_)
              go_simp
              go_at_call 44
              refine (HN2.out _).mono ?_
              rintro e wc3 ⟨rfl, hB⟩
              replace KE := Lib.hid (KE.out.below hB KE.out.lt)
              replace KD := Lib.hid (KD.out.below hB KD.out.lt)
              have cur := below_trans cur hB cur.size
              clear hB
              go_simp
              refine hK' _ _ ⟨?_, cur⟩
              clear hK' K'
              try simp only [Act.put, List.setIfInBounds_toArray, List.set_cons_zero, List.set_cons_succ]
              refine AnyT.take 9 (show _ = some _ from rfl) rfl (by kernel_rfl) (by kernel_rfl) (by kernel_rfl) (fun _ _ _ h => h) cur (by first | kernel_rfl | rfl) (fun w' hSw => by clear hSw; go_simp; try with_reducible rfl) ?_
              try simp only [Act.put, List.setIfInBounds_toArray, List.set_cons_zero, List.set_cons_succ]
              have q0 := KD.out.cell 0
              have q1 := KD.out.cell 1
              have q2 := KD.out.cell 2
              have f0 := KD.out.frozen 0
              have f1 := KD.out.frozen 1
              have f2 := KD.out.frozen 2
              have HG := begun_set (x := nx) (y := ny) KD.out KE.out cur hD hE
              refine AnyT.one 11 (by kernel_rfl) (show _ = some _ from rfl) (fun K' hK' => ?_)
              go_simp
              clear q0 q1 q2 f0 f1 f2
              refine hK' _ _ ⟨AnyT.done (by kernel_rfl) ?_, HG.below⟩
              clear hK' K'
              try simp only [Act.put, List.setIfInBounds_toArray, List.set_cons_zero, List.set_cons_succ]
              go_wp2
              go_meet
              exact HG
        · have hal : Below wr.heap.size wr (wr.alloc (.cells #[] 83)) := (Below.refl _ _).alloc (Nat.le_refl _) _
          have KE := Lib.hid (Blk.new wr #[] 83)
          have hE : w1.heap.size ≤ wr.heap.size := cur.size
          have cur := below_trans cur hal cur.size
          clear hal
          go_simp
          refine hK' _ _ ⟨?_, cur⟩
          clear hK' K'
          try simp only [Act.put, List.setIfInBounds_toArray, List.set_cons_zero, List.set_cons_succ]
          generalize wr.alloc (.cells #[] 83) = wc0 at cur KE ⊢
          refine AnyT.two 3 10 (by kernel_rfl) (show _ = some _ from rfl) (show _ = some _ from rfl) (fun K' hK' => ?_) (fun K' hK' => ?_)
          · go_simp
            go_at_call 44
            refine (HN1.out _).mono ?_
            rintro e wc1 ⟨rfl, hB⟩
            replace KE := Lib.hid (KE.out.below hB KE.out.lt)
            have cur := below_trans cur hB cur.size
            clear hB
            go_simp
            refine hK' _ _ ⟨?_, cur⟩
            clear hK' K'
            try simp only [Act.put, List.setIfInBounds_toArray, List.set_cons_zero, List.set_cons_succ]
            refine AnyT.two 7 10 (by kernel_rfl) (show _ = some _ from rfl) (show _ = some _ from rfl) (fun K' hK' => ?_) (fun K' hK' => ?_)
            · go_simp
              go_at_call 44
              refine (HN2.out _).mono ?_
              rintro e wc2 ⟨rfl, hB⟩
              replace KE := Lib.hid (KE.out.below hB KE.out.lt)
              have cur := below_trans cur hB cur.size
              clear hB
              go_simp
              refine hK' _ _ ⟨?_, cur⟩
              clear hK' K'
              try simp only [Act.put, List.setIfInBounds_toArray, List.set_cons_zero, List.set_cons_succ]
              refine AnyT.take 9 (show _ = some _ from rfl) rfl (by kernel_rfl) (by kernel_rfl) (by kernel_rfl) (fun _ _ _ h => h) cur (by first | kernel_rfl | rfl) (fun w' hSw => by clear hSw; go_simp; try with_reducible rfl) ?_
              try simp only [Act.put, List.setIfInBounds_toArray, List.set_cons_zero, List.set_cons_succ]
              refine AnyT.one 10 (by kernel_rfl) (show _ = some _ from rfl) (fun K' hK' => ?_)
              have hal : Below wc2.heap.size wc2 (wc2.alloc (.cells #[.int .i64 0, .int .i64 0, .slice none 0 0] 54)) := (Below.refl _ _).alloc (Nat.le_refl _) _
              replace KE := Lib.hid (KE.out.below hal KE.out.lt)
              have KD := Lib.hid (Blk.new wc2 #[.int .i64 0, .int .i64 0, .slice none 0 0] 54)
              have hD : w1.heap.size ≤ wc2.heap.size := cur.size
              have cur := below_trans cur hal cur.size
              clear hal
              go_simp
              refine hK' _ _ ⟨?_, cur⟩
              clear hK' K'
              try simp only [Act.put, List.setIfInBounds_toArray, List.set_cons_zero, List.set_cons_succ]
              generalize wc2.alloc (.cells #[.int .i64 0, .int .i64 0, .slice none 0 0] 54) = wc4 at cur KD KE ⊢
              have q0 := KD.out.cell 0
              have q1 := KD.out.cell 1
              have q2 := KD.out.cell 2
              have f0 := KD.out.frozen 0
              have f1 := KD.out.frozen 1
              have f2 := KD.out.frozen 2
              have HG := begun_set (x := nx) (y := ny) KD.out KE.out cur hD hE
              refine AnyT.one 11 (by kernel_rfl) (show _ = some _ from rfl) (fun K' hK' => ?_)
              go_simp
              clear q0 q1 q2 f0 f1 f2
              refine hK' _ _ ⟨AnyT.done (by kernel_rfl) ?_, HG.below⟩
              clear hK' K'
              try simp only [Act.put, List.setIfInBounds_toArray, List.set_cons_zero, List.set_cons_succ]
              go_wp2
              go_meet
              exact HG
            · have hal : Below wc1.heap.size wc1 (wc1.alloc (.cells #[.int .i64 0, .int .i64 0, .slice none 0 0] 54)) := (Below.refl _ _).alloc (Nat.le_refl _) _
              replace KE := Lib.hid (KE.out.below hal KE.out.lt)
              have KD := Lib.hid (Blk.new wc1 #[.int .i64 0, .int .i64 0, .slice none 0 0] 54)
              have hD : w1.heap.size ≤ wc1.heap.size := cur.size
              have cur := below_trans cur hal cur.size
              clear hal
              go_simp
              refine hK' _ _ ⟨?_, cur⟩
              clear hK' K'
              try simp only [Act.put, List.setIfInBounds_toArray, List.set_cons_zero, List.set_cons_succ]
              generalize wc1.alloc (.cells #[.int .i64 0, .int .i64 0, .slice none 0 0] 54) = wc2 at cur KD KE ⊢
              refine AnyT.one 7 (by kernel_rfl) (show _ = some _ from rfl) (fun K' hK' => ?_)
              go_simp
              go_at_call 44
              refine (HN2.out _).mono ?_
              rintro e wc3 ⟨rfl, hB⟩
              replace KE := Lib.hid (KE.out.below hB KE.out.lt)
              replace KD := Lib.hid (KD.out.below hB KD.out.lt)
              have cur := below_trans cur hB cur.size
              clear hB
              go_simp
              refine hK' _ _ ⟨?_, cur⟩
              clear hK' K'
              try simp only [Act.put, List.setIfInBounds_toArray, List.set_cons_zero, List.set_cons_succ]
              refine AnyT.take 9 (show _ = some _ from rfl) rfl (by kernel_rfl) (by kernel_rfl) (by kernel_rfl) (fun _ _ _ h => h) cur (by first | kernel_rfl | rfl) (fun w' hSw => by clear hSw; go_simp; try with_reducible rfl) ?_
              try simp only [Act.put, List.setIfInBounds_toArray, List.set_cons_zero, List.set_cons_succ]
              have q0 := KD.out.cell 0
              have q1 := KD.out.cell 1
              have q2 := KD.out.cell 2
              have f0 := KD.out.frozen 0
              have f1 := KD.out.frozen 1
              have f2 := KD.out.frozen 2
              have HG := begun_set (x := nx) (y := ny) KD.out KE.out cur hD hE
              refine AnyT.one 11 (by kernel_rfl) (show _ = some _ from rfl) (fun K' hK' => ?_)
              go_simp
              clear q0 q1 q2 f0 f1 f2
              refine hK' _ _ ⟨AnyT.done (by kernel_rfl) ?_, HG.below⟩
              clear hK' K'
              try simp only [Act.put, List.setIfInBounds_toArray, List.set_cons_zero, List.set_cons_succ]
              go_wp2
              go_meet
              exact HG
          · have hal : Below wc0.heap.size wc0 (wc0.alloc (.cells #[.int .i64 0, .int .i64 0, .slice none 0 0] 54)) := (Below.refl _ _).alloc (Nat.le_refl _) _
            replace KE := Lib.hid (KE.out.below hal KE.out.lt)
            have KD := Lib.hid (Blk.new wc0 #[.int .i64 0, .int .i64 0, .slice none 0 0] 54)
            have hD : w1.heap.size ≤ wc0.heap.size := cur.size
            have cur := below_trans cur hal cur.size
            clear hal
            go_simp
            refine hK' _ _ ⟨?_, cur⟩
            clear hK' K'
            try simp only [Act.put, List.setIfInBounds_toArray, List.set_cons_zero, List.set_cons_succ]
            generalize wc0.alloc (.cells #[.int .i64 0, .int .i64 0, .slice none 0 0] 54) = wc1 at cur KD KE ⊢
            refine AnyT.one 3 (by kernel_rfl) (show _ = some _ from rfl) (fun K' hK' => ?_)
            go_simp
            go_at_call 44
            refine (HN1.out _).mono ?_
            rintro e wc2 ⟨rfl, hB⟩
            replace KE := Lib.hid (KE.out.below hB KE.out.lt)
            replace KD := Lib.hid (KD.out.below hB KD.out.lt)
            have cur := below_trans cur hB cur.size
            clear hB
            go_simp
            refine hK' _ _ ⟨?_, cur⟩
            clear hK' K'
            try simp only [Act.put, List.setIfInBounds_toArray, List.set_cons_zero, List.set_cons_succ]
            refine AnyT.one 7 (by kernel_rfl) (show _ = some _ from rfl) (fun K' hK' => ?_)
            go_simp
            go_at_call 44
            refine (HN2.out _).mono ?_
            rintro e wc3 ⟨rfl, hB⟩
            replace KE := Lib.hid (KE.out.below hB KE.out.lt)
            replace KD := Lib.hid (KD.out.below hB KD.out.lt)
            have cur := below_trans cur hB cur.size
            clear hB
            go_simp
            refine hK' _ _ ⟨?_, cur⟩
            clear hK' K'
            try simp only [Act.put, List.setIfInBounds_toArray, List.set_cons_zero, List.set_cons_succ]
            refine AnyT.take 9 (show _ = some _ from rfl) rfl (by kernel_rfl) (by kernel_rfl) (by kernel_rfl) (fun _ _ _ h => h) cur (by first | kernel_rfl | rfl) (fun w' hSw => by clear hSw; go_simp; try with_reducible rfl) ?_
            try simp only [Act.put, List.setIfInBounds_toArray, List.set_cons_zero, List.set_cons_succ]
            have q0 := KD.out.cell 0
            have q1 := KD.out.cell 1
            have q2 := KD.out.cell 2
            have f0 := KD.out.frozen 0
            have f1 := KD.out.frozen 1
            have f2 := KD.out.frozen 2
            have HG := begun_set (x := nx) (y := ny) KD.out KE.out cur hD hE
            refine AnyT.one 11 (by kernel_rfl) (show _ = some _ from rfl) (fun K' hK' => ?_)
            go_simp
            clear q0 q1 q2 f0 f1 f2
            refine hK' _ _ ⟨AnyT.done (by kernel_rfl) ?_, HG.below⟩
            clear hK' K'
            try simp only [Act.put, List.setIfInBounds_toArray, List.set_cons_zero, List.set_cons_succ]
            go_wp2
            go_meet
            exact HG
        · have hal : Below wr.heap.size wr (wr.alloc (.cells #[.int .i64 0, .int .i64 0, .slice none 0 0] 54)) := (Below.refl _ _).alloc (Nat.le_refl _) _
          have KD := Lib.hid (Blk.new wr #[.int .i64 0, .int .i64 0, .slice none 0 0] 54)
          have hD : w1.heap.size ≤ wr.heap.size := cur.size
          have cur := below_trans cur hal cur.size
          clear hal
          go_simp
          refine hK' _ _ ⟨?_, cur⟩
          clear hK' K'
          try simp only [Act.put, List.setIfInBounds_toArray, List.set_cons_zero, List.set_cons_succ]
          generalize wr.alloc (.cells #[.int .i64 0, .int .i64 0, .slice none 0 0] 54) = wc0 at cur KD ⊢
          refine AnyT.two 3 8 (by kernel_rfl) (show _ = some _ from rfl) (show _ = some _ from rfl) (fun K' hK' => ?_) (fun K' hK' => ?_)
          · go_simp
            go_at_call 44
            refine (HN1.out _).mono ?_
            rintro e wc1 ⟨rfl, hB⟩
            replace KD := Lib.hid (KD.out.below hB KD.out.lt)
            have cur := below_trans cur hB cur.size
            clear hB
            go_simp
            refine hK' _ _ ⟨?_, cur⟩
            clear hK' K'
            try simp only [Act.put, List.setIfInBounds_toArray, List.set_cons_zero, List.set_cons_succ]
            refine AnyT.two 7 8 (by kernel_rfl) (show _ = some _ from rfl) (show _ = some _ from rfl) (fun K' hK' => ?_) (fun K' hK' => ?_)
            · go_simp
              go_at_call 44
              refine (HN2.out _).mono ?_
              rintro e wc2 ⟨rfl, hB⟩
              replace KD := Lib.hid (KD.out.below hB KD.out.lt)
              have cur := below_trans cur hB cur.size
              clear hB
              go_simp
              refine hK' _ _ ⟨?_, cur⟩
              clear hK' K'
              try simp only [Act.put, List.setIfInBounds_toArray, List.set_cons_zero, List.set_cons_succ]
              refine AnyT.one 8 (by kernel_rfl) (show _ = some _ from rfl) (fun K' hK' => ?_)
              have hal : Below wc2.heap.size wc2 (wc2.alloc (.cells #[] 83)) := (Below.refl _ _).alloc (Nat.le_refl _) _
              replace KD := Lib.hid (KD.out.below hal KD.out.lt)
              have KE := Lib.hid (Blk.new wc2 #[] 83)
              have hE : w1.heap.size ≤ wc2.heap.size := cur.size
              have cur := below_trans cur hal cur.size
              clear hal
              go_simp
              refine hK' _ _ ⟨?_, cur⟩
              clear hK' K'
              try simp only [Act.put, List.setIfInBounds_toArray, List.set_cons_zero, List.set_cons_succ]
              generalize wc2.alloc (.cells #[] 83) = wc3 at cur KD KE ⊢
              refine AnyT.take 9 (show _ = some _ from rfl) rfl (by kernel_rfl) (by kernel_rfl) (by kernel_rfl) (fun _ _ _ h => h) cur (by first | kernel_rfl | rfl) (fun w' hSw => by clear hSw; go_simp; try with_reducible rfl) ?_
              try simp only [Act.put, List.setIfInBounds_toArray, List.set_cons_zero, List.set_cons_succ]
              have q0 := KD.out.cell 0
              have q1 := KD.out.cell 1
              have q2 := KD.out.cell 2
              have f0 := KD.out.frozen 0
              have f1 := KD.out.frozen 1
              have f2 := KD.out.frozen 2
              have HG := begun_set (x := nx) (y := ny) KD.out KE.out cur hD hE
              refine AnyT.one 11 (by kernel_rfl) (show _ = some _ from rfl) (fun K' hK' => ?_)
              go_simp
              clear q0 q1 q2 f0 f1 f2
              refine hK' _ _ ⟨AnyT.done (by kernel_rfl) ?_, HG.below⟩
              clear hK' K'
              try simp only [Act.put, List.setIfInBounds_toArray, List.set_cons_zero, List.set_cons_succ]
              go_wp2
              go_meet
              exact HG
            · have hal : Below wc1.heap.size wc1 (wc1.alloc (.cells #[] 83)) := (Below.refl _ _).alloc (Nat.le_refl _) _
              replace KD := Lib.hid (KD.out.below hal KD.out.lt)
              have KE := Lib.hid (Blk.new wc1 #[] 83)
              have hE : w1.heap.size ≤ wc1.heap.size := cur.size
              have cur := below_trans cur hal cur.size
              clear hal
              go_simp
              refine hK' _ _ ⟨?_, cur⟩
              clear hK' K'
              try simp only [Act.put, List.setIfInBounds_toArray, List.set_cons_zero, List.set_cons_succ]
              generalize wc1.alloc (.cells #[] 83) = wc2 at cur KD KE ⊢
              refine AnyT.one 7 (by kernel_rfl) (show _ = some _ from rfl) (fun K' hK' => ?_)
              go_simp
              go_at_call 44
              refine (HN2.out _).mono ?_
              rintro e wc3 ⟨rfl, hB⟩
              replace KE := Lib.hid (KE.out.below hB KE.out.lt)
              replace KD := Lib.hid (KD.out.below hB KD.out.lt)
              have cur := below_trans cur hB cur.size
              clear hB
              go_simp
              refine hK' _ _ ⟨?_, cur⟩
              clear hK' K'
              try simp only [Act.put, List.setIfInBounds_toArray, List.set_cons_zero, List.set_cons_succ]
              refine AnyT.take 9 (show _ = some _ from rfl) rfl (by kernel_rfl) (by kernel_rfl) (by kernel_rfl) (fun _ _ _ h => h) cur (by first | kernel_rfl | rfl) (fun w' hSw => by clear hSw; go_simp; try with_reducible rfl) ?_
              try simp only [Act.put, List.setIfInBounds_toArray, List.set_cons_zero, List.set_cons_succ]
              have q0 := KD.out.cell 0
              have q1 := KD.out.cell 1
              have q2 := KD.out.cell 2
              have f0 := KD.out.frozen 0
              have f1 := KD.out.frozen 1
              have f2 := KD.out.frozen 2
              have HG := begun_set (x := nx) (y := ny) KD.out KE.out cur hD hE
              refine AnyT.one 11 (by kernel_rfl) (show _ = some _ from rfl) (fun K' hK' => ?_)
              go_simp
              clear q0 q1 q2 f0 f1 f2
              refine hK' _ _ ⟨AnyT.done (by kernel_rfl) ?_, HG.below⟩
              clear hK' K'
              try simp only [Act.put, List.setIfInBounds_toArray, List.set_cons_zero, List.set_cons_succ]
              go_wp2
              go_meet
              exact HG
          · have hal : Below wc0.heap.size wc0 (wc0.alloc (.cells #[] 83)) := (Below.refl _ _).alloc (Nat.le_refl _) _
            replace KD := Lib.hid (KD.out.below hal KD.out.lt)
            have KE := Lib.hid (Blk.new wc0 #[] 83)
            have hE : w1.heap.size ≤ wc0.heap.size := cur.size
            have cur := below_trans cur hal cur.size
            clear hal
            go_simp
            refine hK' _ _ ⟨?_, cur⟩
            clear hK' K'
            try simp only [Act.put, List.setIfInBounds_toArray, List.set_cons_zero, List.set_cons_succ]
            generalize wc0.alloc (.cells #[] 83) = wc1 at cur KD KE ⊢
            refine AnyT.one 3 (by kernel_rfl) (show _ = some _ from rfl) (fun K' hK' => ?_)
            go_simp
            go_at_call 44
            refine (HN1.out _).mono ?_
            rintro e wc2 ⟨rfl, hB⟩
            replace KE := Lib.hid (KE.out.below hB KE.out.lt)
            replace KD := Lib.hid (KD.out.below hB KD.out.lt)
            have cur := below_trans cur hB cur.size
            clear hB
            go_simp
            refine hK' _ _ ⟨?_, cur⟩
            clear hK' K'
            try simp only [Act.put, List.setIfInBounds_toArray, List.set_cons_zero, List.set_cons_succ]
            refine AnyT.one 7 (by kernel_rfl) (show _ = some _ from rfl) (fun K' hK' => ?_)
            go_simp
            go_at_call 44
            refine (HN2.out _).mono ?_
            rintro e wc3 ⟨rfl, hB⟩
            replace KE := Lib.hid (KE.out.below hB KE.out.lt)
            replace KD := Lib.hid (KD.out.below hB KD.out.lt)
            have cur := below_trans cur hB cur.size
            clear hB
            go_simp
            refine hK' _ _ ⟨?_, cur⟩
            clear hK' K'
            try simp only [Act.put, List.setIfInBounds_toArray, List.set_cons_zero, List.set_cons_succ]
            refine AnyT.take 9 (show _ = some _ from rfl) rfl (by kernel_rfl) (by kernel_rfl) (by kernel_rfl) (fun _ _ _ h => h) cur (by first | kernel_rfl | rfl) (fun w' hSw => by clear hSw; go_simp; try with_reducible rfl) ?_
            try simp only [Act.put, List.setIfInBounds_toArray, List.set_cons_zero, List.set_cons_succ]
            have q0 := KD.out.cell 0
            have q1 := KD.out.cell 1
            have q2 := KD.out.cell 2
            have f0 := KD.out.frozen 0
            have f1 := KD.out.frozen 1
            have f2 := KD.out.frozen 2
            have HG := begun_set (x := nx) (y := ny) KD.out KE.out cur hD hE
            refine AnyT.one 11 (by kernel_rfl) (show _ = some _ from rfl) (fun K' hK' => ?_)
            go_simp
            clear q0 q1 q2 f0 f1 f2
            refine hK' _ _ ⟨AnyT.done (by kernel_rfl) ?_, HG.below⟩
            clear hK' K'
            try simp only [Act.put, List.setIfInBounds_toArray, List.set_cons_zero, List.set_cons_succ]
            go_wp2
            go_meet
            exact HG
      case rest =>
        obtain ⟨WA, e0⟩ : ∃ x, x = wc := ⟨_, rfl⟩
        subst e0
        obtain ⟨D, E, rfl, KD, KE, HA, hD, hE⟩ := hcut
        clear c1 c2 n1 n2 HN1 HN2
        have hBw := HB1.out.size
        have OP := Lib.hid (show OwnPl WA w1.heap.size (.slice (some ⟨E, 0, none⟩) 0 0) [] from ⟨rfl, .inr ⟨E, 0, #[], rfl, by omega, KE.out, Nat.le_refl _, by simp [maxLen], rfl, rfl⟩⟩)
        clear KE
        go_wp2_with fail
        go_loopw [5, 6, 7] (fun s5 s6 s7 wr => ∃ i : Nat, s5 = .int .i64 (i : Int) ∧ 3 ≤ i ∧ i ≤ L.length ∧ Hid (∃ v, Blk wr D #[.int .i64 nx, .int .i64 ny, v] 54 ∧ OwnPl wr w1.heap.size v (readP L i)) ∧ Hid (Below w1.heap.size w1 wr)) (fun s5 _ _ _ => L.length - (RowKit.intOf s5).toNat)
        case atStart => exact ⟨3, rfl, Nat.le_refl _, hL3, ⟨_, KD.out, by rw [readP_three]; exact OP.out⟩, HA⟩
        case round =>
          obtain ⟨i, rfl, h3, hi, hO, hB⟩ := hrel
          obtain ⟨v, hk, ho⟩ := hO.out
          have KD := Lib.hid hk
          have OP := Lib.hid ho
          clear hk ho hO
          by_cases hil : i < L.length
          · have cw : wr.cell? ⟨g, i, none⟩ = some (.string (tx (L.getD i []))) := cell_below hB.out (HW.out i hil)
            have j0 : (0 : Int) ≤ (i : Int) := by omega
            have j1 : (i : Int) < (L.length : Int) := by omega
            have hxs : (tx (L.getD i [])).size ≤ 1000 := by have := hws.out i; omega
            have HC := Lib.hid (fun W => l2Cut_any (tx (L.getD i [])) 46 W hxs)
            have hc46 : (46 : UInt8).toNat = 46 := rfl
            have HNx := Lib.hid (readP_next h3 hil)
            generalize hx : L.getD i [] = x at cw HC HNx hxs
            clear hx
            go_wp2_with fail
            refine (HC.out _).mono ?_
            rintro e w2 ⟨v2, rfl, hO2, hB2⟩
            obtain ⟨g2, cap2, rfl, hcap2, hbg2, hW2⟩ := words_of hO2
            rw [tx_list] at hcap2 hW2 ⊢
            have hMp : 0 < (cutL 46 x).length := List.length_pos_iff.2 (cutL_ne 46 _)
            have hM2 := Lib.hid (placeL_two (x := x))
            have hMe := Lib.hid (placeL_else (x := x))
            generalize cutL 46 x = M at hcap2 hW2 hMp hM2 hMe ⊢
            have HW2 := Lib.hid hW2
            have c20 : w2.cell? ⟨g2, 0, none⟩ = some (.string (tx (M.getD 0 []))) := hW2 0 hMp
            have m0 : (0 : Int) < (M.length : Int) := by omega
            have HNa := Lib.hid (fun W => l2Num_any (tx (M.getD 0 [])) W)
            have HNb := Lib.hid (fun W => l2Num_any (tx (M.getD 1 [])) W)
            rw [tx_list] at HNa HNb
            generalize numL (M.getD 0 []) = na at HNa hM2 hMe
            generalize numL (M.getD 1 []) = nb at HNb hM2
            have KD := Lib.hid (KD.out.below hB2 KD.out.lt)
            have OP := Lib.hid (own_below OP.out hB2)
            have hB := Lib.hid (below_trans hB.out hB2 hB.out.size)
            clear hO2 hB2 hW2 cw
            generalize tx (M.getD 0 []) = Ta at c20 HNa
            go_wp2_with fail
            refine (HNa.out _).mono ?_
            rintro e w3 ⟨rfl, hB3⟩
            have KD := Lib.hid (KD.out.below hB3 KD.out.lt)
            have OP := Lib.hid (own_below OP.out hB3)
            have hB := Lib.hid (below_trans hB.out hB3 hB.out.size)
            have HW2 := Lib.hid (HW2.out.below rfl hB3)
            clear hB3 c20
            have hal : Below w3.heap.size w3 (w3.alloc (.cells #[.int .i64 na, .int .i64 (-1)] 83)) := (Below.refl _ _).alloc (Nat.le_refl _) _
            have hvD := Lib.hid (fun k e => (OP.out.lt k e).2)
            have hDp : w1.heap.size ≤ w3.heap.size := hB.out.size
            have KD := Lib.hid (KD.out.below hal KD.out.lt)
            have OP := Lib.hid (own_below OP.out hal)
            have hB := Lib.hid (below_trans hB.out hal hB.out.size)
            have HW2 := Lib.hid (HW2.out.below rfl hal)
            have KP := Lib.hid (Blk.new w3 #[.int .i64 na, .int .i64 (-1)] 83)
            clear hal
            go_upto_region 10 with (fail)
            generalize w3.alloc (.cells #[.int .i64 na, .int .i64 (-1)] 83) = w4 at HW2 KD OP hB KP ⊢
            generalize w3.heap.size = Dp at KP hvD hDp ⊢
            by_cases hm : M.length = 2
            · have dm : ((M.length : Int) == 2) = true := by simp [hm]
              have hpl := hM2.out hm
              have c21 : w4.cell? ⟨g2, 1, none⟩ = some (.string (tx (M.getD 1 []))) := HW2.out 1 (by omega)
              have m1 : (1 : Int) < (M.length : Int) := by omega
              have HPL := Lib.hid hpl
              clear hpl hm hM2 hMe
              generalize tx (M.getD 1 []) = Tb at c21 HNb
              go_wp2_with fail
              refine (HNb.out _).mono ?_
              rintro e w5 ⟨rfl, hB5⟩
              have KD := Lib.hid (KD.out.below hB5 KD.out.lt)
              have OP := Lib.hid (own_below OP.out hB5)
              have hB := Lib.hid (below_trans hB.out hB5 hB.out.size)
              have KP := Lib.hid (KP.out.below hB5 KP.out.lt)
              clear c21 hB5
              have p0 : w5.cell? ⟨Dp, 0, none⟩ = some (.int .i64 na) := KP.out.cell 0
              have p1 : w5.cell? ⟨Dp, 1, none⟩ = some (.int .i64 (-1)) := KP.out.cell 1
              have f1 := KP.out.frozen 1
              go_upto_region 12 with (fail)
              have hne : Dp ≠ D := fun e => absurd (Blk.type KP.out (by rw [e]; exact KD.out)) (by decide)
              have KD := Lib.hid (KD.out.other Dp 1 (.int .i64 nb) hne)
              have OP := Lib.hid (show OwnPl (w5.setCell ⟨Dp, 1, none⟩ (.int .i64 nb)) w1.heap.size v (readP L i) from own_other OP.out Dp 1 (.int .i64 nb) (fun e => by have := hvD.out Dp e; omega))
              have hB := Lib.hid (hB.out.setCell (p := ⟨Dp, 1, none⟩) hDp (.int .i64 nb))
              have KP := Lib.hid (show Blk (w5.setCell ⟨Dp, 1, none⟩ (.int .i64 nb)) Dp #[.int .i64 na, .int .i64 nb] 83 from KP.out.set 1 (.int .i64 nb))
              clear p0 p1 f1 hne
              generalize w5.setCell ⟨Dp, 1, none⟩ (.int .i64 nb) = w6 at KD OP hB KP ⊢
              have d0 : w6.cell? ⟨D, 0, none⟩ = some (.int .i64 nx) := KD.out.cell 0
              have d2 : w6.cell? ⟨D, 2, none⟩ = some v := KD.out.cell 2
              have p0 : w6.cell? ⟨Dp, 0, none⟩ = some (.int .i64 na) := KP.out.cell 0
              have p1 : w6.cell? ⟨Dp, 1, none⟩ = some (.int .i64 nb) := KP.out.cell 1
              have hal := Lib.hid (show Below w6.heap.size w6 (w6.alloc (.cells #[.int .i64 na, .int .i64 nb] 83)) from (Below.refl _ _).alloc (Nat.le_refl _) _)
              have hown' := own_below OP.out hal.out
              have hpl : (readP L i).length = i - 3 := readP_length h3 hi
              have hnews := news_twoR w6 (.int .i64 na) (.int .i64 nb) 83
              have hbase : w1.heap.size ≤ (w6.alloc (.cells #[.int .i64 na, .int .i64 nb] 83)).heap.size := Nat.le_trans hB.out.size hal.out.size
              have hiw : IntKind.i64.wrap ((i : Int) + 1) = (i : Int) + 1 := by simp [IntKind.wrap, IntKind.bits, IntKind.signed]; omega
              have hplb : (readP L i).length ≤ 1001 := by omega
              clear hpl
              go_wp2_with (at_builtin; refine wpList_append_lies _ rfl _ _ 52 rfl w1.heap.size 83 i0 _ 2 16 Tryz.underlying52 hi0 hz0 hz1 hz2 rfl (by omega) _ (readP L i).length (plCells (readP L i)) rfl hown' ⟨_, 0, none⟩ 1 1 [.int .i64 na, .int .i64 nb] rfl rfl hnews (by simp [Value.oneCell']) (by omega) (by simp [maxLen]; omega) (by omega) hbase _ rfl ?_; intro g4 cap4 w9 hown4 hgrow4 hat4 hlt4; obtain ⟨K9, hN, hB9⟩ := round_end KD.out OP.out hB.out hD hown4 hgrow4; have z2 : w9.cell? ⟨D, 2, none⟩ = some v := K9.cell 2; have f2 : w9.frozen? ⟨D, 2, none⟩ = false := K9.frozen 2; have HN := Lib.hid hN; have HB9 := Lib.hid hB9; clear hown4 hgrow4 hat4 hlt4 hN hB9 K9)
              exact ⟨⟨i + 1, by go_num, by omega, by omega, by rw [HNx.out, HPL.out]; exact HN, HB9⟩, by simp [RowKit.intOf]; omega⟩
            · have dm : ((M.length : Int) == 2) = false := beq_eq_false_iff_ne.2 (by omega)
              have hpl := hMe.out hm
              have HPL := Lib.hid hpl
              clear hpl hm hM2 hMe
              go_upto_region 12 with (fail)
              have d0 : w4.cell? ⟨D, 0, none⟩ = some (.int .i64 nx) := KD.out.cell 0
              have d2 : w4.cell? ⟨D, 2, none⟩ = some v := KD.out.cell 2
              have p0 : w4.cell? ⟨Dp, 0, none⟩ = some (.int .i64 na) := KP.out.cell 0
              have p1 : w4.cell? ⟨Dp, 1, none⟩ = some (.int .i64 (-1)) := KP.out.cell 1
              have hal := Lib.hid (show Below w4.heap.size w4 (w4.alloc (.cells #[.int .i64 na, .int .i64 (-1)] 83)) from (Below.refl _ _).alloc (Nat.le_refl _) _)
              have hown' := own_below OP.out hal.out
              have hpl : (readP L i).length = i - 3 := readP_length h3 hi
              have hnews := news_twoR w4 (.int .i64 na) (.int .i64 (-1)) 83
              have hbase : w1.heap.size ≤ (w4.alloc (.cells #[.int .i64 na, .int .i64 (-1)] 83)).heap.size := Nat.le_trans hB.out.size hal.out.size
              have hiw : IntKind.i64.wrap ((i : Int) + 1) = (i : Int) + 1 := by simp [IntKind.wrap, IntKind.bits, IntKind.signed]; omega
              have hplb : (readP L i).length ≤ 1001 := by omega
              clear hpl
              go_wp2_with (at_builtin; refine wpList_append_lies _ rfl _ _ 52 rfl w1.heap.size 83 i0 _ 2 16 Tryz.underlying52 hi0 hz0 hz1 hz2 rfl (by omega) _ (readP L i).length (plCells (readP L i)) rfl hown' ⟨_, 0, none⟩ 1 1 [.int .i64 na, .int .i64 (-1)] rfl rfl hnews (by simp [Value.oneCell']) (by omega) (by simp [maxLen]; omega) (by omega) hbase _ rfl ?_; intro g4 cap4 w9 hown4 hgrow4 hat4 hlt4; obtain ⟨K9, hN, hB9⟩ := round_end KD.out OP.out hB.out hD hown4 hgrow4; have z2 : w9.cell? ⟨D, 2, none⟩ = some v := K9.cell 2; have f2 : w9.frozen? ⟨D, 2, none⟩ = false := K9.frozen 2; have HN := Lib.hid hN; have HB9 := Lib.hid hB9; clear hown4 hgrow4 hat4 hlt4 hN hB9 K9)
              exact ⟨⟨i + 1, by go_num, by omega, by omega, by rw [HNx.out, HPL.out]; exact HN, HB9⟩, by simp [RowKit.intOf]; omega⟩
          · obtain rfl : i = L.length := by omega
            have hK := K1.out.below hB.out hlt
            obtain ⟨av, nv, cv, rfl⟩ : ∃ a n c, v = .slice a n c := by
              rcases OP.out.2 with ⟨e, _⟩ | ⟨_, _, _, e, _⟩
              · exact ⟨_, _, _, e⟩
              · exact ⟨_, _, _, e⟩
            have d0 : wr.cell? ⟨D, 0, none⟩ = some (.int .i64 nx) := KD.out.cell 0
            have d1 : wr.cell? ⟨D, 1, none⟩ = some (.int .i64 ny) := KD.out.cell 1
            have d2 : wr.cell? ⟨D, 2, none⟩ = some (.slice av nv cv) := KD.out.cell 2
            have q0 : wr.cell? ⟨w.heap.size, 0, none⟩ = some (.int .i64 0) := hK.cell 0
            have q1 : wr.cell? ⟨w.heap.size, 1, none⟩ = some (.int .i64 0) := hK.cell 1
            have q2 : wr.cell? ⟨w.heap.size, 2, none⟩ = some (.slice none 0 0) := hK.cell 2
            have f0 := hK.frozen 0
            have f1 := hK.frozen 1
            have f2 := hK.frozen 2
            have KZ := ((hK.set 0 (.int .i64 nx)).set 1 (.int .i64 ny)).set 2 (.slice av nv cv)
            have e0 := KZ.cell 0
            have e1 := KZ.cell 1
            have e2 := KZ.cell 2
            have HB2 := below_trans HB1.out hB.out HB1.out.size
            have HE := Lib.hid (own_mono (own_far (own_far (own_far OP.out w.heap.size 0 (.int .i64 nx) hlt) w.heap.size 1 (.int .i64 ny) hlt) w.heap.size 2 (.slice av nv cv) hlt) (Nat.le_of_lt hlt))
            have HE2 := Lib.hid (((HB2.setCell (p := ⟨w.heap.size, 0, none⟩) (Nat.le_refl _) (.int .i64 nx)).setCell (p := ⟨w.heap.size, 1, none⟩) (Nat.le_refl _) (.int .i64 ny)).setCell (p := ⟨w.heap.size, 2, none⟩) (Nat.le_refl _) (.slice av nv cv))
            clear KZ HB2
            go_wp2_with fail
            refine bodyPost_ret (v := .agg #[.int .i64 nx, .int .i64 ny, .slice av nv cv]) (by simp [results, Tryz.results45, go_sem, e0, e1, e2]) rfl (by rw [HP.out]; exact ⟨_, rfl, HE.out, HE2.out⟩)
  · have d0 : ((tx (L.getD 0 [])).toList == [112, 116, 114]) = false := by
      rw [beq_eq_false_iff_ne, ByteArray.toList_eq]
      exact hw0
    generalize tx (L.getD 0 []) = T0 at c0 d0
    go_wp2_with fail
    obtain ⟨HE, KE⟩ := short_end HB1.out K1.out rfl
    have e0 := KE.cell 0
    have e1 := KE.cell 1
    have e2 := KE.cell 2
    clear KE
    refine bodyPost_ret (v := .agg #[.int .i64 0, .int .i64 0, .slice (some ⟨w1.heap.size, 0, none⟩) 0 0]) (by simp [results, Tryz.results45, go_sem, e0, e1, e2]) rfl (by rw [hPN.out (.inl hw0)]; exact ⟨_, rfl, HE.1, HE.2⟩)

end Go.Proofs.YtliadobopideaaaGreatDoor
