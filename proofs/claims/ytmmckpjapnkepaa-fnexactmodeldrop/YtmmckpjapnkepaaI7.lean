/- The exact laws' own helpers for models: arguments, sizes, comparisons, copies. Conditions: none but the row's own bound on sizes. -/
import Derived.Test.YtmmckpjapnkepaaI0
import Derived.Test.YtmmckpjapnkepaaGT1
import Derived.Test.YtmmckpjapnkepaaGT2
import Derived.Test.YtmmckpjapnkepaaTE
namespace Go.Proofs.Ytmmckpjapnkepaa
open Go.Joins Go.ChangeShapes Go.WideShapes Go.RowKit Go.Deep Go.Sort

/-- WITHIN BOUNDS. -/
def ShBd (s : ShD) : Prop := s.name.size ≤ maxLen ∧ s.blocks.length ≤ maxLen ∧ ∀ j, j < s.blocks.length → (s.blocks.getD j ByteArray.empty).size ≤ maxLen
def MdBd (ss : List ShD) : Prop := ss.length ≤ maxLen ∧ AllSh ShBd ss

/-- VOLUMES THAT CAME IN. -/
theorem in_shelves {H : Type} {enc : TypeId × Value → H} {w : World} {base : Nat} {spare : Nat → Bool} {held : Bool} {fuel : Nat} {v : Value} {x : DataW H × List MemPlace}
    (h : DataW.trod enc Try.prog w base spare held fuel 44 [v] = some x) : ∃ ss, ShV w v ss ∧ AllSh ShBd ss := by
  obtain ⟨a, len, cap, rfl, hl, hm, hi⟩ := row_cells Try.underlying44 Try.underlying113 (by kernel_rfl) (by kernel_rfl) (by decide) h
  obtain ⟨ps, hpl, hps⟩ := choose_list sh0 len (fun i p => ∃ b off, a = some ⟨b, off, none⟩ ∧ w.cell? ⟨b, off + i * 2, none⟩ = some (.string p.name) ∧ (∃ v, w.cell? ⟨b, off + i * 2 + 1, none⟩ = some v ∧ TxV w v p.blocks) ∧ ShBd p) (fun i hil => by
    obtain ⟨b, off, rfl, hf⟩ := hi i hil
    obtain ⟨u0, y0, n0, c0, t0⟩ := hf 0 _ rfl
    obtain ⟨u1, y1, n1, c1, t1⟩ := hf 1 _ rfl
    obtain ⟨z0, e0, _, hz⟩ := DataW.trod_string Try.underlying9 t0
    obtain ⟨xs, hx, hxs⟩ := in_texts t1
    injection e0 with e0
    subst e0
    have hxl : xs.length ≤ maxLen := by obtain ⟨_, _, _, h1, h2, _⟩ := hx; omega
    exact ⟨⟨z0, xs⟩, b, off, rfl, by simpa using c0, ⟨u1, by simpa [Nat.add_assoc] using c1, hx⟩, hz, hxl, hxs⟩)
  subst hpl
  refine ⟨ps, ⟨a, cap, rfl, hl, hm, ?_⟩, fun j hj => by obtain ⟨_, _, _, _, _, hz⟩ := hps j hj; exact hz⟩
  by_cases h0 : ps = []
  · exact .inl h0
  · have hp : 0 < ps.length := List.length_pos_iff.2 h0
    obtain ⟨b, off, rfl, _⟩ := hps 0 hp
    refine .inr ⟨b, off, rfl, fun j hj => ?_⟩
    obtain ⟨b', off', e, h1, h2, _⟩ := hps j hj
    injection e with e
    injection e with e1 e2
    subst e1
    subst e2
    exact ⟨h1, h2⟩
theorem array1' {α : Type} {cs : Array α} (h : cs.size = 1) : ∃ a, cs = #[a] := by
  rcases cs with ⟨l⟩
  match l, h with
  | [a], _ => exact ⟨a, rfl⟩
set_option maxRecDepth 100000 in
/-- A MODEL THAT CAME IN. -/
theorem in_model {H : Type} {enc : TypeId × Value → H} {w : World} {base : Nat} {spare : Nat → Bool} {held : Bool} {r : Reach} {b0 : Nat} {v : Value} {d : DataW H} {p : List MemPlace}
    (hv : Value.okWide Try.prog w r b0 46 v) (h : DataW.Trod enc Try.prog w base spare held 46 v d p) : ∃ (ss : List ShD) (a : Option Addr) (cap : Nat), v = .agg #[.slice a ss.length cap] ∧ Hid (ShAt w a ss) ∧ MdBd ss := by
  obtain ⟨cs, rfl, hsz, hf⟩ := agg_cells Try.underlying46 (by kernel_rfl) (by kernel_rfl) hv h
  obtain ⟨c0, rfl⟩ := array1' hsz
  obtain ⟨u0, y0, n0, k0, t0⟩ := hf 0 _ rfl
  obtain rfl : c0 = u0 := Option.some.inj k0
  obtain ⟨ss, ⟨a, cap, rfl, h1, h2, hx⟩, hb⟩ := in_shelves t0
  exact ⟨ss, a, cap, rfl, hx, by omega, hb⟩

set_option maxRecDepth 100000 in
set_option maxHeartbeats 1000000 in
theorem szShelf_any (nm : ByteArray) (a : Option Addr) (cap : Nat) (xs : List ByteArray) (left : Nat) (w : World) (hb : ShBd ⟨nm, xs⟩) (hleft : left ≤ 1048576) (hx : Hid (TxAt w a xs)) :
    Calls Try.prog 75 #[.agg #[.string nm, .slice a xs.length cap], .int .i64 (left : Int)] w (SzIf (ShSmall ⟨nm, xs⟩) left w) := by
  obtain ⟨b1, b2, b3⟩ := hb
  simp only at b1 b2 b3
  have Hb2 := Lib.hid b2
  have Hb3 : Hid (∀ j, j < xs.length → (xs.getD j ByteArray.empty).size ≤ maxLen) := b3
  have hB : Below w.heap.size w (w.alloc (.cells #[.string nm, .slice a xs.length cap] 113)) := (Below.refl _ _).alloc (Nat.le_refl _) _
  have HB := Lib.hid hB
  have HX := Lib.hid (hx.out.below hB)
  unfold maxLen at b1
  clear hB b2 b3
  by_cases h0 : left < nm.size
  · have d0 : decide ((left : Int) - (nm.size : Int) < 0) = true := by simp; omega
    go_enter Try.func75, Try.ntmps75
    go_wp2
    go_ret
    exact ⟨.inl rfl, HB.out⟩
  · obtain ⟨r0, hr0⟩ : ∃ r0 : Nat, (left : Int) - (nm.size : Int) = (r0 : Int) := ⟨left - nm.size, by omega⟩
    have hr0l : r0 ≤ left := by omega
    have d0 : decide ((r0 : Int) < 0) = false := by simp
    have HZ := Lib.hid (szTx_any a cap xs r0 _ Hb2.out Hb3 (by omega) HX)
    go_enter Try.func75, Try.ntmps75
    go_wp2_with fail
    refine HZ.out.mono ?_
    rintro e w1 ⟨he, hB1⟩
    have HB1 := Lib.hid (HB.out.trans (hB1.mono HB.out.size))
    clear hB1
    rcases he with rfl | ⟨r, rfl, hr, hs⟩
    · go_wp2
      go_ret
      exact ⟨.inl rfl, HB1.out⟩
    · have d1 : decide ((r : Int) < 0) = false := by simp
      have HS : Hid (ShSmall ⟨nm, xs⟩) := ⟨by show nm.size ≤ _; omega, hs.1, hs.2⟩
      clear hs
      go_wp2
      go_ret
      exact ⟨.inr ⟨r, rfl, by omega, HS.out⟩, HB1.out⟩

set_option maxRecDepth 100000 in
set_option maxHeartbeats 1000000 in
theorem szShelfS_any (a : Option Addr) (cap left : Nat) (ss : List ShD) (w : World) (hb : MdBd ss) (hleft : left ≤ 1048576) (hx : Hid (ShAt w a ss)) :
    Calls Try.prog 61 #[.slice a ss.length cap, .int .i64 (left : Int)] w (SzIf (MdSmall ss) left w) := by
  obtain ⟨hl, hbs⟩ := hb
  have Hbs := Lib.hid hbs
  clear hbs
  unfold maxLen at hl
  by_cases h0 : left < ss.length
  · have d0 : decide ((left : Int) - (ss.length : Int) < 0) = true := by simp; omega
    go_enter Try.func61, Try.ntmps61
    go_wp2
    go_ret
    exact ⟨.inl rfl, Below.refl _ _⟩
  · obtain ⟨r0, hr0⟩ : ∃ r0 : Nat, (left : Int) - (ss.length : Int) = (r0 : Int) := ⟨left - ss.length, by omega⟩
    have d0 : decide ((left : Int) - (ss.length : Int) < 0) = false := by simp; omega
    go_enter Try.func61, Try.ntmps61
    go_wp2_with fail
    go_loopw [1, 5] (fun l i wr => ∃ k r : Nat, i = .int .i64 (k : Int) ∧ l = .int .i64 (r : Int) ∧ k ≤ ss.length ∧ r ≤ left ∧ Hid (Below w.heap.size w wr) ∧ Hid (∀ j, j < k → ShSmall (ss.getD j sh0))) (fun _ i _ => ss.length - (intOf i).toNat)
    case atStart => exact ⟨0, r0, rfl, by go_num, by omega, by omega, Below.refl _ _, fun j hj => by omega⟩
    case round =>
      obtain ⟨k, r, rfl, rfl, hk, hr, hB, hall⟩ := hrel
      by_cases hlt : k < ss.length
      · obtain ⟨b, off, rfl, hc⟩ := (hx.out.below hB.out).resolve_left (fun e => by subst e; simp at hlt)
        obtain ⟨e0, v, e1, hv⟩ := hc k hlt
        have hns := Hbs.out k hlt
        clear hc
        generalize hg : ss.getD k sh0 = q at e0 hv hns
        have Hg := Lib.hid hg
        clear hg
        obtain ⟨nm, xs⟩ := q
        obtain ⟨a1, c1, rfl, _, _, hx1⟩ := hv
        simp only at e0 e1 hx1
        have HZ := Lib.hid (szShelf_any nm a1 c1 xs r wr hns (by omega) hx1)
        clear hns hx1
        go_wp2_with fail
        refine HZ.out.mono ?_
        rintro e w1 ⟨he, hB1⟩
        have HB1 := Lib.hid (hB.out.trans (hB1.mono hB.out.size))
        clear hB1
        rcases he with rfl | ⟨r2, rfl, hr2, hs2⟩
        · go_wp2
          go_ret
          exact ⟨.inl rfl, HB1.out⟩
        · have d1 : decide ((r2 : Int) < 0) = false := by simp
          have HN : Hid (∀ j, j < k + 1 → ShSmall (ss.getD j sh0)) := fun j hj => by
            by_cases e : j = k
            · subst e; rw [Hg.out]; exact hs2
            · exact hall.out j (by omega)
          clear hs2
          go_wp2
          exact ⟨⟨k + 1, r2, by go_num, rfl, by omega, by omega, HB1, HN⟩, by simp [intOf]; omega⟩
      · have HL : Hid (MdSmall ss) := ⟨by omega, fun j hj => hall.out j (by omega)⟩
        go_wp2
        go_ret
        exact ⟨.inr ⟨r, rfl, hr, HL.out⟩, hB.out⟩

set_option maxRecDepth 100000 in
set_option maxHeartbeats 1000000 in
theorem szModel_any (a : Option Addr) (cap left : Nat) (ss : List ShD) (w : World) (hb : MdBd ss) (hleft : left ≤ 1048576) (hx : Hid (ShAt w a ss)) :
    Calls Try.prog 27 #[.agg #[.slice a ss.length cap], .int .i64 (left : Int)] w (SzIf (MdSmall ss) left w) := by
  have hB : Below w.heap.size w (w.alloc (.cells #[.slice a ss.length cap] 46)) := (Below.refl _ _).alloc (Nat.le_refl _) _
  have HB := Lib.hid hB
  have HZ := Lib.hid (szShelfS_any a cap left ss _ hb hleft (hx.out.below hB))
  clear hB hb
  go_enter Try.func27, Try.ntmps27
  go_wp2_with fail
  refine HZ.out.mono ?_
  rintro e w1 ⟨he, hB1⟩
  have HB1 := Lib.hid (HB.out.trans (hB1.mono HB.out.size))
  clear hB1
  rcases he with rfl | ⟨r, rfl, hr, hs⟩
  · go_wp2
    go_ret
    exact ⟨.inl rfl, HB1.out⟩
  · have d1 : decide ((r : Int) < 0) = false := by simp
    have HS := Lib.hid hs
    clear hs
    go_wp2
    go_ret
    exact ⟨.inr ⟨r, rfl, hr, HS.out⟩, HB1.out⟩

set_option maxRecDepth 100000 in
set_option maxHeartbeats 1000000 in
theorem eqShelf_same (nm : ByteArray) (a b : Option Addr) (ca cb : Nat) (xs : List ByteArray) (w : World) (hl : xs.length ≤ maxLen) (ha : Hid (TxAt w a xs)) (hb : Hid (TxAt w b xs)) :
    Calls Try.prog 77 #[.agg #[.string nm, .slice a xs.length ca], .agg #[.string nm, .slice b xs.length cb]] w fun e w' => e = .returned (.bool true) ∧ Below w.heap.size w w' := by
  have hB : Below w.heap.size w ((w.alloc (.cells #[.string nm, .slice a xs.length ca] 35)).alloc (.cells #[.string nm, .slice b xs.length cb] 35)) := ((Below.refl _ _).alloc (Nat.le_refl _) _).alloc (by simp) _
  have HB := Lib.hid hB
  have hE := eqTx_same a b ca cb xs ((w.alloc (.cells #[.string nm, .slice a xs.length ca] 35)).alloc (.cells #[.string nm, .slice b xs.length cb] 35)) hl (ha.out.below hB) (hb.out.below hB)
  have HE := Lib.hid hE
  have d0 := text_yes (rfl : nm = nm)
  have d1 : (nm.toList != nm.toList) = false := by simp
  clear hB hE
  go_enter Try.func77, Try.ntmps77
  go_wp2_with fail
  refine HE.out.mono ?_
  rintro e w1 ⟨rfl, hB1⟩
  have HB1 := Lib.hid (HB.out.trans (hB1.mono HB.out.size))
  clear hB1
  go_wp2
  go_ret
  exact ⟨rfl, HB1.out⟩

set_option maxRecDepth 100000 in
set_option maxHeartbeats 1000000 in
theorem eqShelfS_same (a b : Option Addr) (ca cb : Nat) (ss : List ShD) (w : World) (hl : MdSmall ss) (ha : Hid (ShAt w a ss)) (hb : Hid (ShAt w b ss)) :
    Calls Try.prog 63 #[.slice a ss.length ca, .slice b ss.length cb] w fun e w' => e = .returned (.bool true) ∧ Below w.heap.size w w' := by
  obtain ⟨hl, hsm⟩ := hl
  have HS := Lib.hid hsm
  clear hsm
  have d0 : ((ss.length : Int) != (ss.length : Int)) = false := by simp
  go_enter Try.func63, Try.ntmps63
  go_wp2_with fail
  go_loopw [5] (fun i wr => ∃ k : Nat, i = .int .i64 (k : Int) ∧ k ≤ ss.length ∧ Hid (Below w.heap.size w wr)) (fun i _ => ss.length - (intOf i).toNat)
  case atStart => exact ⟨0, rfl, by omega, Below.refl _ _⟩
  case round =>
    obtain ⟨k, rfl, hk, hB⟩ := hrel
    by_cases hlt : k < ss.length
    · obtain ⟨b1, o1, rfl, hc1⟩ := (ha.out.below hB.out).resolve_left (fun e => by subst e; simp at hlt)
      obtain ⟨b2, o2, rfl, hc2⟩ := (hb.out.below hB.out).resolve_left (fun e => by subst e; simp at hlt)
      obtain ⟨p0, v1, p1, hv1⟩ := hc1 k hlt
      obtain ⟨q0, v2, q1, hv2⟩ := hc2 k hlt
      have hbl := (HS.out k hlt).2.1
      clear hc1 hc2
      generalize ss.getD k sh0 = q at p0 q0 hv1 hv2 hbl
      obtain ⟨nm, xs⟩ := q
      obtain ⟨a1, c1, rfl, _, _, hx1⟩ := hv1
      obtain ⟨a2, c2, rfl, _, _, hx2⟩ := hv2
      simp only at p0 q0 p1 q1 hx1 hx2 hbl
      have HE := Lib.hid (fun w' (h : Below wr.heap.size wr w') => eqShelf_same nm a1 a2 c1 c2 xs w' (by unfold maxLen; omega) (hx1.below h) (hx2.below h))
      have g1 := cell_regrown p0
      have g2 := cell_regrown p1
      have g3 := cell_regrown q0
      have g4 := cell_regrown q1
      clear p0 p1 q0 q1 hx1 hx2
      have i1 : (k : Int) < (ss.length : Int) := by omega
      have i0 : (0 : Int) ≤ (k : Int) := by omega
      go_wp2_with fail
      refine wp_region_quiet_below (by kernel_rfl) (by kernel_rfl) ?_
      repeat (go_big_quiet_step ((go_at_call 77; with_reducible exact Calls.regrown_of (HE.out _ (below_regrown _ _ _)))))
      refine wpQuiet_nil ?_
      intro w9 hw9
      have HB9 : Hid (Below w.heap.size w w9) := by obtain ⟨p, rfl⟩ := hw9; exact rg_below hB.out _ _
      clear hw9
      go_wp2
      exact ⟨⟨k + 1, by go_num, by omega, HB9⟩, by simp [intOf]; omega⟩
    · go_wp2
      go_ret
      exact ⟨rfl, hB.out⟩

set_option maxRecDepth 100000 in
set_option maxHeartbeats 1000000 in
theorem eqModel_same (a b : Option Addr) (ca cb : Nat) (ss : List ShD) (w : World) (hl : MdSmall ss) (ha : Hid (ShAt w a ss)) (hb : Hid (ShAt w b ss)) :
    Calls Try.prog 29 #[.agg #[.slice a ss.length ca], .agg #[.slice b ss.length cb]] w fun e w' => e = .returned (.bool true) ∧ Below w.heap.size w w' := by
  have hB : Below w.heap.size w ((w.alloc (.cells #[.slice a ss.length ca] 25)).alloc (.cells #[.slice b ss.length cb] 25)) := ((Below.refl _ _).alloc (Nat.le_refl _) _).alloc (by simp) _
  have HB := Lib.hid hB
  have hE := eqShelfS_same a b ca cb ss ((w.alloc (.cells #[.slice a ss.length ca] 25)).alloc (.cells #[.slice b ss.length cb] 25)) hl (ha.out.below hB) (hb.out.below hB)
  have HE := Lib.hid hE
  clear hB hE hl
  go_enter Try.func29, Try.ntmps29
  go_wp2_with fail
  refine HE.out.mono ?_
  rintro e w1 ⟨rfl, hB1⟩
  have HB1 := Lib.hid (HB.out.trans (hB1.mono HB.out.size))
  clear hB1
  go_wp2
  go_ret
  exact ⟨rfl, HB1.out⟩

end Go.Proofs.Ytmmckpjapnkepaa
