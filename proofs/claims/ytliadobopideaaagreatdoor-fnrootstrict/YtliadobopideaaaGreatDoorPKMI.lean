/- The text of a root tells all of it: two roots that are ok and have one text are one. Conditions: none. lpaPtr of the laws: whether two pointers are the same. Conditions: none but the row's own bound on sizes. -/
import Derived.Test.YtliadobopideaaaGreatDoorPKQ4
import Derived.Test.YtliadobopideaaaGreatDoorPKU3
namespace Go.Proofs.YtliadobopideaaaGreatDoor
open Go.RowKit Go.Sort

theorem split_at {c : UInt8} : ∀ {xs ys u v : List UInt8}, c ∉ xs → c ∉ ys → xs ++ c :: u = ys ++ c :: v → xs = ys ∧ u = v
  | [], [], _, _, _, _, h => ⟨rfl, (List.cons.inj h).2⟩
  | [], y :: ys, _, _, _, hy, h => absurd (List.mem_cons.2 (.inl (List.cons.inj h).1)) hy
  | x :: xs, [], _, _, hx, _, h => absurd (List.mem_cons.2 (.inl (List.cons.inj h).1.symm)) hx
  | x :: xs, y :: ys, _, _, hx, hy, h => by
    obtain ⟨h1, h2⟩ := List.cons.inj h
    obtain ⟨h3, h4⟩ := split_at (fun k => hx (List.mem_cons_of_mem _ k)) (fun k => hy (List.mem_cons_of_mem _ k)) h2
    exact ⟨by rw [h1, h3], h4⟩
theorem ofNat_dig {k : Nat} (h : k < 10) : (UInt8.ofNat (48 + k)).toNat = 48 + k := by
  rw [UInt8.toNat_ofNat']; omega
theorem dec_dig : ∀ (n : Nat), ∀ c ∈ Lib.decDigits n, 48 ≤ c.toNat ∧ c.toNat ≤ 57 := by
  intro n
  induction n using Nat.strongRecOn with
  | _ n ih =>
    intro c hc
    by_cases h : n < 10
    · rw [dec_small h, List.mem_singleton] at hc
      subst hc
      rw [ofNat_dig h]
      omega
    · rw [dec_big h, List.mem_append, List.mem_singleton] at hc
      rcases hc with hc | rfl
      · exact ih (n / 10) (by omega) c hc
      · rw [ofNat_dig (by omega)]
        omega
theorem dec_ne (n : Nat) : Lib.decDigits n ≠ [] := by
  by_cases h : n < 10
  · rw [dec_small h]; simp
  · rw [dec_big h]; simp
theorem dec_inj : ∀ (a b : Nat), Lib.decDigits a = Lib.decDigits b → a = b := by
  intro a
  induction a using Nat.strongRecOn with
  | _ a ih =>
    intro b hab
    by_cases ha : a < 10
    · by_cases hb : b < 10
      · rw [dec_small ha, dec_small hb] at hab
        have := congrArg UInt8.toNat (List.cons.inj hab).1
        rw [ofNat_dig ha, ofNat_dig hb] at this
        omega
      · rw [dec_small ha, dec_big hb] at hab
        have h1 := congrArg List.length hab
        rw [List.length_append] at h1
        have := List.length_pos_iff.2 (dec_ne (b / 10))
        simp only [List.length_singleton] at h1
        omega
    · by_cases hb : b < 10
      · rw [dec_big ha, dec_small hb] at hab
        have h1 := congrArg List.length hab
        rw [List.length_append] at h1
        have := List.length_pos_iff.2 (dec_ne (a / 10))
        simp only [List.length_singleton] at h1
        omega
      · rw [dec_big ha, dec_big hb] at hab
        obtain ⟨h1, h2⟩ := List.append_inj' hab rfl
        have h3 := ih (a / 10) (by omega) _ h1
        have := congrArg UInt8.toNat (List.cons.inj h2).1
        rw [ofNat_dig (by omega), ofNat_dig (by omega)] at this
        omega
theorem dz_no (n : Int) {c : UInt8} (h : c.toNat < 48) : c ∉ dz n := fun k => by
  have := (dec_dig _ c k).1
  omega
theorem dz_inj {a b : Int} (ha : 0 ≤ a) (hb : 0 ≤ b) (h : dz a = dz b) : a = b := by
  have := dec_inj _ _ h
  omega

theorem places_inj : ∀ {ps qs : List PlD} {u v : List UInt8}, ps.length = qs.length → (∀ q ∈ ps, 0 ≤ q.1 ∧ 0 ≤ q.2) → (∀ q ∈ qs, 0 ≤ q.1 ∧ 0 ≤ q.2) → placesTx ps ++ 10 :: u = placesTx qs ++ 10 :: v → ps = qs ∧ u = v
  | [], [], _, _, _, _, _, h => ⟨rfl, (List.cons.inj h).2⟩
  | [], _ :: _, _, _, hl, _, _, _ => by simp at hl
  | _ :: _, [], _, _, hl, _, _, _ => by simp at hl
  | p :: ps, q :: qs, u, v, hl, hp, hq, h => by
    have e : ∀ (r : PlD) (rs : List PlD) (t : List UInt8), placesTx (r :: rs) ++ 10 :: t = 32 :: (dz r.1 ++ 46 :: (dz r.2 ++ (placesTx rs ++ 10 :: t))) := fun r rs t => by simp [placesTx, placeTx]
    rw [e, e] at h
    obtain ⟨h1, h2⟩ := split_at (dz_no _ (by decide)) (dz_no _ (by decide)) (List.cons.inj h).2
    have p0 := hp p (by simp)
    have q0 := hq q (by simp)
    have k1 := dz_inj p0.1 q0.1 h1
    have hl' : ps.length = qs.length := by simpa using hl
    have key : dz p.2 = dz q.2 ∧ placesTx ps ++ 10 :: u = placesTx qs ++ 10 :: v := by
      match ps, qs, hl', h2 with
      | [], [], _, h2 =>
        obtain ⟨a1, a2⟩ := split_at (xs := dz p.2) (ys := dz q.2) (dz_no _ (by decide)) (dz_no _ (by decide)) h2
        exact ⟨a1, by rw [a2]⟩
      | p' :: ps', q' :: qs', _, h2 =>
        rw [e, e] at h2
        obtain ⟨a1, a2⟩ := split_at (dz_no _ (by decide)) (dz_no _ (by decide)) h2
        exact ⟨a1, by rw [e, e, a2]⟩
    have k2 := dz_inj p0.2 q0.2 key.1
    obtain ⟨k3, k4⟩ := places_inj hl' (fun r hr => hp r (List.mem_cons_of_mem _ hr)) (fun r hr => hq r (List.mem_cons_of_mem _ hr)) key.2
    exact ⟨by rw [k3]; congr 1; exact Prod.ext k1 k2, k4⟩
theorem ptr_inj {n : Int} {p q : PtrD} {u v : List UInt8} (hp : PtrFine n p) (hq : PtrFine n q) (h : ptrTx p ++ u = ptrTx q ++ v) : p = q ∧ u = v := by
  have e : ∀ {r : PtrD} {t : List UInt8}, ¬r.size = 0 → ptrTx r ++ t = [112, 116, 114, 32] ++ (dz r.size ++ 32 :: (dz r.sum ++ (placesTx r.places ++ 10 :: t))) := fun {r t} hr => by
    unfold ptrTx; rw [if_neg hr]; simp
  have e0 : ∀ {r : PtrD} {t : List UInt8}, r.size = 0 → ptrTx r ++ t = 110 :: ([111, 110, 101, 10] ++ t) := fun {r t} hr => by
    unfold ptrTx; rw [if_pos hr]; rfl
  rcases hp with hp | hp <;> rcases hq with hq | hq
  · rw [e0 hp.1, e0 hq.1] at h
    have h2 := List.append_cancel_left (List.cons.inj h).2
    obtain ⟨z, s, ps⟩ := p
    obtain ⟨z', s', ps'⟩ := q
    obtain ⟨a1, a2, a3⟩ := hp
    obtain ⟨b1, b2, b3⟩ := hq
    simp only at a1 a2 a3 b1 b2 b3
    subst a1 a2 a3 b1 b2 b3
    exact ⟨rfl, h2⟩
  · rw [e0 hp.1, e (by have := hq.1; omega)] at h
    have := (List.cons.inj h).1
    exact absurd this (by decide)
  · rw [e0 hq.1, e (by have := hp.1; omega)] at h
    have := (List.cons.inj h).1
    exact absurd this (by decide)
  · rw [e (by have := hp.1; omega), e (by have := hq.1; omega)] at h
    have h2 := List.append_cancel_left h
    obtain ⟨h3, h4⟩ := split_at (dz_no _ (by decide)) (dz_no _ (by decide)) h2
    have k1 := dz_inj (by have := hp.1; omega) (by have := hq.1; omega) h3
    obtain ⟨p1, p2, p3, p4, p5, p6⟩ := hp
    obtain ⟨q1, q2, q3, q4, q5, q6⟩ := hq
    have hl : p.places.length = q.places.length := by rw [k1] at p5; omega
    have gp : ∀ (r : PtrD), PlacesOk n r.places → ∀ x ∈ r.places, 0 ≤ x.1 ∧ 0 ≤ x.2 := fun r hr x hx => by
      obtain ⟨j, hj, e⟩ := List.getElem_of_mem hx
      obtain ⟨⟨a, _, b, _⟩, _⟩ := hr j hj
      rw [List.getD, List.getElem?_eq_getElem hj] at a b
      simp only [Option.getD_some, e] at a b
      exact ⟨a, b⟩
    have hp0 : 0 < p.places.length := by omega
    have pre : ∀ {r : List PlD}, 0 < r.length → ∃ t, placesTx r = 32 :: t := fun {r} hr => by
      match r, hr with
      | x :: xs, _ => exact ⟨dz x.1 ++ 46 :: (dz x.2 ++ placesTx xs), by simp [placesTx, placeTx]⟩
    obtain ⟨tp, etp⟩ := pre hp0
    obtain ⟨tq, etq⟩ := pre (hl ▸ hp0)
    rw [etp, etq, List.cons_append, List.cons_append] at h4
    obtain ⟨h5, h6⟩ := split_at (dz_no _ (by decide)) (dz_no _ (by decide)) h4
    have k2 := dz_inj p3 q3 h5
    have h7 : placesTx p.places ++ 10 :: u = placesTx q.places ++ 10 :: v := by rw [etp, etq, List.cons_append, List.cons_append, h6]
    obtain ⟨k3, k4⟩ := places_inj hl (gp p p6) (gp q q6) h7
    obtain ⟨z, s, ps⟩ := p
    obtain ⟨z', s', ps'⟩ := q
    simp only at k1 k2 k3
    subst k1 k2 k3
    exact ⟨rfl, k4⟩
theorem blocks_inj {n : Int} : ∀ {bs cs : List PtrD} {u v : List UInt8}, bs.length = cs.length → (∀ p ∈ bs, PtrFine n p) → (∀ p ∈ cs, PtrFine n p) → bs.flatMap ptrTx ++ u = cs.flatMap ptrTx ++ v → bs = cs ∧ u = v
  | [], [], _, _, _, _, _, h => ⟨rfl, h⟩
  | [], _ :: _, _, _, hl, _, _, _ => by simp at hl
  | _ :: _, [], _, _, hl, _, _, _ => by simp at hl
  | b :: bs, c :: cs, u, v, hl, hb, hc, h => by
    rw [List.flatMap_cons, List.flatMap_cons, List.append_assoc, List.append_assoc] at h
    obtain ⟨h1, h2⟩ := ptr_inj (hb b (by simp)) (hc c (by simp)) h
    obtain ⟨h3, h4⟩ := blocks_inj (by simpa using hl) (fun p hp => hb p (List.mem_cons_of_mem _ hp)) (fun p hp => hc p (List.mem_cons_of_mem _ hp)) h2
    exact ⟨by rw [h1, h3], h4⟩
/-- A VOLUME IS FINE by itself. -/
def VolOne (n : Int) (v : VolD) : Prop := NameOk v.name ∧ v.blocks.length = 3 ∧ ∀ p ∈ v.blocks, PtrFine n p
theorem name_no {s : ByteArray} (h : NameOk s) : (10 : UInt8) ∉ s.data.toList := fun k => by
  obtain ⟨i, hi, e⟩ := List.getElem_of_mem k
  have h1 := (h.2 i (by simpa using hi)).1
  unfold byteAt at h1
  rw [List.getElem?_eq_getElem hi, e] at h1
  exact absurd h1 (by decide)
theorem vols_inj {n : Int} : ∀ {vs ws : List VolD} {u v : List UInt8}, (∀ x ∈ vs, VolOne n x) → (∀ x ∈ ws, VolOne n x) → vs.flatMap volTx ++ 115 :: u = ws.flatMap volTx ++ 115 :: v → vs = ws
  | [], [], _, _, _, _, _ => rfl
  | [], w :: ws, _, _, _, _, h => by
    exfalso
    rw [List.flatMap_cons, List.append_assoc] at h
    have := (List.cons.inj h).1
    exact absurd this (by decide)
  | w :: ws, [], _, _, _, _, h => by
    exfalso
    rw [List.flatMap_cons, List.append_assoc] at h
    have := (List.cons.inj h).1
    exact absurd this (by decide)
  | x :: vs, y :: ws, u, v, hx, hy, h => by
    have e : ∀ (r : VolD) (t : List UInt8), volTx r ++ t = [118, 111, 108, 32] ++ (r.name.data.toList ++ 10 :: (r.blocks.flatMap ptrTx ++ t)) := fun r t => by simp [volTx, volHd, blocksTx]
    rw [List.flatMap_cons, List.flatMap_cons, List.append_assoc, List.append_assoc, e, e] at h
    have h1 := List.append_cancel_left h
    have ox := hx x (by simp)
    have oy := hy y (by simp)
    obtain ⟨h2, h3⟩ := split_at (name_no ox.1) (name_no oy.1) h1
    obtain ⟨h4, h5⟩ := blocks_inj (by rw [ox.2.1, oy.2.1]) ox.2.2 oy.2.2 h3
    have h6 := vols_inj (fun z hz => hx z (List.mem_cons_of_mem _ hz)) (fun z hz => hy z (List.mem_cons_of_mem _ hz)) h5
    have hn : x.name = y.name := by
      have := congrArg List.toArray h2
      exact ByteArray.ext (by simpa using this)
    rw [h6]
    congr 1
    obtain ⟨nx, bx⟩ := x
    obtain ⟨ny, by'⟩ := y
    simp only at hn h4
    rw [hn, h4]
theorem vol_one {n : Int} {r : RootD} (h : RootOkP n r) : ∀ x ∈ r.vols, VolOne n x := fun x hx => by
  obtain ⟨k, hk, e⟩ := List.getElem_of_mem hx
  have hv := h.2.2.1.2 k hk
  have e' : r.vols.getD k vol0 = x := by rw [List.getD, List.getElem?_eq_getElem hk]; exact e
  unfold VolFine at hv
  rw [e'] at hv
  refine ⟨hv.1, hv.2.2.1, fun p hp => ?_⟩
  obtain ⟨j, hj, ej⟩ := List.getElem_of_mem hp
  have := (hv.2.2.2 j hj).2
  rw [List.getD, List.getElem?_eq_getElem hj] at this
  simp only [Option.getD_some, ej] at this
  exact this
/-- ONE TEXT, ONE ROOT. -/
theorem root_inj {n : Int} {a b : RootD} (ha : RootOkP n a) (hb : RootOkP n b) (h : fullT a = fullT b) : a = b := by
  have e : ∀ r : RootD, (fullT r).data.toList = [114, 111, 111, 116, 32] ++ (dz r.txg ++ 10 :: (r.vols.flatMap volTx ++ 115 :: ([117, 109, 32] ++ dz (sumT r) ++ [10]))) := fun r => by
    unfold fullT bodyT roT
    simp [ByteArray.data_append, tx, rootHd, volsTx]
  have h1 := congrArg (fun t : ByteArray => t.data.toList) h
  simp only [e] at h1
  have h2 := List.append_cancel_left h1
  obtain ⟨h3, h4⟩ := split_at (dz_no _ (by decide)) (dz_no _ (by decide)) h2
  have k1 := dz_inj ha.2.1.1 hb.2.1.1 h3
  have k2 := vols_inj (vol_one ha) (vol_one hb) h4
  obtain ⟨ta, va⟩ := a
  obtain ⟨tb, vb⟩ := b
  simp only at k1 k2
  rw [k1, k2]

end Go.Proofs.YtliadobopideaaaGreatDoor

namespace Go.Proofs.YtliadobopideaaaGreatDoor
open Go.RowKit Go.Sort

set_option maxRecDepth 100000 in
set_option maxHeartbeats 1000000 in
theorem lpaPtr_any (z s z2 s2 : Int) (a a2 : Option Addr) (cap cap2 : Nat) (ps qs : List PlD) (w : World) (hl : ps.length ≤ maxLen) (hl2 : qs.length ≤ maxLen) (hx : Hid (PlacesAt w a ps)) (hx2 : Hid (PlacesAt w a2 qs)) :
    Calls Tryz.prog 32 #[.agg #[.int .i64 z, .int .i64 s, .slice a ps.length cap], .agg #[.int .i64 z2, .int .i64 s2, .slice a2 qs.length cap2]] w fun e w' => e = .returned (.bool (tt (Same ⟨z, s, ps⟩ ⟨z2, s2, qs⟩))) ∧ Below w.heap.size w w' := by
  unfold maxLen at hl hl2
  have HE := Lib.hid (ptr_eq (z := z) (s := s) (z2 := z2) (s2 := s2) (ps := ps) (qs := qs))
  have hB : Below w.heap.size w ((w.alloc (.cells #[.int .i64 z, .int .i64 s, .slice a ps.length cap] 54)).alloc (.cells #[.int .i64 z2, .int .i64 s2, .slice a2 qs.length cap2] 54)) := ((Below.refl _ _).alloc (Nat.le_refl _) _).alloc (by simp) _
  have HB := Lib.hid hB
  have HX := Lib.hid (hx.out.below hB)
  have HX2 := Lib.hid (hx2.out.below hB)
  have c1 : ((w.alloc (.cells #[.int .i64 z, .int .i64 s, .slice a ps.length cap] 54)).alloc (.cells #[.int .i64 z2, .int .i64 s2, .slice a2 qs.length cap2] 54)).cell? ⟨w.heap.size, 2, none⟩ = some (.slice a ps.length cap) := cell_below ((Below.refl _ _).alloc (Nat.le_refl _) _) (by rw [World.cell?_alloc_mark]; rfl)
  have c2 : ((w.alloc (.cells #[.int .i64 z, .int .i64 s, .slice a ps.length cap] 54)).alloc (.cells #[.int .i64 z2, .int .i64 s2, .slice a2 qs.length cap2] 54)).cell? ⟨w.heap.size + 1, 2, none⟩ = some (.slice a2 qs.length cap2) := by
    have := World.cell?_alloc_mark (w.alloc (.cells #[.int .i64 z, .int .i64 s, .slice a ps.length cap] 54)) #[.int .i64 z2, .int .i64 s2, .slice a2 qs.length cap2] 54 (0, 0) 2
    simp only [World.size_alloc] at this
    rw [this]; rfl
  have H1 := Lib.hid c1
  have H2 := Lib.hid c2
  clear hB c1 c2
  by_cases h1 : z = z2
  · subst h1
    have d1 : (z != z) = false := by simp
    by_cases h2 : s = s2
    · subst h2
      have d2 : (s != s) = false := by simp
      by_cases hn : ps.length = qs.length
      · have d0 : ((ps.length : Int) != (qs.length : Int)) = false := by simp; omega
        have Hn := Lib.hid hn
        have hle : ps.length ≤ qs.length := by omega
        clear hn
        have HF := Lib.hid (tt_congr (HE.out.trans ⟨fun h => h.2.2, fun h => ⟨rfl, rfl, h⟩⟩))
        go_enter Tryz.func32, Tryz.ntmps32
        go_wp2_with fail
        generalize (w.alloc (.cells #[.int .i64 z, .int .i64 s, .slice a ps.length cap] 54)).alloc (.cells #[.int .i64 z, .int .i64 s, .slice a2 qs.length cap2] 54) = w1 at HB HX HX2 H1 H2 ⊢
        go_loopw [5] (fun i wr => ∃ k : Nat, i = .int .i64 (k : Int) ∧ k ≤ ps.length ∧ Hid (Below w1.heap.size w1 wr) ∧ Hid (∀ j, j < k → ps.getD j pl0 = qs.getD j pl0)) (fun i _ => ps.length - (intOf i).toNat)
        case atStart => exact ⟨0, rfl, by omega, Below.refl _ _, fun j hj => by omega⟩
        case round =>
          obtain ⟨k, rfl, hk, hBr, hall⟩ := hrel
          have c1 := cell_below hBr.out H1.out
          have c2 := cell_below hBr.out H2.out
          by_cases hlt : k < ps.length
          · have hlt2 : k < qs.length := by omega
            obtain ⟨b1, o1, rfl, hc1⟩ := (HX.out.below hBr.out).resolve_left (fun e => by subst e; simp at hlt)
            obtain ⟨b2, o2, rfl, hc2⟩ := (HX2.out.below hBr.out).resolve_left (fun e => by subst e; simp at hlt2)
            obtain ⟨k1, k2⟩ := hc1 k hlt
            obtain ⟨k3, k4⟩ := hc2 k hlt2
            clear hc1 hc2
            generalize hg1 : ps.getD k pl0 = q1 at k1 k2
            generalize hg2 : qs.getD k pl0 = q2 at k3 k4
            have Hg1 := Lib.hid hg1
            have Hg2 := Lib.hid hg2
            clear hg1 hg2
            obtain ⟨e1, t1⟩ := q1
            obtain ⟨e2, t2⟩ := q2
            simp only at k1 k2 k3 k4
            have i1 : (k : Int) < (ps.length : Int) := by omega
            have i0 : (0 : Int) ≤ (k : Int) := by omega
            have i2 : (k : Int) < (qs.length : Int) := by omega
            by_cases he : e1 = e2 ∧ t1 = t2
            · obtain ⟨rfl, rfl⟩ := he
              have HN : Hid (∀ j, j < k + 1 → ps.getD j pl0 = qs.getD j pl0) := fun j hj => by
                by_cases e : j = k
                · subst e; rw [Hg1.out, Hg2.out]
                · exact hall.out j (by omega)
              go_wp2_with fail
              go_quiet (fail)
              go_wp2
              exact ⟨⟨k + 1, by go_num, by omega, belowN hBr.out _, HN⟩, by simp [intOf]; omega⟩
            · have HG := Lib.hid (HF.out.trans (tt_false (fun h => he (by
                have h1 := Hg1.out
                rw [h, Hg2.out] at h1
                injection h1 with h1 h2
                exact ⟨h1.symm, h2.symm⟩))))
              by_cases h1 : e1 = e2
              · subst h1
                have h2 : (t1 == t2) = false := by simp; exact fun h => he ⟨rfl, h⟩
                clear he
                go_wp2_with fail
                go_quiet (fail)
                go_wp2
                go_ret
                exact ⟨ret_bool' HG.out.symm, belowN (HB.out.trans (hBr.out.mono HB.out.size)) _⟩
              · have h2 : (e1 == e2) = false := by simp [h1]
                clear he h1
                go_wp2_with fail
                go_quiet (fail)
                go_wp2
                go_ret
                exact ⟨ret_bool' HG.out.symm, belowN (HB.out.trans (hBr.out.mono HB.out.size)) _⟩
          · have HG := Lib.hid (HF.out.trans (tt_true (list_eq Hn.out (fun j hj => hall.out j (by omega)))))
            go_wp2
            go_ret
            exact ⟨ret_bool' HG.out.symm, HB.out.trans (hBr.out.mono HB.out.size)⟩
      · have d0 : ((ps.length : Int) != (qs.length : Int)) = true := by simp; omega
        have HF := Lib.hid (tt_false (fun h => hn (by rw [(HE.out.1 h).2.2])))
        clear hn H1 H2
        go_enter Tryz.func32, Tryz.ntmps32
        go_wp2
        go_ret
        exact ⟨ret_bool' HF.out.symm, HB.out⟩
    · have d2 : (s != s2) = true := by simp [h2]
      have HF := Lib.hid (tt_false (fun h => h2 (HE.out.1 h).2.1))
      clear h2 H1 H2
      go_enter Tryz.func32, Tryz.ntmps32
      go_wp2
      go_ret
      exact ⟨ret_bool' HF.out.symm, HB.out⟩
  · have d1 : (z != z2) = true := by simp [h1]
    have HF := Lib.hid (tt_false (fun h => h1 (HE.out.1 h).1))
    clear h1 H1 H2
    go_enter Tryz.func32, Tryz.ntmps32
    go_wp2
    go_ret
    exact ⟨ret_bool' HF.out.symm, HB.out⟩

end Go.Proofs.YtliadobopideaaaGreatDoor
