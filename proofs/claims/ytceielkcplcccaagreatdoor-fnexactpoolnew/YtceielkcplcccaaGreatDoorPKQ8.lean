/- The line of a pointer, of the program. Conditions: the table of powers of ten lies there; an ok pointer. -/
import Derived.Test.YtceielkcplcccaaGreatDoorPKQ6
import Derived.Test.YtceielkcplcccaaGreatDoorPKRG
import Derived.Deep.AppendLies
namespace Go.Proofs.YtceielkcplcccaaGreatDoor
open Go.RowKit Go.Sort

theorem infoStr : (Tryz.prog.info? 9).map (fun i => (i.zero, i.size, i.bytes)) = some (some (.string ⟨#[]⟩), 1, 16) := by kernel_rfl

def wordT (q : PlD) : ByteArray := tx (dz q.1) ++ ⟨#[46]⟩ ++ tx (dz q.2)
/-- THE WORDS OF A POINTER's LINE, with its first k places. -/
def wordsT (p : PtrD) (k : Nat) : List ByteArray := [⟨#[112, 116, 114]⟩, tx (dz p.size), tx (dz p.sum)] ++ (p.places.take k).map wordT
theorem wordsT_succ (p : PtrD) (k : Nat) (h : k < p.places.length) : wordsT p (k + 1) = wordsT p k ++ [wordT (p.places.getD k pl0)] := by
  rw [wordsT, getD_take h, List.map_append, wordsT, List.append_assoc]; rfl
theorem wordsT_length (p : PtrD) (k : Nat) (h : k ≤ p.places.length) : (wordsT p k).length = 3 + k := by
  rw [wordsT, List.length_append, List.length_map, List.length_take]
  simp only [List.length_cons, List.length_nil]
  omega
theorem wordT_list (q : PlD) : (wordT q).data.toList = dz q.1 ++ [46] ++ dz q.2 := by
  show (tx (dz q.1) ++ tx [46] ++ tx (dz q.2)).data.toList = _
  rw [tx_add, tx_add]; rfl
theorem join_ptr (p : PtrD) (hz : p.size ≠ 0) : lineT (wordsT p p.places.length) = tx (ptrTx p) := by
  rw [lineT, wordsT, List.take_length, List.map_append, List.map_map]
  simp only [List.map_cons, List.map_nil, List.cons_append, List.nil_append]
  rw [Lib.join_cons, ptrTx, if_neg hz]
  have e : (p.places.map ((fun x => x.data.toList) ∘ wordT)).map ([32] ++ ·) = p.places.map placeTx := by
    rw [List.map_map]
    refine List.map_congr_left (fun q _ => ?_)
    show [32] ++ (wordT q).data.toList = placeTx q
    rw [wordT_list, placeTx]
    simp only [List.append_assoc]
  rw [Lib.joinTail, List.map_cons, List.map_cons, e, List.flatten_cons, List.flatten_cons, tx_list, tx_list, placesTx, List.flatMap_def]
  simp only [List.append_assoc, List.cons_append, List.nil_append]

/-- Cells and a hidden fact, kept by what only makes. -/
theorem two_bel8 {w1 W W' : World} {g : Nat} {x y : Value} (h : W.cell? ⟨g, 0, none⟩ = some x ∧ W.cell? ⟨g, 1, none⟩ = some y ∧ Hid (Below w1.heap.size w1 W)) (hB : Below W.heap.size W W') :
    W'.cell? ⟨g, 0, none⟩ = some x ∧ W'.cell? ⟨g, 1, none⟩ = some y ∧ Hid (Below w1.heap.size w1 W') :=
  ⟨cell_below hB h.1, cell_below hB h.2.1, h.2.2.out.trans (hB.mono h.2.2.out.size)⟩

theorem two_made {W : World} {g : Nat} {x y : Value} (h : W.cell? ⟨g, 0, none⟩ = some x ∧ W.cell? ⟨g, 1, none⟩ = some y) (o : Obj) :
    (W.alloc o).cell? ⟨g, 0, none⟩ = some x ∧ (W.alloc o).cell? ⟨g, 1, none⟩ = some y :=
  have hB : Below W.heap.size W (W.alloc o) := (Below.refl _ _).alloc (Nat.le_refl _) _
  ⟨cell_below hB h.1, cell_below hB h.2⟩
theorem two_grown {W W' : World} {g : Nat} {x y : Value} {r : Option Nat} (hg : W.grownBy W' r) (h : W.cell? ⟨g, 0, none⟩ = some x ∧ W.cell? ⟨g, 1, none⟩ = some y) (hr : ∀ i, r = some i → i < g) :
    W'.cell? ⟨g, 0, none⟩ = some x ∧ W'.cell? ⟨g, 1, none⟩ = some y := by
  have hlt : g < W.heap.size := World.block_lt_of_cell? W _ h.1
  have hb := hg.block g hlt (fun e => by have := hr g e.symm; omega)
  exact ⟨(World.cell?_of_block hb).trans h.1, (World.cell?_of_block hb).trans h.2⟩

set_option maxRecDepth 100000 in
set_option maxHeartbeats 2000000 in
theorem ptrLine_told (n : Int) (p : PtrD) (a : Option Addr) (cap : Nat) (w : World) (hn : Pool n) (hp : Hid (Told n p)) (hx : Hid (PlacesAt w a p.places)) (hT : Hid (Tab w)) :
    Calls Tryz.prog 29 #[.agg #[.int .i64 p.size, .int .i64 p.sum, .slice a p.places.length cap]] w fun e w' => e = .returned (.string (tx (ptrTx p))) ∧ Below w.heap.size w w' := by
  obtain ⟨i0, hi0, hz0, hz1, hz2⟩ := info_parts infoStr
  have hsm := PtrFine.small (.inr hp.out) hn
  have hnz : p.size ≠ 0 := by have := hp.out.1; omega
  have HL := Lib.hid (join_ptr p hnz)
  have HN := Lib.hid (fun w' => isNothing_any p a cap w')
  rw [tt_false (fun h => hnz h.1)] at HN
  have HW := Lib.hid (fun k h => wordsT_succ p k h)
  have HWl := Lib.hid (fun k h => wordsT_length p k h)
  have HW0 : Hid (wordsT p 0 = [⟨#[112, 116, 114]⟩, tx (dz p.size), tx (dz p.sum)]) := by unfold Hid; rw [wordsT]; simp
  have HI1 := Lib.hid (fun W h => itoa_int p.size hsm.1.1 (by have := hsm.1; omega) W h)
  have HI2 := Lib.hid (fun W h => itoa_int p.sum hsm.2.1.1 (by have := hsm.2.1; omega) W h)
  have hl4 := hsm.2.2.1
  have HP := Lib.hid hsm.2.2.2
  have hlT : Hid ((tx (ptrTx p)).size ≤ 100000) := by
    have := ptrTx_length p hsm
    unfold Hid
    rw [tx_size]; omega
  clear hsm hnz hp
  generalize tx (ptrTx p) = T at HL hlT ⊢
  generalize wordsT p = WS at HL HW HWl HW0
  generalize tx (dz p.size) = T1 at HW0 HI1
  generalize tx (dz p.sum) = T2 at HW0 HI2
  obtain ⟨z, s, ps⟩ := p
  simp only at HL HN HW HWl HI1 HI2 hl4 HP hx ⊢
  go_enter Tryz.func29, Tryz.ntmps29
  go_wp2_with fail
  refine (HN.out _).mono ?_
  rintro e w1 ⟨rfl, hB1⟩
  have hB0 : Below w.heap.size w (w.alloc (.cells #[.int .i64 z, .int .i64 s, .slice a ps.length cap] 65)) := (Below.refl _ _).alloc (Nat.le_refl _) _
  have c0 : w1.cell? ⟨w.heap.size, 0, none⟩ = some (.int .i64 z) := (hB1.cell (p := ⟨w.heap.size, 0, none⟩) (by simp)).trans (by rw [World.cell?_alloc_mark]; rfl)
  have c1 : w1.cell? ⟨w.heap.size, 1, none⟩ = some (.int .i64 s) := (hB1.cell (p := ⟨w.heap.size, 1, none⟩) (by simp)).trans (by rw [World.cell?_alloc_mark]; rfl)
  have c2 : w1.cell? ⟨w.heap.size, 2, none⟩ = some (.slice a ps.length cap) := (hB1.cell (p := ⟨w.heap.size, 2, none⟩) (by simp)).trans (by rw [World.cell?_alloc_mark]; rfl)
  have HB1 := Lib.hid (hB0.trans (hB1.mono hB0.size))
  have hsz : w.heap.size < w1.heap.size := by have := hB1.size; simp at this; omega
  have HT1 := Lib.hid (hT.out.below HB1.out)
  clear hB1 hB0 HN
  have hk0 := two_bel8 (w1 := w1) ⟨c0, c1, Below.refl _ _⟩ ((Below.refl _ _).drew)
  go_wp2_with fail
  go_region_held3 (fun W => W.cell? ⟨w.heap.size, 0, none⟩ = some (.int .i64 z) ∧ W.cell? ⟨w.heap.size, 1, none⟩ = some (.int .i64 s) ∧ Hid (Below w1.heap.size w1 W))
    (first | exact hk0 | exact hk3 | exact hk2 | exact two_bel8 hk3 ((Below.refl _ _).alloc (Nat.le_refl _) _))
    (first
      | (go_at_call 28; refine (HI1.out _ (HT1.out.below hk0.2.2.out)).mono ?_; rintro e w2 ⟨rfl, hB2⟩; have hk2 := two_bel8 hk0 hB2)
      | (go_at_call 28; refine (HI2.out _ (HT1.out.below hk2.2.2.out)).mono ?_; rintro e w3 ⟨rfl, hB3⟩; have hk3 := two_bel8 hk2 hB3))
  rename_i hheld
  have hB3a : Below w3.heap.size w3 (w3.alloc (.cells #[.string ⟨#[112, 116, 114]⟩, .string T1, .string T2] 9)) := (Below.refl _ _).alloc (Nat.le_refl _) _
  have c2' := cell_below hk3.2.2.out c2
  have c2a := cell_below hB3a c2'
  have hw3 : w.heap.size < w3.heap.size := Nat.lt_of_lt_of_le hsz hk3.2.2.out.size
  have HB3 := Lib.hid (HB1.out.trans ((hk3.2.2.out.trans (hB3a.mono hk3.2.2.out.size)).mono HB1.out.size))
  have Hown0 : Hid ((w3.alloc (.cells #[.string ⟨#[112, 116, 114]⟩, .string T1, .string T2] 9)).ownsRow w.heap.size 9 1 (.slice (some ⟨w3.heap.size, 0, none⟩) 3 3) (3 + 0) ((WS 0).map Value.string)) := by
    unfold Hid
    rw [HW0.out]
    exact ⟨rfl, .inr ⟨w3.heap.size, 3, #[.string ⟨#[112, 116, 114]⟩, .string T1, .string T2], rfl, Nat.le_of_lt hw3, heap_alloc_new w3 _, Nat.le_refl _, by simp [maxLen], rfl, rfl⟩⟩
  clear hheld hk0 hk2 hk3 hB2 hB3 c0 c1 c2 c2' hB3a HI1 HI2 HT1 HB1
  generalize w3.alloc (.cells #[.string ⟨#[112, 116, 114]⟩, .string T1, .string T2] 9) = w5 at c2a HB3 Hown0 ⊢
  go_wp2_with fail
  go_loopw [3, 20] (fun o i wr => ∃ k : Nat, i = .int .i64 (k : Int) ∧ k ≤ ps.length ∧ Hid (Below w.heap.size w wr) ∧ Hid (wr.ownsRow w.heap.size 9 1 o (3 + k) ((WS k).map Value.string))) (fun _ i _ => ps.length - (intOf i).toNat)
  case atStart => exact ⟨0, rfl, Nat.zero_le _, HB3, Hown0⟩
  case round =>
    obtain ⟨k, rfl, hk, hB, hO⟩ := hrel
    by_cases hlt : k < ps.length
    · obtain ⟨b, off, rfl, hc⟩ := hx.out.resolve_left (fun e => by subst e; simp at hlt)
      obtain ⟨q0, q1⟩ := hc k hlt
      have q0' := cell_below hB.out q0
      have q1' := cell_below hB.out q1
      have hpk := HP.out k hlt
      have HWk := Lib.hid (HW.out k hlt)
      have HI1 := Lib.hid (fun W h => itoa_int (ps.getD k pl0).1 (by omega) (by omega) W h)
      have HI2 := Lib.hid (fun W h => itoa_int (ps.getD k pl0).2 (by omega) (by omega) W h)
      have y1 := dz_size (ps.getD k pl0).1 (by omega)
      have y2 := dz_size (ps.getD k pl0).2 (by omega)
      have HWt : Hid (wordT (ps.getD k pl0) = tx (dz (ps.getD k pl0).1) ++ ⟨#[46]⟩ ++ tx (dz (ps.getD k pl0).2)) := rfl
      clear hc q0 q1 hpk
      generalize tx (dz (ps.getD k pl0).1) = U1 at HI1 y1 HWt
      generalize tx (dz (ps.getD k pl0).2) = U2 at HI2 y2 HWt
      generalize wordT (ps.getD k pl0) = WW at HWk HWt
      generalize (ps.getD k pl0).1 = pd at q0' HI1
      generalize (ps.getD k pl0).2 = pss at q1' HI2
      have hk0 : (0 : Int) ≤ (k : Int) := by omega
      have hk1 : (k : Int) < (ps.length : Int) := by omega
      have hBa : Below wr.heap.size wr (wr.alloc (.cells #[.int .i64 pd, .int .i64 pss] 82)) := (Below.refl _ _).alloc (Nat.le_refl _) _
      have HB4 := Lib.hid (hB.out.trans (hBa.mono hB.out.size))
      have hO4 := Lib.hid (own_below hO.out hBa)
      have d0 : (wr.alloc (.cells #[.int .i64 pd, .int .i64 pss] 82)).cell? ⟨wr.heap.size, 0, none⟩ = some (.int .i64 pd) := by rw [World.cell?_alloc_mark]; rfl
      have d1 : (wr.alloc (.cells #[.int .i64 pd, .int .i64 pss] 82)).cell? ⟨wr.heap.size, 1, none⟩ = some (.int .i64 pss) := by rw [World.cell?_alloc_mark]; rfl
      clear hBa
      go_wp2_with fail
      have Hlk : Hid (∀ i, u3.ownBlock = some i → w.heap.size ≤ i) := fun i e => (hO4.out.lt i e).1
      have HTr := Lib.hid (hT.out.below HB4.out)
      have hsr : w.heap.size ≤ (wr.alloc (.cells #[.int .i64 pd, .int .i64 pss] 82)).heap.size := HB4.out.size
      have hu0 : (⟨#[46]⟩ : ByteArray).size = 1 := rfl
      have hu : (U1 ++ ⟨#[46]⟩ : ByteArray).size ≤ 20 := by rw [ByteArray.size_append, hu0]; omega
      have n1 : ¬ (9223372036854775807 < U1.size + (⟨#[46]⟩ : ByteArray).size) := by rw [hu0]; omega
      have n2 : ¬ (9223372036854775807 < U1.size + 1) := by omega
      have n3 : ¬ (9223372036854775806 < U1.size) := by omega
      have n4 : ¬ (9223372036854775807 < (U1 ++ ⟨#[46]⟩ : ByteArray).size + U2.size) := by omega
      have n5 : ¬ (9223372036854775807 < U1.size + (⟨#[46]⟩ : ByteArray).size + U2.size) := by rw [hu0]; omega
      have n6 : ¬ (9223372036854775807 < U1.size + 1 + U2.size) := by omega
      have hown1 : Hid (∀ i, u3.ownBlock = some i → i < wr.heap.size) := fun i e => (hO.out.lt i e).2
      clear hu0
      clear q0' q1' hO hB
      generalize wr.alloc (.cells #[.int .i64 pd, .int .i64 pss] 82) = w6 at HB4 hO4 d0 d1 HTr hsr ⊢
      have hj0 := two_bel8 (w1 := w6) ⟨d0, d1, Below.refl _ _⟩ ((Below.refl _ _).drew)
      go_region_held3 (fun W => W.cell? ⟨wr.heap.size, 0, none⟩ = some (.int .i64 pd) ∧ W.cell? ⟨wr.heap.size, 1, none⟩ = some (.int .i64 pss))
        (first | exact ⟨hj0.1, hj0.2.1⟩ | exact hj9 | exact ⟨hj3.1, hj3.2.1⟩ | exact ⟨hj2.1, hj2.2.1⟩ | exact two_made ⟨hj3.1, hj3.2.1⟩ _)
        (first
          | (go_at_call 28; refine (HI1.out _ (HTr.out.below hj0.2.2.out)).mono ?_; rintro e w7 ⟨rfl, hB7⟩; have hj2 := two_bel8 hj0 hB7)
          | (go_at_call 28; refine (HI2.out _ (HTr.out.below hj2.2.2.out)).mono ?_; rintro e w8 ⟨rfl, hB8⟩; have hj3 := two_bel8 hj2 hB8)
          | (refine step_append_lies _ (by rfl) _ _ _ (by rfl) w.heap.size 9 i0 _ 1 16 Tryz.underlying33 hi0 hz0 hz1 hz2 rfl (by omega) u3 (3 + k) ((WS k).map Value.string) (by rfl) ((own_below hO4.out hj3.2.2.out).alloc _) ⟨_, 0, none⟩ 1 1 [.string (U1 ++ ⟨#[46]⟩ ++ U2)] (by rfl) (by rfl)
              (news_new _ _ 9 _ (by simp)) (by simp [Value.oneCell']) (by omega) (by simp [maxLen]; omega) (by omega) (by have := hj3.2.2.out.size; simp; omega) _ rfl ?_; intro g cap9 w9 hown9 hgrow9 hat9 hlt9; have hj9 := two_grown hgrow9 (two_made ⟨hj3.1, hj3.2.1⟩ _) hown1.out))
      have hb8 : Below w8.heap.size w8 (w8.alloc (.cells #[.string (U1 ++ ⟨#[46]⟩ ++ U2)] 9)) := (Below.refl _ _).alloc (Nat.le_refl _) _
      have HB8 := HB4.out.trans ((hj3.2.2.out.trans (hb8.mono hj3.2.2.out.size)).mono HB4.out.size)
      have HB9 := Lib.hid (HB8.grown hgrow9 HB8.size Hlk.out)
      have HO9 : Hid (w9.ownsRow w.heap.size 9 1 (.slice (some ⟨g, 0, none⟩) (3 + (k + 1)) cap9) (3 + (k + 1)) ((WS (k + 1)).map Value.string)) := by
        unfold Hid
        rw [HWk.out, HWt.out, List.map_append]
        exact hown9
      clear hgrow9 hown9 HB8 hb8 hj0 hj2 hj3 hj9
      go_wp2_with fail
      go_roundw
      case rel => exact ⟨k + 1, by simp, by omega, HB9, HO9⟩
      case measure => simp [intOf]; omega
    · obtain rfl : k = ps.length := by omega
      have hwl := HWl.out ps.length (Nat.le_refl _)
      have hO1 := hO.out
      rcases hO1.2 with ⟨_, h0⟩ | ⟨g, cap9, cur, rfl, hb9, hg9, hkc, hcm, hcs, hx9⟩
      · omega
      · have HWA : Hid (WordsAt wr g 0 (WS ps.length)) := by
          intro j x hj
          have hj' : j < 3 + ps.length := by
            rw [← hwl]; exact (List.getElem?_eq_some_iff.1 hj).1
          have e0 := (own_cell hO1 j (by omega)).1
          rw [Nat.zero_add, e0, List.getElem?_map, hj]; rfl
        have HLN := Lib.hid (lineOf_any g 0 cap9 (WS ps.length) wr HWA ((hO1.lt g rfl).2) (by rw [hwl]; exact hkc) (by omega) (by unfold Hid; rw [HL.out]; exact hlT.out))
        rw [hwl, HL.out] at HLN
        clear HWA hx9 hg9 hcs hO1
        go_wp2_with fail
        refine HLN.out.mono ?_
        rintro e w9 ⟨rfl, hB9⟩
        go_wp2_with fail
        go_ret
        exact ⟨rfl, hB.out.trans (hB9.mono hB.out.size)⟩

end Go.Proofs.YtceielkcplcccaaGreatDoor
