/- The line of a pointer, of the program. Conditions: the table of powers of ten lies there; an ok pointer. A text written to a builder of the call's own; what the builder is, and what it leaves as it was. Conditions: the new length is at most 2^47. The lines of a root's text, of the program. Conditions: the table of powers of ten lies there; an ok pointer. -/
import Derived.Test.YtliadobopideaaaGreatDoorPKRT
import Derived.Test.YtliadobopideaaaGreatDoorPKW1
import Derived.Deep.AppendLies
import Derived.Test.YtliadobopideaaaGreatDoorPKShelf
namespace Go.Proofs.YtliadobopideaaaGreatDoor
open Go.RowKit Go.Sort

theorem infoStr : (Tryz.prog.info? 9).map (fun i => (i.zero, i.size, i.bytes)) = some (some (.string ⟨#[]⟩), 1, 16) := by kernel_rfl

def wordT (q : PlD) : ByteArray := tx (dz q.1) ++ ⟨#[46]⟩ ++ tx (dz q.2)
/-- THE WORDS OF A POINTER's LINE, with its first k places. -/
def wordsT (p : PtrD) (k : Nat) : List ByteArray := [⟨#[112, 116, 114]⟩, tx (dz p.size), tx (dz p.sum)] ++ (p.places.take k).map wordT
theorem wordsT_succ (p : PtrD) (k : Nat) (h : k < p.places.length) : wordsT p (k + 1) = wordsT p k ++ [wordT (p.places.getD k pl0)] := by
  rw [wordsT, getD_take h, List.map_append, wordsT, List.append_assoc]; rfl
theorem wordsT_length (p : PtrD) (k : Nat) (h : k ≤ p.places.length) : (wordsT p k).length = 3 + k := by
  rw [wordsT, List.length_append, List.length_map, List.length_take]
  simp only [List.length_cons, List.length_nil]
  omega
theorem wordT_list (q : PlD) : (wordT q).data.toList = dz q.1 ++ [46] ++ dz q.2 := by
  show (tx (dz q.1) ++ tx [46] ++ tx (dz q.2)).data.toList = _
  rw [tx_add, tx_add]; rfl
theorem join_ptr (p : PtrD) (hz : p.size ≠ 0) : lineT (wordsT p p.places.length) = tx (ptrTx p) := by
  rw [lineT, wordsT, List.take_length, List.map_append, List.map_map]
  simp only [List.map_cons, List.map_nil, List.cons_append, List.nil_append]
  rw [Lib.join_cons, ptrTx, if_neg hz]
  have e : (p.places.map ((fun x => x.data.toList) ∘ wordT)).map ([32] ++ ·) = p.places.map placeTx := by
    rw [List.map_map]
    refine List.map_congr_left (fun q _ => ?_)
    show [32] ++ (wordT q).data.toList = placeTx q
    rw [wordT_list, placeTx]
    simp only [List.append_assoc]
  rw [Lib.joinTail, List.map_cons, List.map_cons, e, List.flatten_cons, List.flatten_cons, tx_list, tx_list, placesTx, List.flatMap_def]
  simp only [List.append_assoc, List.cons_append, List.nil_append]

/-- Cells and a hidden fact, kept by what only makes. -/
theorem two_bel8 {w1 W W' : World} {g : Nat} {x y : Value} (h : W.cell? ⟨g, 0, none⟩ = some x ∧ W.cell? ⟨g, 1, none⟩ = some y ∧ Hid (Below w1.heap.size w1 W)) (hB : Below W.heap.size W W') :
    W'.cell? ⟨g, 0, none⟩ = some x ∧ W'.cell? ⟨g, 1, none⟩ = some y ∧ Hid (Below w1.heap.size w1 W') :=
  ⟨cell_below hB h.1, cell_below hB h.2.1, h.2.2.out.trans (hB.mono h.2.2.out.size)⟩

theorem two_made {W : World} {g : Nat} {x y : Value} (h : W.cell? ⟨g, 0, none⟩ = some x ∧ W.cell? ⟨g, 1, none⟩ = some y) (o : Obj) :
    (W.alloc o).cell? ⟨g, 0, none⟩ = some x ∧ (W.alloc o).cell? ⟨g, 1, none⟩ = some y :=
  have hB : Below W.heap.size W (W.alloc o) := (Below.refl _ _).alloc (Nat.le_refl _) _
  ⟨cell_below hB h.1, cell_below hB h.2⟩
theorem two_grown {W W' : World} {g : Nat} {x y : Value} {r : Option Nat} (hg : W.grownBy W' r) (h : W.cell? ⟨g, 0, none⟩ = some x ∧ W.cell? ⟨g, 1, none⟩ = some y) (hr : ∀ i, r = some i → i < g) :
    W'.cell? ⟨g, 0, none⟩ = some x ∧ W'.cell? ⟨g, 1, none⟩ = some y := by
  have hlt : g < W.heap.size := World.block_lt_of_cell? W _ h.1
  have hb := hg.block g hlt (fun e => by have := hr g e.symm; omega)
  exact ⟨(World.cell?_of_block hb).trans h.1, (World.cell?_of_block hb).trans h.2⟩

set_option maxRecDepth 100000 in
set_option maxHeartbeats 2000000 in
theorem ptrLine_told (n : Int) (p : PtrD) (a : Option Addr) (cap : Nat) (w : World) (hn : Pool n) (hp : Hid (Told n p)) (hx : Hid (PlacesAt w a p.places)) (hT : Hid (Tab w)) :
    Calls Tryz.prog 23 #[.agg #[.int .i64 p.size, .int .i64 p.sum, .slice a p.places.length cap]] w fun e w' => e = .returned (.string (tx (ptrTx p))) ∧ Below w.heap.size w w' := by
  obtain ⟨i0, hi0, hz0, hz1, hz2⟩ := info_parts infoStr
  have hsm := PtrFine.small (.inr hp.out) hn
  have hnz : p.size ≠ 0 := by have := hp.out.1; omega
  have HL := Lib.hid (join_ptr p hnz)
  have HN := Lib.hid (fun w' => isNothing_any p a cap w')
  rw [tt_false (fun h => hnz h.1)] at HN
  have HW := Lib.hid (fun k h => wordsT_succ p k h)
  have HWl := Lib.hid (fun k h => wordsT_length p k h)
  have HW0 : Hid (wordsT p 0 = [⟨#[112, 116, 114]⟩, tx (dz p.size), tx (dz p.sum)]) := by unfold Hid; rw [wordsT]; simp
  have HI1 := Lib.hid (fun W h => itoa_int p.size hsm.1.1 (by have := hsm.1; omega) W h)
  have HI2 := Lib.hid (fun W h => itoa_int p.sum hsm.2.1.1 (by have := hsm.2.1; omega) W h)
  have hl4 := hsm.2.2.1
  have HP := Lib.hid hsm.2.2.2
  have hlT : Hid ((tx (ptrTx p)).size ≤ 100000) := by
    have := ptrTx_length p hsm
    unfold Hid
    rw [tx_size]; omega
  clear hsm hnz hp
  generalize tx (ptrTx p) = T at HL hlT ⊢
  generalize wordsT p = WS at HL HW HWl HW0
  generalize tx (dz p.size) = T1 at HW0 HI1
  generalize tx (dz p.sum) = T2 at HW0 HI2
  obtain ⟨z, s, ps⟩ := p
  simp only at HL HN HW HWl HI1 HI2 hl4 HP hx ⊢
  go_enter Tryz.func23, Tryz.ntmps23
  go_wp2_with fail
  refine (HN.out _).mono ?_
  rintro e w1 ⟨rfl, hB1⟩
  have hB0 : Below w.heap.size w (w.alloc (.cells #[.int .i64 z, .int .i64 s, .slice a ps.length cap] 54)) := (Below.refl _ _).alloc (Nat.le_refl _) _
  have c0 : w1.cell? ⟨w.heap.size, 0, none⟩ = some (.int .i64 z) := (hB1.cell (p := ⟨w.heap.size, 0, none⟩) (by simp)).trans (by rw [World.cell?_alloc_mark]; rfl)
  have c1 : w1.cell? ⟨w.heap.size, 1, none⟩ = some (.int .i64 s) := (hB1.cell (p := ⟨w.heap.size, 1, none⟩) (by simp)).trans (by rw [World.cell?_alloc_mark]; rfl)
  have c2 : w1.cell? ⟨w.heap.size, 2, none⟩ = some (.slice a ps.length cap) := (hB1.cell (p := ⟨w.heap.size, 2, none⟩) (by simp)).trans (by rw [World.cell?_alloc_mark]; rfl)
  have HB1 := Lib.hid (hB0.trans (hB1.mono hB0.size))
  have hsz : w.heap.size < w1.heap.size := by have := hB1.size; simp at this; omega
  have HT1 := Lib.hid (hT.out.below HB1.out)
  clear hB1 hB0 HN
  have hk0 := two_bel8 (w1 := w1) ⟨c0, c1, Below.refl _ _⟩ ((Below.refl _ _).drew)
  go_wp2_with fail
  go_region_held3 (fun W => W.cell? ⟨w.heap.size, 0, none⟩ = some (.int .i64 z) ∧ W.cell? ⟨w.heap.size, 1, none⟩ = some (.int .i64 s) ∧ Hid (Below w1.heap.size w1 W))
    (first | exact hk0 | exact hk3 | exact hk2 | exact two_bel8 hk3 ((Below.refl _ _).alloc (Nat.le_refl _) _))
    (first
      | (go_at_call 22; refine (HI1.out _ (HT1.out.below hk0.2.2.out)).mono ?_; rintro e w2 ⟨rfl, hB2⟩; have hk2 := two_bel8 hk0 hB2)
      | (go_at_call 22; refine (HI2.out _ (HT1.out.below hk2.2.2.out)).mono ?_; rintro e w3 ⟨rfl, hB3⟩; have hk3 := two_bel8 hk2 hB3))
  rename_i hheld
  have hB3a : Below w3.heap.size w3 (w3.alloc (.cells #[.string ⟨#[112, 116, 114]⟩, .string T1, .string T2] 9)) := (Below.refl _ _).alloc (Nat.le_refl _) _
  have c2' := cell_below hk3.2.2.out c2
  have c2a := cell_below hB3a c2'
  have hw3 : w.heap.size < w3.heap.size := Nat.lt_of_lt_of_le hsz hk3.2.2.out.size
  have HB3 := Lib.hid (HB1.out.trans ((hk3.2.2.out.trans (hB3a.mono hk3.2.2.out.size)).mono HB1.out.size))
  have Hown0 : Hid ((w3.alloc (.cells #[.string ⟨#[112, 116, 114]⟩, .string T1, .string T2] 9)).ownsRow w.heap.size 9 1 (.slice (some ⟨w3.heap.size, 0, none⟩) 3 3) (3 + 0) ((WS 0).map Value.string)) := by
    unfold Hid
    rw [HW0.out]
    exact ⟨rfl, .inr ⟨w3.heap.size, 3, #[.string ⟨#[112, 116, 114]⟩, .string T1, .string T2], rfl, Nat.le_of_lt hw3, heap_alloc_new w3 _, Nat.le_refl _, by simp [maxLen], rfl, rfl⟩⟩
  clear hheld hk0 hk2 hk3 hB2 hB3 c0 c1 c2 c2' hB3a HI1 HI2 HT1 HB1
  generalize w3.alloc (.cells #[.string ⟨#[112, 116, 114]⟩, .string T1, .string T2] 9) = w5 at c2a HB3 Hown0 ⊢
  go_wp2_with fail
  go_loopw [3, 20] (fun o i wr => ∃ k : Nat, i = .int .i64 (k : Int) ∧ k ≤ ps.length ∧ Hid (Below w.heap.size w wr) ∧ Hid (wr.ownsRow w.heap.size 9 1 o (3 + k) ((WS k).map Value.string))) (fun _ i _ => ps.length - (intOf i).toNat)
  case atStart => exact ⟨0, rfl, Nat.zero_le _, HB3, Hown0⟩
  case round =>
    obtain ⟨k, rfl, hk, hB, hO⟩ := hrel
    by_cases hlt : k < ps.length
    · obtain ⟨b, off, rfl, hc⟩ := hx.out.resolve_left (fun e => by subst e; simp at hlt)
      obtain ⟨q0, q1⟩ := hc k hlt
      have q0' := cell_below hB.out q0
      have q1' := cell_below hB.out q1
      have hpk := HP.out k hlt
      have HWk := Lib.hid (HW.out k hlt)
      have HI1 := Lib.hid (fun W h => itoa_int (ps.getD k pl0).1 (by omega) (by omega) W h)
      have HI2 := Lib.hid (fun W h => itoa_int (ps.getD k pl0).2 (by omega) (by omega) W h)
      have y1 := dz_size (ps.getD k pl0).1 (by omega)
      have y2 := dz_size (ps.getD k pl0).2 (by omega)
      have HWt : Hid (wordT (ps.getD k pl0) = tx (dz (ps.getD k pl0).1) ++ ⟨#[46]⟩ ++ tx (dz (ps.getD k pl0).2)) := rfl
      clear hc q0 q1 hpk
      generalize tx (dz (ps.getD k pl0).1) = U1 at HI1 y1 HWt
      generalize tx (dz (ps.getD k pl0).2) = U2 at HI2 y2 HWt
      generalize wordT (ps.getD k pl0) = WW at HWk HWt
      generalize (ps.getD k pl0).1 = pd at q0' HI1
      generalize (ps.getD k pl0).2 = pss at q1' HI2
      have hk0 : (0 : Int) ≤ (k : Int) := by omega
      have hk1 : (k : Int) < (ps.length : Int) := by omega
      have hBa : Below wr.heap.size wr (wr.alloc (.cells #[.int .i64 pd, .int .i64 pss] 83)) := (Below.refl _ _).alloc (Nat.le_refl _) _
      have HB4 := Lib.hid (hB.out.trans (hBa.mono hB.out.size))
      have hO4 := Lib.hid (own_below hO.out hBa)
      have d0 : (wr.alloc (.cells #[.int .i64 pd, .int .i64 pss] 83)).cell? ⟨wr.heap.size, 0, none⟩ = some (.int .i64 pd) := by rw [World.cell?_alloc_mark]; rfl
      have d1 : (wr.alloc (.cells #[.int .i64 pd, .int .i64 pss] 83)).cell? ⟨wr.heap.size, 1, none⟩ = some (.int .i64 pss) := by rw [World.cell?_alloc_mark]; rfl
      clear hBa
      go_wp2_with fail
      have Hlk : Hid (∀ i, u3.ownBlock = some i → w.heap.size ≤ i) := fun i e => (hO4.out.lt i e).1
      have HTr := Lib.hid (hT.out.below HB4.out)
      have hsr : w.heap.size ≤ (wr.alloc (.cells #[.int .i64 pd, .int .i64 pss] 83)).heap.size := HB4.out.size
      have hu0 : (⟨#[46]⟩ : ByteArray).size = 1 := rfl
      have hu : (U1 ++ ⟨#[46]⟩ : ByteArray).size ≤ 20 := by rw [ByteArray.size_append, hu0]; omega
      have n1 : ¬ (9223372036854775807 < U1.size + (⟨#[46]⟩ : ByteArray).size) := by rw [hu0]; omega
      have n2 : ¬ (9223372036854775807 < U1.size + 1) := by omega
      have n3 : ¬ (9223372036854775806 < U1.size) := by omega
      have n4 : ¬ (9223372036854775807 < (U1 ++ ⟨#[46]⟩ : ByteArray).size + U2.size) := by omega
      have n5 : ¬ (9223372036854775807 < U1.size + (⟨#[46]⟩ : ByteArray).size + U2.size) := by rw [hu0]; omega
      have n6 : ¬ (9223372036854775807 < U1.size + 1 + U2.size) := by omega
      have hown1 : Hid (∀ i, u3.ownBlock = some i → i < wr.heap.size) := fun i e => (hO.out.lt i e).2
      clear hu0
      clear q0' q1' hO hB
      generalize wr.alloc (.cells #[.int .i64 pd, .int .i64 pss] 83) = w6 at HB4 hO4 d0 d1 HTr hsr ⊢
      have hj0 := two_bel8 (w1 := w6) ⟨d0, d1, Below.refl _ _⟩ ((Below.refl _ _).drew)
      go_region_held3 (fun W => W.cell? ⟨wr.heap.size, 0, none⟩ = some (.int .i64 pd) ∧ W.cell? ⟨wr.heap.size, 1, none⟩ = some (.int .i64 pss))
        (first | exact ⟨hj0.1, hj0.2.1⟩ | exact hj9 | exact ⟨hj3.1, hj3.2.1⟩ | exact ⟨hj2.1, hj2.2.1⟩ | exact two_made ⟨hj3.1, hj3.2.1⟩ _)
        (first
          | (go_at_call 22; refine (HI1.out _ (HTr.out.below hj0.2.2.out)).mono ?_; rintro e w7 ⟨rfl, hB7⟩; have hj2 := two_bel8 hj0 hB7)
          | (go_at_call 22; refine (HI2.out _ (HTr.out.below hj2.2.2.out)).mono ?_; rintro e w8 ⟨rfl, hB8⟩; have hj3 := two_bel8 hj2 hB8)
          | (refine step_append_lies _ (by rfl) _ _ _ (by rfl) w.heap.size 9 i0 _ 1 16 Tryz.underlying75 hi0 hz0 hz1 hz2 rfl (by omega) u3 (3 + k) ((WS k).map Value.string) (by rfl) ((own_below hO4.out hj3.2.2.out).alloc _) ⟨_, 0, none⟩ 1 1 [.string (U1 ++ ⟨#[46]⟩ ++ U2)] (by rfl) (by rfl)
              (news_new _ _ 9 _ (by simp)) (by simp [Value.oneCell']) (by omega) (by simp [maxLen]; omega) (by omega) (by have := hj3.2.2.out.size; simp; omega) _ rfl ?_; intro g cap9 w9 hown9 hgrow9 hat9 hlt9; have hj9 := two_grown hgrow9 (two_made ⟨hj3.1, hj3.2.1⟩ _) hown1.out))
      have hb8 : Below w8.heap.size w8 (w8.alloc (.cells #[.string (U1 ++ ⟨#[46]⟩ ++ U2)] 9)) := (Below.refl _ _).alloc (Nat.le_refl _) _
      have HB8 := HB4.out.trans ((hj3.2.2.out.trans (hb8.mono hj3.2.2.out.size)).mono HB4.out.size)
      have HB9 := Lib.hid (HB8.grown hgrow9 HB8.size Hlk.out)
      have HO9 : Hid (w9.ownsRow w.heap.size 9 1 (.slice (some ⟨g, 0, none⟩) (3 + (k + 1)) cap9) (3 + (k + 1)) ((WS (k + 1)).map Value.string)) := by
        unfold Hid
        rw [HWk.out, HWt.out, List.map_append]
        exact hown9
      clear hgrow9 hown9 HB8 hb8 hj0 hj2 hj3 hj9
      go_wp2_with fail
      go_roundw
      case rel => exact ⟨k + 1, by simp, by omega, HB9, HO9⟩
      case measure => simp [intOf]; omega
    · obtain rfl : k = ps.length := by omega
      have hwl := HWl.out ps.length (Nat.le_refl _)
      have hO1 := hO.out
      rcases hO1.2 with ⟨_, h0⟩ | ⟨g, cap9, cur, rfl, hb9, hg9, hkc, hcm, hcs, hx9⟩
      · omega
      · have HWA : Hid (WordsAt wr g 0 (WS ps.length)) := by
          intro j x hj
          have hj' : j < 3 + ps.length := by
            rw [← hwl]; exact (List.getElem?_eq_some_iff.1 hj).1
          have e0 := (own_cell hO1 j (by omega)).1
          rw [Nat.zero_add, e0, List.getElem?_map, hj]; rfl
        have HLN := Lib.hid (lineOf_any g 0 cap9 (WS ps.length) wr HWA ((hO1.lt g rfl).2) (by rw [hwl]; exact hkc) (by omega) (by unfold Hid; rw [HL.out]; exact hlT.out))
        rw [hwl, HL.out] at HLN
        clear HWA hx9 hg9 hcs hO1
        go_wp2_with fail
        refine HLN.out.mono ?_
        rintro e w9 ⟨rfl, hB9⟩
        go_wp2_with fail
        go_ret
        exact ⟨rfl, hB.out.trans (hB9.mono hB.out.size)⟩

end Go.Proofs.YtliadobopideaaaGreatDoor

namespace Go.Proofs.YtliadobopideaaaGreatDoor
open Go.RowKit Go.Shelf

def lays166_ren : Go.Shelf.Ren := ⟨fun | 166 => 20 | 240 => 49 | 276 => 82 | n => n, fun | 0 => 0 | 3 => 3 | 4 => 4 | 5 => 5 | 9 => 9 | 20 => 20 | 37 => 22 | 70 => 40 | 72 => 42 | 75 => 44 | 80 => 57 | 164 => 112 | n => n, fun | n => n⟩
theorem lays166 : Go.Proofs.Lays.n166 Tryz.prog lays166_ren := {
  mixed := by kernel_rfl
  f166 := Tryz.func20.trans (congrArg some (by kernel_rfl))
  f240 := Tryz.func49.trans (congrArg some (by kernel_rfl))
  f276 := Tryz.func82.trans (congrArg some (by kernel_rfl))
  t0 := Tryz.underlying0
  a0 := Tryz.isAgg0
  z0 := Tryz.sizeOf0
  v0 := Tryz.zeroValue0
  t3 := Tryz.underlying3
  a3 := Tryz.isAgg3
  z3 := Tryz.sizeOf3
  v3 := Tryz.zeroValue3
  t4 := Tryz.underlying4
  a4 := Tryz.isAgg4
  z4 := Tryz.sizeOf4
  v4 := Tryz.zeroValue4
  t9 := Tryz.underlying9
  a9 := Tryz.isAgg9
  z9 := Tryz.sizeOf9
  v9 := Tryz.zeroValue9
  t20 := Tryz.underlying20
  a20 := Tryz.isAgg20
  z20 := Tryz.sizeOf20
  v20 := Tryz.zeroValue20
  t37 := Tryz.underlying22
  a37 := Tryz.isAgg22
  z37 := Tryz.sizeOf22
  v37 := Tryz.zeroValue22
  t70 := Tryz.underlying40
  a70 := Tryz.isAgg40
  z70 := Tryz.sizeOf40
  v70 := Tryz.zeroValue40
  t72 := Tryz.underlying42
  a72 := Tryz.isAgg42
  z72 := Tryz.sizeOf42
  v72 := Tryz.zeroValue42
  t75 := Tryz.underlying44
  a75 := Tryz.isAgg44
  z75 := Tryz.sizeOf44
  v75 := Tryz.zeroValue44
  t164 := Tryz.underlying112
  a164 := Tryz.isAgg112
  z164 := Tryz.sizeOf112
  v164 := Tryz.zeroValue112 }
theorem extra166 : Builder.Extra Tryz.prog lays166_ren := {
  sizeBuilder := by kernel_rfl
  liesBuilder := by kernel_rfl
  t5 := Tryz.underlying5
  a5 := Tryz.isAgg5
  z5 := Tryz.sizeOf5
  v5 := Tryz.zeroValue5
  infoByte := by kernel_rfl
  cellsByte := by kernel_rfl
  sizeByte := by kernel_rfl
  neB5 := by decide }

/-- A BUILDER OF ONE's OWN that holds a text. -/
def Bld (B b : Nat) (t : ByteArray) (w : World) : Prop := Lib.IsBuilderF 42 5 B b (Lib.byteCells t.data.toList) w
theorem Bld.below {B b : Nat} {t : ByteArray} {w w' : World} (h : Bld B b t w) (hB : Below w.heap.size w w') : Bld B b t w' := by
  have hg : w.grownBy w' none := ⟨hB.os, hB.tape, hB.output, hB.size, fun k hk _ => hB.block k hk⟩
  have k : ∀ p, Lib.BuilderAtF 42 5 B b p (Lib.byteCells t.data.toList) w → Lib.BuilderAtF 42 5 B b p (Lib.byteCells t.data.toList) w' := by
    rintro p ⟨h1, v, hb, hown, hne⟩
    have hlt : b < w.heap.size := (Array.getElem?_eq_some_iff.1 hb).1
    exact ⟨h1, v, (hB.block b hlt).trans hb, hown.kept hg (by by_cases e : v.ownBlock = none; exact .inl e; exact .inr e), hne⟩
  rcases h with h | h
  · exact .inl (k _ h)
  · exact .inr (k _ h)
theorem Bld.new (w : World) : Bld w.heap.size w.heap.size ⟨#[]⟩ (w.alloc (.cells #[.pointer none, .slice none 0 0] 42)) :=
  .inl ⟨Nat.le_refl _, _, heap_alloc_new w _, ⟨rfl, .inl ⟨rfl, rfl⟩⟩, by simp [Value.ownBlock]⟩
/-- A BLOCK of another kind that lies there. -/
def BoxAt (w : World) (k : Nat) (cs : Array Value) (t : TypeId) : Prop := w.heap[k]? = some (.cells cs t (0, 0))
theorem strCells_byte (s : ByteArray) : Lib.strCells s = Lib.byteCells s.data.toList := rfl
theorem byteCells_add (a b : List UInt8) : Lib.byteCells a ++ Lib.byteCells b = Lib.byteCells (a ++ b) := by simp [Lib.byteCells]
theorem WriteString_any (B b : Nat) (t s : ByteArray) (w : World) (h : Bld B b t w) (hlen : t.size + s.size ≤ 100000) (hBw : B ≤ w.heap.size) :
    Calls Tryz.prog 20 #[.pointer (some ⟨b, 0, none⟩), .string s] w fun e w' => e = .returned (.tuple #[.int .i64 s.size, .nilIface]) ∧ Bld B b (t ++ s) w' ∧ Below B w w' ∧ Lib.OthersKept 5 (some b) w w' := by
  have hl : (Lib.byteCells t.data.toList).length = t.size := by rw [Lib.byteCells, List.length_map]; exact Array.length_toList
  refine (Any.Builder_WriteString_k lays166 extra166 B b _ s w h (by rw [hl]; omega) hBw).mono ?_
  rintro e w' ⟨rfl, h1, h2, h3⟩
  refine ⟨rfl, .inr ?_, h2, h3⟩
  rw [strCells_byte, byteCells_add] at h1
  have e : (t ++ s).data.toList = t.data.toList ++ s.data.toList := by rw [ByteArray.data_append, Array.toList_append]
  rw [e]
  exact h1
theorem String_any (B b : Nat) (t : ByteArray) (w : World) (h : Bld B b t w) (hBw : B ≤ w.heap.size) :
    Calls Tryz.prog 25 #[.pointer (some ⟨b, 0, none⟩)] w fun e w' => e = .returned (.string t) ∧ Bld B b t w' ∧ Below B w w' ∧ Lib.OthersKept 5 (some b) w w' :=
  Tryz.Builder_String_any_k B b t.data.toList w h hBw

end Go.Proofs.YtliadobopideaaaGreatDoor

namespace Go.Proofs.YtliadobopideaaaGreatDoor
open Go.RowKit Go.Sort

theorem line_two (x y : ByteArray) : lineT [x, y] = tx (x.data.toList ++ [32] ++ y.data.toList ++ [10]) := by
  rw [lineT, List.map_cons, List.map_cons, List.map_nil, Lib.join_cons, Lib.joinTail]
  simp
theorem line_two_size (x y : ByteArray) : (lineT [x, y]).size = x.size + y.size + 2 := by
  have e : ∀ s : ByteArray, s.data.toList.length = s.size := fun s => Array.length_toList
  rw [line_two, tx_size]
  simp only [List.length_append, List.length_cons, List.length_nil, e]
  omega
theorem line_root (r : RootD) : lineT [⟨#[114, 111, 111, 116]⟩, tx (dz r.txg)] = roT r 0 := by
  rw [line_two, ← roT_zero]
  show tx ([114, 111, 111, 116] ++ [32] ++ dz r.txg ++ [10]) = tx [114, 111, 111, 116, 32] ++ tx (dz r.txg) ++ tx [10]
  rw [tx_add, tx_add]; rfl
theorem line_vol (r : RootD) (k : Nat) : roT r k ++ lineT [⟨#[118, 111, 108]⟩, (r.vols.getD k vol0).name] = rbT r k 0 := by
  rw [line_two, ← rbT_zero]
  show tx _ ++ tx ([118, 111, 108] ++ [32] ++ (r.vols.getD k vol0).name.data.toList ++ [10]) = tx _ ++ tx [118, 111, 108, 32] ++ tx (r.vols.getD k vol0).name.data.toList ++ tx [10]
  rw [tx_add, tx_add, tx_add, tx_add]
  simp only [List.append_assoc]
  rfl
theorem line_sum (r : RootD) : bodyT r ++ lineT [⟨#[115, 117, 109]⟩, tx (dz (sumT r))] = fullT r := by
  rw [line_two, fullT]
  show tx _ ++ tx ([115, 117, 109] ++ [32] ++ dz (sumT r) ++ [10]) = tx _ ++ tx [115, 117, 109, 32] ++ tx (dz (sumT r)) ++ tx [10]
  rw [tx_add, tx_add, tx_add, tx_add]
  simp only [List.append_assoc]
  rfl

theorem line2 (W : World) (x y : ByteArray) (g : Nat) (hg : g = W.heap.size) (hz : x.size + y.size ≤ 50000) :
    Calls Tryz.prog 21 #[.slice (some ⟨g, 0, none⟩) 2 2] (W.alloc (.cells #[.string x, .string y] 9)) fun e w' => e = .returned (.string (lineT [x, y])) ∧ Below W.heap.size W w' := by
  subst hg
  have hB : Below W.heap.size W (W.alloc (.cells #[.string x, .string y] 9)) := (Below.refl _ _).alloc (Nat.le_refl _) _
  have hw : WordsAt (W.alloc (.cells #[.string x, .string y] 9)) W.heap.size 0 [x, y] := by
    intro j z hj
    rw [Nat.zero_add, World.cell?_alloc_mark]
    match j, hj with
    | 0, h => cases h; rfl
    | 1, h => cases h; rfl
    | j + 2, h => simp at h
  refine (lineOf_any W.heap.size 0 2 [x, y] _ hw (by simp) (Nat.le_refl _) (by simp) (by unfold Hid; rw [line_two_size]; omega)).mono ?_
  rintro e w' ⟨rfl, h⟩
  exact ⟨rfl, hB.trans (h.mono hB.size)⟩

theorem lineNone (W : World) (g : Nat) (hg : g = W.heap.size) :
    Calls Tryz.prog 21 #[.slice (some ⟨g, 0, none⟩) 1 1] (W.alloc (.cells #[.string ⟨#[110, 111, 110, 101]⟩] 9)) fun e w' => e = .returned (.string (tx [110, 111, 110, 101, 10])) ∧ Below W.heap.size W w' := by
  subst hg
  have hB : Below W.heap.size W (W.alloc (.cells #[.string ⟨#[110, 111, 110, 101]⟩] 9)) := (Below.refl _ _).alloc (Nat.le_refl _) _
  have hw : WordsAt (W.alloc (.cells #[.string ⟨#[110, 111, 110, 101]⟩] 9)) W.heap.size 0 [⟨#[110, 111, 110, 101]⟩] := by
    intro j z hj
    rw [Nat.zero_add, World.cell?_alloc_mark]
    match j, hj with
    | 0, h => cases h; rfl
    | j + 1, h => simp at h
  have e : lineT [⟨#[110, 111, 110, 101]⟩] = tx [110, 111, 110, 101, 10] := by
    rw [lineT, List.map_cons, List.map_nil, Lib.join_one]; rfl
  refine (lineOf_any W.heap.size 0 1 [⟨#[110, 111, 110, 101]⟩] _ hw (by simp) (Nat.le_refl _) (by simp) (by unfold Hid; rw [e, tx_size]; simp)).mono ?_
  rintro e w' ⟨rfl, h⟩
  exact ⟨ret_text e, hB.trans (h.mono hB.size)⟩

set_option maxRecDepth 100000 in
set_option maxHeartbeats 2000000 in
theorem ptrLine_none (p : PtrD) (a : Option Addr) (cap : Nat) (w : World) (hp : Hid (Nothing p)) :
    Calls Tryz.prog 23 #[.agg #[.int .i64 p.size, .int .i64 p.sum, .slice a p.places.length cap]] w fun e w' => e = .returned (.string (tx (ptrTx p))) ∧ Below w.heap.size w w' := by
  have HN := Lib.hid (fun w' => isNothing_any p a cap w')
  rw [tt_true hp.out] at HN
  have HR : Hid (tx (ptrTx p) = tx [110, 111, 110, 101, 10]) := by unfold Hid; rw [ptrTx, if_pos hp.out.1]
  generalize tx (ptrTx p) = T at HR ⊢
  obtain ⟨z, s, ps⟩ := p
  simp only at HN ⊢
  clear hp
  go_enter Tryz.func23, Tryz.ntmps23
  go_wp2_with fail
  refine (HN.out _).mono ?_
  rintro e w1 ⟨rfl, hB1⟩
  have hB0 : Below w.heap.size w (w.alloc (.cells #[.int .i64 z, .int .i64 s, .slice a ps.length cap] 54)) := (Below.refl _ _).alloc (Nat.le_refl _) _
  have HB1 := Lib.hid (hB0.trans (hB1.mono hB0.size))
  clear hB1 hB0 HN
  go_wp2_with fail
  refine (lineNone w1 _ rfl).mono ?_
  rintro e w2 ⟨rfl, hB2⟩
  have HB2 := Lib.hid (HB1.out.trans (hB2.mono HB1.out.size))
  clear hB2
  go_wp2_with fail
  go_ret
  exact ⟨ret_text HR.out.symm, HB2.out⟩

theorem ptrLine_any (n : Int) (p : PtrD) (a : Option Addr) (cap : Nat) (w : World) (hn : Pool n) (hp : PtrFine n p) (hx : PlacesAt w a p.places) (hT : Tab w) :
    Calls Tryz.prog 23 #[.agg #[.int .i64 p.size, .int .i64 p.sum, .slice a p.places.length cap]] w fun e w' => e = .returned (.string (tx (ptrTx p))) ∧ Below w.heap.size w w' := by
  rcases hp with h | h
  · exact ptrLine_none p a cap w h
  · exact ptrLine_told n p a cap w hn h hx hT

end Go.Proofs.YtliadobopideaaaGreatDoor
