/- The pointer of a text at places, of both sides. Conditions: the row's own bound on sizes. -/
import Derived.Test.YtpbdhpomlakinaaA2
import Derived.Test.YtpbdhpomlakinaaS4
import Derived.Test.YtpbdhpomlakinaaS6
import Derived.Test.YtpbdhpomlakinaaE4
import Derived.Test.YtpbdhpomlakinaaAZ
import Derived.Lib.SliceRun
namespace Go.Proofs.Ytpbdhpomlakinaa
open Go.RowKit Go.Sort

/-- A POINTER's BOX, known whole. -/
def PB (w : World) (g : Nat) (z s : Int) (v : Value) : Prop := w.heap[g]? = some (.cells #[.int .i64 z, .int .i64 s, v] 50 (0, 0))
theorem PB.new (w : World) (z s : Int) (v : Value) : PB (w.alloc (.cells #[.int .i64 z, .int .i64 s, v] 50)) w.heap.size z s v := heap_alloc_new w _
theorem PB.lt {w : World} {g : Nat} {z s : Int} {v : Value} (h : PB w g z s v) : g < w.heap.size := (Array.getElem?_eq_some_iff.1 h).1
theorem PB.below {w w' : World} {g : Nat} {z s : Int} {v : Value} (h : PB w g z s v) (hB : Below w.heap.size w w') : PB w' g z s v := (hB.block g h.lt).trans h
theorem PB.cells {w : World} {g : Nat} {z s : Int} {v : Value} (h : PB w g z s v) : w.cell? ⟨g, 0, none⟩ = some (.int .i64 z) ∧ w.cell? ⟨g, 1, none⟩ = some (.int .i64 s) ∧ w.cell? ⟨g, 2, none⟩ = some v ∧ w.frozen? ⟨g, 0, none⟩ = false ∧ w.frozen? ⟨g, 1, none⟩ = false ∧ w.frozen? ⟨g, 2, none⟩ = false := by
  unfold PB at h
  refine ⟨?_, ?_, ?_, ?_, ?_, ?_⟩
  · simp only [World.cell?, h]; rfl
  · simp only [World.cell?, h]; rfl
  · simp only [World.cell?, h]; rfl
  · simp [World.frozen?, h]
  · simp [World.frozen?, h]
  · simp [World.frozen?, h]

set_option maxRecDepth 100000 in
set_option maxHeartbeats 1000000 in
theorem l11Ptr_big (s : ByteArray) (a : Option Addr) (cap : Nat) (ps : List PlD) (w : World) (hs : s.size ≤ 1048576) (h0 : 0 < ps.length) (hl : ps.length ≤ 1048576) (hx : Hid (PlacesAt w a ps)) :
    Calls Try.prog 82 #[.string s, .slice a ps.length cap] w fun e w' => ∃ v, e = .returned (.agg #[.int .i64 (s.size : Int), .int .i64 (sumOf s), v]) ∧ OwnPl w' w.heap.size v ps ∧ Below w.heap.size w w' := by
  obtain ⟨i0, hi0, hz0, hz1, hz2⟩ := info_parts infoPl
  obtain ⟨b, off, rfl, hc⟩ := hx.out.resolve_left (fun e => by subst e; simp at h0)
  have Hc := Lib.hid hc
  clear hc
  go_enter Try.func82, Try.ntmps82
  go_wp2_with fail
  refine (specSum_any s (by unfold maxLen; omega) _).mono ?_
  rintro e w1 ⟨rfl, rfl⟩
  generalize hsm : sumOf s = sm
  have Hsm := Lib.hid hsm
  clear hsm
  have hB1 : Below w.heap.size w ((w.alloc (.cells #[.int .i64 0, .int .i64 0, .slice none 0 0] 50)).alloc (.cells #[] 53)) := ((Below.refl _ w).alloc (Nat.le_refl _) _).alloc (by simp) _
  have hnews : ∀ j u, (plCells ps)[j]? = some u → ((w.alloc (.cells #[.int .i64 0, .int .i64 0, .slice none 0 0] 50)).alloc (.cells #[] 53)).cell? ((⟨b, off, none⟩ : Addr).add j) = some u := fun j u h => by
    have hj : j < ps.length * 2 := by have := (List.getElem?_eq_some_iff.1 h).1; rw [plCells_length] at this; exact this
    rw [plCells_get _ _ hj] at h
    injection h with h
    subst h
    have e : (⟨b, off, none⟩ : Addr).add j = ⟨b, off + j, none⟩ := by
      unfold Addr.add
      by_cases e : j = 0
      · subst e; rfl
      · rw [if_neg e]
    rw [e]
    refine cell_below hB1 ?_
    obtain ⟨h1, h2⟩ := Hc.out (j / 2) (by omega)
    rcases (show j % 2 = 0 ∨ j % 2 = 1 by omega) with hm | hm
    · rw [show j = j / 2 * 2 by omega, plCell_0]; exact h1
    · rw [show j = j / 2 * 2 + 1 by omega, plCell_1, ← Nat.add_assoc]; exact h2
  have hone : ∀ v ∈ plCells ps, v.oneCell' = true := fun v hv => by
    obtain ⟨i, hi, rfl⟩ := List.getElem_of_mem hv
    simp only [plCells, List.getElem_map, plCell]
    split <;> rfl
  have hown : ((w.alloc (.cells #[.int .i64 0, .int .i64 0, .slice none 0 0] 50)).alloc (.cells #[] 53)).ownsRow (w.heap.size + 1) 53 2 (.slice (some ⟨w.heap.size + 1, 0, none⟩) 0 0) 0 [] := by
    have := World.ownsRow_made (e := 53) (size := 2) (w.alloc (.cells #[.int .i64 0, .int .i64 0, .slice none 0 0] 50)) #[] 0 (Nat.le_refl _) (by simp [maxLen]) (by simp)
    simp only [World.size_alloc] at this
    exact this
  have hpl := plCells_length ps
  have HB1 := Lib.hid hB1
  clear hB1
  have HK : Hid (∀ w4 : World, ((w.alloc (.cells #[.int .i64 0, .int .i64 0, .slice none 0 0] 50)).alloc (.cells #[] 53)).grownBy w4 (some (w.heap.size + 1)) → (∀ o, o < 3 → ∃ u, w4.cell? ⟨w.heap.size, o, none⟩ = some u ∧ w4.frozen? ⟨w.heap.size, o, none⟩ = false) ∧ Below w.heap.size w w4) := fun w4 hg => by
    refine ⟨fun o ho => ?_, HB1.out.grown hg (by simp; omega) (fun k e => by cases e; omega)⟩
    have hb : ((w.alloc (.cells #[.int .i64 0, .int .i64 0, .slice none 0 0] 50)).alloc (.cells #[] 53)).heap[w.heap.size]? = some (.cells #[.int .i64 0, .int .i64 0, .slice none 0 0] 50 (0, 0)) := (Below.heap_alloc _ _ _ (by simp)).trans (heap_alloc_new w _)
    have hb4 := (hg.block w.heap.size (by simp; omega) (by simp)).trans hb
    match o, ho with
    | 0, _ => exact ⟨_, by simp only [World.cell?, hb4]; rfl, by simp [World.frozen?, hb4]⟩
    | 1, _ => exact ⟨_, by simp only [World.cell?, hb4]; rfl, by simp [World.frozen?, hb4]⟩
    | 2, _ => exact ⟨_, by simp only [World.cell?, hb4]; rfl, by simp [World.frozen?, hb4]⟩
  go_wp2_with (at_builtin; refine wpList_append_lies _ rfl _ _ 26 rfl (w.heap.size + 1) 53 i0 _ 2 16 Try.underlying26 hi0 hz0 hz1 hz2 rfl (by omega) _ 0 [] rfl hown ⟨b, off, none⟩ ps.length cap (plCells ps) rfl hpl hnews hone (by omega) (by simp [maxLen]; omega) (by omega) (by simp) _ rfl ?_; intro g cap4 w4 hown4 hgrow4 hat4 hlt4; obtain ⟨hcs, hB4⟩ := HK.out w4 hgrow4; obtain ⟨y0, r0, f0⟩ := hcs 0 (by omega); obtain ⟨y1, r1, f1⟩ := hcs 1 (by omega); obtain ⟨y2, r2, f2⟩ := hcs 2 (by omega); rw [Nat.zero_add, List.nil_append] at hown4; have HO4 := Lib.hid hown4; have HB4 := Lib.hid hB4; clear hown4 hgrow4 hat4 hcs hB4; rw [Nat.zero_add])
  refine bodyPost_ret (v := .agg #[.int .i64 (s.size : Int), .int .i64 sm, .slice (some ⟨g, 0, none⟩) ps.length cap4]) (by simp [results, Try.results82, go_sem, r0, r1, r2]) rfl ⟨.slice (some ⟨g, 0, none⟩) ps.length cap4, by rw [Hsm.out], ?_, ?_⟩
  · exact own_mono (own_far (own_far (own_far HO4.out _ _ _ (by omega)) _ _ _ (by omega)) _ _ _ (by omega)) (by omega)
  · exact ((HB4.out.setCell (p := ⟨w.heap.size, 0, none⟩) (Nat.le_refl _) _).setCell (p := ⟨w.heap.size, 1, none⟩) (Nat.le_refl _) _).setCell (p := ⟨w.heap.size, 2, none⟩) (Nat.le_refl _) _


set_option maxRecDepth 100000 in
set_option maxHeartbeats 1000000 in
theorem l11Ptr_none (s : ByteArray) (a : Option Addr) (cap : Nat) (w : World) (hs : s.size ≤ 1048576) :
    Calls Try.prog 82 #[.string s, .slice a 0 cap] w fun e w' => ∃ v, e = .returned (.agg #[.int .i64 (s.size : Int), .int .i64 (sumOf s), v]) ∧ OwnPl w' w.heap.size v [] ∧ Below w.heap.size w w' := by
  obtain ⟨i0, hi0, hz0, hz1, hz2⟩ := info_parts infoPl
  have HB4 : Hid (∀ X, Below w.heap.size w ((w.alloc X).alloc (.cells #[] 53))) := fun X => ((Below.refl _ w).alloc (Nat.le_refl _) _).alloc (by simp) _
  have HO4 : Hid (∀ X, ((w.alloc X).alloc (.cells #[] 53)).ownsRow w.heap.size 53 2 (.slice (some ⟨w.heap.size + 1, 0, none⟩) 0 0) 0 []) := fun X => by
    have := World.ownsRow_made (e := 53) (size := 2) (w.alloc X) #[] 0 (Nat.le_refl _) (by simp [maxLen]) (by simp)
    simp only [World.size_alloc] at this
    exact own_mono this (by omega)
  go_enter Try.func82, Try.ntmps82
  go_wp2_with fail
  refine (specSum_any s (by unfold maxLen; omega) _).mono ?_
  rintro e w1 ⟨rfl, rfl⟩
  generalize hsm : sumOf s = sm
  have Hsm := Lib.hid hsm
  clear hsm
  go_wp2_with (at_builtin; refine wpList_append_zero rfl _ _ 26 rfl 53 i0 Try.underlying26 hi0 _ _ _ rfl (Nat.le_refl _) _ _ rfl ?_)
  refine bodyPost_ret (v := .agg #[.int .i64 (s.size : Int), .int .i64 sm, .slice (some ⟨w.heap.size + 1, 0, none⟩) 0 0]) (by simp [results, Try.results82, go_sem]) rfl ⟨.slice (some ⟨w.heap.size + 1, 0, none⟩) 0 0, by rw [Hsm.out], ?_, ?_⟩
  · exact HO4.out _
  · exact HB4.out _
theorem l11Ptr_all (s : ByteArray) (a : Option Addr) (cap : Nat) (ps : List PlD) (w : World) (hs : s.size ≤ 1048576) (hl : ps.length ≤ 1048576) (hx : Hid (PlacesAt w a ps)) :
    Calls Try.prog 82 #[.string s, .slice a ps.length cap] w fun e w' => ∃ v, e = .returned (.agg #[.int .i64 (s.size : Int), .int .i64 (sumOf s), v]) ∧ OwnPl w' w.heap.size v ps ∧ Below w.heap.size w w' := by
  by_cases h0 : ps = []
  · subst h0
    exact l11Ptr_none s a cap w hs
  · exact l11Ptr_big s a cap ps w hs (List.length_pos_iff.2 h0) hl hx

/-- WHEN A TEXT HAS A POINTER at places; what it is. -/
def SpGood (s : ByteArray) (ps : List PlD) : Prop := s.size ≠ 0 ∧ PtrFine 4 ⟨(s.size : Int), sumOf s, ps⟩
noncomputable def spD (s : ByteArray) (ps : List PlD) : PtrD := if tt (SpGood s ps) = true then ⟨(s.size : Int), sumOf s, ps⟩ else ptr0
theorem spD_good {s : ByteArray} {ps : List PlD} (h : SpGood s ps) : spD s ps = ⟨(s.size : Int), sumOf s, ps⟩ := by unfold spD; rw [if_pos (tt_true h)]
theorem spD_bad {s : ByteArray} {ps : List PlD} (h : ¬SpGood s ps) : spD s ps = ptr0 := by unfold spD; rw [if_neg (by rw [tt_false h]; simp)]
theorem spD_small (s : ByteArray) (ps : List PlD) (hl : ps.length ≤ 1048576) : (spD s ps).places.length ≤ 1048576 := by
  unfold spD
  split
  · exact hl
  · simp [ptr0]
theorem SpGood.some {s : ByteArray} {ps : List PlD} (h : SpGood s ps) : 0 < ps.length := by
  rcases h.2 with h1 | h1
  · have h2 : (s.size : Int) = 0 := h1.1
    have := h.1
    omega
  · have h2 : (ps.length : Int) = ((s.size : Int) + 2) / 3 + 1 := h1.2.2.2.2.1
    omega
/-- THE ANSWER. -/
def SpAns (d : PtrD) (b : Bool) (w : World) (e : Ending) (w' : World) : Prop :=
  ∃ v, e = .returned (.tuple #[.agg #[.int .i64 d.size, .int .i64 d.sum, v], .bool b]) ∧ OwnPl w' w.heap.size v d.places ∧ Below w.heap.size w w'
theorem OwnPl.none (w : World) (base : Nat) : OwnPl w base (.slice none 0 0) [] := ⟨rfl, .inl ⟨rfl, rfl⟩⟩
theorem eqEmpty_no {p : ByteArray} (h : p.size ≠ 0) : p.toList.isEmpty = false := by
  rw [ByteArray.toList_eq]
  cases hp : p.data.toList with
  | nil =>
    have : p.data.toList.length = 0 := by rw [hp]; rfl
    have h2 : p.data.toList.length = p.size := by simp
    omega
  | cons x l => rfl
theorem eqEmpty_yes {p : ByteArray} (h : p.size = 0) : p.toList.isEmpty = true := by
  rw [ByteArray.toList_eq]
  cases hp : p.data.toList with
  | nil => rfl
  | cons x l =>
    exfalso
    have h2 : p.data.toList.length = p.size := by simp
    rw [hp, h] at h2
    simp at h2

set_option maxRecDepth 100000 in
set_option maxHeartbeats 2000000 in
theorem specStripe_any (s : ByteArray) (a : Option Addr) (cap : Nat) (ps : List PlD) (w : World) (hs : s.size ≤ 1048576) (hl : ps.length ≤ 1048576) (hx : Hid (PlacesAt w a ps)) :
    Calls Try.prog 37 #[.string s, .slice a ps.length cap] w (SpAns (spD s ps) (tt (SpGood s ps)) w) := by
  have hBa : Below w.heap.size w (w.alloc (.cells #[.int .i64 0, .int .i64 0, .slice none 0 0] 50)) := (Below.refl _ _).alloc (Nat.le_refl _) _
  have HBa := Lib.hid hBa
  have HZ := Lib.hid (PB.new w 0 0 (.slice none 0 0))
  clear hBa
  have HG := Lib.hid (show SpGood s ps ↔ s.size ≠ 0 ∧ PtrFine 4 ⟨(s.size : Int), sumOf s, ps⟩ from Iff.rfl)
  have HG1 := Lib.hid (fun h => @spD_good s ps h)
  have HG2 := Lib.hid (fun h => @spD_bad s ps h)
  have HL := Lib.hid (fun w' h => l11Ptr_all s a cap ps w' hs hl h)
  have HP := Lib.hid (fun a' c' w' h => l2Ptr_any 4 ⟨(s.size : Int), sumOf s, ps⟩ a' c' w' ⟨by omega, by omega⟩ (by show ps.length ≤ maxLen; unfold maxLen; omega) h)
  generalize sumOf s = sm at HG HG1 HL HP
  by_cases hf : PtrFine 4 ⟨(s.size : Int), sm, ps⟩
  · rw [tt_true hf] at HP
    by_cases h0 : s.size = 0
    · have HN : Hid (¬SpGood s ps) := fun h => (HG.out.1 h).1 h0
      have q0 := eqEmpty_yes h0
      rw [HG2.out HN.out, tt_false HN.out]
      clear HG HG1 HG2 hf h0
      go_enter Try.func37, Try.ntmps37
      go_wp2_with fail
      refine (HL.out _ (hx.out.below HBa.out)).mono ?_
      rintro e w1 ⟨v, rfl, ho, hB1⟩
      obtain ⟨a2, c2, rfl, hc2, hm2, hs2⟩ := OwnPl.reads ho
      have HB1 := Lib.hid (HBa.out.trans (hB1.mono HBa.out.size))
      have HZ1 := Lib.hid (HZ.out.below hB1)
      have hB2 : Below w1.heap.size w1 (w1.alloc (.cells #[.int .i64 (s.size : Int), .int .i64 sm, .slice a2 ps.length c2] 50)) := (Below.refl _ _).alloc (Nat.le_refl _) _
      have HS2 := Lib.hid (hs2.below hB2)
      have HB2 := Lib.hid hB2
      clear ho hB1 hs2 hB2
      go_wp2_with fail
      refine (HP.out _ _ _ HS2).mono ?_
      rintro e w3 ⟨rfl, hB3⟩
      have hB23 := HB2.out.trans (hB3.mono HB2.out.size)
      obtain ⟨k0, k1, k2, f0, f1, f2⟩ := (HZ1.out.below hB23).cells
      have HB3 := Lib.hid (HB1.out.trans (hB23.mono HB1.out.size))
      clear hB3 hB23
      go_wp2
      refine bodyPost_ret (v := .tuple #[.agg #[.int .i64 0, .int .i64 0, .slice none 0 0], .bool false]) (by simp [results, Try.results37, go_sem, k0, k1, k2]) rfl ⟨.slice none 0 0, rfl, OwnPl.none _ _, ?_⟩
      exact ((HB3.out.setCell (p := ⟨w.heap.size, 0, none⟩) (Nat.le_refl _) _).setCell (p := ⟨w.heap.size, 1, none⟩) (Nat.le_refl _) _).setCell (p := ⟨w.heap.size, 2, none⟩) (Nat.le_refl _) _
    · have HN : Hid (SpGood s ps) := HG.out.2 ⟨h0, hf⟩
      have q0 := eqEmpty_no h0
      rw [HG1.out HN.out, tt_true HN.out]
      clear HG HG1 HG2 hf h0
      go_enter Try.func37, Try.ntmps37
      go_wp2_with fail
      refine (HL.out _ (hx.out.below HBa.out)).mono ?_
      rintro e w1 ⟨v, rfl, ho, hB1⟩
      obtain ⟨a2, c2, rfl, hc2, hm2, hs2⟩ := OwnPl.reads ho
      have HB1 := Lib.hid (HBa.out.trans (hB1.mono HBa.out.size))
      have HZ1 := Lib.hid (HZ.out.below hB1)
      have hz1 : w.heap.size + 1 ≤ w1.heap.size := by have := hB1.size; simp at this; omega
      have HO : Hid (w1.ownsRow (w.heap.size + 1) 53 2 (.slice a2 ps.length c2) ps.length (plCells ps)) := by
        have := ho
        simp only [World.size_alloc] at this
        exact this
      have HPB := Lib.hid (PB.new w1 (s.size : Int) sm (.slice a2 ps.length c2))
      have hB2 : Below w1.heap.size w1 (w1.alloc (.cells #[.int .i64 (s.size : Int), .int .i64 sm, .slice a2 ps.length c2] 50)) := (Below.refl _ _).alloc (Nat.le_refl _) _
      have HS2 := Lib.hid (hs2.below hB2)
      have HB2 := Lib.hid hB2
      clear ho hB1 hs2 hB2
      go_wp2_with fail
      refine (HP.out _ _ _ HS2).mono ?_
      rintro e w3 ⟨rfl, hB3⟩
      have hB23 := HB2.out.trans (hB3.mono HB2.out.size)
      obtain ⟨k0, k1, k2, f0, f1, f2⟩ := (HZ1.out.below hB23).cells
      obtain ⟨m0, m1, m2, _, _, _⟩ := (HPB.out.below hB3).cells
      have HO3 := Lib.hid (own_below HO.out hB23)
      have HB3 := Lib.hid (HB1.out.trans (hB23.mono HB1.out.size))
      clear hB3 hB23
      go_wp2
      refine bodyPost_ret (v := .tuple #[.agg #[.int .i64 (s.size : Int), .int .i64 sm, .slice a2 ps.length c2], .bool true]) (by simp [results, Try.results37, go_sem, k0, k1, k2]) rfl ⟨.slice a2 ps.length c2, rfl, ?_, ?_⟩
      · exact own_mono (own_far (own_far (own_far HO3.out _ _ _ (by omega)) _ _ _ (by omega)) _ _ _ (by omega)) (by omega)
      · exact ((HB3.out.setCell (p := ⟨w.heap.size, 0, none⟩) (Nat.le_refl _) _).setCell (p := ⟨w.heap.size, 1, none⟩) (Nat.le_refl _) _).setCell (p := ⟨w.heap.size, 2, none⟩) (Nat.le_refl _) _
  · rw [tt_false hf] at HP
    have HN : Hid (¬SpGood s ps) := fun h => hf (HG.out.1 h).2
    rw [HG2.out HN.out, tt_false HN.out]
    clear HG HG1 HG2 hf
    go_enter Try.func37, Try.ntmps37
    go_wp2_with fail
    refine (HL.out _ (hx.out.below HBa.out)).mono ?_
    rintro e w1 ⟨v, rfl, ho, hB1⟩
    obtain ⟨a2, c2, rfl, hc2, hm2, hs2⟩ := OwnPl.reads ho
    have HB1 := Lib.hid (HBa.out.trans (hB1.mono HBa.out.size))
    have HZ1 := Lib.hid (HZ.out.below hB1)
    have hB2 : Below w1.heap.size w1 (w1.alloc (.cells #[.int .i64 (s.size : Int), .int .i64 sm, .slice a2 ps.length c2] 50)) := (Below.refl _ _).alloc (Nat.le_refl _) _
    have HS2 := Lib.hid (hs2.below hB2)
    have HB2 := Lib.hid hB2
    clear ho hB1 hs2 hB2
    go_wp2_with fail
    refine (HP.out _ _ _ HS2).mono ?_
    rintro e w3 ⟨rfl, hB3⟩
    have hB23 := HB2.out.trans (hB3.mono HB2.out.size)
    obtain ⟨k0, k1, k2, f0, f1, f2⟩ := (HZ1.out.below hB23).cells
    have HB3 := Lib.hid (HB1.out.trans (hB23.mono HB1.out.size))
    clear hB3 hB23
    go_wp2
    refine bodyPost_ret (v := .tuple #[.agg #[.int .i64 0, .int .i64 0, .slice none 0 0], .bool false]) (by simp [results, Try.results37, go_sem, k0, k1, k2]) rfl ⟨.slice none 0 0, rfl, OwnPl.none _ _, ?_⟩
    exact ((HB3.out.setCell (p := ⟨w.heap.size, 0, none⟩) (Nat.le_refl _) _).setCell (p := ⟨w.heap.size, 1, none⟩) (Nat.le_refl _) _).setCell (p := ⟨w.heap.size, 2, none⟩) (Nat.le_refl _) _

end Go.Proofs.Ytpbdhpomlakinaa
