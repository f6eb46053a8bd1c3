/- Something done to a model, of the program. Conditions: none but the row's own bound on sizes. -/
import Derived.Test.YtmmckpjapnkepaaIB
namespace Go.Proofs.Ytmmckpjapnkepaa
open Go.RowKit Go.Sort Go.Maps

/-- WHAT IS ANSWERED: a model of one's own, and a code. -/
def MdDone (r : List ShD × Int) (w : World) (e : Ending) (w' : World) : Prop := ∃ v, e = .returned (.tuple #[.agg #[v], .int .i64 r.2]) ∧ OwnSh w' w.heap.size v r.1 ∧ Below w.heap.size w w'
def CodeIn (c : Int) : Prop := c = 0 ∨ c = 1 ∨ c = 2 ∨ c = 3 ∨ c = 4

set_option maxRecDepth 100000 in
set_option maxHeartbeats 4000000 in
theorem rearranged1_ok (F : Nat) (l1 : Value) (a : Option Addr) (cap : Nat) (ss : List ShD) (r : List ShD × Int) (w : World) (hok : MdFine ss) (hc : CodeIn r.2) (hx : Hid (ShAt w a ss)) (eg : ∀ args w, (callFunc F args).run Try.prog w = .ok (.enter F args) w)
    (hdo : Hid (∀ base D W, Below w.heap.size w W → w.heap.size ≤ base → base ≤ W.heap.size → Lib W base D ss → Calls Try.prog F #[.pointer (some ⟨D, 0, none⟩), l1] W (DoneLib base D r W))) :
    Calls Try.prog 42 #[.agg #[.slice a ss.length cap], .func (.func F) #[] #[l1]] w (MdDone r w) := by
  obtain ⟨rs, rc⟩ := r
  simp only at hc
  have hB : Below w.heap.size w ((w.alloc (.cells #[.slice a ss.length cap] 25)).alloc (.cells #[.slice none 0 0] 25)) := ((Below.refl _ _).alloc (Nat.le_refl _) _).alloc (by simp) _
  have HB := Lib.hid hB
  have KR : Hid (Blk ((w.alloc (.cells #[.slice a ss.length cap] 25)).alloc (.cells #[.slice none 0 0] 25)) (w.heap.size + 1) #[.slice none 0 0] 25) := by
    have := Blk.new (w.alloc (.cells #[.slice a ss.length cap] 25)) #[.slice none 0 0] 25
    simp only [World.size_alloc] at this
    exact this
  have hs0 : w.heap.size + 2 ≤ ((w.alloc (.cells #[.slice a ss.length cap] 25)).alloc (.cells #[.slice none 0 0] 25)).heap.size := by simp
  have HL := Lib.hid (libraryOf_ok a cap ss _ hok (hx.out.below hB))
  have HC := Lib.hid (fun W => codeOf_any rc hc W)
  clear hB hok hc
  go_enter Try.func42, Try.ntmps42
  go_wp2_with fail
  generalize (w.alloc (.cells #[.slice a ss.length cap] 25)).alloc (.cells #[.slice none 0 0] 25) = w0 at HB KR HL hs0 ⊢
  refine HL.out.mono ?_
  rintro e w1 ⟨D, rfl, hL1, hB1⟩
  have HB1 := Lib.hid (HB.out.trans (hB1.mono HB.out.size))
  have KR1 := Lib.hid (KR.out.below hB1 KR.out.lt)
  have HD := Lib.hid (hdo.out w0.heap.size D w1 HB1.out HB.out.size hB1.size hL1)
  have hs1 := hB1.size
  clear hL1 hB1
  go_wp2_with fail
  refine HD.out.mono ?_
  rintro e w2 ⟨rfl, ⟨v, bm, nn, h1, h2, h3, h4, h5, h6⟩, hB2⟩
  have KR2 := Lib.hid (KR1.out.below hB2 (by omega))
  have HB2 := Lib.hid (HB1.out.trans (hB2.mono (by have := HB.out.size; omega)))
  have m0 : w2.drew.cell? ⟨D, 0, none⟩ = some v := h4.cell 0
  have q0 : w2.drew.cell? ⟨w.heap.size + 1, 0, none⟩ = some (.slice none 0 0) := KR2.out.cell 0
  have f0 : w2.drew.frozen? ⟨w.heap.size + 1, 0, none⟩ = false := KR2.out.frozen 0
  obtain ⟨av, cv, rfl, _⟩ := h5.reads
  have HO := Lib.hid (h5.below (Below.refl _ _).drew)
  have HBd : Hid (Below w.heap.size w w2.drew) := HB2.out.drew
  have hDn : w.heap.size + 1 < D := by omega
  clear hB2 h1 h2 h3 h4 h5 h6
  simp only at HC m0 HO
  generalize wrV rc = wv at HC ⊢
  have m1 : (w2.setCell ⟨w.heap.size + 1, 0, none⟩ (.slice av rs.length cv)).drew.cell? ⟨D, 0, none⟩ = some (.slice av rs.length cv) := (World.cell?_setCell_other _ _ _ _ (by intro e; injection e with e; omega)).trans m0
  have q1 : (w2.setCell ⟨w.heap.size + 1, 0, none⟩ (.slice av rs.length cv)).drew.cell? ⟨w.heap.size + 1, 0, none⟩ = some (.slice av rs.length cv) := World.cell?_setCell_same _ _ _ q0
  go_wp2_with fail
  go_region_held3 (fun w' => w'.cell? ⟨D, 0, none⟩ = some (.slice av rs.length cv)) (first | go_keep | exact m0 | exact m1)
    (first | (go_simp; go_at_call 47; (with_reducible refine (HC.out _).mono ?_); rintro e wX ⟨rfl, rfl⟩))
  all_goals
    go_wp2
    refine bodyPost_ret (v := .tuple #[.agg #[.slice av rs.length cv], .int .i64 rc]) (by simp [results, Try.results42, go_sem, q1]) rfl ⟨_, rfl, ?_, ?_⟩
    · exact (HO.out.far _ _ _ (by omega)).mono (by omega)
    · exact HBd.out.setCell (p := ⟨w.heap.size + 1, 0, none⟩) (by simp) _

set_option maxRecDepth 100000 in
set_option maxHeartbeats 4000000 in
theorem rearranged1_no (F : Nat) (l1 : Value) (a : Option Addr) (cap : Nat) (ss : List ShD) (w : World) (hs : MdSmall ss) (hno : ¬MdFine ss) (hx : Hid (ShAt w a ss)) :
    Calls Try.prog 42 #[.agg #[.slice a ss.length cap], .func (.func F) #[] #[l1]] w (MdDone ([], 4) w) := by
  have hB : Below w.heap.size w ((w.alloc (.cells #[.slice a ss.length cap] 25)).alloc (.cells #[.slice none 0 0] 25)) := ((Below.refl _ _).alloc (Nat.le_refl _) _).alloc (by simp) _
  have HB := Lib.hid hB
  have KR : Hid (Blk ((w.alloc (.cells #[.slice a ss.length cap] 25)).alloc (.cells #[.slice none 0 0] 25)) (w.heap.size + 1) #[.slice none 0 0] 25) := by
    have := Blk.new (w.alloc (.cells #[.slice a ss.length cap] 25)) #[.slice none 0 0] 25
    simp only [World.size_alloc] at this
    exact this
  have HL := Lib.hid (libraryOf_no a cap ss _ hs hno (hx.out.below hB))
  have HC := Lib.hid (fun W => codeOf_ok W)
  clear hB hs hno
  go_enter Try.func42, Try.ntmps42
  go_wp2_with fail
  generalize (w.alloc (.cells #[.slice a ss.length cap] 25)).alloc (.cells #[.slice none 0 0] 25) = w0 at HB KR HL ⊢
  refine HL.out.mono ?_
  rintro e w1 ⟨rfl, hB1⟩
  have HB1 := Lib.hid (HB.out.trans (hB1.mono HB.out.size))
  have KR1 := Lib.hid (KR.out.below hB1 KR.out.lt)
  have q0 : w1.cell? ⟨w.heap.size + 1, 0, none⟩ = some (.slice none 0 0) := KR1.out.cell 0
  have f0 : w1.frozen? ⟨w.heap.size + 1, 0, none⟩ = false := KR1.out.frozen 0
  clear hB1
  go_wp2_with fail
  refine (HC.out _).mono ?_
  rintro e w2 ⟨rfl, rfl⟩
  go_wp2
  refine bodyPost_ret (v := .tuple #[.agg #[.slice none 0 0], .int .i64 4]) (by simp [results, Try.results42, go_sem, q0]) rfl ⟨_, rfl, OwnSh.nil _ _, ?_⟩
  exact HB1.out.setCell (p := ⟨w.heap.size + 1, 0, none⟩) (by simp) _

set_option maxRecDepth 100000 in
set_option maxHeartbeats 4000000 in
theorem rearranged2_ok (F : Nat) (l1 l2 : Value) (a : Option Addr) (cap : Nat) (ss : List ShD) (r : List ShD × Int) (w : World) (hok : MdFine ss) (hc : CodeIn r.2) (hx : Hid (ShAt w a ss)) (eg : ∀ args w, (callFunc F args).run Try.prog w = .ok (.enter F args) w)
    (hdo : Hid (∀ base D W, Below w.heap.size w W → w.heap.size ≤ base → base ≤ W.heap.size → Lib W base D ss → Calls Try.prog F #[.pointer (some ⟨D, 0, none⟩), l1, l2] W (DoneLib base D r W))) :
    Calls Try.prog 42 #[.agg #[.slice a ss.length cap], .func (.func F) #[] #[l1, l2]] w (MdDone r w) := by
  obtain ⟨rs, rc⟩ := r
  simp only at hc
  have hB : Below w.heap.size w ((w.alloc (.cells #[.slice a ss.length cap] 25)).alloc (.cells #[.slice none 0 0] 25)) := ((Below.refl _ _).alloc (Nat.le_refl _) _).alloc (by simp) _
  have HB := Lib.hid hB
  have KR : Hid (Blk ((w.alloc (.cells #[.slice a ss.length cap] 25)).alloc (.cells #[.slice none 0 0] 25)) (w.heap.size + 1) #[.slice none 0 0] 25) := by
    have := Blk.new (w.alloc (.cells #[.slice a ss.length cap] 25)) #[.slice none 0 0] 25
    simp only [World.size_alloc] at this
    exact this
  have hs0 : w.heap.size + 2 ≤ ((w.alloc (.cells #[.slice a ss.length cap] 25)).alloc (.cells #[.slice none 0 0] 25)).heap.size := by simp
  have HL := Lib.hid (libraryOf_ok a cap ss _ hok (hx.out.below hB))
  have HC := Lib.hid (fun W => codeOf_any rc hc W)
  clear hB hok hc
  go_enter Try.func42, Try.ntmps42
  go_wp2_with fail
  generalize (w.alloc (.cells #[.slice a ss.length cap] 25)).alloc (.cells #[.slice none 0 0] 25) = w0 at HB KR HL hs0 ⊢
  refine HL.out.mono ?_
  rintro e w1 ⟨D, rfl, hL1, hB1⟩
  have HB1 := Lib.hid (HB.out.trans (hB1.mono HB.out.size))
  have KR1 := Lib.hid (KR.out.below hB1 KR.out.lt)
  have HD := Lib.hid (hdo.out w0.heap.size D w1 HB1.out HB.out.size hB1.size hL1)
  have hs1 := hB1.size
  clear hL1 hB1
  go_wp2_with fail
  refine HD.out.mono ?_
  rintro e w2 ⟨rfl, ⟨v, bm, nn, h1, h2, h3, h4, h5, h6⟩, hB2⟩
  have KR2 := Lib.hid (KR1.out.below hB2 (by omega))
  have HB2 := Lib.hid (HB1.out.trans (hB2.mono (by have := HB.out.size; omega)))
  have m0 : w2.drew.cell? ⟨D, 0, none⟩ = some v := h4.cell 0
  have q0 : w2.drew.cell? ⟨w.heap.size + 1, 0, none⟩ = some (.slice none 0 0) := KR2.out.cell 0
  have f0 : w2.drew.frozen? ⟨w.heap.size + 1, 0, none⟩ = false := KR2.out.frozen 0
  obtain ⟨av, cv, rfl, _⟩ := h5.reads
  have HO := Lib.hid (h5.below (Below.refl _ _).drew)
  have HBd : Hid (Below w.heap.size w w2.drew) := HB2.out.drew
  have hDn : w.heap.size + 1 < D := by omega
  clear hB2 h1 h2 h3 h4 h5 h6
  simp only at HC m0 HO
  generalize wrV rc = wv at HC ⊢
  have m1 : (w2.setCell ⟨w.heap.size + 1, 0, none⟩ (.slice av rs.length cv)).drew.cell? ⟨D, 0, none⟩ = some (.slice av rs.length cv) := (World.cell?_setCell_other _ _ _ _ (by intro e; injection e with e; omega)).trans m0
  have q1 : (w2.setCell ⟨w.heap.size + 1, 0, none⟩ (.slice av rs.length cv)).drew.cell? ⟨w.heap.size + 1, 0, none⟩ = some (.slice av rs.length cv) := World.cell?_setCell_same _ _ _ q0
  go_wp2_with fail
  go_region_held3 (fun w' => w'.cell? ⟨D, 0, none⟩ = some (.slice av rs.length cv)) (first | go_keep | exact m0 | exact m1)
    (first | (go_simp; go_at_call 47; (with_reducible refine (HC.out _).mono ?_); rintro e wX ⟨rfl, rfl⟩))
  all_goals
    go_wp2
    refine bodyPost_ret (v := .tuple #[.agg #[.slice av rs.length cv], .int .i64 rc]) (by simp [results, Try.results42, go_sem, q1]) rfl ⟨_, rfl, ?_, ?_⟩
    · exact (HO.out.far _ _ _ (by omega)).mono (by omega)
    · exact HBd.out.setCell (p := ⟨w.heap.size + 1, 0, none⟩) (by simp) _

set_option maxRecDepth 100000 in
set_option maxHeartbeats 4000000 in
theorem rearranged2_no (F : Nat) (l1 l2 : Value) (a : Option Addr) (cap : Nat) (ss : List ShD) (w : World) (hs : MdSmall ss) (hno : ¬MdFine ss) (hx : Hid (ShAt w a ss)) :
    Calls Try.prog 42 #[.agg #[.slice a ss.length cap], .func (.func F) #[] #[l1, l2]] w (MdDone ([], 4) w) := by
  have hB : Below w.heap.size w ((w.alloc (.cells #[.slice a ss.length cap] 25)).alloc (.cells #[.slice none 0 0] 25)) := ((Below.refl _ _).alloc (Nat.le_refl _) _).alloc (by simp) _
  have HB := Lib.hid hB
  have KR : Hid (Blk ((w.alloc (.cells #[.slice a ss.length cap] 25)).alloc (.cells #[.slice none 0 0] 25)) (w.heap.size + 1) #[.slice none 0 0] 25) := by
    have := Blk.new (w.alloc (.cells #[.slice a ss.length cap] 25)) #[.slice none 0 0] 25
    simp only [World.size_alloc] at this
    exact this
  have HL := Lib.hid (libraryOf_no a cap ss _ hs hno (hx.out.below hB))
  have HC := Lib.hid (fun W => codeOf_ok W)
  clear hB hs hno
  go_enter Try.func42, Try.ntmps42
  go_wp2_with fail
  generalize (w.alloc (.cells #[.slice a ss.length cap] 25)).alloc (.cells #[.slice none 0 0] 25) = w0 at HB KR HL ⊢
  refine HL.out.mono ?_
  rintro e w1 ⟨rfl, hB1⟩
  have HB1 := Lib.hid (HB.out.trans (hB1.mono HB.out.size))
  have KR1 := Lib.hid (KR.out.below hB1 KR.out.lt)
  have q0 : w1.cell? ⟨w.heap.size + 1, 0, none⟩ = some (.slice none 0 0) := KR1.out.cell 0
  have f0 : w1.frozen? ⟨w.heap.size + 1, 0, none⟩ = false := KR1.out.frozen 0
  clear hB1
  go_wp2_with fail
  refine (HC.out _).mono ?_
  rintro e w2 ⟨rfl, rfl⟩
  go_wp2
  refine bodyPost_ret (v := .tuple #[.agg #[.slice none 0 0], .int .i64 4]) (by simp [results, Try.results42, go_sem, q0]) rfl ⟨_, rfl, OwnSh.nil _ _, ?_⟩
  exact HB1.out.setCell (p := ⟨w.heap.size + 1, 0, none⟩) (by simp) _

set_option maxRecDepth 100000 in
set_option maxHeartbeats 4000000 in
theorem rearranged3_ok (F : Nat) (l1 l2 l3 : Value) (a : Option Addr) (cap : Nat) (ss : List ShD) (r : List ShD × Int) (w : World) (hok : MdFine ss) (hc : CodeIn r.2) (hx : Hid (ShAt w a ss)) (eg : ∀ args w, (callFunc F args).run Try.prog w = .ok (.enter F args) w)
    (hdo : Hid (∀ base D W, Below w.heap.size w W → w.heap.size ≤ base → base ≤ W.heap.size → Lib W base D ss → Calls Try.prog F #[.pointer (some ⟨D, 0, none⟩), l1, l2, l3] W (DoneLib base D r W))) :
    Calls Try.prog 42 #[.agg #[.slice a ss.length cap], .func (.func F) #[] #[l1, l2, l3]] w (MdDone r w) := by
  obtain ⟨rs, rc⟩ := r
  simp only at hc
  have hB : Below w.heap.size w ((w.alloc (.cells #[.slice a ss.length cap] 25)).alloc (.cells #[.slice none 0 0] 25)) := ((Below.refl _ _).alloc (Nat.le_refl _) _).alloc (by simp) _
  have HB := Lib.hid hB
  have KR : Hid (Blk ((w.alloc (.cells #[.slice a ss.length cap] 25)).alloc (.cells #[.slice none 0 0] 25)) (w.heap.size + 1) #[.slice none 0 0] 25) := by
    have := Blk.new (w.alloc (.cells #[.slice a ss.length cap] 25)) #[.slice none 0 0] 25
    simp only [World.size_alloc] at this
    exact this
  have hs0 : w.heap.size + 2 ≤ ((w.alloc (.cells #[.slice a ss.length cap] 25)).alloc (.cells #[.slice none 0 0] 25)).heap.size := by simp
  have HL := Lib.hid (libraryOf_ok a cap ss _ hok (hx.out.below hB))
  have HC := Lib.hid (fun W => codeOf_any rc hc W)
  clear hB hok hc
  go_enter Try.func42, Try.ntmps42
  go_wp2_with fail
  generalize (w.alloc (.cells #[.slice a ss.length cap] 25)).alloc (.cells #[.slice none 0 0] 25) = w0 at HB KR HL hs0 ⊢
  refine HL.out.mono ?_
  rintro e w1 ⟨D, rfl, hL1, hB1⟩
  have HB1 := Lib.hid (HB.out.trans (hB1.mono HB.out.size))
  have KR1 := Lib.hid (KR.out.below hB1 KR.out.lt)
  have HD := Lib.hid (hdo.out w0.heap.size D w1 HB1.out HB.out.size hB1.size hL1)
  have hs1 := hB1.size
  clear hL1 hB1
  go_wp2_with fail
  refine HD.out.mono ?_
  rintro e w2 ⟨rfl, ⟨v, bm, nn, h1, h2, h3, h4, h5, h6⟩, hB2⟩
  have KR2 := Lib.hid (KR1.out.below hB2 (by omega))
  have HB2 := Lib.hid (HB1.out.trans (hB2.mono (by have := HB.out.size; omega)))
  have m0 : w2.drew.cell? ⟨D, 0, none⟩ = some v := h4.cell 0
  have q0 : w2.drew.cell? ⟨w.heap.size + 1, 0, none⟩ = some (.slice none 0 0) := KR2.out.cell 0
  have f0 : w2.drew.frozen? ⟨w.heap.size + 1, 0, none⟩ = false := KR2.out.frozen 0
  obtain ⟨av, cv, rfl, _⟩ := h5.reads
  have HO := Lib.hid (h5.below (Below.refl _ _).drew)
  have HBd : Hid (Below w.heap.size w w2.drew) := HB2.out.drew
  have hDn : w.heap.size + 1 < D := by omega
  clear hB2 h1 h2 h3 h4 h5 h6
  simp only at HC m0 HO
  generalize wrV rc = wv at HC ⊢
  have m1 : (w2.setCell ⟨w.heap.size + 1, 0, none⟩ (.slice av rs.length cv)).drew.cell? ⟨D, 0, none⟩ = some (.slice av rs.length cv) := (World.cell?_setCell_other _ _ _ _ (by intro e; injection e with e; omega)).trans m0
  have q1 : (w2.setCell ⟨w.heap.size + 1, 0, none⟩ (.slice av rs.length cv)).drew.cell? ⟨w.heap.size + 1, 0, none⟩ = some (.slice av rs.length cv) := World.cell?_setCell_same _ _ _ q0
  go_wp2_with fail
  go_region_held3 (fun w' => w'.cell? ⟨D, 0, none⟩ = some (.slice av rs.length cv)) (first | go_keep | exact m0 | exact m1)
    (first | (go_simp; go_at_call 47; (with_reducible refine (HC.out _).mono ?_); rintro e wX ⟨rfl, rfl⟩))
  all_goals
    go_wp2
    refine bodyPost_ret (v := .tuple #[.agg #[.slice av rs.length cv], .int .i64 rc]) (by simp [results, Try.results42, go_sem, q1]) rfl ⟨_, rfl, ?_, ?_⟩
    · exact (HO.out.far _ _ _ (by omega)).mono (by omega)
    · exact HBd.out.setCell (p := ⟨w.heap.size + 1, 0, none⟩) (by simp) _

set_option maxRecDepth 100000 in
set_option maxHeartbeats 4000000 in
theorem rearranged3_no (F : Nat) (l1 l2 l3 : Value) (a : Option Addr) (cap : Nat) (ss : List ShD) (w : World) (hs : MdSmall ss) (hno : ¬MdFine ss) (hx : Hid (ShAt w a ss)) :
    Calls Try.prog 42 #[.agg #[.slice a ss.length cap], .func (.func F) #[] #[l1, l2, l3]] w (MdDone ([], 4) w) := by
  have hB : Below w.heap.size w ((w.alloc (.cells #[.slice a ss.length cap] 25)).alloc (.cells #[.slice none 0 0] 25)) := ((Below.refl _ _).alloc (Nat.le_refl _) _).alloc (by simp) _
  have HB := Lib.hid hB
  have KR : Hid (Blk ((w.alloc (.cells #[.slice a ss.length cap] 25)).alloc (.cells #[.slice none 0 0] 25)) (w.heap.size + 1) #[.slice none 0 0] 25) := by
    have := Blk.new (w.alloc (.cells #[.slice a ss.length cap] 25)) #[.slice none 0 0] 25
    simp only [World.size_alloc] at this
    exact this
  have HL := Lib.hid (libraryOf_no a cap ss _ hs hno (hx.out.below hB))
  have HC := Lib.hid (fun W => codeOf_ok W)
  clear hB hs hno
  go_enter Try.func42, Try.ntmps42
  go_wp2_with fail
  generalize (w.alloc (.cells #[.slice a ss.length cap] 25)).alloc (.cells #[.slice none 0 0] 25) = w0 at HB KR HL ⊢
  refine HL.out.mono ?_
  rintro e w1 ⟨rfl, hB1⟩
  have HB1 := Lib.hid (HB.out.trans (hB1.mono HB.out.size))
  have KR1 := Lib.hid (KR.out.below hB1 KR.out.lt)
  have q0 : w1.cell? ⟨w.heap.size + 1, 0, none⟩ = some (.slice none 0 0) := KR1.out.cell 0
  have f0 : w1.frozen? ⟨w.heap.size + 1, 0, none⟩ = false := KR1.out.frozen 0
  clear hB1
  go_wp2_with fail
  refine (HC.out _).mono ?_
  rintro e w2 ⟨rfl, rfl⟩
  go_wp2
  refine bodyPost_ret (v := .tuple #[.agg #[.slice none 0 0], .int .i64 4]) (by simp [results, Try.results42, go_sem, q0]) rfl ⟨_, rfl, OwnSh.nil _ _, ?_⟩
  exact HB1.out.setCell (p := ⟨w.heap.size + 1, 0, none⟩) (by simp) _

end Go.Proofs.Ytmmckpjapnkepaa
