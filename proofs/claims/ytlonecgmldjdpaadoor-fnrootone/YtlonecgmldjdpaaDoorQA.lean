/- The lines of a root's text, of the program. Conditions: the table of powers of ten lies there; an ok pointer. -/
import Derived.Test.YtlonecgmldjdpaaDoorQ9
namespace Go.Proofs.YtlonecgmldjdpaaDoor
open Go.RowKit Go.Sort

theorem line_two (x y : ByteArray) : lineT [x, y] = tx (x.data.toList ++ [32] ++ y.data.toList ++ [10]) := by
  rw [lineT, List.map_cons, List.map_cons, List.map_nil, Lib.join_cons, Lib.joinTail]
  simp
theorem line_two_size (x y : ByteArray) : (lineT [x, y]).size = x.size + y.size + 2 := by
  have e : ∀ s : ByteArray, s.data.toList.length = s.size := fun s => Array.length_toList
  rw [line_two, tx_size]
  simp only [List.length_append, List.length_cons, List.length_nil, e]
  omega
theorem line_root (r : RootD) : lineT [⟨#[114, 111, 111, 116]⟩, tx (dz r.txg)] = roT r 0 := by
  rw [line_two, ← roT_zero]
  show tx ([114, 111, 111, 116] ++ [32] ++ dz r.txg ++ [10]) = tx [114, 111, 111, 116, 32] ++ tx (dz r.txg) ++ tx [10]
  rw [tx_add, tx_add]; rfl
theorem line_vol (r : RootD) (k : Nat) : roT r k ++ lineT [⟨#[118, 111, 108]⟩, (r.vols.getD k vol0).name] = rbT r k 0 := by
  rw [line_two, ← rbT_zero]
  show tx _ ++ tx ([118, 111, 108] ++ [32] ++ (r.vols.getD k vol0).name.data.toList ++ [10]) = tx _ ++ tx [118, 111, 108, 32] ++ tx (r.vols.getD k vol0).name.data.toList ++ tx [10]
  rw [tx_add, tx_add, tx_add, tx_add]
  simp only [List.append_assoc]
  rfl
theorem line_sum (r : RootD) : bodyT r ++ lineT [⟨#[115, 117, 109]⟩, tx (dz (sumT r))] = fullT r := by
  rw [line_two, fullT]
  show tx _ ++ tx ([115, 117, 109] ++ [32] ++ dz (sumT r) ++ [10]) = tx _ ++ tx [115, 117, 109, 32] ++ tx (dz (sumT r)) ++ tx [10]
  rw [tx_add, tx_add, tx_add, tx_add]
  simp only [List.append_assoc]
  rfl

theorem line2 (W : World) (x y : ByteArray) (g : Nat) (hg : g = W.heap.size) (hz : x.size + y.size ≤ 50000) :
    Calls Tryd.prog 16 #[.slice (some ⟨g, 0, none⟩) 2 2] (W.alloc (.cells #[.string x, .string y] 9)) fun e w' => e = .returned (.string (lineT [x, y])) ∧ Below W.heap.size W w' := by
  subst hg
  have hB : Below W.heap.size W (W.alloc (.cells #[.string x, .string y] 9)) := (Below.refl _ _).alloc (Nat.le_refl _) _
  have hw : WordsAt (W.alloc (.cells #[.string x, .string y] 9)) W.heap.size 0 [x, y] := by
    intro j z hj
    rw [Nat.zero_add, World.cell?_alloc_mark]
    match j, hj with
    | 0, h => cases h; rfl
    | 1, h => cases h; rfl
    | j + 2, h => simp at h
  refine (lineOf_any W.heap.size 0 2 [x, y] _ hw (by simp) (Nat.le_refl _) (by simp) (by unfold Hid; rw [line_two_size]; omega)).mono ?_
  rintro e w' ⟨rfl, h⟩
  exact ⟨rfl, hB.trans (h.mono hB.size)⟩

theorem lineNone (W : World) (g : Nat) (hg : g = W.heap.size) :
    Calls Tryd.prog 16 #[.slice (some ⟨g, 0, none⟩) 1 1] (W.alloc (.cells #[.string ⟨#[110, 111, 110, 101]⟩] 9)) fun e w' => e = .returned (.string (tx [110, 111, 110, 101, 10])) ∧ Below W.heap.size W w' := by
  subst hg
  have hB : Below W.heap.size W (W.alloc (.cells #[.string ⟨#[110, 111, 110, 101]⟩] 9)) := (Below.refl _ _).alloc (Nat.le_refl _) _
  have hw : WordsAt (W.alloc (.cells #[.string ⟨#[110, 111, 110, 101]⟩] 9)) W.heap.size 0 [⟨#[110, 111, 110, 101]⟩] := by
    intro j z hj
    rw [Nat.zero_add, World.cell?_alloc_mark]
    match j, hj with
    | 0, h => cases h; rfl
    | j + 1, h => simp at h
  have e : lineT [⟨#[110, 111, 110, 101]⟩] = tx [110, 111, 110, 101, 10] := by
    rw [lineT, List.map_cons, List.map_nil, Lib.join_one]; rfl
  refine (lineOf_any W.heap.size 0 1 [⟨#[110, 111, 110, 101]⟩] _ hw (by simp) (Nat.le_refl _) (by simp) (by unfold Hid; rw [e, tx_size]; simp)).mono ?_
  rintro e w' ⟨rfl, h⟩
  exact ⟨ret_text e, hB.trans (h.mono hB.size)⟩

set_option maxRecDepth 100000 in
set_option maxHeartbeats 2000000 in
theorem ptrLine_none (p : PtrD) (a : Option Addr) (cap : Nat) (w : World) (hp : Hid (Nothing p)) :
    Calls Tryd.prog 18 #[.agg #[.int .i64 p.size, .int .i64 p.sum, .slice a p.places.length cap]] w fun e w' => e = .returned (.string (tx (ptrTx p))) ∧ Below w.heap.size w w' := by
  have HN := Lib.hid (fun w' => isNothing_any p a cap w')
  rw [tt_true hp.out] at HN
  have HR : Hid (tx (ptrTx p) = tx [110, 111, 110, 101, 10]) := by unfold Hid; rw [ptrTx, if_pos hp.out.1]
  generalize tx (ptrTx p) = T at HR ⊢
  obtain ⟨z, s, ps⟩ := p
  simp only at HN ⊢
  clear hp
  go_enter Tryd.func18, Tryd.ntmps18
  go_wp2_with fail
  refine (HN.out _).mono ?_
  rintro e w1 ⟨rfl, hB1⟩
  have hB0 : Below w.heap.size w (w.alloc (.cells #[.int .i64 z, .int .i64 s, .slice a ps.length cap] 33)) := (Below.refl _ _).alloc (Nat.le_refl _) _
  have HB1 := Lib.hid (hB0.trans (hB1.mono hB0.size))
  clear hB1 hB0 HN
  go_wp2_with fail
  refine (lineNone w1 _ rfl).mono ?_
  rintro e w2 ⟨rfl, hB2⟩
  have HB2 := Lib.hid (HB1.out.trans (hB2.mono HB1.out.size))
  clear hB2
  go_wp2_with fail
  go_ret
  exact ⟨ret_text HR.out.symm, HB2.out⟩

theorem ptrLine_any (n : Int) (p : PtrD) (a : Option Addr) (cap : Nat) (w : World) (hn : Pool n) (hp : PtrFine n p) (hx : PlacesAt w a p.places) (hT : Tab w) :
    Calls Tryd.prog 18 #[.agg #[.int .i64 p.size, .int .i64 p.sum, .slice a p.places.length cap]] w fun e w' => e = .returned (.string (tx (ptrTx p))) ∧ Below w.heap.size w w' := by
  rcases hp with h | h
  · exact ptrLine_none p a cap w h
  · exact ptrLine_told n p a cap w hn h hx hT

end Go.Proofs.YtlonecgmldjdpaaDoor
