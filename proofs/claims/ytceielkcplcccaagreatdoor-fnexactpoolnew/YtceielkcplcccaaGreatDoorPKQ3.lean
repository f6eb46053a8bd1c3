/- The text of a pointer, as the specification writes it. Conditions: a pointer of small numbers. -/
import Derived.Test.YtceielkcplcccaaGreatDoorPKQ1
import Derived.Test.YtceielkcplcccaaGreatDoorPKS3
namespace Go.Proofs.YtceielkcplcccaaGreatDoor
open Go.RowKit Go.Sort

/-- THE TEXT OF A NUMBER that is not negative. -/
def dz (n : Int) : List UInt8 := Lib.decDigits n.toNat
theorem dz_size (n : Int) (h : n ≤ 9223372036854775807) : (tx (dz n)).size ≤ 19 := dec_size _ (by omega)
theorem dz_length (n : Int) (h : n ≤ 9223372036854775807) : (dz n).length ≤ 19 := by rw [← tx_size]; exact dz_size n h
theorem l6Dec_int (n : Int) (h0 : 0 ≤ n) (h1 : n ≤ 9223372036854775807) (w : World) :
    Calls Tryz.prog 44 #[.int .i64 n] w fun e w' => e = .returned (.string (tx (dz n))) ∧ Below w.heap.size w w' := by
  obtain ⟨m, rfl⟩ := Int.eq_ofNat_of_zero_le h0
  exact l6Dec_any m w (by omega)

def placeTx (p : PlD) : List UInt8 := [32] ++ dz p.1 ++ [46] ++ dz p.2
def placesTx (ps : List PlD) : List UInt8 := ps.flatMap placeTx
def ptrTx (p : PtrD) : List UInt8 :=
  if p.size = 0 then [110, 111, 110, 101, 10] else [112, 116, 114, 32] ++ dz p.size ++ [32] ++ dz p.sum ++ placesTx p.places ++ [10]

/-- A POINTER OF SMALL NUMBERS. -/
def SmallPtr (p : PtrD) : Prop := (0 ≤ p.size ∧ p.size ≤ 9) ∧ (0 ≤ p.sum ∧ p.sum ≤ 1000000000) ∧ p.places.length ≤ 4 ∧ ∀ j, j < p.places.length → (0 ≤ (p.places.getD j pl0).1 ∧ (p.places.getD j pl0).1 ≤ 3) ∧ (0 ≤ (p.places.getD j pl0).2 ∧ (p.places.getD j pl0).2 ≤ 11)
theorem PtrFine.small {n : Int} {p : PtrD} (h : PtrFine n p) (hn : Pool n) : SmallPtr p := by
  rcases h with ⟨h1, h2, h3⟩ | ⟨h1, h2, h3, h4, h5, h6⟩
  · unfold SmallPtr
    rw [h1, h2, h3]
    exact ⟨by omega, by omega, by simp, fun j hj => by simp at hj⟩
  · obtain ⟨n1, n2⟩ := hn
    refine ⟨by omega, by omega, by omega, fun j hj => ?_⟩
    obtain ⟨⟨k1, k2, k3, k4⟩, _⟩ := h6 j hj
    omega

theorem getD_take {ps : List PlD} {k : Nat} (h : k < ps.length) : ps.take (k + 1) = ps.take k ++ [ps.getD k pl0] := by
  rw [List.take_succ_eq_append_getElem h, List.getD, List.getElem?_eq_getElem h]; rfl
theorem placesTx_succ (ps : List PlD) (k : Nat) (h : k < ps.length) : placesTx (ps.take (k + 1)) = placesTx (ps.take k) ++ placeTx (ps.getD k pl0) := by
  rw [getD_take h, placesTx, List.flatMap_append]; simp [placesTx]
theorem placeTx_length (p : PlD) (h1 : p.1 ≤ 9223372036854775807) (h2 : p.2 ≤ 9223372036854775807) : (placeTx p).length ≤ 40 := by
  have a := dz_length p.1 h1
  have b := dz_length p.2 h2
  unfold placeTx
  simp only [List.length_append, List.length_cons, List.length_nil]
  omega
theorem placesTx_length (ps : List PlD) (h : ∀ j, j < ps.length → (0 ≤ (ps.getD j pl0).1 ∧ (ps.getD j pl0).1 ≤ 3) ∧ (0 ≤ (ps.getD j pl0).2 ∧ (ps.getD j pl0).2 ≤ 11)) (k : Nat) (hk : k ≤ ps.length) : (placesTx (ps.take k)).length ≤ 40 * k := by
  induction k with
  | zero => simp [placesTx]
  | succ k ih =>
    rw [placesTx_succ ps k (by omega), List.length_append]
    have := ih (by omega)
    have h' := h k (by omega)
    have := placeTx_length (ps.getD k pl0) (by omega) (by omega)
    omega

/-- The text so far. -/
def ptrTo (p : PtrD) (k : Nat) : List UInt8 := [112, 116, 114, 32] ++ dz p.size ++ [32] ++ dz p.sum ++ placesTx (p.places.take k)
def ptT (p : PtrD) (k : Nat) : ByteArray := tx (ptrTo p k)
theorem ptT_succ (p : PtrD) (k : Nat) (h : k < p.places.length) : ptT p k ++ ⟨#[32]⟩ ++ tx (dz (p.places.getD k pl0).1) ++ ⟨#[46]⟩ ++ tx (dz (p.places.getD k pl0).2) = ptT p (k + 1) := by
  show tx (ptrTo p k) ++ tx [32] ++ tx (dz (p.places.getD k pl0).1) ++ tx [46] ++ tx (dz (p.places.getD k pl0).2) = tx (ptrTo p (k + 1))
  rw [tx_add, tx_add, tx_add, tx_add, ptrTo, ptrTo, placesTx_succ _ _ h, placeTx]
  simp only [List.append_assoc]
theorem ptT_zero (p : PtrD) : (⟨#[112, 116, 114, 32]⟩ : ByteArray) ++ tx (dz p.size) ++ ⟨#[32]⟩ ++ tx (dz p.sum) = ptT p 0 := by
  show tx [112, 116, 114, 32] ++ tx (dz p.size) ++ tx [32] ++ tx (dz p.sum) = tx (ptrTo p 0)
  rw [tx_add, tx_add, tx_add, ptrTo]
  simp [placesTx]
theorem ptT_all (p : PtrD) (h : p.size ≠ 0) : ptT p p.places.length ++ ⟨#[10]⟩ = tx (ptrTx p) := by
  show tx (ptrTo p p.places.length) ++ tx [10] = _
  rw [tx_add, ptrTo, ptrTx, if_neg h, List.take_length]
theorem ptT_size (p : PtrD) (h : SmallPtr p) (k : Nat) (hk : k ≤ p.places.length) : (ptT p k).size ≤ 210 := by
  obtain ⟨h1, h2, h3, h4⟩ := h
  have a := dz_length p.size (by omega)
  have b := dz_length p.sum (by omega)
  have c := placesTx_length p.places h4 k hk
  rw [ptT, tx_size, ptrTo]
  simp only [List.length_append, List.length_cons, List.length_nil]
  omega
/-- The texts of a place's numbers. -/
theorem place_dec (p : PtrD) (h : SmallPtr p) (j : Nat) (hj : j < p.places.length) :
    (∀ W, Calls Tryz.prog 44 #[.int .i64 (p.places.getD j pl0).1] W fun e w' => e = .returned (.string (tx (dz (p.places.getD j pl0).1))) ∧ Below W.heap.size W w') ∧
    (∀ W, Calls Tryz.prog 44 #[.int .i64 (p.places.getD j pl0).2] W fun e w' => e = .returned (.string (tx (dz (p.places.getD j pl0).2))) ∧ Below W.heap.size W w') ∧
    (tx (dz (p.places.getD j pl0).1)).size ≤ 19 ∧ (tx (dz (p.places.getD j pl0).2)).size ≤ 19 := by
  have := h.2.2.2 j hj
  exact ⟨fun W => l6Dec_int _ (by omega) (by omega) W, fun W => l6Dec_int _ (by omega) (by omega) W, dz_size _ (by omega), dz_size _ (by omega)⟩

set_option maxRecDepth 100000 in
set_option maxHeartbeats 2000000 in
theorem l2PtrText_any (p : PtrD) (a : Option Addr) (cap : Nat) (w : World) (hp : Hid (SmallPtr p)) (hx : Hid (PlacesAt w a p.places)) :
    Calls Tryz.prog 62 #[.agg #[.int .i64 p.size, .int .i64 p.sum, .slice a p.places.length cap]] w fun e w' => e = .returned (.string (tx (ptrTx p))) ∧ Below w.heap.size w w' := by
  by_cases hz : p.size = 0
  · have HT : Hid (tx (ptrTx p) = ⟨#[110, 111, 110, 101, 10]⟩) := by unfold Hid; rw [ptrTx, if_pos hz]; rfl
    generalize tx (ptrTx p) = T at HT ⊢
    obtain ⟨z, s, ps⟩ := p
    simp only at hz hx ⊢
    subst hz
    go_enter Tryz.func62, Tryz.ntmps62
    go_wp2_with fail
    go_ret
    exact ⟨ret_text HT.out.symm, (Below.refl _ _).alloc (Nat.le_refl _) _⟩
  · have HT := Lib.hid (ptT_all p hz)
    have HS := Lib.hid (fun k hk => ptT_succ p k hk)
    have H0 := Lib.hid (ptT_zero p)
    have HZ := Lib.hid (fun k hk => ptT_size p hp.out k hk)
    have HDp := Lib.hid (fun j h => place_dec p hp.out j h)
    obtain ⟨hp1, hp2, hp3, _⟩ := hp.out
    have hzp : (1 : Int) ≤ p.size := by omega
    have HD1 := Lib.hid (fun W => l6Dec_int p.size (by omega) (by omega) W)
    have HD2 := Lib.hid (fun W => l6Dec_int p.sum (by omega) (by omega) W)
    have z1 := dz_size p.size (by omega)
    have z2 := dz_size p.sum (by omega)
    generalize ptT p = PT at HT HS H0 HZ
    generalize tx (ptrTx p) = T at HT ⊢
    generalize tx (dz p.size) = T1 at HD1 H0 z1
    generalize tx (dz p.sum) = T2 at HD2 H0 z2
    obtain ⟨z, s, ps⟩ := p
    simp only at HT HS HZ HDp hp1 hp2 hp3 hzp HD1 HD2 hx hz ⊢
    clear hp hz
    have e0 : ((z : Int) == 0) = false := by simp; omega
    go_enter Tryz.func62, Tryz.ntmps62
    go_wp2_with fail
    have c0 : (w.alloc (.cells #[.int .i64 z, .int .i64 s, .slice a ps.length cap] 65)).cell? ⟨w.heap.size, 0, none⟩ = some (.int .i64 z) := by rw [World.cell?_alloc_mark]; rfl
    have c1 : (w.alloc (.cells #[.int .i64 z, .int .i64 s, .slice a ps.length cap] 65)).cell? ⟨w.heap.size, 1, none⟩ = some (.int .i64 s) := by rw [World.cell?_alloc_mark]; rfl
    have c2 : (w.alloc (.cells #[.int .i64 z, .int .i64 s, .slice a ps.length cap] 65)).cell? ⟨w.heap.size, 2, none⟩ = some (.slice a ps.length cap) := by rw [World.cell?_alloc_mark]; rfl
    have HB0 : Hid (Below w.heap.size w (w.alloc (.cells #[.int .i64 z, .int .i64 s, .slice a ps.length cap] 65))) := (Below.refl _ _).alloc (Nat.le_refl _) _
    have hsz : w.heap.size < (w.alloc (.cells #[.int .i64 z, .int .i64 s, .slice a ps.length cap] 65)).heap.size := by simp
    generalize w.alloc (.cells #[.int .i64 z, .int .i64 s, .slice a ps.length cap] 65) = w1 at c0 c1 c2 HB0 hsz ⊢
    have g0 := cell_regrown c0
    have g1 := cell_regrown c1
    refine wp_region_quiet_below (by kernel_rfl) (by kernel_rfl) ?_
    repeat (go_big_quiet_step (first | ((go_at_call 44); with_reducible exact Calls.regrown_of (HD1.out _)) | ((go_at_call 44); with_reducible exact Calls.regrown_of (HD2.out _))))
    refine wpQuiet_nil ?_
    intro w2 hw2
    have hb12 : Below w1.heap.size w1 w2 := by obtain ⟨q, rfl⟩ := hw2; exact below_regrown _ _ _
    have k2 : w2.cell? ⟨w.heap.size, 2, none⟩ = some (.slice a ps.length cap) := (hb12.cell (p := ⟨w.heap.size, 2, none⟩) hsz).trans c2
    have HB2 := Lib.hid (HB0.out.trans (hb12.mono HB0.out.size))
    have hsz2 : w.heap.size < w2.heap.size := Nat.lt_of_lt_of_le hsz hb12.size
    clear hw2 g0 g1 c0 c1 c2 HB0 hb12 hsz HD1 HD2
    have H0' := H0.out
    generalize hT0 : (({ data := #[112, 116, 114, 32] } : ByteArray) ++ T1 ++ { data := #[32] } ++ T2) = T0 at H0' ⊢
    subst H0'
    clear hT0 H0
    go_wp2_with fail
    go_loopw [3, 4] (fun o i wr => ∃ k : Nat, o = .string (PT k) ∧ i = .int .i64 (k : Int) ∧ k ≤ ps.length ∧ Hid (Below w.heap.size w wr) ∧ w.heap.size < wr.heap.size ∧ wr.cell? ⟨w.heap.size, 2, none⟩ = some (.slice a ps.length cap)) (fun _ i _ => ps.length - (intOf i).toNat)
    case atStart => exact ⟨0, rfl, rfl, Nat.zero_le _, HB2, hsz2, k2⟩
    case round =>
      obtain ⟨k, rfl, rfl, hk, hB, hsw, hcw⟩ := hrel
      have hPz := HZ.out k hk
      have HSk := Lib.hid (fun h => HS.out k h)
      have HT' := Lib.hid (show k = ps.length → PT k ++ ⟨#[10]⟩ = T from fun e => by rw [e]; exact HT.out)
      generalize PT k = O at hPz HSk HT' ⊢
      by_cases hlt : k < ps.length
      · obtain ⟨D1, D2, y1, y2⟩ := HDp.out k hlt
        have HS1 := Lib.hid (HSk.out hlt)
        have HD1 := Lib.hid D1
        have HD2 := Lib.hid D2
        clear D1 D2 HSk
        obtain ⟨b, off, rfl, hc⟩ := hx.out.resolve_left (fun e => by subst e; simp at hlt)
        obtain ⟨q0, q1⟩ := hc k hlt
        have q0' := cell_below hB.out q0
        have q1' := cell_below hB.out q1
        clear hc q0 q1
        generalize tx (dz (ps.getD k pl0).1) = U1 at HD1 HS1 y1
        generalize tx (dz (ps.getD k pl0).2) = U2 at HD2 HS1 y2
        generalize (ps.getD k pl0).1 = pd at q0' HD1
        generalize (ps.getD k pl0).2 = pss at q1' HD2
        have hk0 : (0 : Int) ≤ (k : Int) := by omega
        have hk1 : (k : Int) < (ps.length : Int) := by omega
        go_wp2_with fail
        have g0 := cell_regrown q0'
        have g1 := cell_regrown q1'
        have g2 := cell_regrown hcw
        refine wp_region_quiet_below (by kernel_rfl) (by kernel_rfl) ?_
        repeat (go_big_quiet_step (first | ((go_at_call 44); with_reducible exact Calls.regrown_of (HD1.out _)) | ((go_at_call 44); with_reducible exact Calls.regrown_of (HD2.out _))))
        refine wpQuiet_nil ?_
        intro w9 hw9
        have hb : Below wr.heap.size wr w9 := by obtain ⟨q, rfl⟩ := hw9; exact below_regrown _ _ _
        have k2 : w9.cell? ⟨w.heap.size, 2, none⟩ = some (.slice (some ⟨b, off, none⟩) ps.length cap) := (hb.cell (p := ⟨w.heap.size, 2, none⟩) hsw).trans hcw
        have HB9 := Lib.hid (hB.out.trans (hb.mono hB.out.size))
        have hs9 : w.heap.size < w9.heap.size := Nat.lt_of_lt_of_le hsw hb.size
        clear hw9 g0 g1 g2 q0' q1' hb HD1 HD2
        go_wp2_with fail
        go_roundw
        case rel => exact ⟨k + 1, congrArg Value.string HS1.out, by simp, by omega, HB9, hs9, k2⟩
        case measure => simp [intOf]; omega
      · obtain rfl : k = ps.length := by omega
        go_wp2_with fail
        go_ret
        exact ⟨ret_text (HT'.out trivial), hB.out⟩

end Go.Proofs.YtceielkcplcccaaGreatDoor
