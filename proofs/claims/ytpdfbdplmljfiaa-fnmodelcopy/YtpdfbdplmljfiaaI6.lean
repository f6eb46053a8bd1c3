/- The library of a model, of the program: its volumes in new memory, and where each name stands. Conditions: none but the row's own bound on sizes. -/
import Derived.Test.YtpdfbdplmljfiaaI4
import Derived.Test.YtpdfbdplmljfiaaI5
namespace Go.Proofs.Ytpdfbdplmljfiaa
open Go.RowKit Go.Sort Go.Maps

theorem infoSh : (Try.prog.info? 35).map (fun i => (i.zero, i.size, i.bytes)) = some (some (.agg #[.string ByteArray.empty, .slice none 0 0]), 2, 40) := by kernel_rfl
theorem news_two (W : World) (a b : Value) (t : TypeId) (H : Nat) (hH : W.heap.size = H) : ∀ j u, [a, b][j]? = some u → (W.alloc (.cells #[a, b] t)).cell? ((⟨H, 0, none⟩ : Addr).add j) = some u := by
  subst hH
  exact World.news_of_block (cs := #[a, b]) (t := t) (fr := (0, 0)) (heap_alloc_new W _)
theorem takeSh (ss : List ShD) (k : Nat) (h : k < ss.length) : ss.take (k + 1) = ss.take k ++ [ss.getD k sh0] := by
  rw [List.take_succ_eq_append_getElem h, List.getD, List.getElem?_eq_getElem h]; rfl
theorem own_block_type {w : World} {base K : Nat} {e : TypeId} {v : Value} {n : Nat} {xs : List Value} (h : w.ownsRow base e K v n xs) (i : Nat) (hi : v.ownBlock = some i) : ∃ cur, w.heap[i]? = some (.cells cur e (0, 0)) := by
  rcases h.2 with ⟨rfl, _⟩ | ⟨g, cap, cur, rfl, _, hg, _⟩
  · cases hi
  · simp only [Value.ownBlock, Option.some.injEq] at hi
    subst hi
    exact ⟨cur, hg⟩

/-- THE LIBRARY of a model, in block D. -/
def Lib (w : World) (base D : Nat) (ss : List ShD) : Prop :=
  ∃ v b n, base ≤ D ∧ base ≤ b ∧ n ≤ ss.length ∧ Blk w D #[v, .map (some b)] 79 ∧ OwnSh w base v ss ∧ PlN w b n ss ss.length
theorem Lib.below {w w' : World} {base D : Nat} {ss : List ShD} (h : Lib w base D ss) (hB : Below w.heap.size w w') : Lib w' base D ss := by
  obtain ⟨v, b, n, h1, h2, h3, h4, h5, h6⟩ := h
  exact ⟨v, b, n, h1, h2, h3, h4.below hB h4.lt, h5.below hB, h6.below hB⟩
theorem Lib.mono {w : World} {base base' D : Nat} {ss : List ShD} (h : Lib w base D ss) (hb : base' ≤ base) : Lib w base' D ss := by
  obtain ⟨v, b, n, h1, h2, h3, h4, h5, h6⟩ := h
  exact ⟨v, b, n, by omega, by omega, h3, h4, h5.mono hb, h6⟩

set_option maxRecDepth 100000 in
set_option maxHeartbeats 1000000 in
theorem libraryOf_no (a : Option Addr) (cap : Nat) (ss : List ShD) (w : World) (hs : MdSmall ss) (hno : ¬MdFine ss) (hx : Hid (ShAt w a ss)) :
    Calls Try.prog 35 #[.agg #[.slice a ss.length cap]] w fun e w' => e = .returned (.tuple #[.pointer none, .iface 87 (.agg #[])]) ∧ Below w.heap.size w w' := by
  have hB : Below w.heap.size w (w.alloc (.cells #[.slice a ss.length cap] 25)) := (Below.refl _ _).alloc (Nat.le_refl _) _
  have HB := Lib.hid hB
  have c0 : (w.alloc (.cells #[.slice a ss.length cap] 25)).cell? ⟨w.heap.size, 0, none⟩ = some (.slice a ss.length cap) := by rw [World.cell?_alloc_mark]; rfl
  have HM := Lib.hid (implMdOk_any a cap ss _ hs (hx.out.below hB))
  rw [tt_false hno] at HM
  clear hB hno hs
  go_enter Try.func35, Try.ntmps35
  go_wp2_with fail
  refine HM.out.mono ?_
  rintro e w1 ⟨rfl, hB1⟩
  have HB1 := Lib.hid (HB.out.trans (hB1.mono HB.out.size))
  clear hB1
  go_wp2
  go_ret2
  exact ⟨rfl, HB1.out⟩

set_option maxRecDepth 100000 in
set_option maxHeartbeats 4000000 in
theorem libraryOf_ok (a : Option Addr) (cap : Nat) (ss : List ShD) (w : World) (hok : MdFine ss) (hx : Hid (ShAt w a ss)) :
    Calls Try.prog 35 #[.agg #[.slice a ss.length cap]] w fun e w' => ∃ D, e = .returned (.tuple #[.pointer (some ⟨D, 0, none⟩), .nilIface]) ∧ Lib w' w.heap.size D ss ∧ Below w.heap.size w w' := by
  obtain ⟨i0, hi0, hz0, hz1, hz2⟩ := info_parts infoSh
  have hB : Below w.heap.size w (w.alloc (.cells #[.slice a ss.length cap] 25)) := (Below.refl _ _).alloc (Nat.le_refl _) _
  have HB := Lib.hid hB
  have c0 : (w.alloc (.cells #[.slice a ss.length cap] 25)).cell? ⟨w.heap.size, 0, none⟩ = some (.slice a ss.length cap) := by rw [World.cell?_alloc_mark]; rfl
  have HM := Lib.hid (implMdOk_any a cap ss _ hok.small (hx.out.below hB))
  rw [tt_true hok] at HM
  have HOK := Lib.hid hok
  have h4 := hok.1
  clear hB hok
  go_enter Try.func35, Try.ntmps35
  go_wp2_with fail
  refine HM.out.mono ?_
  rintro e w1 ⟨rfl, hB1⟩
  have c0 := cell_below hB1 c0
  have HB1 := Lib.hid (HB.out.trans (hB1.mono HB.out.size))
  clear hB1 HB HM
  have hlt0 : w.heap.size < w1.heap.size := World.block_lt_of_cell? w1 _ c0
  go_wp2_with fail
  go_loopw [4, 15] (fun v i wr => ∃ k : Nat, i = .int .i64 (k : Int) ∧ k ≤ ss.length ∧ Hid (OwnSh wr w1.heap.size v (ss.take k)) ∧ Hid (Below w1.heap.size w1 wr)) (fun _ i _ => ss.length - (intOf i).toNat)
  case atStart => exact ⟨0, rfl, by omega, OwnSh.nil _ _, Below.refl _ _⟩
  case round =>
    obtain ⟨k, rfl, hk, hO, hBr⟩ := hrel
    by_cases hlt : k < ss.length
    · have i1 : (k : Int) < (ss.length : Int) := by omega
      have i0' : (0 : Int) ≤ (k : Int) := by omega
      obtain ⟨b, off, rfl, hc⟩ := (hx.out.below (HB1.out.trans (hBr.out.mono HB1.out.size))).resolve_left (fun e => by subst e; simp at hlt)
      obtain ⟨e0, v1, e1, hv⟩ := hc k hlt
      have hfin := HOK.out.2.1 k hlt
      have HT := Lib.hid (takeSh ss k hlt)
      have hkl : (ss.take k).length = k := by rw [List.length_take]; omega
      clear hc
      generalize ss.getD k sh0 = q at e0 e1 hv hfin HT
      obtain ⟨nm, xs⟩ := q
      obtain ⟨a1, c1, rfl, _, _, hx1⟩ := hv
      obtain ⟨f1, f2, f3⟩ := hfin
      simp only at e0 e1 hx1 f1 f2 f3
      have hn3 := f1.1.2
      have HF3 : Hid (∀ j, j < xs.length → (xs.getD j ByteArray.empty).size ≤ 1000) := fun j hj => by have := f3 j hj; unfold Short9 at this; omega
      have hBa : Below wr.heap.size wr (wr.alloc (.cells #[.string nm, .slice a1 xs.length c1] 35)) := (Below.refl _ _).alloc (Nat.le_refl _) _
      have HBa := Lib.hid hBa
      have m0 : (wr.alloc (.cells #[.string nm, .slice a1 xs.length c1] 35)).cell? ⟨wr.heap.size, 0, none⟩ = some (.string nm) := by rw [World.cell?_alloc_mark]; rfl
      have m1 : (wr.alloc (.cells #[.string nm, .slice a1 xs.length c1] 35)).cell? ⟨wr.heap.size, 1, none⟩ = some (.slice a1 xs.length c1) := by rw [World.cell?_alloc_mark]; rfl
      have HSC := Lib.hid (shelfCopy_any nm nm a1 c1 xs _ (by omega) (by omega) (by omega) HF3 (hx1.below hBa))
      have hx3 : xs.length ≤ 3 := by omega
      clear hBa f1 f2 f3 hx1
      go_wp2_with fail
      refine HSC.out.mono ?_
      rintro e w2 ⟨gx, cx, rfl, hox, hB2⟩
      have HB2 := Lib.hid (HBa.out.trans (hB2.mono HBa.out.size))
      obtain ⟨ys, g, k1, k2, k3, k4⟩ := hO.out.rows
      have hB3 : Below w2.heap.size w2 (w2.alloc (.cells #[.string nm, .slice (some ⟨gx, 0, none⟩) xs.length cx] 35)) := (Below.refl _ _).alloc (Nat.le_refl _) _
      have HB3 := Lib.hid (HB2.out.trans (hB3.mono HB2.out.size))
      have hown := own_below k1 HB3.out
      rw [hkl] at hown
      have hyl : ys.length = k * 2 := hown.1
      have hbt := own_block_type hown
      have hnews := news_two w2 (.string nm) (.slice (some ⟨gx, 0, none⟩) xs.length cx) 35 w2.heap.size rfl
      have hbase : w1.heap.size ≤ (w2.alloc (.cells #[.string nm, .slice (some ⟨gx, 0, none⟩) xs.length cx] 35)).heap.size := Nat.le_trans hBr.out.size HB3.out.size
      have HX : Hid (∀ g4 cap4 w4, w4.ownsRow w1.heap.size 35 2 (.slice (some ⟨g4, 0, none⟩) (k + 1) cap4) (k + 1) (ys ++ [.string nm, .slice (some ⟨gx, 0, none⟩) xs.length cx]) → (w2.alloc (.cells #[.string nm, .slice (some ⟨gx, 0, none⟩) xs.length cx] 35)).grownBy w4 u4.ownBlock →
          OwnSh w4 w1.heap.size (.slice (some ⟨g4, 0, none⟩) (k + 1) cap4) (ss.take (k + 1)) ∧ Below w1.heap.size w1 w4) := fun g4 cap4 w4 h4 hg4 => by
        refine ⟨?_, (hBr.out.trans (HB3.out.mono hBr.out.size)).grown hg4 hbase (fun i e => (hown.lt i e).1)⟩
        rw [HT.out]
        exact OwnSh.more (w0 := wr) (base' := (wr.alloc (.cells #[.string nm, .slice a1 xs.length c1] 35)).heap.size) (fun j hj => (k2 j hj).below HB3.out) k3 k4 (by rw [hkl]; exact hyl) (own_below hox hB3) HBa.out.size (Nat.le_trans hBr.out.size HBa.out.size) (by rw [hkl]; exact h4) hg4 hbt
      have hm2 := cell_below hB2 m0
      clear hB2 hB3 hox k1 k2 k3 k4 HB2 hO HT hkl hbt
      go_wp2_with (at_builtin; refine wpList_append_lies _ rfl _ _ 23 rfl w1.heap.size 35 i0 _ 2 40 Try.underlying23 hi0 hz0 hz1 hz2 rfl (by omega) _ k ys rfl hown ⟨_, 0, none⟩ 1 1 [.string nm, .slice (some ⟨gx, 0, none⟩) xs.length cx] rfl rfl hnews (by simp [Value.oneCell']) (by omega) (by simp [maxLen]; omega) (by omega) hbase _ rfl ?_; intro g4 cap4 w4 hown4 hgrow4 hat4 hlt4)
      obtain ⟨HX1, HX2⟩ := HX.out g4 cap4 w4 hown4 hgrow4
      exact ⟨⟨k + 1, by go_num, by omega, HX1, HX2⟩, by simp [intOf]; omega⟩
    · obtain rfl : k = ss.length := by omega
      have hO' := hO.out
      rw [List.take_length] at hO'
      have HO := Lib.hid hO'
      obtain ⟨a3, c3, rfl, _, _, hs3⟩ := hO'.reads
      have HP := Lib.hid (shelfPlaces_any a3 c3 ss wr (by omega) HOK.out.small.2 hs3)
      clear hO hO' hs3
      go_wp2_with fail
      refine HP.out.mono ?_
      rintro e w3 ⟨rfl, hpl, hB3⟩
      have HBw := Lib.hid (hBr.out.trans (hB3.mono hBr.out.size))
      have hBd : Below w3.heap.size w3 (w3.alloc (.cells #[.slice a3 ss.length c3, .map (some wr.heap.size)] 79)) := (Below.refl _ _).alloc (Nat.le_refl _) _
      have HL : Hid (Lib (w3.alloc (.cells #[.slice a3 ss.length c3, .map (some wr.heap.size)] 79)) w.heap.size w3.heap.size ss) := by
        have s1 := HBw.out.size
        have s2 := hBr.out.size
        exact ⟨_, _, ss.length, by omega, by omega, by omega, Blk.new _ _ _, ((HO.out.below hB3).below hBd).mono (by omega), hpl.below hBd⟩
      have HE := Lib.hid (HB1.out.trans ((HBw.out.trans (hBd.mono HBw.out.size)).mono HB1.out.size))
      clear hpl hB3 hBd
      go_wp2
      go_ret2
      exact ⟨_, rfl, HL.out, HE.out⟩

end Go.Proofs.Ytpdfbdplmljfiaa
