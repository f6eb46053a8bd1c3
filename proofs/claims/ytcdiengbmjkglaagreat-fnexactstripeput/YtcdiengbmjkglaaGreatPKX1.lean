/- XorOf of the program: byte by byte one or the other, the shorter text having noughts behind it. Conditions: texts of at most 2^40 bytes. -/
import Derived.Test.YtcdiengbmjkglaaGreatPKB1
import Derived.Deep.QuietTactic
import Derived.BigQuiet
namespace Go.Proofs.YtcdiengbmjkglaaGreat
open Go.RowKit Go.Shelf
attribute [local go_sem] Oper.semAt_some

set_option maxHeartbeats 400000 in
theorem xor_any (x y : Int) (w : World) :
    Calls Tryz.prog 128 #[.int .u8 x, .int .u8 y] w fun e w' => e = .returned (.int .u8 (bits .xor .u8 x y)) ∧ w = w' := by
  go_enter Tryz.func128, Tryz.ntmps128
  go_wp2
  go_ret
  exact ⟨rfl, rfl⟩

/-- WHAT HAS COME, with the other text. -/
def xcells (t : ByteArray) (l : List Oct) : List Value := l.map fun x => .int .u8 (bits .xor .u8 x.1.2 (byteAt t x.1.1))
theorem xcells_snoc (t : ByteArray) (l : List Oct) (x : Oct) : xcells t (l ++ [x]) = xcells t l ++ [.int .u8 (bits .xor .u8 x.1.2 (byteAt t x.1.1))] := by simp [xcells]
theorem xcells_length (t : ByteArray) (l : List Oct) : (xcells t l).length = l.length := by simp [xcells]

/-- **XorOf**, as the document has it. -/
def xorN (s t : ByteArray) : List Int := (List.range (max s.size t.size)).map fun i => bits .xor .u8 (byteAt s i) (byteAt t i)
def xorS (s t : ByteArray) : ByteArray := strOfNums (xorN s t)
theorem xorS_size (s t : ByteArray) : (xorS s t).size = max s.size t.size := by simp [xorS, strOfNums_size, xorN]
theorem xor8_zero : bits .xor .u8 0 0 = 0 := by rw [u8_xor 0 0 (by omega) (by omega) (by omega) (by omega)]; rfl
theorem xorN_get (s t : ByteArray) (i : Nat) : (xorN s t).getD i 0 = bits .xor .u8 (byteAt s i) (byteAt t i) := by
  unfold xorN
  rw [List.getD, List.getElem?_map]
  by_cases h : i < max s.size t.size
  · rw [List.getElem?_range h]; rfl
  · rw [List.getElem?_eq_none (by simp; omega), byteAt_ge (by omega), byteAt_ge (by omega), xor8_zero]; rfl
theorem xorS_byte (s t : ByteArray) (i : Nat) : byteAt (xorS s t) i = bits .xor .u8 (byteAt s i) (byteAt t i) := by
  unfold xorS
  rw [byteAt_ofNums]
  · exact xorN_get s t i
  · intro j
    rw [xorN_get]
    exact xor8_bd _ _ (byteAt_bd s j) (byteAt_bd t j)

theorem xcells_octs (s t : ByteArray) (k : Nat) (h : k ≤ 140737488355328) : xcells t (octs s k) = ((List.range k).map fun i => Value.int .u8 (bits .xor .u8 (byteAt s i) (byteAt t i))) := by
  induction k with
  | zero => rfl
  | succ k ih => rw [octs_succ, xcells_snoc, ih (by omega), oct_1 s (by omega), List.range_succ, List.map_append]; rfl

theorem xcells_bytes (s t : ByteArray) (h : max s.size t.size ≤ 140737488355328) : xcells t (octs s (max s.size t.size)) = Lib.byteCells ((xorN s t).map fun n => UInt8.ofNat n.toNat) := by
  rw [xcells_octs s t _ h]
  unfold Lib.byteCells xorN
  rw [List.map_map, List.map_map]
  refine List.map_congr_left fun i _ => ?_
  have := xor8_bd _ _ (byteAt_bd s i) (byteAt_bd t i)
  simp only [Function.comp]
  rw [UInt8.toNat_ofNat']
  congr 1
  omega

theorem boxed_kept {W W' : World} {row : Option Nat} {B : Nat} {t : TypeId} {v : Value} (h : Boxed W B t v) (hg : W.grownBy W' row) (hr : ∀ r, row = some r → ∃ o : Obj, W.heap[r]? = some o ∧ o.isCells = false) : Boxed W' B t v :=
  h.kept hg (fun e => by obtain ⟨o, ho, hc⟩ := hr B e.symm; rw [show W.heap[B]? = _ from h] at ho; cases ho; simp [Obj.isCells] at hc)

set_option maxRecDepth 100000 in
set_option maxHeartbeats 4000000 in
theorem joined_in (s t : ByteArray) (hs : s.size ≤ 1099511627776) (ht : t.size ≤ 1099511627776) (w : World) :
    CallsIn Fence.wide 8 Tryz.prog 127 #[.string s, .string t, .func (.func 128) #[] #[]] w fun e w' => e = .returned (.string (xorS s t)) ∧ Below w.heap.size w w' := by
  have h1 : 1 ≤ 8 := by omega
  obtain ⟨m, hm⟩ : ∃ m : Nat, m = max s.size t.size := ⟨_, rfl⟩
  have hmax : max (s.size : Int) (t.size : Int) = (m : Int) := by omega
  have hmb : m ≤ 1099511627776 := by omega
  have Hm := Lib.hid hm
  clear hm
  refine callsIn_of_wp_marks Tryz.func127 rfl trivial ?_ rfl
  simp only [Tryz.ntmps127, List.size_toArray, List.length_cons, List.length_nil, Nat.reduceAdd, Nat.reduceSub, Array.replicate_succ, Array.replicate_zero, List.push_toArray, List.append_toArray, List.nil_append, List.cons_append]
  gi_wp2_with fail
  refine ⟨trivial, ?_⟩
  have bT := Boxed.new w 9 (.string t)
  have bF := Boxed.new (w.alloc (.cells #[.string t] 9)) 152 (.func (.func 128) #[] #[])
  rw [World.size_alloc] at bF
  have hbk : (((w.alloc (.cells #[.string t] 9)).alloc (.cells #[.func (.func 128) #[] #[]] 152)).alloc (.cells #[.pointer none, .slice none 0 0] 161)).heap[w.heap.size + 1 + 1]? = some (.cells #[.pointer none, .slice none 0 0] 161) := by
    have := heap_alloc_new ((w.alloc (.cells #[.string t] 9)).alloc (.cells #[.func (.func 128) #[] #[]] 152)) (.cells #[.pointer none, .slice none 0 0] 161)
    simpa using this
  refine (callsIn_wide.2 (Tryz.Builder_Grow_fresh (w.heap.size + 1 + 1) (w.heap.size + 1 + 1) m _ (Nat.le_refl _) hbk (by simp) (by omega))).mono ?_
  have hB0 : Below w.heap.size w (((w.alloc (.cells #[.string t] 9)).alloc (.cells #[.func (.func 128) #[] #[]] 152)).alloc (.cells #[.pointer none, .slice none 0 0] 161)) :=
    (((Below.refl _ w).alloc (Nat.le_refl _) _).alloc (by simp) _).alloc (by simp; omega) _
  have bT0 := (bT.alloc (.cells #[.func (.func 128) #[] #[]] 152)).alloc (.cells #[.pointer none, .slice none 0 0] 161)
  have bF0 := bF.alloc (.cells #[.pointer none, .slice none 0 0] 161)
  have hsz0 : (((w.alloc (.cells #[.string t] 9)).alloc (.cells #[.func (.func 128) #[] #[]] 152)).alloc (.cells #[.pointer none, .slice none 0 0] 161)).heap.size = w.heap.size + 3 := by simp
  clear bT bF hbk
  generalize ((w.alloc (.cells #[.string t] 9)).alloc (.cells #[.func (.func 128) #[] #[]] 152)).alloc (.cells #[.pointer none, .slice none 0 0] 161) = w0 at hB0 bT0 bF0 hsz0 ⊢
  rintro e w1 ⟨rfl, hbl, hB1⟩
  have bT1 : Boxed w1 w.heap.size 9 (.string t) := (hB1.block _ (by omega)).trans bT0
  have bF1 : Boxed w1 (w.heap.size + 1) 152 (.func (.func 128) #[] #[]) := (hB1.block _ (by omega)).trans bF0
  have hbf := Lib.BuilderAtF.of hbl
  have hBw1 : Below w.heap.size w w1 := hB0.trans (hB1.mono (by omega))
  have hsz1 : w.heap.size + 3 ≤ w1.heap.size := by have := hB1.size; omega
  clear hbl hB0 bT0 bF0 hsz0 hB1 w0
  gi_wp2_with (refine ⟨trivial, ?_⟩; gi_at_call 125; refine (callsIn_wide.2 (octetsOf_any s _ _)).mono ?_; rintro e w' ⟨rfl, rfl⟩)
  have bS := Boxed.new w1 9 (.string s)
  have bM := Boxed.new (w1.alloc (.cells #[.string s] 9)) 3 (.int .i64 (m : Int))
  rw [World.size_alloc] at bM
  have hB2 : Below w.heap.size w ((w1.alloc (.cells #[.string s] 9)).alloc (.cells #[.int .i64 (m : Int)] 3)) := (hBw1.alloc (by omega) _).alloc (by simp; omega) _
  refine wpIn_rangeFunc_ownG rfl h1 (gf := 132) (lb := #[.pointer (some ⟨w1.heap.size + 1, 0, none⟩), .pointer (some ⟨w1.heap.size, 0, none⟩)]) rfl trivial (enters_of Tryz.func132 (by kernel_rfl) rfl)
    (octets_stops 7 (by omega) (w1.heap.size + 1) w1.heap.size m s (by omega) _ (by simp; omega) bM.cell (bS.alloc _).cell) KeepsBox.tr (KeepsBox.bl (by simp; omega)) (Below.refl _ _) (fun _ => rfl)
    (fun pre W => (Lib.BuilderAtF 161 5 (w.heap.size + 1 + 1) (w.heap.size + 1 + 1) (.pointer (some ⟨w.heap.size + 1 + 1, 0, none⟩)) (xcells t pre) W ∧ Boxed W w.heap.size 9 (.string t) ∧ Boxed W (w.heap.size + 1) 152 (.func (.func 128) #[] #[]) ∧ Boxed W w1.heap.size 9 (.string s)) ∧ Below w.heap.size w W)
    (fun _ _ _ => False)
    (OwnFrom.and (Own.from (fun s A B row hs hg hr => ⟨builder_kept hs.1 hg hr, boxed_kept hs.2.1 hg hr, boxed_kept hs.2.2.1 hg hr, boxed_kept hs.2.2.2 hg hr⟩) _) (ownFrom_below (Nat.le_refl _) (by simp; omega)))
    (fun _ _ _ _ _ hs _ _ => hs)
    ⟨⟨(hbf.alloc _).alloc _, (bT1.alloc _).alloc _, (bF1.alloc _).alloc _, bS.alloc _⟩, hB2⟩
    (fun x => { tmps := #[.string s, .string t, .func (.func 128) #[] #[], undef, .pointer (some ⟨w.heap.size, 0, none⟩), .pointer (some ⟨w.heap.size + 1, 0, none⟩), .string { data := #[] }, .int .i64 (m : Int), .pointer (some ⟨w.heap.size + 1 + 1, 0, none⟩), .int .i64 (x.1.1 : Int), .int .u8 x.1.2,
      .string s, .int .i64 (s.size : Int), .string t, .int .i64 (t.size : Int), .int .i64 (m : Int), .int .i64 (m : Int), .tuple #[], .string s, .int .i64 (m : Int), .func (.func 132) #[] #[.pointer (some ⟨w1.heap.size + 1, 0, none⟩), .pointer (some ⟨w1.heap.size, 0, none⟩)], .int .i64 (x.1.1 : Int), .int .u8 x.1.2, undef, undef, undef, undef, undef, undef, undef, undef], defers := [] }) ?_ ?_ ?_ ?_
  · intro l x W K hK
    simp only [octVals]
    gi_wp2
    exact hK
  · rintro l pre x W ⟨⟨hb, bT, bF, bS⟩, hB⟩ hlen
    have cT := bT.cell
    have cF := bF.cell
    have HS := Lib.hid (xcells_snoc t pre x)
    obtain ⟨⟨k, c⟩, h2, h3, h4⟩ := x
    simp only at h2 h3 h4 HS ⊢
    have Hb := Lib.hid hb
    have HT := Lib.hid bT
    have HF := Lib.hid bF
    have HSb := Lib.hid bS
    have HB := Lib.hid hB
    clear hb bT bF bS hB
    have hl1 : (xcells t pre).length + 1 ≤ 140737488355328 := by rw [xcells_length]; omega
    have hbs : w.heap.size + 1 + 1 ≤ W.drew.heap.size := by have := Hb.out.lt; show _ ≤ W.heap.size; omega
    have hd : 1 ≤ 8 - 1 - 1 := by omega
    have hmx : Tryz.prog.follows .mixedOrders = true := by kernel_rfl
    gi_wp2
    gi_region_with_o (first
      | (refine ⟨trivial, ?_⟩; gi_at_call 133; refine (CallsIn.inRound l (callsIn_wide.2 (octetAt_any t k _))).mono ?_; rintro e w' ⟨rfl, rfl⟩)
      | (refine ⟨trivial, ?_⟩; gi_at_call 128; refine (CallsIn.inRound l (callsIn_wide.2 (xor_any c (byteAt t k) _))).mono ?_; rintro e w' ⟨rfl, rfl⟩)
      | (refine ⟨trivial, ?_⟩; gi_at_call 140; refine (CallsIn.inRound l (callsIn_wide.2 (WriteByte_any (w.heap.size + 1 + 1) (w.heap.size + 1 + 1) (xcells t pre) _ W.drew (.inr Hb.out.drew) hl1 hbs))).mono ?_; rintro e W2 ⟨rfl, hb2, hB2', hok⟩))
    all_goals
      gi_wp2
      have ok : ∀ {B : Nat} {ty : TypeId} {v : Value}, Boxed W B ty v → ty ≠ 5 → B ≠ w.heap.size + 1 + 1 → Boxed W2 B ty v := fun h h5 hne => hok _ _ h (fun e => hne (by cases e; rfl)) (fun c fz e => h5 (by cases e; rfl))
      obtain ⟨_, v0, hblk, _⟩ := Hb.out
      refine ⟨((KeepsOthers.drew W).trans (keeps_of_others (W := W.drew) hblk hB2'.size hok)).from _, (ok HSb.out (by decide) (by omega)).cell.trans HSb.out.cell.symm, ⟨by rw [HS.out]; exact hb2, ok HT.out (by decide) (by omega), ok HF.out (by decide) (by omega), ok HSb.out (by decide) (by omega)⟩, HB.out.drew.trans (hB2'.mono (by omega))⟩
  · rintro D ys W hD rfl ⟨⟨hb, bT, bF, bS⟩, hB⟩ hK
    rw [show m = max s.size t.size from Hm.out, xcells_bytes s t (by omega)] at hb
    have hbs : w.heap.size + 1 + 1 ≤ W.heap.size := by have := hb.lt; omega
    gi_wp2_with fail
    refine ⟨trivial, ?_⟩
    refine (callsIn_wide.2 (Tryz.Builder_String_any_k (w.heap.size + 1 + 1) (w.heap.size + 1 + 1) _ _ (.inr hb) hbs)).mono ?_
    rintro e W2 ⟨rfl, _, hB2', hok⟩
    have hK2 : W2.heap[D]? = some (.deferred (some [])) := hok D _ hK (fun e => by cases e; obtain ⟨_, v0, hblk, _⟩ := hb; rw [hblk] at hK; cases hK) (fun c fz e => by cases e)
    gi_wp2
    refine ⟨by simp, .inl ⟨_, _, rfl, run_takeDeferred hK2, ?_⟩⟩
    exact ⟨_, results_tmp rfl _ _ _, rfl, hB.trans ((hB2'.mono (by omega)).trans (belowK_b (w := w) (Nat.le_refl _) W2 D _ _ (by simp at hD; omega) hK2 rfl rfl))⟩
  · rintro D c pre W _ _ h _
    exact h.elim

end Go.Proofs.YtcdiengbmjkglaaGreat
