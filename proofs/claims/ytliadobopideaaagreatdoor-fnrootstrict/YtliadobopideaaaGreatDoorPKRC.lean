/- The specification's reader of roots: a text, cut at a byte. Conditions: it has at most a thousand bytes. -/
import Derived.Test.YtliadobopideaaaGreatDoorPKRB
import Derived.Test.YtliadobopideaaaGreatDoorPKW1
namespace Go.Proofs.YtliadobopideaaaGreatDoor
open Go.RowKit Go.Sort

theorem infoTxR : (Tryz.prog.info? 9).map (fun i => (i.zero, i.size, i.bytes)) = some (some (.string ByteArray.empty), 1, 16) := by kernel_rfl
/-- THE PIECES of the first k bytes. -/
def cutT (c : UInt8) (s : ByteArray) (k : Nat) : List ByteArray := (cutL c (s.data.toList.take k)).map tx
theorem growLast_set {ls : List (List UInt8)} (h : ls ≠ []) (x : UInt8) : growLast ls x = ls.set (ls.length - 1) (ls.getD (ls.length - 1) [] ++ [x]) := by
  unfold growLast
  obtain ⟨a, t, rfl⟩ : ∃ a t, ls = a ++ [t] := ⟨ls.dropLast, ls.getLast h, (List.dropLast_concat_getLast h).symm⟩
  simp [List.getD]
theorem cutT_pos (c : UInt8) (s : ByteArray) (k : Nat) : 0 < (cutT c s k).length := by
  unfold cutT
  rw [List.length_map]
  exact List.length_pos_iff.2 (cutL_ne c _)
theorem take_byte {s : ByteArray} {k : Nat} (h : k < s.size) : s.data.toList.take (k + 1) = s.data.toList.take k ++ [s[k]] := by
  have hl : k < s.data.toList.length := by rw [bytes_len]; exact h
  rw [List.take_succ_eq_append_getElem hl]; rfl
theorem cutT_yes {c : UInt8} {s : ByteArray} {k : Nat} (h : k < s.size) (e : s[k] = c) : cutT c s (k + 1) = cutT c s k ++ [⟨#[]⟩] := by
  unfold cutT
  rw [take_byte h, cutL_snoc, if_pos e, List.map_append]; rfl
theorem cutT_no {c : UInt8} {s : ByteArray} {k : Nat} (h : k < s.size) (e : s[k] ≠ c) : cutT c s (k + 1) = (cutT c s k).set ((cutT c s k).length - 1) ((cutT c s k).getD ((cutT c s k).length - 1) ByteArray.empty ++ tx [s[k]]) := by
  unfold cutT
  rw [take_byte h, cutL_snoc, if_neg e, growLast_set (cutL_ne c _)]
  generalize cutL c (s.data.toList.take k) = ls
  rw [List.map_set, List.length_map, ← tx_add]
  congr 2
  rw [List.getD, List.getD, List.getElem?_map]
  cases ls[ls.length - 1]? <;> rfl
theorem cutT_size (c : UInt8) (s : ByteArray) (k j : Nat) : ((cutT c s k).getD j ByteArray.empty).size ≤ s.size := by
  unfold cutT
  rw [List.getD, List.getElem?_map]
  cases h : (cutL c (s.data.toList.take k))[j]? with
  | none => show (0 : Nat) ≤ _; omega
  | some p =>
    show (tx p).size ≤ _
    have := cutL_size c (s.data.toList.take k) p (List.mem_of_getElem? h)
    rw [tx_size]
    rw [List.length_take, bytes_len] at this
    omega
theorem cutT_length (c : UInt8) (s : ByteArray) (k : Nat) : (cutT c s k).length ≤ s.size + 1 := by
  unfold cutT
  rw [List.length_map]
  have := cutL_length c (s.data.toList.take k)
  rw [List.length_take, bytes_len] at this
  omega
/-- All its pieces. -/
def cutA (c : UInt8) (s : ByteArray) : List ByteArray := (cutL c s.data.toList).map tx
theorem cutT_all (c : UInt8) (s : ByteArray) : cutT c s s.size = cutA c s := by
  unfold cutT cutA
  rw [← bytes_len, List.take_length]

set_option linter.unusedSimpArgs false in
set_option maxRecDepth 100000 in
set_option maxHeartbeats 4000000 in
theorem l2Cut_any (s : ByteArray) (c : UInt8) (w : World) (hs : s.size ≤ 1000) :
    Calls Tryz.prog 43 #[.string s, .int .u8 (c.toNat : Int)] w fun e w' => ∃ v, e = .returned v ∧ OwnTx w' w.heap.size v (cutA c s) ∧ Below w.heap.size w w' := by
  obtain ⟨i1, hi1, hy0, hy1, hy2⟩ := info_parts infoTxR
  have hO0 : Hid (OwnTx (w.alloc (.cells #[.string ⟨#[]⟩] 9)) w.heap.size (.slice (some ⟨w.heap.size, 0, none⟩) 1 1) [⟨#[]⟩]) :=
    ⟨rfl, .inr ⟨w.heap.size, 1, #[.string ⟨#[]⟩], rfl, Nat.le_refl _, heap_alloc_new w _, Nat.le_refl _, by simp [maxLen], rfl, rfl⟩⟩
  have hB0 : Hid (Below w.heap.size w (w.alloc (.cells #[.string ⟨#[]⟩] 9))) := (Below.refl _ _).alloc (Nat.le_refl _) _
  go_enter Tryz.func43, Tryz.ntmps43
  go_wp2_with fail
  generalize w.alloc (.cells #[.string ⟨#[]⟩] 9) = w0 at hO0 hB0 ⊢
  go_loopw [5, 6] (fun v i wr => ∃ k : Nat, i = .int .i64 (k : Int) ∧ k ≤ s.size ∧ Hid (OwnTx wr w.heap.size v (cutT c s k)) ∧ Hid (Below w.heap.size w wr)) (fun _ i _ => s.size - (intOf i).toNat)
  case atStart => exact ⟨0, rfl, by omega, hO0, hB0⟩
  case round =>
    obtain ⟨k, rfl, hk, hO, hB⟩ := hrel
    have hnl := cutT_length c s k
    obtain ⟨g, q, cap, rfl, hq⟩ : ∃ g q cap, u5 = .slice (some ⟨g, 0, none⟩) (q + 1) cap ∧ (cutT c s k).length = q + 1 := by
      have hp := cutT_pos c s k
      rcases hO.out.2 with ⟨_, h⟩ | ⟨g, cp, _, e, _⟩
      · omega
      · exact ⟨g, (cutT c s k).length - 1, cp, by rw [e]; congr 1; omega, by omega⟩
    have Hq := Lib.hid hq
    have hws := hB.out.size
    by_cases hlt : k < s.size
    · have HE := byteAt_lt hlt
      by_cases he : s[k] = c
      · have d1 : ((s[k].toNat : Int) == (c.toNat : Int)) = true := by rw [he]; simp
        have HT := Lib.hid (cutT_yes hlt he)
        have hown : wr.ownsRow w.heap.size 9 1 (.slice (some ⟨g, 0, none⟩) (q + 1) cap) (q + 1) (txC (cutT c s k)) := by have h := hO.out; unfold OwnTx at h; rw [hq] at h; exact h
        have hB1 : Below wr.heap.size wr (wr.alloc (.cells #[.string ⟨#[]⟩] 9)) := (Below.refl _ _).alloc (Nat.le_refl _) _
        have hown1 := own_below hown hB1
        have hx1 : q + 1 ≤ 1001 := by omega
        clear he hq HE hown hnl
        go_wp2_with (at_builtin; refine wpList_append_lies _ rfl _ _ 75 rfl w.heap.size 9 i1 _ 1 16 Tryz.underlying75 hi1 hy0 hy1 hy2 rfl (by omega) _ (q + 1) (txC (cutT c s k)) rfl hown1 ⟨_, 0, none⟩ 1 1 [.string ⟨#[]⟩] rfl rfl (news_new wr _ 9 _ rfl) (by simp [Value.oneCell']) (by omega) (by unfold maxLen; omega) (by omega) (by simp; omega) _ rfl ?_; intro g4 cap4 w9 hown4 hgrow4 hat4 hlt4; have HO4 : Hid (OwnTx w9 w.heap.size (.slice (some ⟨g4, 0, none⟩) (q + 1 + 1) cap4) (cutT c s (k + 1))) := (by rw [HT.out]; unfold OwnTx; rw [List.length_append, List.length_singleton, Hq.out]; show w9.ownsRow _ _ _ _ _ (txC (cutT c s k ++ [⟨#[]⟩])); rw [show txC (cutT c s k ++ [⟨#[]⟩]) = txC (cutT c s k) ++ [.string ⟨#[]⟩] by simp [txC]]; exact hown4); have HB4 := Lib.hid ((hB.out.trans (hB1.mono hws)).grown hgrow4 (by have := hB1.size; omega) (fun i e => (hown1.lt i e).1)); clear hown4 hgrow4 hat4 hlt4)
        exact ⟨⟨k + 1, by go_num, by omega, HO4, HB4⟩, by simp [intOf]; omega⟩
      · have d1 : ((s[k].toNat : Int) == (c.toNat : Int)) = false := by
          rw [beq_eq_false_iff_ne]
          intro e
          exact he (UInt8.toNat_inj.1 (by omega))
        have HT := Lib.hid (cutT_no hlt he)
        have hown : wr.ownsRow w.heap.size 9 1 (.slice (some ⟨g, 0, none⟩) (q + 1) cap) (q + 1) (txC (cutT c s k)) := by have h := hO.out; unfold OwnTx at h; rw [hq] at h; exact h
        have hcell := own_cell hown q (by omega)
        rw [txC_get _ q (by omega)] at hcell
        have hgl := (hown.lt g rfl)
        have hsz := cutT_size c s k q
        have hcv := conv_new (s[k].toNat : Int) wr.drew
        have hb8 : (s[k].toNat : Int).toNat = s[k].toNat := by omega
        have hcv2 := conv_in (s[k].toNat : Int) wr.heap.size (wr.alloc (.cells #[.int .u8 (s[k].toNat : Int)] 5)).drew (by show (wr.alloc _).cell? _ = _; rw [World.cell?_alloc_mark]; rfl)
        rw [hb8, UInt8.ofNat_toNat] at hcv hcv2
        have ht1 : (tx [s[k]]).size = 1 := tx_size _
        have HO4 : Hid (OwnTx (((wr.alloc (.cells #[.int .u8 (s[k].toNat : Int)] 5)).drew).setCell ⟨g, q, none⟩ (.string ((cutT c s k).getD q ByteArray.empty ++ tx [s[k]]))) w.heap.size (.slice (some ⟨g, 0, none⟩) (q + 1) cap) (cutT c s (k + 1))) := by
          have h1 := own_below hown (show Below wr.heap.size wr (wr.drew.alloc (.cells #[.int .u8 (s[k].toNat : Int)] 5)) from (Below.refl _ _).drew.alloc (Nat.le_refl _) _)
          have h2 := own_set h1 q (.string ((cutT c s k).getD q ByteArray.empty ++ tx [s[k]]))
          rw [HT.out]
          unfold OwnTx
          rw [List.length_set, hq, Nat.add_sub_cancel]
          have e : txC ((cutT c s k).set q ((cutT c s k).getD q ByteArray.empty ++ tx [s[k]])) = (txC (cutT c s k)).set q (.string ((cutT c s k).getD q ByteArray.empty ++ tx [s[k]])) := by unfold txC; rw [List.map_set]
          rw [e]; exact h2
        have HB4 : Hid (Below w.heap.size w (((wr.alloc (.cells #[.int .u8 (s[k].toNat : Int)] 5)).drew).setCell ⟨g, q, none⟩ (.string ((cutT c s k).getD q ByteArray.empty ++ tx [s[k]])))) := (hB.out.drew.alloc hws _).setCell (p := ⟨g, q, none⟩) hgl.1 _
        have hc0 : wr.drew.cell? ⟨g, q, none⟩ = some (.string ((cutT c s k).getD q ByteArray.empty)) := hcell.1
        have hc1 : (wr.alloc (.cells #[.int .u8 (s[k].toNat : Int)] 5)).drew.cell? ⟨g, q, none⟩ = some (.string ((cutT c s k).getD q ByteArray.empty)) := cell_below ((Below.refl _ wr.drew).alloc (Nat.le_refl _) (.cells #[.int .u8 (s[k].toNat : Int)] 5)) hc0
        have hf1 : (wr.alloc (.cells #[.int .u8 (s[k].toNat : Int)] 5)).drew.frozen? ⟨g, q, none⟩ = false := (own_cell (own_below hown (show Below wr.heap.size wr (wr.drew.alloc (.cells #[.int .u8 (s[k].toNat : Int)] 5)) from (Below.refl _ _).drew.alloc (Nat.le_refl _) _)) q (by omega)).2.1
        have hcq : q + 1 ≤ cap := by
          rcases hown.2 with ⟨e, _⟩ | ⟨_, _, _, e, _, _, h, _⟩
          · cases e
          · cases e; exact h
        have iq : (q : Int) < (q : Int) + 1 := by omega
        have iq0 : (0 : Int) ≤ (q : Int) := by omega
        have hqb : q ≤ 1001 := by omega
        have hw : IntKind.i64.wrap (q : Int) = (q : Int) := by simp [IntKind.wrap, IntKind.bits, IntKind.signed]; omega
        have hwn : ((q : Int)).toNat = q := by omega
        rw [World.setCell_drew, World.setCell_alloc_past (hn := hgl.2)] at HO4 HB4
        generalize (cutT c s k).getD q ByteArray.empty = TL at hc0 hc1 hsz HO4 HB4
        generalize tx [s[k]] = TB at hcv hcv2 ht1 HO4 HB4
        clear he hq HE hown hnl hcell hO hB
        go_wp2_with fail
        refine AnyS.start (S := (fun w' : World => w'.cell? ⟨g, q, none⟩ = some (.string TL))) (L := 17) (by kernel_rfl) ?_
        refine AnyS.take 0 (show _ = some _ from rfl) rfl (by kernel_rfl) (by kernel_rfl) (by kernel_rfl) (by kernel_rfl) (fun _ _ _ h => h) hc0 (by rfl) (fun w' hSw => by obtain s1 := hSw; go_simp; try with_reducible rfl) ?_
        try simp only [Act.put, List.setIfInBounds_toArray, List.set_cons_zero, List.set_cons_succ]
        refine AnyS.take 1 (show _ = some _ from rfl) rfl (by kernel_rfl) (by kernel_rfl) (by kernel_rfl) (by kernel_rfl) (fun _ _ _ h => h) hc0 (by rfl) (fun w' hSw => by obtain s1 := hSw; go_simp; try with_reducible rfl) ?_
        try simp only [Act.put, List.setIfInBounds_toArray, List.set_cons_zero, List.set_cons_succ]
        refine AnyS.take 2 (show _ = some _ from rfl) rfl (by kernel_rfl) (by kernel_rfl) (by kernel_rfl) (by kernel_rfl) (fun _ _ _ h => h) hc0 (by rfl) (fun w' hSw => by obtain s1 := hSw; go_simp; try with_reducible rfl) ?_
        try simp only [Act.put, List.setIfInBounds_toArray, List.set_cons_zero, List.set_cons_succ]
        refine AnyS.take 3 (show _ = some _ from rfl) rfl (by kernel_rfl) (by kernel_rfl) (by kernel_rfl) (by kernel_rfl) (fun _ _ _ h => h) hc0 (by rfl) (fun w' hSw => by obtain s1 := hSw; go_simp; try with_reducible rfl) ?_
        try simp only [Act.put, List.setIfInBounds_toArray, List.set_cons_zero, List.set_cons_succ]
        refine AnyS.take 4 (show _ = some _ from rfl) rfl (by kernel_rfl) (by kernel_rfl) (by kernel_rfl) (by kernel_rfl) (fun _ _ _ h => h) hc0 (by rfl) (fun w' hSw => by obtain s1 := hSw; go_simp; try with_reducible rfl) ?_
        try simp only [Act.put, List.setIfInBounds_toArray, List.set_cons_zero, List.set_cons_succ]
        refine AnyS.take 5 (show _ = some _ from rfl) rfl (by kernel_rfl) (by kernel_rfl) (by kernel_rfl) (by kernel_rfl) (fun _ _ _ h => h) hc0 (by rfl) (fun w' hSw => by obtain s1 := hSw; go_simp; try with_reducible rfl) ?_
        try simp only [Act.put, List.setIfInBounds_toArray, List.set_cons_zero, List.set_cons_succ]
        refine AnyS.take 6 (show _ = some _ from rfl) rfl (by kernel_rfl) (by kernel_rfl) (by kernel_rfl) (by kernel_rfl) (fun _ _ _ h => h) hc0 (by rfl) (fun w' hSw => by obtain s1 := hSw; go_simp; try with_reducible rfl) ?_
        try simp only [Act.put, List.setIfInBounds_toArray, List.set_cons_zero, List.set_cons_succ]
        refine AnyS.take 7 (show _ = some _ from rfl) rfl (by kernel_rfl) (by kernel_rfl) (by kernel_rfl) (by kernel_rfl) (fun _ _ _ h => h) hc0 (by rfl) (fun w' hSw => by obtain s1 := hSw; go_simp; try with_reducible rfl) ?_
        try simp only [Act.put, List.setIfInBounds_toArray, List.set_cons_zero, List.set_cons_succ]
        refine AnyS.take 8 (show _ = some _ from rfl) rfl (by kernel_rfl) (by kernel_rfl) (by kernel_rfl) (by kernel_rfl) (fun _ _ _ h => h) hc0 (by rfl) (fun w' hSw => by obtain s1 := hSw; go_simp; try with_reducible rfl) ?_
        try simp only [Act.put, List.setIfInBounds_toArray, List.set_cons_zero, List.set_cons_succ]
        refine AnyS.take 9 (show _ = some _ from rfl) rfl (by kernel_rfl) (by kernel_rfl) (by kernel_rfl) (by kernel_rfl) (fun _ _ _ h => h) hc0 (by rfl) (fun w' hSw => by obtain s1 := hSw; go_simp; try with_reducible rfl) ?_
        try simp only [Act.put, List.setIfInBounds_toArray, List.set_cons_zero, List.set_cons_succ]
        refine AnyS.take 10 (show _ = some _ from rfl) rfl (by kernel_rfl) (by kernel_rfl) (by kernel_rfl) (by kernel_rfl) (fun _ _ _ h => h) hc0 (by rfl) (fun w' hSw => by obtain s1 := hSw; go_simp; try with_reducible rfl) ?_
        try simp only [Act.put, List.setIfInBounds_toArray, List.set_cons_zero, List.set_cons_succ]
        refine AnyS.take 11 (show _ = some _ from rfl) rfl (by kernel_rfl) (by kernel_rfl) (by kernel_rfl) (by kernel_rfl) (fun _ _ _ h => h) hc0 (by rfl) (fun w' hSw => by obtain s1 := hSw; go_simp; try with_reducible rfl) ?_
        try simp only [Act.put, List.setIfInBounds_toArray, List.set_cons_zero, List.set_cons_succ]
        refine AnyS.take 12 (show _ = some _ from rfl) rfl (by kernel_rfl) (by kernel_rfl) (by kernel_rfl) (by kernel_rfl) (fun _ _ _ h => h) hc0 (by rfl) (fun w' hSw => by obtain s1 := hSw; go_simp; try with_reducible rfl) ?_
        try simp only [Act.put, List.setIfInBounds_toArray, List.set_cons_zero, List.set_cons_succ]
        refine AnyS.one 13 (by kernel_rfl) (show _ = some _ from rfl) (fun K' hK' => ?_)
        go_simp
        refine hK' _ _ ⟨?_, fun _ => hc1⟩
        clear hK' K'
        try simp only [Act.put, List.setIfInBounds_toArray, List.set_cons_zero, List.set_cons_succ]
        refine AnyS.one 14 (by kernel_rfl) (show _ = some _ from rfl) (fun K' hK' => ?_)
        go_simp
        refine hK' _ _ ⟨?_, fun _ => hc1⟩
        clear hK' K'
        try simp only [Act.put, List.setIfInBounds_toArray, List.set_cons_zero, List.set_cons_succ]
        refine AnyS.one 15 (by kernel_rfl) (show _ = some _ from rfl) (fun K' hK' => ?_)
        go_simp; rw [if_neg (show ¬ (9223372036854775807 < TL.size + 1) by omega)]
        refine hK' _ _ ⟨?_, fun _ => hc1⟩
        clear hK' K'
        try simp only [Act.put, List.setIfInBounds_toArray, List.set_cons_zero, List.set_cons_succ]
        refine AnyS.one 16 (by kernel_rfl) (show _ = some _ from rfl) (fun K' hK' => ?_)
        go_simp
        refine hK' _ _ ⟨?_, fun _ => hc1⟩
        clear hK' K'
        try simp only [Act.put, List.setIfInBounds_toArray, List.set_cons_zero, List.set_cons_succ]
        refine AnyS.one 17 (by kernel_rfl) (show _ = some _ from rfl) (fun K' hK' => ?_)
        go_simp
        refine hK' _ _ ⟨AnyS.done (by kernel_rfl) ?_, fun h => absurd rfl h⟩
        clear hK' K'
        try simp only [Act.put, List.setIfInBounds_toArray, List.set_cons_zero, List.set_cons_succ]
        go_wp2
        exact ⟨⟨k + 1, by go_num, by omega, HO4, HB4⟩, by simp [intOf]; omega⟩
    · obtain rfl : k = s.size := by omega
      have hO' := hO.out
      rw [cutT_all] at hO'
      have HO' := Lib.hid hO'
      clear hO' hO hq
      go_wp2
      go_ret
      exact ⟨_, rfl, HO'.out, hB.out⟩

end Go.Proofs.YtliadobopideaaaGreatDoor
