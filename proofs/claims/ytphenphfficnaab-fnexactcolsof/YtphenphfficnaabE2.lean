/- The exact laws' own marks: markText, markStringS, heldStringS. Conditions: at most two million marks. -/
import Derived.Test.YtphenphfficnaabE1
import Derived.Deep.RegionHeld3
namespace Go.Proofs.Ytphenphfficnaab
open Go.RowKit

/-- THE DIGITS, put before a text. -/
def digs (k : Nat) (out : ByteArray) : ByteArray := if _h : k = 0 then out else digs (k / 10) (strOfNums [48 + (k : Int) % 10] ++ out)
termination_by k
decreasing_by omega
theorem digs_zero (out : ByteArray) : digs 0 out = out := by rw [digs]; rfl
theorem digs_pos {k : Nat} (out : ByteArray) (h : 0 < k) : digs k out = digs (k / 10) (strOfNums [48 + (k : Int) % 10] ++ out) := by rw [digs, dif_neg (by omega)]

theorem conv_one (w : World) (z : Int) : (convert 37 9 (.slice (some ⟨w.heap.size, 0, none⟩) 1 1)).run Try.prog (w.alloc (.cells #[.int .u8 z] 5)) = .ok (.string (strOfNums [z])) (w.alloc (.cells #[.int .u8 z] 5)) := by
  refine run_convert_bytes_arg _ 37 5 Try.underlying37 Try.underlying5 w.heap.size 0 1 1 [z] rfl (fun i hi => ?_) 9 Try.underlying9
  have : i = 0 := by simp at hi; omega
  subst this
  exact news_new w (.int .u8 z) 5 w.heap.size rfl 0 _ rfl

/-- A MARK. -/
def markT (k : Nat) : ByteArray := ⟨#[109]⟩ ++ digs k ByteArray.empty

set_option maxRecDepth 100000 in
set_option maxHeartbeats 1000000 in
theorem markText_pos (k0 : Nat) (w : World) (hk0 : 0 < k0) (hb : k0 ≤ 2097152) :
    Calls Try.prog 28 #[.int .i64 (k0 : Int)] w fun e w' => e = .returned (.string (markT k0)) ∧ Below w.heap.size w w' := by
  have d0 : decide ((k0 : Int) ≤ 0) = false := by simp; omega
  go_enter Try.func28, Try.ntmps28
  go_wp2_with fail
  go_loopw [0, 3] (fun kv o wr => ∃ (k : Nat) (out : ByteArray), kv = .int .i64 (k : Int) ∧ o = .string out ∧ out.size + k ≤ k0 ∧ Hid (digs k out = digs k0 ByteArray.empty) ∧ Below w.heap.size w wr) (fun kv _ _ => (intOf kv).toNat)
  case atStart => exact ⟨k0, ByteArray.empty, rfl, rfl, by simp, rfl, Below.refl _ _⟩
  case round =>
    obtain ⟨k, out, rfl, rfl, hs, hd, hB⟩ := hrel
    by_cases hk : 0 < k
    · have HD : Hid (digs (k / 10) (strOfNums [48 + (k : Int) % 10] ++ out) = digs k0 ByteArray.empty) := (digs_pos out hk).symm.trans hd.out
      have hconv := conv_one wr (48 + (k : Int) % 10)
      have hz : (strOfNums [48 + (k : Int) % 10]).size = 1 := by rw [strOfNums_size]; rfl
      have hsz : (strOfNums [48 + (k : Int) % 10] ++ out).size = 1 + out.size := by rw [ByteArray.size_append, hz]
      generalize strOfNums [48 + (k : Int) % 10] = d at HD hconv hz hsz
      have HB2 : Hid (Below w.heap.size w (wr.alloc (.cells #[.int .u8 (48 + (k : Int) % 10)] 5))) := hB.alloc hB.size _
      go_wp2
      exact ⟨⟨k / 10, d ++ out, by go_num, rfl, by omega, HD, HB2.out⟩, by simp [intOf]; omega⟩
    · obtain rfl : k = 0 := by omega
      have HO : Hid (out = digs k0 ByteArray.empty) := (digs_zero out).symm.trans hd.out
      go_wp2
      go_ret
      exact ⟨ret_string (congrArg _ HO.out), hB⟩

/-- MARKS IN A ROW. -/
def marks (k n : Nat) : List ByteArray := (List.range n).map fun j => markT (k + j)
theorem marks_length (k n : Nat) : (marks k n).length = n := by simp [marks]
theorem marks_get (k n j : Nat) (hj : j < n) : (marks k n).getD j ByteArray.empty = markT (k + j) := by
  rw [List.getD, marks, List.getElem?_map, List.getElem?_range hj]; rfl
/-- THE MARKS WRITTEN SO FAR. -/
def Marked (k n i : Nat) (ys : List Value) : Prop := ys.length = n ∧ ∀ j, j < i → ys[j]? = some (.string (markT (k + j)))
theorem Marked.all {k n : Nat} {ys : List Value} (h : Marked k n n ys) : ys = (marks k n).map Value.string := by
  refine List.ext_getElem? fun j => ?_
  by_cases hj : j < n
  · rw [h.2 j hj, List.getElem?_map, marks, List.getElem?_map, List.getElem?_range hj]; rfl
  · rw [List.getElem?_eq_none (by rw [h.1]; omega), List.getElem?_eq_none (by rw [List.length_map, marks_length]; omega)]
theorem Marked.next {k n i : Nat} {ys : List Value} (h : Marked k n i ys) (hi : i < n) : Marked k n (i + 1) (ys.set i (.string (markT (k + i)))) := by
  refine ⟨by rw [List.length_set]; exact h.1, fun j hj => ?_⟩
  by_cases e : j = i
  · subst e; rw [List.getElem?_set_self (by rw [h.1]; exact hi)]
  · rw [List.getElem?_set_ne (by omega)]; exact h.2 j (by omega)

set_option maxRecDepth 100000 in
set_option maxHeartbeats 1000000 in
theorem markStringS_own (base g n cap k : Nat) (ys0 : List Value) (w : World) (hb : base ≤ g) (hbs : base ≤ w.heap.size) (hk : 0 < k) (hkn : k + n ≤ 2097152) (ho : Hid (w.ownsRow base 9 1 (.slice (some ⟨g, 0, none⟩) n cap) n ys0)) :
    Calls Try.prog 13 #[.slice (some ⟨g, 0, none⟩) n cap, .int .i64 (k : Int)] w fun e w' => e = .returned (.int .i64 ((k + n : Nat) : Int)) ∧ Below base w w' ∧ w'.ownsRow base 9 1 (.slice (some ⟨g, 0, none⟩) n cap) n ((marks k n).map Value.string) := by
  go_enter Try.func13, Try.ntmps13
  go_wp2_with fail
  go_loopw [1, 5] (fun kv iv wr => ∃ i : Nat, iv = .int .i64 (i : Int) ∧ i ≤ n ∧ kv = .int .i64 ((k + i : Nat) : Int) ∧ Hid (Below base w wr ∧ ∃ ys, Marked k n i ys ∧ wr.ownsRow base 9 1 (.slice (some ⟨g, 0, none⟩) n cap) n ys)) (fun _ iv _ => n - (intOf iv).toNat)
  case atStart => exact ⟨0, rfl, by omega, rfl, Below.refl _ _, ys0, ⟨by have := ho.out.1; omega, fun j hj => by omega⟩, ho.out⟩
  case round =>
    obtain ⟨i, rfl, hi, rfl, hI⟩ := hrel
    by_cases hlt : i < n
    · have hks : 0 < k + i := by omega
      have hkb : k + i ≤ 2097152 := by omega
      have hnext : k + i + 1 = k + (i + 1) := by omega
      generalize hki : k + i = ki at hks hkb hnext
      have Hki := Lib.hid hki
      clear hki
      go_wp2_with fail
      refine (markText_pos ki _ hks hkb).mono ?_
      rintro e w2 ⟨rfl, hB2⟩
      obtain ⟨hB, ys, hf, ho1⟩ := hI.out
      obtain ⟨hset, hcell, hfr⟩ := owns_set (owns_below ho1 hB2) i hlt (.string (markT (k + i)))
      have HN : Hid (Below base w (w2.setCell ⟨g, i, none⟩ (.string (markT (k + i)))) ∧ ∃ ys, Marked k n (i + 1) ys ∧ (w2.setCell ⟨g, i, none⟩ (.string (markT (k + i)))).ownsRow base 9 1 (.slice (some ⟨g, 0, none⟩) n cap) n ys) :=
        ⟨(hB.trans (hB2.mono (by have := hB.size; omega))).setCell (p := ⟨g, i, none⟩) hb _, _, hf.next hlt, hset⟩
      rw [Hki.out] at HN
      clear hset ho1 hf hI hB hB2
      generalize markT ki = x at HN
      generalize ys.getD i undef = y at hcell
      go_wp2
      exact ⟨⟨i + 1, by go_num, by omega, by rw [← hnext]; go_num, HN⟩, by simp [intOf]; omega⟩
    · obtain rfl : i = n := by omega
      go_wp2
      go_ret
      obtain ⟨hB, ys, hf, ho1⟩ := hI.out
      rw [hf.all] at ho1
      exact ⟨rfl, hB, ho1⟩

set_option maxRecDepth 100000 in
set_option maxHeartbeats 1000000 in
theorem heldStringS_marks (a : Option Addr) (n cap k : Nat) (w : World) (hk : 0 < k) (hkn : k + n ≤ 2097152) (ha : Hid (Strs w a (marks k n))) :
    Calls Try.prog 14 #[.slice a n cap, .int .i64 (k : Int)] w fun e w' => e = .returned (.int .i64 ((k + n : Nat) : Int)) ∧ Below w.heap.size w w' := by
  go_enter Try.func14, Try.ntmps14
  go_wp2_with fail
  go_loopw [1, 5] (fun kv iv wr => ∃ i : Nat, iv = .int .i64 (i : Int) ∧ i ≤ n ∧ kv = .int .i64 ((k + i : Nat) : Int) ∧ Below w.heap.size w wr) (fun _ iv _ => n - (intOf iv).toNat)
  case atStart => exact ⟨0, rfl, by omega, rfl, Below.refl _ _⟩
  case round =>
    obtain ⟨i, rfl, hi, rfl, hB⟩ := hrel
    have hsz := hB.size
    by_cases hlt : i < n
    · obtain ⟨b, off, rfl, hc⟩ := (ha.out.below hB).resolve_left (fun e => by have := marks_length k n; rw [e] at this; simp at this; omega)
      have hck := hc i (by rw [marks_length]; exact hlt)
      rw [marks_get k n i hlt] at hck
      clear hc
      have hks : 0 < k + i := by omega
      have hkb : k + i ≤ 2097152 := by omega
      have hnext : k + i + 1 = k + (i + 1) := by omega
      generalize k + i = ki at hks hkb hnext hck
      have HM := Lib.hid (fun w' => markText_pos ki w' hks hkb)
      generalize markT ki = x at hck HM
      have hbr : b < wr.heap.size := World.block_lt_of_cell? wr _ hck
      have i1 : (i : Int) < (n : Int) := by omega
      have i0 : (0 : Int) ≤ (i : Int) := by omega
      have hqd : w.heap.size ≤ wr.drew.heap.size := by show w.heap.size ≤ wr.heap.size; omega
      have HBd : Hid (Below w.heap.size w wr.drew) := hB.drew
      have Hqd := Lib.hid hqd
      clear hqd
      go_wp2_with fail
      go_region_held3 (fun w' => w'.cell? ⟨b, off + i, none⟩ = some (.string x)) (first | go_keep | exact hc9)
        (first | (go_at_call 28; refine (HM.out _).mono ?_; rintro e w9 ⟨rfl, hB9⟩; have hc9 := (hB9.cell (p := ⟨b, off + i, none⟩) hbr).trans hck; have HB9 : Hid (Below w.heap.size w w9) := HBd.out.trans (hB9.mono Hqd.out); clear hB9))
      all_goals
        go_wp2
        exact ⟨⟨i + 1, by go_num, by omega, by rw [← hnext]; go_num, HB9.out⟩, by simp [intOf]; omega⟩
    · obtain rfl : i = n := by omega
      go_wp2
      go_ret
      exact ⟨rfl, hB⟩

set_option maxRecDepth 100000 in
set_option maxHeartbeats 1000000 in
theorem markStringS_nil (k : Nat) (w : World) :
    Calls Try.prog 13 #[.slice none 0 0, .int .i64 (k : Int)] w fun e w' => e = .returned (.int .i64 (k : Int)) ∧ w = w' := by
  go_enter Try.func13, Try.ntmps13
  go_wp2_with fail
  go_loop [1, 5] (fun kv iv => kv = .int .i64 (k : Int) ∧ iv = .int .i64 0) (fun _ _ => 0)
  case atStart => exact ⟨rfl, rfl⟩
  case round =>
    obtain ⟨rfl, rfl⟩ := hrel
    go_wp2
    go_ret
    exact ⟨rfl, rfl⟩

theorem markStringS_any (base n k : Nat) (v : Value) (ys : List Value) (w : World) (hbs : base ≤ w.heap.size) (hk : 0 < k) (hkn : k + n ≤ 2097152) (ho : w.ownsRow base 9 1 v n ys) :
    Calls Try.prog 13 #[v, .int .i64 (k : Int)] w fun e w' => e = .returned (.int .i64 ((k + n : Nat) : Int)) ∧ Below base w w' ∧ w'.ownsRow base 9 1 v n ((marks k n).map Value.string) := by
  have ho' := ho
  rcases ho.2 with ⟨rfl, hn⟩ | ⟨g, cap, cur, rfl, hb, _⟩
  · subst hn
    refine (markStringS_nil k w).mono ?_
    rintro e w' ⟨rfl, rfl⟩
    exact ⟨rfl, Below.refl _ _, ⟨rfl, .inl ⟨rfl, rfl⟩⟩⟩
  · exact markStringS_own base g n cap k ys w hb hbs hk hkn ho'

end Go.Proofs.Ytphenphfficnaab
