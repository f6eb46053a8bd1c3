/- The program's reader of roots: what stands next in a text, as data. Conditions: none. errors.Is where its first argument is nil, or just what is asked. Conditions: none. -/
import Derived.Test.YtliadobopideaaaGreatDoorPKRI
import Derived.Lib.AtoiAll
import Derived.Lib.Strings
import Derived.Lib.SlTrimSet
import Derived.Lib.IndexMore
import Derived.LaidEql
import Derived.Stop.Asserts
import Derived.Test.YtliadobopideaaaGreatDoorChecked
namespace Go.Proofs.YtliadobopideaaaGreatDoor
open Go.RowKit Go.Sort

/-- The figures. -/
def digs : List UInt8 := [48, 49, 50, 51, 52, 53, 54, 55, 56, 57]
def restN (l : List UInt8) : List UInt8 := Lib.trimLeftS l digs
def figN (l : List UInt8) : List UInt8 := l.take (l.length - (restN l).length)
theorem digs_iff (b : UInt8) : digs.contains b = true ↔ 48 ≤ b.toNat ∧ b.toNat ≤ 57 := by
  constructor
  · intro h
    have h2 : b ∈ digs := by simpa using h
    simp only [digs, List.mem_cons, List.not_mem_nil, or_false] at h2
    rcases h2 with rfl | rfl | rfl | rfl | rfl | rfl | rfl | rfl | rfl | rfl <;> decide
  · intro ⟨h1, h2⟩
    obtain ⟨k, hk⟩ : ∃ k, b.toNat = 48 + k := ⟨b.toNat - 48, by omega⟩
    have e : b = UInt8.ofNat (48 + k) := by rw [← hk]; simp
    have : k < 10 := by omega
    subst e
    match k, this with
    | 0, _ => decide
    | 1, _ => decide
    | 2, _ => decide
    | 3, _ => decide
    | 4, _ => decide
    | 5, _ => decide
    | 6, _ => decide
    | 7, _ => decide
    | 8, _ => decide
    | 9, _ => decide
theorem dropWhile_len {α : Type} (p : α → Bool) : ∀ l : List α, ∃ k, l.dropWhile p = l.drop k ∧ k ≤ l.length
  | [] => ⟨0, rfl, Nat.le_refl _⟩
  | x :: r => by
    obtain ⟨k, h, hk⟩ := dropWhile_len p r
    by_cases hx : p x = true
    · exact ⟨k + 1, by simp [hx, h], by simp; omega⟩
    · exact ⟨0, by simp [hx], by simp⟩
theorem restN_le (l : List UInt8) : (restN l).length ≤ l.length := by
  obtain ⟨k, h, hk⟩ := dropWhile_len (digs.contains ·) l
  show (l.dropWhile (digs.contains ·)).length ≤ _
  rw [h, List.length_drop]; omega
theorem fig_rest (l : List UInt8) : figN l ++ restN l = l := by
  obtain ⟨k, h, hk⟩ := dropWhile_len (digs.contains ·) l
  have e : restN l = l.drop k := h
  unfold figN
  rw [e, List.length_drop, show l.length - (l.length - k) = k by omega]
  exact List.take_append_drop _ _
theorem pre_self (a b : List UInt8) : Lib.hasPrefix (a ++ b) a = true := by
  unfold Lib.hasPrefix
  rw [List.isPrefixOf_iff_prefix]
  exact List.prefix_append _ _
theorem trim_self (a b : List UInt8) : Lib.trimPrefix (a ++ b) a = b := by
  unfold Lib.trimPrefix
  rw [if_pos (pre_self a b), List.drop_left]
theorem pre_fig (l : List UInt8) : Lib.hasPrefix l (figN l) = true := by
  have h := pre_self (figN l) (restN l)
  rwa [fig_rest] at h
theorem trim_fig (l : List UInt8) : Lib.trimPrefix l (figN l) = restN l := by
  have h := trim_self (figN l) (restN l)
  rwa [fig_rest] at h
theorem trim_le (l a : List UInt8) : (Lib.trimPrefix l a).length ≤ l.length := by
  unfold Lib.trimPrefix
  split
  · rw [List.length_drop]; omega
  · exact Nat.le_refl _
theorem trim_lt {l a : List UInt8} (h : Lib.hasPrefix l a = true) (ha : a ≠ []) : (Lib.trimPrefix l a).length < l.length := by
  have h1 : a.length ≤ l.length := by
    unfold Lib.hasPrefix at h
    rw [List.isPrefixOf_iff_prefix] at h
    exact h.length_le
  have h2 : 0 < a.length := List.length_pos_iff.2 ha
  unfold Lib.trimPrefix
  rw [if_pos h, List.length_drop]; omega
theorem dz_dig {n : Int} : ∀ b ∈ dz n, digs.contains b = true := by
  intro b hb
  rw [digs_iff]
  unfold dz at hb
  obtain ⟨k, hk, e⟩ := List.getElem_of_mem hb
  obtain ⟨d, hd⟩ := Lib.digit_of_decFrom _ _ _ (dec_from n.toNat) k b (by rw [List.getElem?_eq_getElem hk, e])
  obtain ⟨h1, h2, _⟩ := Lib.digitVal_eq hd
  exact ⟨h1, h2⟩
/-- No figure stands next. -/
def NoFig (l : List UInt8) : Prop := ∀ b r, l = b :: r → digs.contains b = false
theorem rest_dz {n : Int} {t : List UInt8} (h : NoFig t) : restN (dz n ++ t) = t := by
  show (dz n ++ t).dropWhile (digs.contains ·) = t
  have : ∀ l : List UInt8, (∀ b ∈ l, digs.contains b = true) → (l ++ t).dropWhile (digs.contains ·) = t := by
    intro l
    induction l with
    | nil =>
      intro _
      cases t with
      | nil => rfl
      | cons b r => rw [List.nil_append, List.dropWhile_cons, if_neg (by rw [h b r rfl]; decide)]
    | cons x r ih =>
      intro hl
      rw [List.cons_append, List.dropWhile_cons, if_pos (hl x (by simp))]
      exact ih (fun b hb => hl b (List.mem_cons_of_mem _ hb))
  exact this _ dz_dig
theorem fig_dz {n : Int} {t : List UInt8} (h : NoFig t) : figN (dz n ++ t) = dz n := by
  unfold figN
  rw [rest_dz h, List.length_append, show (dz n).length + t.length - t.length = (dz n).length by omega, List.take_left]
theorem dec_mono : ∀ (l : List UInt8) (acc m : Nat), Lib.decFrom acc l = some m → acc ≤ m
  | [], acc, m, h => by simp only [Lib.decFrom] at h; injection h with h; omega
  | c :: r, acc, m, h => by
    simp only [Lib.decFrom] at h
    cases hd : Lib.digitVal c with
    | none => rw [hd] at h; cases h
    | some d =>
      rw [hd] at h
      have := dec_mono r _ m h
      omega
theorem parse_dec : ∀ (l : List UInt8) (acc m : Nat), Lib.decFrom acc l = some m → m < 1844674407370955162 → Lib.parseUint10 acc l = .ok m
  | [], acc, m, h, _ => by simp only [Lib.decFrom] at h; injection h with h; rw [h]; rfl
  | c :: r, acc, m, h, hm => by
    simp only [Lib.decFrom] at h
    cases hd : Lib.digitVal c with
    | none => rw [hd] at h; cases h
    | some d =>
      rw [hd] at h
      have h1 := dec_mono r _ m h
      obtain ⟨h2, h3, h4⟩ := Lib.digitVal_eq hd
      have h5 := parse_dec r _ m h hm
      simp only [Lib.parseUint10]
      rw [if_pos ⟨h2, h3⟩, if_neg (by omega), if_neg (by omega), ← h4]
      exact h5
theorem atoi_dz {n : Int} (h0 : 0 ≤ n) (h1 : n ≤ 1000000000) : Lib.atoiAll (dz n) = .ok n := by
  have hf := dec_from n.toNat
  have hp := parse_dec _ 0 _ hf (by omega)
  have hne := dec_ne n.toNat
  have hd : ∀ b ∈ dz n, digs.contains b = true := dz_dig
  unfold dz at hd ⊢
  cases hl : Lib.decDigits n.toNat with
  | nil => exact absurd hl hne
  | cons c r =>
    rw [hl] at hp hd
    have hc := (digs_iff c).1 (hd c (by simp))
    unfold Lib.atoiAll Lib.parseMag
    simp only
    rw [if_neg (show ¬(c.toNat = 43 ∨ c.toNat = 45) by omega), if_neg (by simp), hp]
    simp only
    rw [if_neg (by omega), if_neg (by omega), if_neg (by omega)]
    congr 1
    omega

/-- What stands ahead of the next newline. -/
def headN (l : List UInt8) : List UInt8 := (Lib.cut l [10]).1
theorem head_pre (l : List UInt8) : Lib.hasPrefix l (headN l) = true := by
  unfold headN Lib.cut
  split
  · show Lib.hasPrefix l (l.take _) = true
    unfold Lib.hasPrefix
    rw [List.isPrefixOf_iff_prefix]
    exact List.take_prefix _ _
  · show Lib.hasPrefix l l = true
    unfold Lib.hasPrefix
    rw [List.isPrefixOf_iff_prefix]
    exact List.prefix_refl _
theorem head_le (l : List UInt8) : (headN l).length ≤ l.length := by
  have h := head_pre l
  unfold Lib.hasPrefix at h
  rw [List.isPrefixOf_iff_prefix] at h
  exact h.length_le

end Go.Proofs.YtliadobopideaaaGreatDoor

namespace Go.Proofs.YtliadobopideaaaGreatDoor
open Go.RowKit Go.Extern

theorem isTypeOf (v : Value) (w : World) : (Extern.ReflectliteType.typeOf #[.iface 202 v]).run Tryz.prog w = .ok (.iface 122 (.agg #[typeHandle Tryz.prog 202])) w := by kernel_rfl
theorem isComparable (w : World) : ((Extern.ReflectliteType.method fun t => do Extern.Rtype.noPackHeld "Comparable" t; pure (.bool (← typeInfo t).comparable)) #[.agg #[typeHandle Tryz.prog 202]]).run Tryz.prog w = .ok (.bool true) w := by kernel_rfl
theorem isMethodComparable (v : Value) (w : World) : (Go.method 337 122 v "Comparable").run Tryz.prog w = .ok (188, v) w := by kernel_rfl
theorem isComp : (Tryz.prog.info? 202).map (·.comparable) = some true := by kernel_rfl
theorem isSize : (Tryz.prog.info? 204).map (·.size) = some 1 := by kernel_rfl

set_option maxRecDepth 100000 in
set_option maxHeartbeats 2000000 in
/-- errors.Is(x, x), x a pointer to an errors.errorString. -/
theorem is_same (a : Addr) (w : World) :
    Calls Tryz.prog 31 #[.iface 202 (.pointer (some a)), .iface 202 (.pointer (some a))] w fun e w' => e = .returned (.bool true) ∧ w = w' := by
  obtain ⟨i, hi, hcmp⟩ := Option.map_eq_some_iff.1 isComp
  obtain ⟨j, hj, hjs⟩ := Option.map_eq_some_iff.1 isSize
  have h8 := @run_callFunc_extern Tryz.prog 62 _ Extern.ReflectliteType.typeOf Tryz.func62 (by kernel_rfl) (by kernel_rfl) (by kernel_rfl) (by kernel_rfl)
  have h32 := @run_callFunc_extern Tryz.prog 188 _ (Extern.ReflectliteType.method fun t => do Extern.Rtype.noPackHeld "Comparable" t; pure (.bool (← typeInfo t).comparable)) Tryz.func188 (by kernel_rfl) (by kernel_rfl) (by kernel_rfl) (by kernel_rfl)
  have tT := isTypeOf
  have cT : ∀ w, (callFunc 188 #[.agg #[typeHandle Tryz.prog 202]]).run Tryz.prog w = .ok (.value (.bool true)) w := fun w => by rw [h32, isComparable]; rfl
  clear h32
  have mR := isMethodComparable
  have heq := run_eql_iface_ptr_same (P := Tryz.prog) w a Tryz.underlying44 Tryz.underlying202 hi hcmp hj
  go_enter Tryz.func31, Tryz.ntmps31
  go_wp2
  refine wp_loop_rounds 1 ?_
  rw [rounds_succ]
  go_wp2
  go_ret
  exact ⟨rfl, rfl⟩

set_option maxRecDepth 100000 in
/-- errors.Is(nil, x). -/
theorem is_nil (b : Addr) (w : World) :
    Calls Tryz.prog 31 #[.nilIface, .iface 202 (.pointer (some b))] w fun e w' => e = .returned (.bool false) ∧ w = w' := by
  have hn := run_eql_iface_nil_left (P := Tryz.prog) w 202 (.pointer (some b)) Tryz.underlying44
  go_enter Tryz.func31, Tryz.ntmps31
  go_wp2
  go_ret
  exact ⟨rfl, rfl⟩

end Go.Proofs.YtliadobopideaaaGreatDoor
