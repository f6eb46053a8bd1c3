/- The program's reader of roots: its box, and its functions take, has and must. Conditions: errNone lies there; the reader's box is no variable's. -/
import Derived.Test.YtliadobopideaaaGreatDoorPKRJ
import Derived.Test.YtliadobopideaaaGreatDoorPKRE
import Derived.Test.YtliadobopideaaaGreatDoorPKShelf
import Derived.LaidLaws
import Derived.Lib.LaidTab
namespace Go.Proofs.YtliadobopideaaaGreatDoor
open Go.RowKit Go.Sort

theorem var_below {w w' : World} {n : String} {cs : Array Value} (h : w.var? Tryz.prog n = some cs) (B : Below w.heap.size w w') : w'.var? Tryz.prog n = some cs := by
  unfold World.var? at h ⊢
  cases hg : Tryz.prog.globalNamed n with
  | none => rw [hg] at h; cases h
  | some g =>
    rw [hg] at h
    simp only [Option.bind_some] at h ⊢
    have hlt : g < w.heap.size := by
      rcases Nat.lt_or_ge g w.heap.size with h' | h'
      · exact h'
      · rw [Array.getElem?_eq_none h'] at h; cases h
    rw [B.block g hlt]
    exact h
/-- THE VARIABLES that the reader looks at, as they are from the beginning on. -/
structure EnvB (w : World) (A : Addr) : Prop where
  err : w.var? Tryz.prog "loop.example/paling/impl.errNone" = some #[.iface 202 (.pointer (some A))]
  syn : ∃ tp p, w.var? Tryz.prog "strconv.ErrSyntax" = some #[.iface tp p]
  rng : ∃ tp p, w.var? Tryz.prog "strconv.ErrRange" = some #[.iface tp p]
  mx : ∃ m, w.cell? ⟨2, 0, none⟩ = some (.int .i64 m)
theorem EnvB.below {w w' : World} {A : Addr} (h : EnvB w A) (B : Below w.heap.size w w') : EnvB w' A := by
  obtain ⟨t1, p1, h1⟩ := h.syn
  obtain ⟨t2, p2, h2⟩ := h.rng
  obtain ⟨m, h3⟩ := h.mx
  exact ⟨var_below h.err B, ⟨t1, p1, var_below h1 B⟩, ⟨t2, p2, var_below h2 B⟩, ⟨m, cell_below B h3⟩⟩
/-- The same, of a world that has grown behind block n. -/
def Env (n : Nat) (w : World) (A : Addr) : Prop := ∃ w0, EnvB w0 A ∧ n = w0.heap.size ∧ Below n w0 w
theorem Env.now {n : Nat} {w : World} {A : Addr} (h : Env n w A) : EnvB w A := by
  obtain ⟨w0, h, rfl, B⟩ := h
  exact h.below B
theorem Env.on {n : Nat} {w w' : World} {A : Addr} (h : Env n w A) (B : Below n w w') : Env n w' A := by
  obtain ⟨w0, h, e, B0⟩ := h
  exact ⟨w0, h, e, B0.trans B⟩
theorem Env.size {n : Nat} {w : World} {A : Addr} (h : Env n w A) : n ≤ w.heap.size := by
  obtain ⟨w0, h, rfl, B0⟩ := h
  exact B0.size
theorem below_of_grown {n R : Nat} {w w' : World} (G : w.grownBy w' (some R)) (h1 : n ≤ R) (h2 : n ≤ w.heap.size) : Below n w w' :=
  ⟨G.os, G.tape, G.output, G.size, fun k hk => G.block k (by omega) (fun e => by cases e; omega)⟩
theorem Env.cell {n : Nat} {w : World} {A : Addr} (h : Env n w A) : w.cell? ⟨0, 0, none⟩ = some (.iface 202 (.pointer (some A))) := by
  have h0 := World.var?_cell (show Tryz.prog.globalNamed "loop.example/paling/impl.errNone" = some 0 by kernel_rfl) h.now.err 0
  simpa using h0

/-- What a fault is, or nil. -/
def errV (A : Addr) (bad : Bool) : Value := if bad then .iface 202 (.pointer (some A)) else .nilIface
/-- THE READER's BOX. -/
def RdAt (w : World) (R : Nat) (l : List UInt8) (A : Addr) (bad : Bool) : Prop := Blk w R #[.string (tx l), errV A bad] 60
theorem RdAt.below {w w' : World} {R : Nat} {l : List UInt8} {A : Addr} {bad : Bool} (h : RdAt w R l A bad) (B : Below w.heap.size w w') : RdAt w' R l A bad := Blk.below h B (Blk.lt h)
theorem grown_trans {w w1 w2 : World} {r : Option Nat} (h : w.grownBy w1 r) (k : w1.grownBy w2 r) : w.grownBy w2 r :=
  ⟨k.os.trans h.os, k.tape.trans h.tape, k.output.trans h.output, Nat.le_trans h.size k.size, fun j hj hne => (k.block j (Nat.lt_of_lt_of_le hj h.size) hne).trans (h.block j hj hne)⟩
theorem grown_below' {w w' : World} (r : Option Nat) (B : Below w.heap.size w w') : w.grownBy w' r := ⟨B.os, B.tape, B.output, B.size, fun k hk _ => B.block k hk⟩

/-- What a step of the reader leaves. -/
structure Rdd (n R : Nat) (A : Addr) (w : World) (l : List UInt8) (bad : Bool) (w' : World) : Prop where
  box : RdAt w' R l A bad
  grown : w.grownBy w' (some R)
theorem Rdd.env {n R : Nat} {A : Addr} {w w' : World} {l : List UInt8} {bad : Bool} (h : Rdd n R A w l bad w') (hE : Env n w A) (hR : n ≤ R) : Env n w' A := hE.on (below_of_grown h.grown hR hE.size)

set_option maxRecDepth 100000 in
set_option maxHeartbeats 2000000 in
/-- take: what stands next is taken, or nothing, and errNone. -/
theorem take_any (n R : Nat) (A : Addr) (l : List UInt8) (bad : Bool) (t : ByteArray) (w : World) (hE : Env n w A) (hb : RdAt w R l A bad) :
    Calls Tryz.prog 90 #[.pointer (some ⟨R, 0, none⟩), .string t] w fun e w' => e = .returned (errV A (!Lib.hasPrefix l t.data.toList)) ∧ Rdd n R A w (Lib.trimPrefix l t.data.toList) bad w' := by
  have hC := Lib.hid (fun W => Tryz.strings_CutPrefix (tx l) t W)
  have c0 : w.cell? ⟨R, 0, none⟩ = some (.string (tx l)) := Blk.cell hb 0
  have f0 := Blk.frozen hb 0
  have hg := hE.cell
  have HB := Lib.hid hb
  have HG := Lib.hid (grown_set w R 0 (.string (tx (Lib.trimPrefix l t.data.toList))))
  have HS := Lib.hid (Blk.set hb 0 (.string (tx (Lib.trimPrefix l t.data.toList))))
  have hT : Hid ((⟨(Lib.trimPrefix (tx l).data.toList t.data.toList).toArray⟩ : ByteArray) = tx (Lib.trimPrefix l t.data.toList)) := rfl
  have hH : Hid (Lib.hasPrefix (tx l).data.toList t.data.toList = Lib.hasPrefix l t.data.toList) := rfl
  have hN := Lib.hid (show Lib.hasPrefix l t.data.toList = false → Lib.trimPrefix l t.data.toList = l from fun h => by unfold Lib.trimPrefix; rw [if_neg (by rw [h]; decide)])
  generalize (⟨(Lib.trimPrefix (tx l).data.toList t.data.toList).toArray⟩ : ByteArray) = T1 at hC hT
  generalize Lib.hasPrefix (tx l).data.toList t.data.toList = P1 at hC hH
  have hT' := hT.out
  have hH' := hH.out
  subst hT'
  subst hH'
  clear hT hH hE hb
  generalize Lib.trimPrefix l t.data.toList = r at hC HG HS hN ⊢
  generalize hTT : tx r = T at hC HG HS
  have HTT := Lib.hid hTT
  clear hTT
  generalize Lib.hasPrefix l t.data.toList = p at hC hN ⊢
  cases p with
  | true =>
    go_enter Tryz.func90, Tryz.ntmps90
    go_wp2_with fail
    refine (hC.out _).mono ?_
    rintro e w1 ⟨rfl, rfl⟩
    go_wp2
    go_ret
    exact ⟨rfl, by unfold RdAt; rw [HTT.out]; exact HS.out, HG.out⟩
  | false =>
    go_enter Tryz.func90, Tryz.ntmps90
    go_wp2_with fail
    refine (hC.out _).mono ?_
    rintro e w1 ⟨rfl, rfl⟩
    go_wp2
    go_ret
    exact ⟨rfl, by rw [hN.out trivial]; exact HB.out, grown_below' _ (Below.refl _ _)⟩

set_option maxRecDepth 100000 in
set_option maxHeartbeats 2000000 in
/-- must: the same, and what is wrong is kept. -/
theorem must_any (n R : Nat) (A : Addr) (l : List UInt8) (bad : Bool) (t : ByteArray) (w : World) (hE : Env n w A) (hb : RdAt w R l A bad) :
    Calls Tryz.prog 58 #[.pointer (some ⟨R, 0, none⟩), .string t] w fun e w' => e = .returned (.tuple #[]) ∧ Rdd n R A w (Lib.trimPrefix l t.data.toList) (bad || !Lib.hasPrefix l t.data.toList) w' := by
  have hT := Lib.hid (take_any n R A l bad t w hE hb)
  generalize Lib.trimPrefix l t.data.toList = r at hT ⊢
  generalize Lib.hasPrefix l t.data.toList = p at hT ⊢
  cases p with
  | true =>
    go_enter Tryz.func58, Tryz.ntmps58
    go_wp2_with fail
    refine hT.out.mono ?_
    rintro e w1 ⟨rfl, h1⟩
    have H1 := Lib.hid h1
    clear h1
    simp only [errV, Bool.not_true, Bool.false_eq_true, if_false]
    go_wp2
    refine ⟨rfl, .tuple #[], by simp [results, Tryz.results58, go_sem], rfl, ?_⟩
    rw [Bool.not_true, Bool.or_false]
    exact H1.out
  | false =>
    go_enter Tryz.func58, Tryz.ntmps58
    go_wp2_with fail
    refine hT.out.mono ?_
    rintro e w1 ⟨rfl, h1⟩
    have c1 := Blk.cell h1.box 1
    have f1 := Blk.frozen h1.box 1
    have HS := Lib.hid (Blk.set h1.box 1 (errV A true))
    have HG := Lib.hid (grown_trans h1.grown (grown_set w1 R 1 (errV A true)))
    clear h1
    simp only [errV, Bool.not_false, if_true] at HS HG ⊢
    go_wp2
    refine ⟨rfl, .tuple #[], by simp [results, Tryz.results58, go_sem], rfl, ?_⟩
    exact ⟨by rw [Bool.not_false, Bool.or_true]; exact HS.out, HG.out⟩

set_option linter.unusedSimpArgs false in
set_option linter.unusedVariables false in
set_option maxRecDepth 100000 in
set_option maxHeartbeats 2000000 in
/-- has: whether it stands next. -/
theorem has_any (n R : Nat) (A : Addr) (l : List UInt8) (bad : Bool) (t : ByteArray) (w : World) (hn : n ≤ R) (hE : Env n w A) (hb : RdAt w R l A bad) :
    Calls Tryz.prog 60 #[.pointer (some ⟨R, 0, none⟩), .string t] w fun e w' => e = .returned (.bool (Lib.hasPrefix l t.data.toList)) ∧ Rdd n R A w (Lib.trimPrefix l t.data.toList) bad w' := by
  have hE' : Env n w.drew A := hE.on ((Below.refl _ _).drew)
  have hb' : RdAt w.drew R l A bad := hb
  have hT := Lib.hid (take_any n R A l bad t w.drew hE' hb')
  have hI := Lib.hid (fun W => is_same A W)
  have hJ := Lib.hid (fun W => is_nil A W)
  have hg := hE'.cell
  generalize Lib.trimPrefix l t.data.toList = r at hT ⊢
  generalize Lib.hasPrefix l t.data.toList = p at hT ⊢
  have hG0 : w.grownBy w.drew (some R) := ⟨rfl, rfl, rfl, Nat.le_refl _, fun _ _ _ => rfl⟩
  have HG0 := Lib.hid hG0
  have HE := Lib.hid hE'
  clear hG0 hE hE' hb hb'
  cases p with
  | true =>
    go_enter Tryz.func60, Tryz.ntmps60
    go_wp2_with fail
    refine AnyT.start (S := (fun w' : World => w'.cell? ⟨0, 0, none⟩ = some (.iface 202 (.pointer (some A))))) (by kernel_rfl) ?_
    refine AnyT.take 0 (show _ = some _ from rfl) rfl (by kernel_rfl) (by kernel_rfl) (by kernel_rfl) (fun _ _ _ h => h) hg (by first | kernel_rfl | rfl) (fun w' hSw => by go_simp; try with_reducible rfl) ?_
    try simp only [Act.put, List.setIfInBounds_toArray, List.set_cons_zero, List.set_cons_succ]
    refine AnyT.take 1 (show _ = some _ from rfl) rfl (by kernel_rfl) (by kernel_rfl) (by kernel_rfl) (fun _ _ _ h => h) hg (by first | kernel_rfl | rfl) (fun w' hSw => by go_simp; try with_reducible rfl) ?_
    try simp only [Act.put, List.setIfInBounds_toArray, List.set_cons_zero, List.set_cons_succ]
    refine AnyT.take 3 (show _ = some _ from rfl) rfl (by kernel_rfl) (by kernel_rfl) (by kernel_rfl) (fun _ _ _ h => h) hg (by first | kernel_rfl | rfl) (fun w' hSw => by go_simp; try with_reducible rfl) ?_
    try simp only [Act.put, List.setIfInBounds_toArray, List.set_cons_zero, List.set_cons_succ]
    refine AnyT.one 2 (by kernel_rfl) (show _ = some _ from rfl) (fun K' hK' => ?_)
    go_simp
    go_at_call 90
    refine hT.out.mono ?_
    rintro e w1 ⟨rfl, h1⟩
    have H1 := Lib.hid h1
    have hg1 := (h1.env HE.out hn).cell
    clear h1
    simp only [errV, Bool.not_true, Bool.not_false, Bool.false_eq_true, if_false, if_true]
    go_simp
    refine hK' _ _ ⟨?_, hg1⟩
    clear hK' K'
    try simp only [Act.put, List.setIfInBounds_toArray, List.set_cons_zero, List.set_cons_succ]
    refine AnyT.one 4 (by kernel_rfl) (show _ = some _ from rfl) (fun K' hK' => ?_)
    go_simp
    go_at_call 31
    refine (hJ.out _).mono ?_
    rintro e w2 ⟨rfl, rfl⟩
    go_simp
    refine hK' _ _ ⟨?_, hg1⟩
    clear hK' K'
    try simp only [Act.put, List.setIfInBounds_toArray, List.set_cons_zero, List.set_cons_succ]
    refine AnyT.one 5 (by kernel_rfl) (show _ = some _ from rfl) (fun K' hK' => ?_)
    go_simp
    refine hK' _ _ ⟨?_, hg1⟩
    clear hK' K'
    try simp only [Act.put, List.setIfInBounds_toArray, List.set_cons_zero, List.set_cons_succ]
    refine AnyT.one 6 (by kernel_rfl) (show _ = some _ from rfl) (fun K' hK' => ?_)
    go_simp
    refine hK' _ _ ⟨AnyT.done (by kernel_rfl) ?_, hg1⟩
    clear hK' K'
    try simp only [Act.put, List.setIfInBounds_toArray, List.set_cons_zero, List.set_cons_succ]
    go_wp2
    go_ret
    exact ⟨rfl, H1.out.box, grown_trans HG0.out H1.out.grown⟩
  | false =>
    go_enter Tryz.func60, Tryz.ntmps60
    go_wp2_with fail
    refine AnyT.start (S := (fun w' : World => w'.cell? ⟨0, 0, none⟩ = some (.iface 202 (.pointer (some A))))) (by kernel_rfl) ?_
    refine AnyT.take 0 (show _ = some _ from rfl) rfl (by kernel_rfl) (by kernel_rfl) (by kernel_rfl) (fun _ _ _ h => h) hg (by first | kernel_rfl | rfl) (fun w' hSw => by go_simp; try with_reducible rfl) ?_
    try simp only [Act.put, List.setIfInBounds_toArray, List.set_cons_zero, List.set_cons_succ]
    refine AnyT.take 1 (show _ = some _ from rfl) rfl (by kernel_rfl) (by kernel_rfl) (by kernel_rfl) (fun _ _ _ h => h) hg (by first | kernel_rfl | rfl) (fun w' hSw => by go_simp; try with_reducible rfl) ?_
    try simp only [Act.put, List.setIfInBounds_toArray, List.set_cons_zero, List.set_cons_succ]
    refine AnyT.take 3 (show _ = some _ from rfl) rfl (by kernel_rfl) (by kernel_rfl) (by kernel_rfl) (fun _ _ _ h => h) hg (by first | kernel_rfl | rfl) (fun w' hSw => by go_simp; try with_reducible rfl) ?_
    try simp only [Act.put, List.setIfInBounds_toArray, List.set_cons_zero, List.set_cons_succ]
    refine AnyT.one 2 (by kernel_rfl) (show _ = some _ from rfl) (fun K' hK' => ?_)
    go_simp
    go_at_call 90
    refine hT.out.mono ?_
    rintro e w1 ⟨rfl, h1⟩
    have H1 := Lib.hid h1
    have hg1 := (h1.env HE.out hn).cell
    clear h1
    simp only [errV, Bool.not_true, Bool.not_false, Bool.false_eq_true, if_false, if_true]
    go_simp
    refine hK' _ _ ⟨?_, hg1⟩
    clear hK' K'
    try simp only [Act.put, List.setIfInBounds_toArray, List.set_cons_zero, List.set_cons_succ]
    refine AnyT.one 4 (by kernel_rfl) (show _ = some _ from rfl) (fun K' hK' => ?_)
    go_simp
    go_at_call 31
    refine (hI.out _).mono ?_
    rintro e w2 ⟨rfl, rfl⟩
    go_simp
    refine hK' _ _ ⟨?_, hg1⟩
    clear hK' K'
    try simp only [Act.put, List.setIfInBounds_toArray, List.set_cons_zero, List.set_cons_succ]
    refine AnyT.one 5 (by kernel_rfl) (show _ = some _ from rfl) (fun K' hK' => ?_)
    go_simp
    refine hK' _ _ ⟨?_, hg1⟩
    clear hK' K'
    try simp only [Act.put, List.setIfInBounds_toArray, List.set_cons_zero, List.set_cons_succ]
    refine AnyT.one 6 (by kernel_rfl) (show _ = some _ from rfl) (fun K' hK' => ?_)
    go_simp
    refine hK' _ _ ⟨AnyT.done (by kernel_rfl) ?_, hg1⟩
    clear hK' K'
    try simp only [Act.put, List.setIfInBounds_toArray, List.set_cons_zero, List.set_cons_succ]
    go_wp2
    go_ret
    exact ⟨rfl, H1.out.box, grown_trans HG0.out H1.out.grown⟩

end Go.Proofs.YtliadobopideaaaGreatDoor
