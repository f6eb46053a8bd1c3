/- Reading a root's text, as data: what the specification's reader makes of a text, and that it makes the root of its own text. Conditions: the root is ok. -/
import Derived.Test.YtliadobopideaaaGreatDoorPKMI
import Derived.Lib.Atoi
namespace Go.Proofs.YtliadobopideaaaGreatDoor
open Go.RowKit Go.Sort

/-! ### cutting -/
def consHd (x : UInt8) : List (List UInt8) → List (List UInt8)
  | [] => [[x]]
  | h :: t => (x :: h) :: t
/-- A TEXT, CUT AT A BYTE. -/
def cutL (c : UInt8) : List UInt8 → List (List UInt8)
  | [] => [[]]
  | x :: r => if x = c then [] :: cutL c r else consHd x (cutL c r)
def growLast (ls : List (List UInt8)) (x : UInt8) : List (List UInt8) := ls.dropLast ++ [(ls.getLast?.getD []) ++ [x]]
theorem consHd_ne (x : UInt8) (ls : List (List UInt8)) : consHd x ls ≠ [] := by cases ls <;> simp [consHd]
theorem cutL_ne (c : UInt8) (l : List UInt8) : cutL c l ≠ [] := by
  cases l with
  | nil => simp [cutL]
  | cons x r =>
    rw [cutL]
    split
    · simp
    · exact consHd_ne _ _
theorem consHd_snoc (x : UInt8) {ls : List (List UInt8)} (h : ls ≠ []) (e : List UInt8) : consHd x (ls ++ [e]) = consHd x ls ++ [e] := by
  cases ls with
  | nil => exact absurd rfl h
  | cons a t => rfl
theorem growLast_cons (a : List UInt8) {ls : List (List UInt8)} (h : ls ≠ []) (x : UInt8) : growLast (a :: ls) x = a :: growLast ls x := by
  cases ls with
  | nil => exact absurd rfl h
  | cons b t => simp [growLast, List.dropLast]
theorem consHd_grow (y : UInt8) {ls : List (List UInt8)} (h : ls ≠ []) (x : UInt8) : consHd y (growLast ls x) = growLast (consHd y ls) x := by
  cases ls with
  | nil => exact absurd rfl h
  | cons a t =>
    cases t with
    | nil => simp [growLast, consHd]
    | cons b t => rw [growLast_cons a (by simp)]; show (y :: a) :: _ = growLast ((y :: a) :: b :: t) x; rw [growLast_cons (y :: a) (by simp)]
theorem cutL_snoc (c : UInt8) (l : List UInt8) (x : UInt8) : cutL c (l ++ [x]) = if x = c then cutL c l ++ [[]] else growLast (cutL c l) x := by
  induction l with
  | nil =>
    show cutL c [x] = _
    by_cases h : x = c
    · rw [if_pos h]; simp [cutL, h]
    · rw [if_neg h]; simp [cutL, growLast, consHd, h]
  | cons y r ih =>
    show cutL c (y :: (r ++ [x])) = _
    rw [cutL, ih, cutL]
    by_cases hx : x = c
    · rw [if_pos hx, if_pos hx]
      split
      · rfl
      · rw [consHd_snoc _ (cutL_ne c r)]
    · rw [if_neg hx, if_neg hx]
      split
      · rw [growLast_cons _ (cutL_ne c r)]
      · rw [consHd_grow _ (cutL_ne c r)]
theorem cutL_at {c : UInt8} {a : List UInt8} (h : c ∉ a) (b : List UInt8) : cutL c (a ++ c :: b) = a :: cutL c b := by
  induction a with
  | nil => show cutL c (c :: b) = _; rw [cutL, if_pos rfl]
  | cons x r ih =>
    have hx : x ≠ c := fun e => h (by rw [e]; simp)
    show cutL c (x :: (r ++ c :: b)) = _
    rw [cutL, if_neg hx, ih (fun k => h (by simp [k]))]; rfl
theorem cutL_one {c : UInt8} {a : List UInt8} (h : c ∉ a) : cutL c a = [a] := by
  induction a with
  | nil => rfl
  | cons x r ih =>
    have hx : x ≠ c := fun e => h (by rw [e]; simp)
    rw [cutL, if_neg hx, ih (fun k => h (by simp [k]))]; rfl
theorem growLast_length {ls : List (List UInt8)} (h : ls ≠ []) (x : UInt8) : (growLast ls x).length = ls.length := by
  unfold growLast
  have : 0 < ls.length := List.length_pos_iff.2 h
  simp; omega
theorem cutL_length (c : UInt8) (l : List UInt8) : (cutL c l).length ≤ l.length + 1 := by
  induction l with
  | nil => simp [cutL]
  | cons x r ih =>
    rw [cutL]
    split
    · simp; omega
    · have := cutL_ne c r
      cases h : cutL c r with
      | nil => exact absurd h this
      | cons a t => rw [h] at ih; simp [consHd] at ih ⊢; omega
/-- Each piece is no longer than the whole. -/
theorem cutL_size (c : UInt8) (l : List UInt8) : ∀ p ∈ cutL c l, p.length ≤ l.length := by
  induction l with
  | nil => intro p hp; simp [cutL] at hp; subst hp; simp
  | cons x r ih =>
    intro p hp
    rw [cutL] at hp
    split at hp
    · rcases List.mem_cons.1 hp with rfl | h
      · simp
      · have := ih p h; simp; omega
    · cases h : cutL c r with
      | nil => exact absurd h (cutL_ne c r)
      | cons a t =>
        rw [h] at hp ih
        rcases List.mem_cons.1 hp with rfl | h
        · have := ih a (by simp); simp; omega
        · have := ih p (by simp [h]); simp; omega

/-! ### numbers -/
theorem decFrom_snoc : ∀ (l : List UInt8) (acc : Nat) (b : UInt8), Lib.decFrom acc (l ++ [b]) = (Lib.decFrom acc l).bind fun m => (Lib.digitVal b).map fun d => m * 10 + d
  | [], acc, b => by
    show Lib.decFrom acc [b] = _
    simp only [Lib.decFrom]
    cases Lib.digitVal b <;> rfl
  | x :: r, acc, b => by
    show Lib.decFrom acc (x :: (r ++ [b])) = _
    simp only [Lib.decFrom]
    cases Lib.digitVal x with
    | none => rfl
    | some d => exact decFrom_snoc r _ b
theorem digit_of (k : Nat) (h : k < 10) : Lib.digitVal (UInt8.ofNat (48 + k)) = some k := by
  unfold Lib.digitVal
  rw [ofNat_dig h, if_pos ⟨by omega, by omega⟩]
  congr 1; omega
theorem dec_from : ∀ (n : Nat), Lib.decFrom 0 (Lib.decDigits n) = some n := by
  intro n
  induction n using Nat.strongRecOn with
  | ind n ih =>
    by_cases h : n < 10
    · rw [dec_small h]
      simp only [Lib.decFrom, digit_of n h]
      congr 1; omega
    · rw [dec_big h, decFrom_snoc, ih (n / 10) (by omega)]
      simp only [digit_of (n % 10) (by omega), Option.bind_some, Option.map_some]
      congr 1; omega
/-- A NUMBER; -1, if it is none. -/
def numL (l : List UInt8) : Int := if 1 ≤ l.length ∧ l.length ≤ 12 then (match Lib.decFrom 0 l with | some n => (n : Int) | none => -1) else -1
theorem numL_dz {n : Int} (h0 : 0 ≤ n) (h1 : n ≤ 1000000000) : numL (dz n) = n := by
  unfold numL dz
  have hl := dec_length 9 n.toNat (by omega)
  have hn : 1 ≤ (Lib.decDigits n.toNat).length := by
    have := dec_ne n.toNat
    cases h : Lib.decDigits n.toNat with
    | nil => exact absurd h this
    | cons a t => simp
  rw [if_pos ⟨hn, by omega⟩, dec_from]
  show ((n.toNat : Nat) : Int) = n
  omega

/-! ### pointers -/
def placeL (w : List UInt8) : PlD := (numL ((cutL 46 w).headD []), if (cutL 46 w).length = 2 then numL ((cutL 46 w).getD 1 []) else -1)
/-- THE POINTER OF A LINE. -/
def ptrL (l : List UInt8) : PtrD := if (cutL 32 l).headD [] ≠ [112, 116, 114] ∨ (cutL 32 l).length < 3 then ⟨0, 0, []⟩ else ⟨numL ((cutL 32 l).getD 1 []), numL ((cutL 32 l).getD 2 []), ((cutL 32 l).drop 3).map placeL⟩
theorem placeL_of {q : PlD} (h1 : 0 ≤ q.1 ∧ q.1 ≤ 1000000000) (h2 : 0 ≤ q.2 ∧ q.2 ≤ 1000000000) : placeL (dz q.1 ++ 46 :: dz q.2) = q := by
  unfold placeL
  rw [cutL_at (dz_no q.1 (by decide)), cutL_one (dz_no q.2 (by decide))]
  simp only [List.headD, List.length_cons, List.length_nil, List.getD_cons_zero, List.getD_cons_succ]
  rw [numL_dz h1.1 h1.2, if_pos trivial, numL_dz h2.1 h2.2]
/-- The words behind the first ones. -/
theorem cut_places : ∀ (ps : List PlD) (a : List UInt8), (32 : UInt8) ∉ a → cutL 32 (a ++ placesTx ps) = a :: ps.map fun q => dz q.1 ++ 46 :: dz q.2
  | [], a, h => by simp only [placesTx, List.flatMap_nil, List.append_nil, List.map_nil]; exact cutL_one h
  | q :: r, a, h => by
    have e : a ++ placesTx (q :: r) = a ++ 32 :: ((dz q.1 ++ 46 :: dz q.2) ++ placesTx r) := by simp [placesTx, placeTx, List.flatMap_cons]
    rw [e, cutL_at h, cut_places r _ ?_]; · rfl
    intro k
    simp only [List.mem_append, List.mem_cons] at k
    rcases k with k | k | k
    · exact dz_no q.1 (by decide) k
    · exact absurd k (by decide)
    · exact dz_no q.2 (by decide) k
theorem ptrL_none {l : List UInt8} (h : l = [110, 111, 110, 101]) : ptrL l = ⟨0, 0, []⟩ := by
  subst h
  unfold ptrL
  rw [if_pos (.inl (by decide))]

/-- A pointer's line, without its end. -/
def lineP (p : PtrD) : List UInt8 := if p.size = 0 then [110, 111, 110, 101] else [112, 116, 114] ++ 32 :: (dz p.size ++ 32 :: (dz p.sum ++ placesTx p.places))
theorem ptrTx_line (p : PtrD) : ptrTx p = lineP p ++ [10] := by
  unfold ptrTx lineP
  split
  · rfl
  · simp
theorem mem_places {ps : List PlD} {c : UInt8} (h1 : c.toNat < 48) (h2 : c ≠ 32) (h3 : c ≠ 46) : c ∉ placesTx ps := by
  intro k
  obtain ⟨q, _, hq⟩ := List.mem_flatMap.1 k
  simp only [placeTx, List.mem_append, List.mem_singleton] at hq
  rcases hq with ((hq | hq) | hq) | hq
  · exact h2 hq
  · exact dz_no _ h1 hq
  · exact h3 hq
  · exact dz_no _ h1 hq
theorem line_no (p : PtrD) : (10 : UInt8) ∉ lineP p := by
  unfold lineP
  split
  · decide
  · intro k
    simp only [List.mem_append, List.mem_cons, List.not_mem_nil, or_false] at k
    rcases k with (k | k | k) | k | k | k | k | k
    · exact absurd k (by decide)
    · exact absurd k (by decide)
    · exact absurd k (by decide)
    · exact absurd k (by decide)
    · exact dz_no _ (by decide) k
    · exact absurd k (by decide)
    · exact dz_no _ (by decide) k
    · exact mem_places (by decide) (by decide) (by decide) k
theorem told_places {n : Int} (hn : Pool n) {p : PtrD} (h : Told n p) : ∀ q ∈ p.places, (0 ≤ q.1 ∧ q.1 ≤ 1000000000) ∧ 0 ≤ q.2 ∧ q.2 ≤ 1000000000 := by
  intro q hq
  obtain ⟨j, hj, e⟩ := List.getElem_of_mem hq
  have := (h.2.2.2.2.2 j hj).1
  rw [List.getD, List.getElem?_eq_getElem hj] at this
  simp only [Option.getD_some, e] at this
  have := hn.2
  omega
theorem map_id_of {α : Type} {f : α → α} : ∀ {l : List α}, (∀ x ∈ l, f x = x) → l.map f = l
  | [], _ => rfl
  | x :: r, h => by rw [List.map_cons, h x (by simp), map_id_of (fun y hy => h y (List.mem_cons_of_mem _ hy))]
theorem ptrL_line {n : Int} (hn : Pool n) {p : PtrD} (h : PtrFine n p) : ptrL (lineP p) = p := by
  rcases h with ⟨h1, h2, h3⟩ | h
  · obtain ⟨z, s, ps⟩ := p
    simp only at h1 h2 h3
    subst h1; subst h2; subst h3
    exact ptrL_none (by simp [lineP])
  · have h1 := h.1
    have hz : p.size ≤ 1000000000 := by have := h.2.1; have := hn.2; omega
    have hc : cutL 32 (lineP p) = [112, 116, 114] :: dz p.size :: dz p.sum :: p.places.map fun q => dz q.1 ++ 46 :: dz q.2 := by
      unfold lineP
      rw [if_neg (by omega), cutL_at (by decide), cutL_at (dz_no _ (by decide)), cut_places _ _ (dz_no _ (by decide))]
    unfold ptrL
    rw [hc, if_neg (by simp)]
    simp only [List.getD_cons_succ, List.getD_cons_zero, List.drop_succ_cons, List.drop_zero, List.map_map]
    rw [numL_dz (by omega) hz, numL_dz h.2.2.1 h.2.2.2.1]
    rw [map_id_of (fun q hq => by have := told_places hn h q hq; exact placeL_of this.1 this.2)]

/-! ### roots -/
def addBlock (vs : List VolD) (p : PtrD) : List VolD := vs.set (vs.length - 1) ⟨(vs.getD (vs.length - 1) vol0).name, (vs.getD (vs.length - 1) vol0).blocks ++ [p]⟩
/-- ONE LINE MORE. -/
def stepR (out : RootD) (line : List UInt8) : RootD :=
  if (cutL 32 line).headD [] = [118, 111, 108] ∧ (cutL 32 line).length = 2 then ⟨out.txg, out.vols ++ [⟨tx ((cutL 32 line).getD 1 []), []⟩]⟩
  else if 0 < out.vols.length ∧ ((cutL 32 line).headD [] = [112, 116, 114] ∨ (cutL 32 line).headD [] = [110, 111, 110, 101]) then ⟨out.txg, addBlock out.vols (ptrL line)⟩ else out
def firstR (line : List UInt8) : RootD := if (cutL 32 line).length = 2 then ⟨numL ((cutL 32 line).getD 1 []), []⟩ else stepR ⟨0, []⟩ line
/-- THE ROOT THAT IS READ OF A TEXT, whatever it is. -/
def rootL (l : List UInt8) : RootD := match cutL 10 l with
  | [] => ⟨0, []⟩
  | h :: t => t.foldl stepR (firstR h)
def eat (out : RootD) (l : List UInt8) : RootD := (cutL 10 l).foldl stepR out
theorem eat_line (out : RootD) {a : List UInt8} (h : (10 : UInt8) ∉ a) (b : List UInt8) : eat out (a ++ 10 :: b) = eat (stepR out a) b := by
  unfold eat
  rw [cutL_at h]; rfl
theorem add_last (vs : List VolD) (nm : ByteArray) (bs : List PtrD) (p : PtrD) : addBlock (vs ++ [⟨nm, bs⟩]) p = vs ++ [⟨nm, bs ++ [p]⟩] := by
  have e : (vs ++ [(⟨nm, bs⟩ : VolD)]).length - 1 = vs.length := by simp
  unfold addBlock
  rw [e]
  have g : (vs ++ [(⟨nm, bs⟩ : VolD)]).getD vs.length vol0 = ⟨nm, bs⟩ := by rw [List.getD, List.getElem?_append_right (Nat.le_refl _)]; simp
  rw [g, List.set_append_right _ _ (Nat.le_refl _)]
  simp
theorem line_head (p : PtrD) : (cutL 32 (lineP p)).headD [] = [112, 116, 114] ∨ (cutL 32 (lineP p)).headD [] = [110, 111, 110, 101] := by
  unfold lineP
  split
  · exact .inr (by decide)
  · rw [cutL_at (by decide)]; exact .inl rfl
theorem step_ptr {n : Int} (hn : Pool n) (t : Int) (vs : List VolD) (nm : ByteArray) (bs : List PtrD) {p : PtrD} (h : PtrFine n p) : stepR ⟨t, vs ++ [⟨nm, bs⟩]⟩ (lineP p) = ⟨t, vs ++ [⟨nm, bs ++ [p]⟩]⟩ := by
  have hh := line_head p
  unfold stepR
  rw [if_neg (fun c => by rcases hh with hh | hh <;> (rw [hh] at c; exact absurd c.1 (by decide))), if_pos ⟨by simp, hh⟩, ptrL_line hn h]
  simp only
  rw [add_last]
theorem eat_blocks {n : Int} (hn : Pool n) (t : Int) (vs : List VolD) (nm : ByteArray) (rest : List UInt8) : ∀ (ps bs : List PtrD), (∀ p ∈ ps, PtrFine n p) → eat ⟨t, vs ++ [⟨nm, bs⟩]⟩ (ps.flatMap ptrTx ++ rest) = eat ⟨t, vs ++ [⟨nm, bs ++ ps⟩]⟩ rest
  | [], bs, _ => by simp
  | p :: r, bs, h => by
    have e : (p :: r).flatMap ptrTx ++ rest = lineP p ++ 10 :: (r.flatMap ptrTx ++ rest) := by rw [List.flatMap_cons, ptrTx_line]; simp
    rw [e, eat_line _ (line_no p), step_ptr hn t vs nm bs (h p (by simp)), eat_blocks hn t vs nm rest r _ (fun q hq => h q (List.mem_cons_of_mem _ hq))]
    simp
theorem name_bytes {s : ByteArray} (h : NameOk s) {c : UInt8} (hc : c.toNat < 97) : c ∉ s.data.toList := fun k => by
  obtain ⟨i, hi, e⟩ := List.getElem_of_mem k
  have h1 := (h.2 i (by simpa using hi)).1
  unfold byteAt at h1
  rw [List.getElem?_eq_getElem hi, e] at h1
  simp at h1
  omega
theorem eat_vol {n : Int} (hn : Pool n) (t : Int) (vs : List VolD) {v : VolD} (h : VolOne n v) (rest : List UInt8) : eat ⟨t, vs⟩ (volTx v ++ rest) = eat ⟨t, vs ++ [v]⟩ rest := by
  have e : volTx v ++ rest = ([118, 111, 108] ++ 32 :: v.name.data.toList) ++ 10 :: (v.blocks.flatMap ptrTx ++ rest) := by simp [volTx, volHd, blocksTx]
  have hno : (10 : UInt8) ∉ [118, 111, 108] ++ 32 :: v.name.data.toList := by
    intro k
    simp only [List.mem_append, List.mem_cons, List.not_mem_nil, or_false] at k
    rcases k with (k | k | k) | k | k
    · exact absurd k (by decide)
    · exact absurd k (by decide)
    · exact absurd k (by decide)
    · exact absurd k (by decide)
    · exact name_bytes h.1 (by decide) k
  have hc : cutL 32 ([118, 111, 108] ++ 32 :: v.name.data.toList) = [[118, 111, 108], v.name.data.toList] := by rw [cutL_at (by decide), cutL_one (name_bytes h.1 (by decide))]
  rw [e, eat_line _ hno]
  have hs : stepR ⟨t, vs⟩ ([118, 111, 108] ++ 32 :: v.name.data.toList) = ⟨t, vs ++ [⟨v.name, []⟩]⟩ := by
    unfold stepR
    rw [hc, if_pos ⟨rfl, rfl⟩]
    rfl
  rw [hs, eat_blocks hn t vs v.name rest v.blocks [] h.2.2]
  rfl
theorem eat_vols {n : Int} (hn : Pool n) (t : Int) (rest : List UInt8) : ∀ (ws vs : List VolD), (∀ v ∈ ws, VolOne n v) → eat ⟨t, vs⟩ (ws.flatMap volTx ++ rest) = eat ⟨t, vs ++ ws⟩ rest
  | [], vs, _ => by simp
  | w :: r, vs, h => by
    rw [List.flatMap_cons, List.append_assoc, eat_vol hn t vs (h w (by simp)), eat_vols hn t rest r _ (fun v hv => h v (List.mem_cons_of_mem _ hv))]
    simp
theorem eat_sum (out : RootD) (z : Int) : eat out ([115, 117, 109] ++ 32 :: dz z ++ [10]) = out := by
  have hno : (10 : UInt8) ∉ [115, 117, 109] ++ 32 :: dz z := by
    intro k
    simp only [List.mem_append, List.mem_cons, List.not_mem_nil, or_false] at k
    rcases k with (k | k | k) | k | k
    · exact absurd k (by decide)
    · exact absurd k (by decide)
    · exact absurd k (by decide)
    · exact absurd k (by decide)
    · exact dz_no _ (by decide) k
  have hc : cutL 32 ([115, 117, 109] ++ 32 :: dz z) = [[115, 117, 109], dz z] := by rw [cutL_at (by decide), cutL_one (dz_no _ (by decide))]
  rw [eat_line _ hno]
  have h1 : stepR out ([115, 117, 109] ++ 32 :: dz z) = out := by
    unfold stepR
    rw [hc, if_neg (fun c => absurd (show ([115, 117, 109] : List UInt8) = [118, 111, 108] from c.1) (by decide)), if_neg (fun c => by
      rcases c.2 with c | c
      · exact absurd (show ([115, 117, 109] : List UInt8) = [112, 116, 114] from c) (by decide)
      · exact absurd (show ([115, 117, 109] : List UInt8) = [110, 111, 110, 101] from c) (by decide))]
  rw [h1]
  show [([] : List UInt8)].foldl stepR out = out
  simp only [List.foldl]
  unfold stepR
  rw [if_neg (fun c => absurd c.1 (by decide)), if_neg (fun c => by rcases c.2 with c | c <;> exact absurd c (by decide))]
/-- A ROOT IS READ BACK FROM ITS TEXT. -/
theorem rootL_back {n : Int} {r : RootD} (h : RootOkP n r) : rootL (fullT r).data.toList = r := by
  have e : (fullT r).data.toList = ([114, 111, 111, 116] ++ 32 :: dz r.txg) ++ 10 :: (r.vols.flatMap volTx ++ ([115, 117, 109] ++ 32 :: dz (sumT r) ++ [10])) := by
    unfold fullT bodyT roT
    simp [ByteArray.data_append, tx, rootHd, volsTx]
  have hno : (10 : UInt8) ∉ [114, 111, 111, 116] ++ 32 :: dz r.txg := by
    intro k
    simp only [List.mem_append, List.mem_cons, List.not_mem_nil, or_false] at k
    rcases k with (k | k | k | k) | k | k
    · exact absurd k (by decide)
    · exact absurd k (by decide)
    · exact absurd k (by decide)
    · exact absurd k (by decide)
    · exact absurd k (by decide)
    · exact dz_no _ (by decide) k
  have hc : cutL 32 ([114, 111, 111, 116] ++ 32 :: dz r.txg) = [[114, 111, 111, 116], dz r.txg] := by rw [cutL_at (by decide), cutL_one (dz_no _ (by decide))]
  have hf : firstR ([114, 111, 111, 116] ++ 32 :: dz r.txg) = ⟨r.txg, []⟩ := by
    unfold firstR
    rw [hc, if_pos (show ([[114, 111, 111, 116], dz r.txg] : List (List UInt8)).length = 2 from rfl)]
    show (⟨numL (dz r.txg), []⟩ : RootD) = _
    rw [numL_dz h.2.1.1 (by have := h.2.1.2; omega)]
  unfold rootL
  rw [e, cutL_at hno]
  show eat (firstR _) _ = r
  rw [hf, eat_vols h.1 r.txg _ r.vols [] (vol_one h), eat_sum]
  rfl

end Go.Proofs.YtliadobopideaaaGreatDoor
