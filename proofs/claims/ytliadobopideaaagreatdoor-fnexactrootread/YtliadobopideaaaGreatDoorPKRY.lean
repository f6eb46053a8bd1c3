/- The exact law's own marks on a root that was read: marks on a whole root, and both readers. Conditions: the root's own bound on sizes. -/
import Derived.Test.YtliadobopideaaaGreatDoorPKRX4
namespace Go.Proofs.YtliadobopideaaaGreatDoor
open Go.RowKit Go.Sort

set_option maxRecDepth 100000 in
set_option maxHeartbeats 2000000 in
theorem markRootR_any (base k N hi : Nat) (t : Int) (a : Option Addr) (c : Nat) (vs : List VolD) (xs0 : List Value) (lo : Nat → Nat) (w : World) (hk0 : 0 < k) (hN : VoN N vs) (hk : k + vs.length * (7 + N * 6) ≤ 10000000) (h : VoY w base (.slice a vs.length c) vs xs0 lo) (hh : ∀ b, (Value.slice a vs.length c).ownBlock = some b → b < hi) (hh2 : lo vs.length ≤ hi) :
    Calls Tryz.prog 17 #[.agg #[.int .i64 t, .slice a vs.length c], .int .i64 (k : Int)] w fun e w' => e = .returned (.int .i64 ((voAt k vs vs.length : Nat) : Int)) ∧ MkF (VoB base hi) w w' ∧ VolsAt w' a (mkVo k vs) := by
  have hB0 : Below w.heap.size w (w.alloc (.cells #[.int .i64 t, .slice a vs.length c] 25)) := (Below.refl _ _).alloc (Nat.le_refl _) _
  have HM := Lib.hid (markVoR_any base k N hi _ vs xs0 lo _ hk0 hN hk (h.below hB0) hh hh2)
  have c1 : (w.alloc (.cells #[.int .i64 t, .slice a vs.length c] 25)).cell? ⟨w.heap.size, 1, none⟩ = some (.slice a vs.length c) := by rw [World.cell?_alloc_mark]; rfl
  have HF0 := Lib.hid (MkF.grown (B := VoB base hi) (r := none) (grown_below' none hB0) (fun b e => by cases e))
  clear hB0 h hh hN
  go_enter Tryz.func17, Tryz.ntmps17
  go_wp2_with fail
  generalize w.alloc (.cells #[.int .i64 t, .slice a vs.length c] 25) = w1 at HM c1 HF0 ⊢
  refine HM.out.mono ?_
  rintro e w2 ⟨rfl, hF, a', c', he, hv⟩
  cases he
  have HR := Lib.hid (show MkF (VoB base hi) w w2 ∧ VolsAt w2 a (mkVo k vs) from ⟨HF0.out.trans hF, hv⟩)
  clear hF hv
  go_wp2
  go_ret
  exact ⟨rfl, HR.out.1, HR.out.2⟩

set_option maxRecDepth 100000 in
set_option maxHeartbeats 2000000 in
theorem heldRootR_any (k N : Nat) (t : Int) (a : Option Addr) (c : Nat) (vs : List VolD) (w : World) (hk0 : 0 < k) (hN : VoN N vs) (hk : k + vs.length * (7 + N * 6) ≤ 10000000) (h : Hid (VolsAt w a (mkVo k vs))) :
    Calls Tryz.prog 18 #[.agg #[.int .i64 t, .slice a vs.length c], .int .i64 (k : Int)] w fun e w' => e = .returned (.int .i64 ((voAt k vs vs.length : Nat) : Int)) ∧ Below w.heap.size w w' := by
  have hB0 : Below w.heap.size w (w.alloc (.cells #[.int .i64 t, .slice a vs.length c] 25)) := (Below.refl _ _).alloc (Nat.le_refl _) _
  have HM := Lib.hid (heldVoR_any k N a c vs _ hk0 hN hk (h.out.below hB0))
  have c1 : (w.alloc (.cells #[.int .i64 t, .slice a vs.length c] 25)).cell? ⟨w.heap.size, 1, none⟩ = some (.slice a vs.length c) := by rw [World.cell?_alloc_mark]; rfl
  have HB0 := Lib.hid hB0
  clear hB0 h hN
  generalize voAt k vs vs.length = PE at HM ⊢
  go_enter Tryz.func18, Tryz.ntmps18
  go_wp2_with fail
  generalize w.alloc (.cells #[.int .i64 t, .slice a vs.length c] 25) = w1 at HM c1 HB0 ⊢
  refine HM.out.mono ?_
  rintro e w2 ⟨rfl, hB⟩
  have HB := Lib.hid (HB0.out.trans (hB.mono HB0.out.size))
  have d9 : decide ((PE : Int) < 0) = false := decide_eq_false (by omega)
  clear hB
  go_wp2
  go_ret
  exact ⟨rfl, HB.out⟩

/-! ### both readers, in one form -/
noncomputable def rdR (n : Int) (s : ByteArray) : RootD := if tt (ReadsAs n s) = true then rootL s.data.toList else ⟨0, []⟩
theorem rdR_yes {n : Int} {s : ByteArray} (h : ReadsAs n s) : rdR n s = rootL s.data.toList := by unfold rdR; rw [if_pos (tt_true h)]
theorem rdR_no {n : Int} {s : ByteArray} (h : ¬ReadsAs n s) : rdR n s = ⟨0, []⟩ := by unfold rdR; rw [if_neg (by rw [tt_false h]; decide)]
theorem spec_both (n : Int) (s : ByteArray) (w : World) :
    Calls Tryz.prog 14 #[.int .i64 n, .string s] w fun e w' => ∃ a c, e = .returned (.tuple #[.agg #[.int .i64 (rdR n s).txg, .slice a (rdR n s).vols.length c], .bool (tt (ReadsAs n s))]) ∧ VolsAt w' a (rdR n s).vols ∧ Below w.heap.size w w' := by
  refine (specRead_any n s w).mono ?_
  rintro e w' ⟨h, hB⟩
  rcases h with ⟨h, v, rfl, hv⟩ | ⟨h, rfl⟩
  · rw [rdR_yes h, tt_true h]
    obtain ⟨a, c, rfl, _, _, hat⟩ := hv.reads
    exact ⟨a, c, rfl, hat, hB⟩
  · rw [rdR_no h, tt_false h]
    exact ⟨none, 0, rfl, .inl rfl, hB⟩
theorem impl_both (n : Int) (s : ByteArray) (A : Addr) (w : World) (hE : EnvB w A) (hT : Tab w) :
    Calls Tryz.prog 10 #[.int .i64 n, .string s] w fun e w' => ∃ a c xs lo, e = .returned (.tuple #[.agg #[.int .i64 (rdR n s).txg, .slice a (rdR n s).vols.length c], .bool (tt (ReadsAs n s))]) ∧ VoY w' w.heap.size (.slice a (rdR n s).vols.length c) (rdR n s).vols xs lo ∧ Below w.heap.size w w' := by
  refine (implRead_any n s A w hE hT).mono ?_
  rintro e w' ⟨h, hB⟩
  rcases h with ⟨h, v, xs, lo, rfl, hv, _⟩ | ⟨h, rfl⟩
  · rw [rdR_yes h, tt_true h]
    obtain ⟨a, c, rfl, _, _, _⟩ := hv.own.reads
    exact ⟨a, c, xs, lo, rfl, hv, hB⟩
  · rw [rdR_no h, tt_false h]
    exact ⟨none, 0, [], _, rfl, VoY.empty hB.size, hB⟩
theorem getDmemR {α : Type} (l : List α) (k : Nat) (d : α) (h : k < l.length) : l.getD k d ∈ l := by
  rw [List.getD, List.getElem?_eq_getElem h]; exact List.getElem_mem h
theorem rdR_small (n : Int) (s : ByteArray) : (rdR n s).vols.length ≤ 4 ∧ VoN 4 (rdR n s).vols := by
  by_cases h : ReadsAs n s
  · rw [rdR_yes h]
    have hr := h.2.1
    refine ⟨hr.small.2.1, fun i hi => ?_⟩
    have hm : (rootL s.data.toList).vols.getD i vol0 ∈ (rootL s.data.toList).vols := getDmemR _ _ _ hi
    have hv := vol_one hr _ hm
    refine ⟨hv.2.1, fun j hj => ?_⟩
    have hp : ((rootL s.data.toList).vols.getD i vol0).blocks.getD j ptr0 ∈ ((rootL s.data.toList).vols.getD i vol0).blocks := getDmemR _ _ _ hj
    have := (hv.2.2 _ hp).small hr.1
    exact this.2.2.1
  · rw [rdR_no h]
    exact ⟨by simp, fun i hi => absurd hi (Nat.not_lt_zero _)⟩

end Go.Proofs.YtliadobopideaaaGreatDoor
