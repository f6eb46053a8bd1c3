/- The library of a model, of the program: its volumes in new memory, and where each name stands. Conditions: none but the row's own bound on sizes. -/
import Derived.Test.YtmmckpjapnkepaaMC
namespace Go.Proofs.Ytmmckpjapnkepaa
open Go.RowKit Go.Sort Go.Maps

/-- THE LIBRARY of a model, in block D. -/
def Lib (w : World) (base D : Nat) (ss : List ShD) : Prop :=
  ∃ v b n, base ≤ D ∧ base ≤ b ∧ n ≤ ss.length ∧ Blk w D #[v, .map (some b)] 93 ∧ OwnSh w base v ss ∧ PlN w b n ss ss.length
theorem Lib.below {w w' : World} {base D : Nat} {ss : List ShD} (h : Lib w base D ss) (hB : Below w.heap.size w w') : Lib w' base D ss := by
  obtain ⟨v, b, n, h1, h2, h3, h4, h5, h6⟩ := h
  exact ⟨v, b, n, h1, h2, h3, h4.below hB h4.lt, h5.below hB, h6.below hB⟩
theorem Lib.mono {w : World} {base base' D : Nat} {ss : List ShD} (h : Lib w base D ss) (hb : base' ≤ base) : Lib w base' D ss := by
  obtain ⟨v, b, n, h1, h2, h3, h4, h5, h6⟩ := h
  exact ⟨v, b, n, by omega, by omega, h3, h4, h5.mono hb, h6⟩

set_option maxRecDepth 100000 in
set_option maxHeartbeats 1000000 in
theorem libraryOf_no (a : Option Addr) (cap : Nat) (ss : List ShD) (w : World) (hs : MdSmall ss) (hno : ¬MdFine ss) (hx : Hid (ShAt w a ss)) :
    Calls Try.prog 46 #[.agg #[.slice a ss.length cap]] w fun e w' => e = .returned (.tuple #[.pointer none, .iface 101 (.agg #[])]) ∧ Below w.heap.size w w' := by
  have hB : Below w.heap.size w (w.alloc (.cells #[.slice a ss.length cap] 25)) := (Below.refl _ _).alloc (Nat.le_refl _) _
  have HB := Lib.hid hB
  have c0 : (w.alloc (.cells #[.slice a ss.length cap] 25)).cell? ⟨w.heap.size, 0, none⟩ = some (.slice a ss.length cap) := by rw [World.cell?_alloc_mark]; rfl
  have HM := Lib.hid (implMdOk_any a cap ss _ hs (hx.out.below hB))
  rw [tt_false hno] at HM
  clear hB hno hs
  go_enter Try.func46, Try.ntmps46
  go_wp2_with fail
  refine HM.out.mono ?_
  rintro e w1 ⟨rfl, hB1⟩
  have HB1 := Lib.hid (HB.out.trans (hB1.mono HB.out.size))
  clear hB1
  go_wp2
  go_ret2
  exact ⟨rfl, HB1.out⟩

set_option maxRecDepth 100000 in
set_option maxHeartbeats 4000000 in
theorem libraryOf_ok (a : Option Addr) (cap : Nat) (ss : List ShD) (w : World) (hok : MdFine ss) (hx : Hid (ShAt w a ss)) :
    Calls Try.prog 46 #[.agg #[.slice a ss.length cap]] w fun e w' => ∃ D, e = .returned (.tuple #[.pointer (some ⟨D, 0, none⟩), .nilIface]) ∧ Lib w' w.heap.size D ss ∧ Below w.heap.size w w' := by
  have hB : Below w.heap.size w (w.alloc (.cells #[.slice a ss.length cap] 25)) := (Below.refl _ _).alloc (Nat.le_refl _) _
  have HB := Lib.hid hB
  have c0 : (w.alloc (.cells #[.slice a ss.length cap] 25)).cell? ⟨w.heap.size, 0, none⟩ = some (.slice a ss.length cap) := by rw [World.cell?_alloc_mark]; rfl
  have HM := Lib.hid (implMdOk_any a cap ss _ hok.small (hx.out.below hB))
  rw [tt_true hok] at HM
  have HOK := Lib.hid hok
  have HC := Lib.hid (fun W (hW : Below w.heap.size w W) => modelCopy_any a cap ss W hok (hx.out.below hW))
  have h4 := hok.1
  clear hB hok
  go_enter Try.func46, Try.ntmps46
  go_wp2_with fail
  refine HM.out.mono ?_
  rintro e w1 ⟨rfl, hB1⟩
  have c0 := cell_below hB1 c0
  have HB1 := Lib.hid (HB.out.trans (hB1.mono HB.out.size))
  clear hB1 HB HM
  go_wp2_with fail
  refine (HC.out _ HB1.out).mono ?_
  rintro e w2 ⟨b, c, rfl, hO, hB2⟩
  obtain ⟨a3, c3, he, _, _, hs3⟩ := hO.reads
  obtain ⟨rfl, -, rfl⟩ : b = a3 ∧ ss.length = ss.length ∧ c = c3 := by simpa using he
  have HO := Lib.hid hO
  have HP := Lib.hid (shelfPlaces_any b c ss w2 (by omega) HOK.out.small.2 hs3)
  have HB2 := Lib.hid (HB1.out.trans (hB2.mono HB1.out.size))
  have s12 := Lib.hid hB2.size
  have hfd : ∀ w' : World, (Instr.field 25 (.agg #[.slice b ss.length c]) 0).run Try.prog w' = .ok (.slice b ss.length c) w' := fun _ => by kernel_rfl
  clear hO hB2 hs3 he
  go_wp2_with fail
  refine HP.out.mono ?_
  rintro e w3 ⟨rfl, hpl, hB3⟩
  have hBd : Below w3.heap.size w3 (w3.alloc (.cells #[.slice b ss.length c, .map (some w2.heap.size)] 93)) := (Below.refl _ _).alloc (Nat.le_refl _) _
  have HBw := Lib.hid (HB2.out.trans (hB3.mono HB2.out.size))
  have HL : Hid (Lib (w3.alloc (.cells #[.slice b ss.length c, .map (some w2.heap.size)] 93)) w.heap.size w3.heap.size ss) := by
    have s1 := HBw.out.size
    have s2 := HB2.out.size
    have s3 := HB1.out.size
    exact ⟨_, _, ss.length, by omega, by omega, by omega, Blk.new _ _ _, ((HO.out.below hB3).below hBd).mono (by omega), hpl.below hBd⟩
  have HE := Lib.hid (HBw.out.trans (hBd.mono HBw.out.size))
  clear hpl hB3 hBd
  go_wp2
  go_ret2
  exact ⟨_, rfl, HL.out, HE.out⟩

end Go.Proofs.Ytmmckpjapnkepaa
