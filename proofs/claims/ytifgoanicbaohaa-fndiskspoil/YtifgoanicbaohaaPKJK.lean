/- The drawn arguments of the law of spoiling: a disk, a slot, a byte, how; nothing old has turned. Conditions: none. -/
import Derived.Test.YtifgoanicbaohaaPKY6
import Derived.Test.YtifgoanicbaohaaPKVS
namespace Go.Proofs.Ytifgoanicbaohaa
open Go.ChangeShapes Go.WideShapes Go.ChangeAt Go.RowKit Go.Sort

/-- A DRAWN DISK AND THREE NUMBERS. -/
def DrawnDS (w : World) (e : Ending) (w' : World) : Prop := ∃ (d : DiskD) (v : Value) (x y z : Int), e = .returned (.tuple #[v, .int .i64 x, .int .i64 y, .int .i64 z]) ∧ DiskV w' v d ∧ Below w.heap.size w w'

set_option linter.unusedSimpArgs false in
set_option maxRecDepth 100000 in
set_option maxHeartbeats 4000000 in
theorem drawSpoil_any (a : Option Addr) (len cap : Nat) (z : List Int) (w : World) (h : IsBytes w a len cap z) :
    Calls Try.prog 13 #[.slice a len cap] w (DrawnDS w) := by
  have B0 := Lib.hid (show Below w.heap.size w (w.alloc (.cells #[.int .i64 0, .slice none 0 0, .slice none 0 0, .slice none 0 0, .slice none 0 0] 27)) from (Below.refl _ _).alloc (Nat.le_refl _) _)
  have H := Lib.hid (h.below B0.out)
  have K := Lib.hid (show Blk (w.alloc (.cells #[.int .i64 0, .slice none 0 0, .slice none 0 0, .slice none 0 0, .slice none 0 0] 27)) w.heap.size zeroC 27 from Blk.new w #[.int .i64 0, .slice none 0 0, .slice none 0 0, .slice none 0 0, .slice none 0 0] 27)
  have hs : w.heap.size < (w.alloc (.cells #[.int .i64 0, .slice none 0 0, .slice none 0 0, .slice none 0 0, .slice none 0 0] 27)).heap.size := by simp
  clear h
  go_enter Try.func13, Try.ntmps13
  go_wp2_with fail
  generalize (w.alloc (.cells #[.int .i64 0, .slice none 0 0, .slice none 0 0, .slice none 0 0, .slice none 0 0] 27)) = W at B0 H K hs ⊢
  refine (l6Open_any a len cap z _ H.out).mono ?_
  rintro e w1 ⟨B, rfl, hR1, hB1⟩
  have hBB := hR1.1
  have K := Lib.hid (K.out.below hB1 K.out.lt)
  have B0 := Lib.hid (below_trans B0.out hB1 B0.out.size)
  have HR := Lib.hid hR1
  have B1 := B0.out.size
  clear hR1 hB1
  go_wp2_with fail
  refine (l71Disk_any _ B 0 _ (by omega) HR.out).mono ?_
  rintro e w2 ⟨d, v, q, rfl, hV, hq, hR2, hg⟩
  have hBl1 := HR.out.lt
  have K := Lib.hid (K.out.grown hg (by omega))
  have B0 := Lib.hid (below_g B0.out hg (by omega) B0.out.size)
  have HV := Lib.hid hV
  have hz1 : w.heap.size ≤ w1.heap.size := B1
  have HR := Lib.hid hR2
  have hBl := hR2.lt
  have hz12 := hg.size
  clear hg hR2
  have hV2 := hV w2 (fun _ _ _ => rfl)
  clear hV
  obtain ⟨_, _, _, _, rfl, ⟨o1, c1, rfl, _⟩, ⟨o2, c2, rfl, _⟩, ⟨o3, c3, rfl, _⟩, ⟨o4, c4, rfl, _⟩⟩ := hV2
  have hA := Lib.hid (show Below w2.heap.size w2 (w2.alloc (.cells #[.int .i64 d.state, .slice o1 d.slots.length c1, .slice o2 d.rings.length c2, .slice o3 d.spoilt.length c3, .slice o4 d.wait.length c4] 27)) from (Below.refl _ _).alloc (Nat.le_refl _) _)
  have K := Lib.hid (K.out.below hA.out K.out.lt)
  have KD := Lib.hid (Blk.new w2 #[.int .i64 d.state, .slice o1 d.slots.length c1, .slice o2 d.rings.length c2, .slice o3 d.spoilt.length c3, .slice o4 d.wait.length c4] 27)
  have hwl : w.heap.size < w2.heap.size := by have := hA.out; omega
  have B0 := Lib.hid (below_trans B0.out hA.out B0.out.size)
  have HR := Lib.hid (HR.out.below hA.out)
  have Ag : Hid (Agr w1.heap.size w2.heap.size w2 (w2.alloc (.cells #[.int .i64 d.state, .slice o1 d.slots.length c1, .slice o2 d.rings.length c2, .slice o3 d.spoilt.length c3, .slice o4 d.wait.length c4] 27))) := fun E h1 h2 => hA.out.block E h2
  have hN : w2.heap.size < (w2.alloc (.cells #[.int .i64 d.state, .slice o1 d.slots.length c1, .slice o2 d.rings.length c2, .slice o3 d.spoilt.length c3, .slice o4 d.wait.length c4] 27)).heap.size := by simp
  clear hA
  go_wp2_with fail
  generalize w2.alloc (.cells #[.int .i64 d.state, .slice o1 d.slots.length c1, .slice o2 d.rings.length c2, .slice o3 d.spoilt.length c3, .slice o4 d.wait.length c4] 27) = w3 at K KD B0 HR Ag hN ⊢
  generalize hDD : w2.heap.size = D at KD hN Ag hwl hBl ⊢
  have hBD : D ≠ B := by omega
  have hBw : w.heap.size ≠ B := by omega
  have hwD : w.heap.size ≠ D := by omega
  have hsz3 : w.heap.size ≤ w3.heap.size := B0.out.size
  have KD3 := Lib.hid (show Blk w3.drew D #[.int .i64 d.state, .slice o1 d.slots.length c1, .slice o2 d.rings.length c2, .slice o3 d.spoilt.length c3, .slice o4 d.wait.length c4] 27 from KD.out)
  have HRw3 := Lib.hid HR.out.drew
  have Gw3 : w3.grownBy w3.drew (some B) := ⟨rfl, rfl, rfl, Nat.le_refl _, fun _ _ _ => rfl⟩
  have KDw3 := KD3
  go_wp2_with fail
  refine AnyS.start (S := (fun w' : World => Blk w' D #[.int .i64 d.state, .slice o1 d.slots.length c1, .slice o2 d.rings.length c2, .slice o3 d.spoilt.length c3, .slice o4 d.wait.length c4] 27)) (L := 24) (by kernel_rfl) ?_
  refine AnyS.take 0 (show _ = some _ from rfl) rfl (by kernel_rfl) (by kernel_rfl) (by kernel_rfl) (by kernel_rfl) (fun _ _ _ h => h) KDw3.out (by rfl) (fun w' hSw => by have s0 : w'.cell? ⟨D, 0, none⟩ = some (.int .i64 d.state) := hSw.cell 0; have s1 : w'.cell? ⟨D, 1, none⟩ = some (.slice o1 d.slots.length c1) := hSw.cell 1; have s2 : w'.cell? ⟨D, 2, none⟩ = some (.slice o2 d.rings.length c2) := hSw.cell 2; have s3 : w'.cell? ⟨D, 3, none⟩ = some (.slice o3 d.spoilt.length c3) := hSw.cell 3; have s4 : w'.cell? ⟨D, 4, none⟩ = some (.slice o4 d.wait.length c4) := hSw.cell 4; clear hSw; go_simp; try with_reducible rfl) ?_
  try simp only [Act.put, List.setIfInBounds_toArray, List.set_cons_zero, List.set_cons_succ]
  refine AnyS.take 1 (show _ = some _ from rfl) rfl (by kernel_rfl) (by kernel_rfl) (by kernel_rfl) (by kernel_rfl) (fun _ _ _ h => h) KDw3.out (by rfl) (fun w' hSw => by clear hSw; go_simp; try with_reducible rfl) ?_
  try simp only [Act.put, List.setIfInBounds_toArray, List.set_cons_zero, List.set_cons_succ]
  refine AnyS.take 3 (show _ = some _ from rfl) rfl (by kernel_rfl) (by kernel_rfl) (by kernel_rfl) (by kernel_rfl) (fun _ _ _ h => h) KDw3.out (by rfl) (fun w' hSw => by clear hSw; go_simp; try with_reducible rfl) ?_
  try simp only [Act.put, List.setIfInBounds_toArray, List.set_cons_zero, List.set_cons_succ]
  refine AnyS.take 7 (show _ = some _ from rfl) rfl (by kernel_rfl) (by kernel_rfl) (by kernel_rfl) (by kernel_rfl) (fun _ _ _ h => h) KDw3.out (by rfl) (fun w' hSw => by clear hSw; go_simp; try with_reducible rfl) ?_
  try simp only [Act.put, List.setIfInBounds_toArray, List.set_cons_zero, List.set_cons_succ]
  refine AnyS.take 9 (show _ = some _ from rfl) rfl (by kernel_rfl) (by kernel_rfl) (by kernel_rfl) (by kernel_rfl) (fun _ _ _ h => h) KDw3.out (by rfl) (fun w' hSw => by clear hSw; go_simp; try with_reducible rfl) ?_
  try simp only [Act.put, List.setIfInBounds_toArray, List.set_cons_zero, List.set_cons_succ]
  refine AnyS.take 13 (show _ = some _ from rfl) rfl (by kernel_rfl) (by kernel_rfl) (by kernel_rfl) (by kernel_rfl) (fun _ _ _ h => h) KDw3.out (by rfl) (fun w' hSw => by clear hSw; go_simp; try with_reducible rfl) ?_
  try simp only [Act.put, List.setIfInBounds_toArray, List.set_cons_zero, List.set_cons_succ]
  refine AnyS.take 16 (show _ = some _ from rfl) rfl (by kernel_rfl) (by kernel_rfl) (by kernel_rfl) (by kernel_rfl) (fun _ _ _ h => h) KDw3.out (by rfl) (fun w' hSw => by clear hSw; go_simp; try with_reducible rfl) ?_
  try simp only [Act.put, List.setIfInBounds_toArray, List.set_cons_zero, List.set_cons_succ]
  refine AnyS.one 2 (by kernel_rfl) (show _ = some _ from rfl) (fun K' hK' => ?_)
  go_simp
  go_at_call 23
  refine (pick_any _ B (q) 12 _ (by omega) HRw3.out).mono ?_
  rintro e w4 ⟨vw4, rfl, hlw4, hnw4, hRw4, hg⟩
  have Gw4 : w3.grownBy w4 (some B) := Gw3.trans hg
  have KDw4 := Lib.hid (KDw3.out.grown hg hBD)
  have HRw4 := Lib.hid hRw4
  clear hg hRw4
  go_simp
  refine hK' _ _ ⟨?_, fun _ => KDw4.out⟩
  clear hK' K'
  try simp only [Act.put, List.setIfInBounds_toArray, List.set_cons_zero, List.set_cons_succ]
  refine AnyS.one 4 (by kernel_rfl) (show _ = some _ from rfl) (fun K' hK' => ?_)
  go_simp
  go_at_call 23
  refine (pick_any _ B (q + 1) 24 _ (by omega) HRw4.out).mono ?_
  rintro e w5 ⟨vw5, rfl, hlw5, hnw5, hRw5, hg⟩
  have Gw5 : w3.grownBy w5 (some B) := Gw4.trans hg
  have KDw5 := Lib.hid (KDw4.out.grown hg hBD)
  have HRw5 := Lib.hid hRw5
  clear hg hRw5
  go_simp
  refine hK' _ _ ⟨?_, fun _ => KDw5.out⟩
  clear hK' K'
  try simp only [Act.put, List.setIfInBounds_toArray, List.set_cons_zero, List.set_cons_succ]
  refine AnyS.take 5 (show _ = some _ from rfl) rfl (by kernel_rfl) (by kernel_rfl) (by kernel_rfl) (by kernel_rfl) (fun _ _ _ h => h) KDw5.out (by rfl) (fun w' hSw => by clear hSw; go_simp; try with_reducible rfl) ?_
  try simp only [Act.put, List.setIfInBounds_toArray, List.set_cons_zero, List.set_cons_succ]
  refine AnyS.take 6 (show _ = some _ from rfl) rfl (by kernel_rfl) (by kernel_rfl) (by kernel_rfl) (by kernel_rfl) (fun _ _ _ h => h) KDw5.out (by rfl) (fun w' hSw => by clear hSw; go_simp; try with_reducible rfl) ?_
  try simp only [Act.put, List.setIfInBounds_toArray, List.set_cons_zero, List.set_cons_succ]
  refine AnyS.one 8 (by kernel_rfl) (show _ = some _ from rfl) (fun K' hK' => ?_)
  go_simp
  go_at_call 23
  refine (pick_any _ B (q + 1 + 1) 3 _ (by omega) HRw5.out).mono ?_
  rintro e w6 ⟨vw6, rfl, hlw6, hnw6, hRw6, hg⟩
  have Gw6 : w3.grownBy w6 (some B) := Gw5.trans hg
  have KDw6 := Lib.hid (KDw5.out.grown hg hBD)
  have HRw6 := Lib.hid hRw6
  clear hg hRw6
  go_simp
  refine hK' _ _ ⟨?_, fun _ => KDw6.out⟩
  clear hK' K'
  try simp only [Act.put, List.setIfInBounds_toArray, List.set_cons_zero, List.set_cons_succ]
  refine AnyS.one 10 (by kernel_rfl) (show _ = some _ from rfl) (fun K' hK' => ?_)
  go_simp
  go_at_call 23
  refine (pick_any _ B (q + 1 + 1 + 1) 24 _ (by omega) HRw6.out).mono ?_
  rintro e w7 ⟨vw7, rfl, hlw7, hnw7, hRw7, hg⟩
  have Gw7 : w3.grownBy w7 (some B) := Gw6.trans hg
  have KDw7 := Lib.hid (KDw6.out.grown hg hBD)
  have HRw7 := Lib.hid hRw7
  clear hg hRw7
  go_simp
  refine hK' _ _ ⟨?_, fun _ => KDw7.out⟩
  clear hK' K'
  try simp only [Act.put, List.setIfInBounds_toArray, List.set_cons_zero, List.set_cons_succ]
  refine AnyS.take 11 (show _ = some _ from rfl) rfl (by kernel_rfl) (by kernel_rfl) (by kernel_rfl) (by kernel_rfl) (fun _ _ _ h => h) KDw7.out (by rfl) (fun w' hSw => by clear hSw; go_simp; try with_reducible rfl) ?_
  try simp only [Act.put, List.setIfInBounds_toArray, List.set_cons_zero, List.set_cons_succ]
  refine AnyS.take 12 (show _ = some _ from rfl) rfl (by kernel_rfl) (by kernel_rfl) (by kernel_rfl) (by kernel_rfl) (fun _ _ _ h => h) KDw7.out (by rfl) (fun w' hSw => by clear hSw; go_simp; try with_reducible rfl) ?_
  try simp only [Act.put, List.setIfInBounds_toArray, List.set_cons_zero, List.set_cons_succ]
  refine AnyS.one 14 (by kernel_rfl) (show _ = some _ from rfl) (fun K' hK' => ?_)
  go_simp
  go_at_call 23
  refine (pick_any _ B (q + 1 + 1 + 1 + 1) 255 _ (by omega) HRw7.out).mono ?_
  rintro e w8 ⟨vw8, rfl, hlw8, hnw8, hRw8, hg⟩
  have Gw8 : w3.grownBy w8 (some B) := Gw7.trans hg
  have KDw8 := Lib.hid (KDw7.out.grown hg hBD)
  have HRw8 := Lib.hid hRw8
  clear hg hRw8
  go_simp
  refine hK' _ _ ⟨?_, fun _ => KDw8.out⟩
  clear hK' K'
  try simp only [Act.put, List.setIfInBounds_toArray, List.set_cons_zero, List.set_cons_succ]
  refine AnyS.take 15 (show _ = some _ from rfl) rfl (by kernel_rfl) (by kernel_rfl) (by kernel_rfl) (by kernel_rfl) (fun _ _ _ h => h) KDw8.out (by rfl) (fun w' hSw => by clear hSw; go_simp; try with_reducible rfl) ?_
  try simp only [Act.put, List.setIfInBounds_toArray, List.set_cons_zero, List.set_cons_succ]
  refine AnyS.one 17 (by kernel_rfl) (show _ = some _ from rfl) (fun K' hK' => ?_)
  go_simp
  go_at_call 23
  refine (pick_any _ B (q + 1 + 1 + 1 + 1 + 1) 24 _ (by omega) HRw8.out).mono ?_
  rintro e w9 ⟨vw9, rfl, hlw9, hnw9, hRw9, hg⟩
  have Gw9 : w3.grownBy w9 (some B) := Gw8.trans hg
  have KDw9 := Lib.hid (KDw8.out.grown hg hBD)
  have HRw9 := Lib.hid hRw9
  clear hg hRw9
  go_simp
  refine hK' _ _ ⟨?_, fun _ => KDw9.out⟩
  clear hK' K'
  try simp only [Act.put, List.setIfInBounds_toArray, List.set_cons_zero, List.set_cons_succ]
  refine AnyS.take 18 (show _ = some _ from rfl) rfl (by kernel_rfl) (by kernel_rfl) (by kernel_rfl) (by kernel_rfl) (fun _ _ _ h => h) KDw9.out (by rfl) (fun w' hSw => by clear hSw; go_simp; try with_reducible rfl) ?_
  try simp only [Act.put, List.setIfInBounds_toArray, List.set_cons_zero, List.set_cons_succ]
  refine AnyS.take 19 (show _ = some _ from rfl) rfl (by kernel_rfl) (by kernel_rfl) (by kernel_rfl) (by kernel_rfl) (fun _ _ _ h => h) KDw9.out (by rfl) (fun w' hSw => by clear hSw; go_simp; try with_reducible rfl) ?_
  try simp only [Act.put, List.setIfInBounds_toArray, List.set_cons_zero, List.set_cons_succ]
  refine AnyS.take 20 (show _ = some _ from rfl) rfl (by kernel_rfl) (by kernel_rfl) (by kernel_rfl) (by kernel_rfl) (fun _ _ _ h => h) KDw9.out (by rfl) (fun w' hSw => by clear hSw; go_simp; try with_reducible rfl) ?_
  try simp only [Act.put, List.setIfInBounds_toArray, List.set_cons_zero, List.set_cons_succ]
  have K9 := Lib.hid ((K.out.grown Gw9 hBw))
  have B9 := Lib.hid (below_g B0.out Gw9 (by omega) hsz3)
  have Ag9 := Lib.hid (Ag.out.grown Gw9 (by omega) (by omega))
  obtain ⟨x0, x1, x2, x3, x4, t0, t1, t2, t3, t4⟩ := zero5 K9.out
  have Kz := Lib.hid (show Blk (((((w9.setCell ⟨w.heap.size, 0, none⟩ (.int .i64 d.state)).setCell ⟨w.heap.size, 1, none⟩ (.slice o1 d.slots.length c1)).setCell ⟨w.heap.size, 2, none⟩ (.slice o2 d.rings.length c2)).setCell ⟨w.heap.size, 3, none⟩ (.slice o3 d.spoilt.length c3)).setCell ⟨w.heap.size, 4, none⟩ (.slice o4 d.wait.length c4)) D #[.int .i64 d.state, .slice o1 d.slots.length c1, .slice o2 d.rings.length c2, .slice o3 d.spoilt.length c3, .slice o4 d.wait.length c4] 27 from ((((KDw9.out.other _ _ _ hwD).other _ _ _ hwD).other _ _ _ hwD).other _ _ _ hwD).other _ _ _ hwD)
  refine AnyS.one 21 (by kernel_rfl) (show _ = some _ from rfl) (fun K' hK' => ?_)
  go_simp
  refine hK' _ _ ⟨?_, fun _ => Kz.out⟩
  clear hK' K'
  try simp only [Act.put, List.setIfInBounds_toArray, List.set_cons_zero, List.set_cons_succ]
  refine AnyS.one 22 (by kernel_rfl) (show _ = some _ from rfl) (fun K' hK' => ?_)
  go_simp
  refine hK' _ _ ⟨?_, fun _ => Kz.out⟩
  clear hK' K'
  try simp only [Act.put, List.setIfInBounds_toArray, List.set_cons_zero, List.set_cons_succ]
  refine AnyS.one 23 (by kernel_rfl) (show _ = some _ from rfl) (fun K' hK' => ?_)
  go_simp
  refine hK' _ _ ⟨?_, fun _ => Kz.out⟩
  clear hK' K'
  try simp only [Act.put, List.setIfInBounds_toArray, List.set_cons_zero, List.set_cons_succ]
  refine AnyS.one 24 (by kernel_rfl) (show _ = some _ from rfl) (fun K' hK' => ?_)
  go_simp
  refine hK' _ _ ⟨AnyS.done (by kernel_rfl) ?_, fun h => absurd rfl h⟩
  clear hK' K'
  try simp only [Act.put, List.setIfInBounds_toArray, List.set_cons_zero, List.set_cons_succ]
  have HX : Hid (∀ x y z : Int, DrawnDS w (.returned (.tuple #[.agg #[.int .i64 d.state, .slice o1 d.slots.length c1, .slice o2 d.rings.length c2, .slice o3 d.spoilt.length c3, .slice o4 d.wait.length c4], .int .i64 x, .int .i64 y, .int .i64 z])) (((((w9.setCell ⟨w.heap.size, 0, none⟩ (.int .i64 d.state)).setCell ⟨w.heap.size, 1, none⟩ (.slice o1 d.slots.length c1)).setCell ⟨w.heap.size, 2, none⟩ (.slice o2 d.rings.length c2)).setCell ⟨w.heap.size, 3, none⟩ (.slice o3 d.spoilt.length c3)).setCell ⟨w.heap.size, 4, none⟩ (.slice o4 d.wait.length c4))) := fun x y z =>
    ⟨d, _, x, y, z, rfl, HV.out _ (by rw [hDD]; exact (((((Ag9.out.set (.inl hz1) 0 _).set (.inl hz1) 1 _).set (.inl hz1) 2 _).set (.inl hz1) 3 _).set (.inl hz1) 4 _)), sets_below B9.out (Nat.le_refl _)⟩
  generalize IntKind.i64.wrap (vw4 + IntKind.i64.wrap (vw5.tdiv 23)) = y1
  generalize IntKind.i64.wrap (vw6 + IntKind.i64.wrap (vw7.tdiv 23)) = y2
  generalize IntKind.i64.wrap (IntKind.i64.wrap (vw8 + 1) - IntKind.i64.wrap (IntKind.i64.wrap (vw9.tdiv 23) * 255)) = y3
  go_wp2
  refine bodyPost_ret (v := .tuple #[.agg #[.int .i64 d.state, .slice o1 d.slots.length c1, .slice o2 d.rings.length c2, .slice o3 d.spoilt.length c3, .slice o4 d.wait.length c4], .int .i64 y1, .int .i64 y2, .int .i64 y3]) (by simp [results, Try.results13, go_sem, x0, x1, x2, x3, x4]) rfl (HX.out y1 y2 y3)

end Go.Proofs.Ytifgoanicbaohaa
