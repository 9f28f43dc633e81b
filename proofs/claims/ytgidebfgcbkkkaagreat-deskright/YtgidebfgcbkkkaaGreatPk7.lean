/-
  Texts joined: Z23, J9, W3, J12, W6, Z30, DK13, DK14, DK15.
-/
import Derived.Deep.CutRange
import Derived.Lib.QuietBelow
import Derived.BigQuiet
import Derived.Deep.CutBlock
import Derived.Test.YtgidebfgcbkkkaaGreatPk6
set_option maxHeartbeats 12800000
set_option maxRecDepth 100000
namespace Go.Proofs.YtgidebfgcbkkkaaGreat
section
open Go.RowKit
theorem stationNew_any (w : World) : Calls Tryz.prog 27 #[] w fun e w' => (∃ og cg ov cv, e = .returned (stV none none none 0 0 0 0 0 0 0 none 0 0 og 3 cg ov 3 cv) ∧ StW w' none none none 0 0 0 [] [] [] none 0 [] og cg xE ov cv newV) ∧ Below w.heap.size w w' := by
 refine (new_any w).mono ?_
 rintro e w' ⟨⟨og, cg, ov, cv, rfl, h1, h2⟩, hb⟩
 obtain ⟨o, c, e1, e2, e3⟩ := xM h1
 simp only [Value.slice.injEq, true_and] at e1
 obtain ⟨rfl, rfl⟩ := e1
 have hv := (vwsV_own (L := newV) h2).eqs
 have hg : xA w' og xE := by
  rcases h1.2 with ⟨h0, -⟩ | ⟨g, cap, cur, h3, -⟩
  ·simp at h0
  ·simp only [Value.slice.injEq, true_and] at h3
   obtain ⟨rfl, rfl⟩ := h3
   refine gatesAt_own (G := xE) h1 (fun g hg => ?_)
   simp only [xE, List.mem_cons, List.not_mem_nil, or_false] at hg
   rcases hg with rfl | rfl | rfl <;> exact ⟨tapsV_nil _, intsV_nil _⟩
 exact ⟨⟨og, cg, ov, cv, rfl, ⟨xW.of (tiksV_nil _) (tapsV_nil _) (intsV_nil _), ⟨by simp, by simp, by simp⟩, ⟨fun i p h => by simp at h, by simp, by simp, fun _ => rfl⟩, hg, fun g hg => by
  simp only [xE, List.mem_cons, List.not_mem_nil, or_false] at hg
  rcases hg with rfl | rfl | rfl <;> simp [gt0], e2, e3, by simp [xE], hv.2.1, hv.2.2.1, hv.2.2.2, by simp [newV]⟩⟩, hb⟩
theorem stationBegun_any (w : World) : Calls Tryz.prog 14 #[] w fun e w' => e = .returned (.bool true) ∧ Below w.heap.size w w' := by
 have Hw := zA (Below.refl w.heap.size w)
 go_enter Tryz.func14, Tryz.ntmps14
 go_wp2_with fail
 refine (hall_any _).mono ?_
 rintro e w1 ⟨⟨o1, c1, og, cg, ov, cv, rfl, hs1, -⟩, hb⟩
 have Bww1 := trR Hw hb
 have zww1 := Bww1.out.size
 clear hb Hw
 go_wp2_with fail
 refine (tapHall hs1).mono ?_
 rintro e w2 ⟨⟨a1, b1, a2, b2, a3, b3, a4, b4, a5, b5, a6, b6, rfl⟩, hb⟩
 have Bww2 := trR Bww1 hb
 have zww2 := Bww2.out.size
 clear hb Bww1
 clear hs1
 go_wp2_with fail
 have hb := (Below.refl w2.heap.size w2).alloc (Nat.le_refl _) (.cells #[.slice a1 1 b1, .slice a2 1 b2, .slice a3 1 b3, .int .i64 0, .slice a4 0 b4, .slice a5 3 b5, .slice a6 3 b6] 32)
 have OAw2a := zA (heap_alloc_new w2 (.cells #[.slice a1 1 b1, .slice a2 1 b2, .slice a3 1 b3, .int .i64 0, .slice a4 0 b4, .slice a5 3 b5, .slice a6 3 b6] 32))
 have Bww2a := trR Bww2 hb
 clear hb Bww2
 generalize (w2.alloc (.cells #[.slice a1 1 b1, .slice a2 1 b2, .slice a3 1 b3, .int .i64 0, .slice a4 0 b4, .slice a5 3 b5, .slice a6 3 b6] 32)) = w2a at *
 have zww2a := Bww2a.out.size
 have lAw2a := ltR OAw2a
 refine (hall_any _).mono ?_
 rintro e w3 ⟨⟨p1, q1, pg, qg, pv, qv, rfl, hs3, -⟩, hb⟩
 have Bww3 := trR Bww2a hb
 have OAw3 := atR OAw2a hb
 have zww3 := Bww3.out.size
 have lAw3 := ltR OAw3
 clear hb Bww2a OAw2a
 have HS3 := zA hs3
 clear hs3
 go_wp2_with fail
 have hb := (Below.refl w3.heap.size w3).alloc (Nat.le_refl _) (.cells #[.slice p1 1 q1, .slice none 0 0, .slice none 0 0, .int .i64 0, .slice none 0 0, .slice pg 3 qg, .slice pv 3 qv] 32)
 have OLw3a := zA (heap_alloc_new w3 (.cells #[.slice p1 1 q1, .slice none 0 0, .slice none 0 0, .int .i64 0, .slice none 0 0, .slice pg 3 qg, .slice pv 3 qv] 32))
 have Bww3a := trR Bww3 hb
 have Bw3w3a := zA hb
 have OAw3a := atR OAw3 hb
 clear hb Bww3 OAw3
 generalize (w3.alloc (.cells #[.slice p1 1 q1, .slice none 0 0, .slice none 0 0, .int .i64 0, .slice none 0 0, .slice pg 3 qg, .slice pv 3 qv] 32)) = w3a at *
 have zww3a := Bww3a.out.size
 have zw3w3a := Bw3w3a.out.size
 have lAw3a := ltR OAw3a
 have lLw3a := ltR OLw3a
 refine (newStation_any _).mono ?_
 rintro e w4 ⟨⟨ng, nc, nv, mc, rfl, -, hv, hvf⟩, hb⟩
 have Bww4 := trR Bww3a hb
 have Bw3w4 := trR Bw3w3a hb
 have OAw4 := atR OAw3a hb
 have OLw4 := atR OLw3a hb
 have zww4 := Bww4.out.size
 have zw3w4 := Bw3w4.out.size
 have lAw4 := ltR OAw4
 have lLw4 := ltR OLw4
 clear hb Bww3a Bw3w3a OAw3a OLw3a
 have HV4 := zA (hv.set hvf (p := ⟨w3.heap.size, 6, none⟩) (by simp; omega) (.slice nv 3 mc))
 clear hv hvf
 have cL0 : w4.cell? ⟨w3.heap.size, 0, none⟩ = some (.slice p1 1 q1) := by rw [cell_of_row _ _ 0 _ _ _ OLw4.out]; rfl
 have fL0 : w4.frozen? ⟨w3.heap.size, 0, none⟩ = false := frozen_of_row _ _ 0 _ _ OLw4.out
 have cL1 : w4.cell? ⟨w3.heap.size, 1, none⟩ = some (.slice none 0 0) := by rw [cell_of_row _ _ 1 _ _ _ OLw4.out]; rfl
 have fL1 : w4.frozen? ⟨w3.heap.size, 1, none⟩ = false := frozen_of_row _ _ 1 _ _ OLw4.out
 have cL2 : w4.cell? ⟨w3.heap.size, 2, none⟩ = some (.slice none 0 0) := by rw [cell_of_row _ _ 2 _ _ _ OLw4.out]; rfl
 have fL2 : w4.frozen? ⟨w3.heap.size, 2, none⟩ = false := frozen_of_row _ _ 2 _ _ OLw4.out
 have cL3 : w4.cell? ⟨w3.heap.size, 3, none⟩ = some (.int .i64 0) := by rw [cell_of_row _ _ 3 _ _ _ OLw4.out]; rfl
 have fL3 : w4.frozen? ⟨w3.heap.size, 3, none⟩ = false := frozen_of_row _ _ 3 _ _ OLw4.out
 have cL4 : w4.cell? ⟨w3.heap.size, 4, none⟩ = some (.slice none 0 0) := by rw [cell_of_row _ _ 4 _ _ _ OLw4.out]; rfl
 have fL4 : w4.frozen? ⟨w3.heap.size, 4, none⟩ = false := frozen_of_row _ _ 4 _ _ OLw4.out
 have cL5 : w4.cell? ⟨w3.heap.size, 5, none⟩ = some (.slice pg 3 qg) := by rw [cell_of_row _ _ 5 _ _ _ OLw4.out]; rfl
 have fL5 : w4.frozen? ⟨w3.heap.size, 5, none⟩ = false := frozen_of_row _ _ 5 _ _ OLw4.out
 have cL6 : w4.cell? ⟨w3.heap.size, 6, none⟩ = some (.slice pv 3 qv) := by rw [cell_of_row _ _ 6 _ _ _ OLw4.out]; rfl
 have fL6 : w4.frozen? ⟨w3.heap.size, 6, none⟩ = false := frozen_of_row _ _ 6 _ _ OLw4.out
 have hfd : ∀ X : World, (Instr.field 32 (stV none none none 0 0 0 0 0 0 0 none 0 0 ng 3 nc nv 3 mc) 3).run Tryz.prog X = .ok (.slice nv 3 mc) X := fun _ => by rfl
 go_wp2_with fail
 clear cL0 cL1 cL2 cL3 cL4 cL5 cL6 fL0 fL1 fL2 fL3 fL4 fL5 fL6
 clear hfd
 have Bww4a := zA (Bww4.out.setCell (p := ⟨w3.heap.size, 6, none⟩) (by simp; try omega) (.slice nv 3 mc))
 have Bw3w4a := zA (Bw3w4.out.setCell (p := ⟨w3.heap.size, 6, none⟩) (by simp; try omega) (.slice nv 3 mc))
 have OAw4a := zA (zD OAw4.out (p := ⟨w3.heap.size, 6, none⟩) (by simp; omega) (.slice nv 3 mc))
 have OLw4a := zA (heap_setCell_same _ (w3.heap.size) 6 _ _ (.slice nv 3 mc) OLw4.out)
 clear Bww4 Bw3w4 OAw4 OLw4
 generalize (w4.setCell ⟨w3.heap.size, 6, none⟩ (.slice nv 3 mc)) = w4a at *
 have zww4a := Bww4a.out.size
 have zw3w4a := Bw3w4a.out.size
 have lAw4a := ltR OAw4a
 have lLw4a := ltR OLw4a
 have HSA := zA (show StW w4a p1 none none q1 0 0 xS [] [] none 0 [] pg qg xE nv mc newV from by
  have h := HS3.out.below Bw3w4a.out
  exact ⟨h.led, h.lok, h.den, h.gts, h.gok, h.gle, h.gno, h.gln, HV4.out.eqs.2.1, HV4.out.eqs.2.2.1, HV4.out.eqs.2.2.2, by simp [newV]⟩)
 clear HS3 HV4
 refine (tapAlone HSA.out).mono ?_
 rintro e w5 ⟨⟨e1, f1, e2, f2, e3, f3, e4, f4, e5, f5, e6, f6, G', rfl, hm, hsB⟩, hb⟩
 have Bww5 := trR Bww4a hb
 have Bw4aw5 := zA hb
 have OAw5 := atR OAw4a hb
 have OLw5 := atR OLw4a hb
 have zww5 := Bww5.out.size
 have zw4aw5 := Bw4aw5.out.size
 have lAw5 := ltR OAw5
 have lLw5 := ltR OLw5
 clear hb Bww4a OAw4a OLw4a
 have HSB := zA hsB
 have HM := zA hm
 clear hsB hm
 go_wp2_with fail
 have hb := (Below.refl w5.heap.size w5).alloc (Nat.le_refl _) (.cells #[.slice e1 1 f1, .slice e2 0 f2, .slice e3 0 f3, .int .i64 0, .slice e4 0 f4, .slice e5 3 f5, .slice e6 3 f6] 32)
 have OBw5a := zA (heap_alloc_new w5 (.cells #[.slice e1 1 f1, .slice e2 0 f2, .slice e3 0 f3, .int .i64 0, .slice e4 0 f4, .slice e5 3 f5, .slice e6 3 f6] 32))
 have Bww5a := trR Bww5 hb
 have Bw4aw5a := trR Bw4aw5 hb
 have Bw5w5a := zA hb
 have OAw5a := atR OAw5 hb
 have OLw5a := atR OLw5 hb
 clear hb Bww5 Bw4aw5 OAw5 OLw5
 generalize (w5.alloc (.cells #[.slice e1 1 f1, .slice e2 0 f2, .slice e3 0 f3, .int .i64 0, .slice e4 0 f4, .slice e5 3 f5, .slice e6 3 f6] 32)) = w5a at *
 have zww5a := Bww5a.out.size
 have zw4aw5a := Bw4aw5a.out.size
 have zw5w5a := Bw5w5a.out.size
 have lAw5a := ltR OAw5a
 have lLw5a := ltR OLw5a
 have lBw5a := ltR OBw5a
 refine (hall_any _).mono ?_
 rintro e w6 ⟨⟨r1, s1, rg, sg, rv, sv, rfl, hs6, hf6⟩, hb⟩
 have Bww6 := trR Bww5a hb
 have Bw4aw6 := trR Bw4aw5a hb
 have Bw5w6 := trR Bw5w5a hb
 have OAw6 := atR OAw5a hb
 have OLw6 := atR OLw5a hb
 have OBw6 := atR OBw5a hb
 have zww6 := Bww6.out.size
 have zw4aw6 := Bw4aw6.out.size
 have zw5w6 := Bw5w6.out.size
 have lAw6 := ltR OAw6
 have lLw6 := ltR OLw6
 have lBw6 := ltR OBw6
 clear hb Bww5a Bw4aw5a Bw5w5a OAw5a OLw5a OBw5a
 have HV6 := zA ((show qK w6 (.slice rv 3 sv) jD from ⟨_, _, rfl, hs6.vws, hs6.vle, hs6.vno⟩).set hf6 (p := ⟨w5.heap.size, 6, none⟩) (by simp; omega) (.slice rv 3 sv))
 clear hs6 hf6
 have cB0 : w6.cell? ⟨w5.heap.size, 0, none⟩ = some (.slice e1 1 f1) := by rw [cell_of_row _ _ 0 _ _ _ OBw6.out]; rfl
 have fB0 : w6.frozen? ⟨w5.heap.size, 0, none⟩ = false := frozen_of_row _ _ 0 _ _ OBw6.out
 have cB1 : w6.cell? ⟨w5.heap.size, 1, none⟩ = some (.slice e2 0 f2) := by rw [cell_of_row _ _ 1 _ _ _ OBw6.out]; rfl
 have fB1 : w6.frozen? ⟨w5.heap.size, 1, none⟩ = false := frozen_of_row _ _ 1 _ _ OBw6.out
 have cB2 : w6.cell? ⟨w5.heap.size, 2, none⟩ = some (.slice e3 0 f3) := by rw [cell_of_row _ _ 2 _ _ _ OBw6.out]; rfl
 have fB2 : w6.frozen? ⟨w5.heap.size, 2, none⟩ = false := frozen_of_row _ _ 2 _ _ OBw6.out
 have cB3 : w6.cell? ⟨w5.heap.size, 3, none⟩ = some (.int .i64 0) := by rw [cell_of_row _ _ 3 _ _ _ OBw6.out]; rfl
 have fB3 : w6.frozen? ⟨w5.heap.size, 3, none⟩ = false := frozen_of_row _ _ 3 _ _ OBw6.out
 have cB4 : w6.cell? ⟨w5.heap.size, 4, none⟩ = some (.slice e4 0 f4) := by rw [cell_of_row _ _ 4 _ _ _ OBw6.out]; rfl
 have fB4 : w6.frozen? ⟨w5.heap.size, 4, none⟩ = false := frozen_of_row _ _ 4 _ _ OBw6.out
 have cB5 : w6.cell? ⟨w5.heap.size, 5, none⟩ = some (.slice e5 3 f5) := by rw [cell_of_row _ _ 5 _ _ _ OBw6.out]; rfl
 have fB5 : w6.frozen? ⟨w5.heap.size, 5, none⟩ = false := frozen_of_row _ _ 5 _ _ OBw6.out
 have cB6 : w6.cell? ⟨w5.heap.size, 6, none⟩ = some (.slice e6 3 f6) := by rw [cell_of_row _ _ 6 _ _ _ OBw6.out]; rfl
 have fB6 : w6.frozen? ⟨w5.heap.size, 6, none⟩ = false := frozen_of_row _ _ 6 _ _ OBw6.out
 have hfd : ∀ X : World, (Instr.field 32 (stV r1 none none 1 s1 0 0 0 0 0 none 0 0 rg 3 sg rv 3 sv) 3).run Tryz.prog X = .ok (.slice rv 3 sv) X := fun _ => by rfl
 go_wp2_with fail
 clear cB0 cB1 cB2 cB3 cB4 cB5 cB6 fB0 fB1 fB2 fB3 fB4 fB5 fB6
 clear hfd
 have Bww6a := zA (Bww6.out.setCell (p := ⟨w5.heap.size, 6, none⟩) (by simp; try omega) (.slice rv 3 sv))
 have Bw4aw6a := zA (Bw4aw6.out.setCell (p := ⟨w5.heap.size, 6, none⟩) (by simp; try omega) (.slice rv 3 sv))
 have Bw5w6a := zA (Bw5w6.out.setCell (p := ⟨w5.heap.size, 6, none⟩) (by simp; try omega) (.slice rv 3 sv))
 have OAw6a := zA (zD OAw6.out (p := ⟨w5.heap.size, 6, none⟩) (by simp; omega) (.slice rv 3 sv))
 have OLw6a := zA (zD OLw6.out (p := ⟨w5.heap.size, 6, none⟩) (by simp; omega) (.slice rv 3 sv))
 have OBw6a := zA (heap_setCell_same _ (w5.heap.size) 6 _ _ (.slice rv 3 sv) OBw6.out)
 clear Bww6 Bw4aw6 Bw5w6 OAw6 OLw6 OBw6
 generalize (w6.setCell ⟨w5.heap.size, 6, none⟩ (.slice rv 3 sv)) = w6a at *
 have zww6a := Bww6a.out.size
 have zw4aw6a := Bw4aw6a.out.size
 have zw5w6a := Bw5w6a.out.size
 have lAw6a := ltR OAw6a
 have lLw6a := ltR OLw6a
 have lBw6a := ltR OBw6a
 have HSC := zA (show StW w6a e1 e2 e3 f1 f2 f3 xS [] [] e4 f4 [] e5 f5 G' rv sv jD from by
  have h := HSB.out.below Bw5w6a.out
  exact ⟨h.led, h.lok, h.den, h.gts, h.gok, h.gle, h.gno, h.gln, HV6.out.eqs.2.1, HV6.out.eqs.2.2.1, HV6.out.eqs.2.2.2, by simp [jD]⟩)
 clear HSB HV6
 refine (tapB HM.out HSC.out).mono ?_
 rintro e w7 ⟨⟨vv, rfl⟩, hb⟩
 have Bww7 := trR Bww6a hb
 have Bw4aw7 := trR Bw4aw6a hb
 have Bw6aw7 := zA hb
 have OAw7 := atR OAw6a hb
 have OLw7 := atR OLw6a hb
 have OBw7 := atR OBw6a hb
 have zww7 := Bww7.out.size
 have zw4aw7 := Bw4aw7.out.size
 have zw6aw7 := Bw6aw7.out.size
 have lAw7 := ltR OAw7
 have lLw7 := ltR OLw7
 have lBw7 := ltR OBw7
 clear hb Bww6a Bw4aw6a OAw6a OLw6a OBw6a
 go_wp2_with fail
 have hb := (Below.refl w7.heap.size w7).alloc (Nat.le_refl _) (.cells #[.slice none 0 0, .slice none 0 0, .slice none 0 0, .int .i64 0, .slice none 0 0, .slice none 0 0, .slice none 0 0] 32)
 have OCw7a := zA (heap_alloc_new w7 (.cells #[.slice none 0 0, .slice none 0 0, .slice none 0 0, .int .i64 0, .slice none 0 0, .slice none 0 0, .slice none 0 0] 32))
 have Bww7a := trR Bww7 hb
 have Bw4aw7a := trR Bw4aw7 hb
 have Bw6aw7a := trR Bw6aw7 hb
 have OAw7a := atR OAw7 hb
 have OLw7a := atR OLw7 hb
 have OBw7a := atR OBw7 hb
 clear hb Bww7 Bw4aw7 Bw6aw7 OAw7 OLw7 OBw7
 generalize (w7.alloc (.cells #[.slice none 0 0, .slice none 0 0, .slice none 0 0, .int .i64 0, .slice none 0 0, .slice none 0 0, .slice none 0 0] 32)) = w7a at *
 have zww7a := Bww7a.out.size
 have zw4aw7a := Bw4aw7a.out.size
 have zw6aw7a := Bw6aw7a.out.size
 have lAw7a := ltR OAw7a
 have lLw7a := ltR OLw7a
 have lBw7a := ltR OBw7a
 have lCw7a := ltR OCw7a
 refine (hall_any _).mono ?_
 rintro e w8 ⟨⟨u1, t1, ug, tg, uv, tv, rfl, hs8, -⟩, hb⟩
 have Bww8 := trR Bww7a hb
 have Bw4aw8 := trR Bw4aw7a hb
 have Bw6aw8 := trR Bw6aw7a hb
 have OAw8 := atR OAw7a hb
 have OLw8 := atR OLw7a hb
 have OBw8 := atR OBw7a hb
 have OCw8 := atR OCw7a hb
 have zww8 := Bww8.out.size
 have zw4aw8 := Bw4aw8.out.size
 have zw6aw8 := Bw6aw8.out.size
 have lAw8 := ltR OAw8
 have lLw8 := ltR OLw8
 have lBw8 := ltR OBw8
 have lCw8 := ltR OCw8
 clear hb Bww7a Bw4aw7a Bw6aw7a OAw7a OLw7a OBw7a OCw7a
 have HS8 := zA hs8
 clear hs8
 go_wp2_with fail
 refine (single_any _ _).mono ?_
 rintro e w9 ⟨rfl, hb⟩
 have Bww9 := trR Bww8 hb
 have Bw4aw9 := trR Bw4aw8 hb
 have Bw6aw9 := trR Bw6aw8 hb
 have Bw8w9 := zA hb
 have OAw9 := atR OAw8 hb
 have OLw9 := atR OLw8 hb
 have OBw9 := atR OBw8 hb
 have OCw9 := atR OCw8 hb
 have zww9 := Bww9.out.size
 have zw4aw9 := Bw4aw9.out.size
 have zw6aw9 := Bw6aw9.out.size
 have zw8w9 := Bw8w9.out.size
 have lAw9 := ltR OAw9
 have lLw9 := ltR OLw9
 have lBw9 := ltR OBw9
 have lCw9 := ltR OCw9
 clear hb Bww8 Bw4aw8 Bw6aw8 OAw8 OLw8 OBw8 OCw8
 go_wp2_with fail
 refine (sellHall (HS8.out.below Bw8w9.out)).mono ?_
 rintro e w10 ⟨⟨h1, i1, h2, i2, h3, i3, h4, i4, h5, i5, h6, i6, rfl⟩, hb⟩
 have Bww10 := trR Bww9 hb
 have Bw4aw10 := trR Bw4aw9 hb
 have Bw6aw10 := trR Bw6aw9 hb
 have Bw8w10 := trR Bw8w9 hb
 have OAw10 := atR OAw9 hb
 have OLw10 := atR OLw9 hb
 have OBw10 := atR OBw9 hb
 have OCw10 := atR OCw9 hb
 have zww10 := Bww10.out.size
 have zw4aw10 := Bw4aw10.out.size
 have zw6aw10 := Bw6aw10.out.size
 have zw8w10 := Bw8w10.out.size
 have lAw10 := ltR OAw10
 have lLw10 := ltR OLw10
 have lBw10 := ltR OBw10
 have lCw10 := ltR OCw10
 clear hb Bww9 Bw4aw9 Bw6aw9 Bw8w9 OAw9 OLw9 OBw9 OCw9
 clear HS8
 obtain ⟨cB0, cB1, cB2, cB3, cB4, cB5, cB6⟩ := zY OBw10.out
 go_wp2_with fail
 clear cB0 cB1 cB2 cB3 cB4 cB5 cB6
 have hb := (Below.refl w10.heap.size w10).alloc (Nat.le_refl _) (.cells #[.slice h1 2 i1, .slice h2 0 i2, .slice h3 0 i3, .int .i64 0, .slice h4 0 i4, .slice h5 3 i5, .slice h6 3 i6] 32)
 have ODw10a := zA (heap_alloc_new w10 (.cells #[.slice h1 2 i1, .slice h2 0 i2, .slice h3 0 i3, .int .i64 0, .slice h4 0 i4, .slice h5 3 i5, .slice h6 3 i6] 32))
 have Bww10a := trR Bww10 hb
 have Bw4aw10a := trR Bw4aw10 hb
 have Bw6aw10a := trR Bw6aw10 hb
 have OAw10a := atR OAw10 hb
 have OLw10a := atR OLw10 hb
 have OBw10a := atR OBw10 hb
 have OCw10a := atR OCw10 hb
 clear hb Bww10 Bw4aw10 Bw6aw10 OAw10 OLw10 OBw10 OCw10
 generalize (w10.alloc (.cells #[.slice h1 2 i1, .slice h2 0 i2, .slice h3 0 i3, .int .i64 0, .slice h4 0 i4, .slice h5 3 i5, .slice h6 3 i6] 32)) = w10a at *
 have zww10a := Bww10a.out.size
 have zw4aw10a := Bw4aw10a.out.size
 have zw6aw10a := Bw6aw10a.out.size
 have lAw10a := ltR OAw10a
 have lLw10a := ltR OLw10a
 have lBw10a := ltR OBw10a
 have lCw10a := ltR OCw10a
 have lDw10a := ltR ODw10a
 refine (syncB HM.out (HSC.out.below Bw6aw10a.out)).mono ?_
 rintro e w11 ⟨⟨j1, k1, j2, k2, j3, k3, j4, k4, j5, k5, j6, k6, o, c, rfl⟩, hb⟩
 have Bww11 := trR Bww10a hb
 have Bw4aw11 := trR Bw4aw10a hb
 have Bw6aw11 := trR Bw6aw10a hb
 have OAw11 := atR OAw10a hb
 have OLw11 := atR OLw10a hb
 have OBw11 := atR OBw10a hb
 have OCw11 := atR OCw10a hb
 have ODw11 := atR ODw10a hb
 have zww11 := Bww11.out.size
 have zw4aw11 := Bw4aw11.out.size
 have zw6aw11 := Bw6aw11.out.size
 have lAw11 := ltR OAw11
 have lLw11 := ltR OLw11
 have lBw11 := ltR OBw11
 have lCw11 := ltR OCw11
 have lDw11 := ltR ODw11
 clear hb Bww10a Bw4aw10a Bw6aw10a OAw10a OLw10a OBw10a OCw10a ODw10a
 go_upto_region 9 with fail
 have hb := (Below.refl w11.heap.size w11).alloc (Nat.le_refl _) (.cells #[.slice j1 1 k1, .slice j2 1 k2, .slice j3 1 k3, .int .i64 0, .slice j4 0 k4, .slice j5 3 k5, .slice j6 3 k6] 32)
 have OSwa := zA (heap_alloc_new w11 (.cells #[.slice j1 1 k1, .slice j2 1 k2, .slice j3 1 k3, .int .i64 0, .slice j4 0 k4, .slice j5 3 k5, .slice j6 3 k6] 32))
 have Bwwa := trR Bww11 hb
 have Bw4awa := trR Bw4aw11 hb
 have Bw6awa := trR Bw6aw11 hb
 have OAwa := atR OAw11 hb
 have OLwa := atR OLw11 hb
 have OBwa := atR OBw11 hb
 have OCwa := atR OCw11 hb
 have ODwa := atR ODw11 hb
 clear hb Bww11 Bw4aw11 Bw6aw11 OAw11 OLw11 OBw11 OCw11 ODw11
 generalize (w11.alloc (.cells #[.slice j1 1 k1, .slice j2 1 k2, .slice j3 1 k3, .int .i64 0, .slice j4 0 k4, .slice j5 3 k5, .slice j6 3 k6] 32)) = wa at *
 have zwwa := Bwwa.out.size
 have zw4awa := Bw4awa.out.size
 have zw6awa := Bw6awa.out.size
 have lAwa := ltR OAwa
 have lLwa := ltR OLwa
 have lBwa := ltR OBwa
 have lCwa := ltR OCwa
 have lDwa := ltR ODwa
 have lSwa := ltR OSwa
 go_cut [16, 17] from 55 to 61 (fun s16 s17 wx => s17 = .int .i64 4 ∧ Hid (Below wa.heap.size wa wx))
 case first =>
  refine zJ (fun w' => w'.heap[w3.heap.size]? = some (.cells #[.slice p1 1 q1, .slice none 0 0, .slice none 0 0, .int .i64 0, .slice none 0 0, .slice pg 3 qg, .slice nv 3 mc] 32)) [0] 8 (by rfl) (by kernel_rfl) (by kernel_rfl) (by kernel_rfl) (fun c d v a w h => by cases d <;> exact h) ?_ ?_
  ·exact zC OLwa.out (Below.refl _ _).drew
  refine zB (stV p1 none none 1 q1 0 0 0 0 0 none 0 0 pg 3 qg nv 3 mc) rfl rfl (fun w' hS => ?_) ?_
  ·have q0 : w'.cell? ⟨w3.heap.size, 0, none⟩ = some (.slice p1 1 q1) := by rw [cell_of_row _ _ 0 _ _ _ hS]; rfl
   have q1 : w'.cell? ⟨w3.heap.size, 1, none⟩ = some (.slice none 0 0) := by rw [cell_of_row _ _ 1 _ _ _ hS]; rfl
   have q2 : w'.cell? ⟨w3.heap.size, 2, none⟩ = some (.slice none 0 0) := by rw [cell_of_row _ _ 2 _ _ _ hS]; rfl
   have q3 : w'.cell? ⟨w3.heap.size, 3, none⟩ = some (.int .i64 0) := by rw [cell_of_row _ _ 3 _ _ _ hS]; rfl
   have q4 : w'.cell? ⟨w3.heap.size, 4, none⟩ = some (.slice none 0 0) := by rw [cell_of_row _ _ 4 _ _ _ hS]; rfl
   have q5 : w'.cell? ⟨w3.heap.size, 5, none⟩ = some (.slice pg 3 qg) := by rw [cell_of_row _ _ 5 _ _ _ hS]; rfl
   have q6 : w'.cell? ⟨w3.heap.size, 6, none⟩ = some (.slice nv 3 mc) := by rw [cell_of_row _ _ 6 _ _ _ hS]; rfl
   go_simp
  refine zE ?_
  have HLd := zA (zC OLwa.out (Below.refl _ _).drew)
  have HSd := zA ((HSA.out.below Bw4awa.out).below (Below.refl _ _).drew)
  have HAd := zA ((Below.refl wa.heap.size wa).drew)
  have hsd : wa.heap.size ≤ wa.drew.heap.size := Nat.le_refl _
  generalize (World.drew _) = w0 at *
  refine zT (i := 1) (j := 6) (by kernel_rfl) rfl rfl rfl rfl (fun K hK => ?_) (fun K hK => ?_)
  ·go_simp
   refine (single_any _ _).mono ?_
   rintro e v1 ⟨rfl, hb⟩
   have HB1 := zA (hb)
   refine hK _ _ (zC HLd.out HB1.out) ?_
   clear hK K hb
   refine zT (i := 2) (j := 6) (by kernel_rfl) rfl rfl rfl rfl (fun K hK => ?_) (fun K hK => ?_)
   ·go_simp
    refine (sellAlone4 (HSd.out.below HB1.out)).mono ?_
    rintro e v2 ⟨rfl, hb⟩
    have HB2 := trR HB1 hb
    refine hK _ _ (zC HLd.out HB2.out) ?_
    clear hK K hb
    refine yB (fuel := 3) (by kernel_rfl) (fun c d v a w h => by cases d <;> exact h) (zC HLd.out HB2.out) [3, 4, 5] _ _ (by kernel_rfl) ?_
    refine pS (.tuple #[stV none none none 0 0 0 0 0 0 0 none 0 0 none 0 0 none 0 0, .int .i64 4]) rfl rfl ?_
    refine pS (stV none none none 0 0 0 0 0 0 0 none 0 0 none 0 0 none 0 0) rfl rfl ?_
    refine pS (.int .i64 4) rfl rfl ?_
    refine zE ?_
    refine oR 6 rfl rfl fun K hK => ?_
    go_simp
    have hb := (Below.refl v2.heap.size v2).alloc (Nat.le_refl _) (.cells #[.slice none 0 0, .slice none 0 0, .slice none 0 0, .int .i64 0, .slice none 0 0, .slice none 0 0, .slice none 0 0] 32)
    have HB3 := trR HB2 hb
    have HZ3 := zA (heap_alloc_new v2 (.cells #[.slice none 0 0, .slice none 0 0, .slice none 0 0, .int .i64 0, .slice none 0 0, .slice none 0 0, .slice none 0 0] 32))
    have q3 : v2.heap.size < (v2.alloc (.cells #[.slice none 0 0, .slice none 0 0, .slice none 0 0, .int .i64 0, .slice none 0 0, .slice none 0 0, .slice none 0 0] 32)).heap.size := by simp
    have u3 := HB2.out.size
    refine hK _ _ (zC HLd.out HB3.out) ?_
    clear hK K hb
    generalize v2.alloc (.cells #[.slice none 0 0, .slice none 0 0, .slice none 0 0, .int .i64 0, .slice none 0 0, .slice none 0 0, .slice none 0 0] 32) = v3 at *
    have r0 := cell_of_row _ _ 0 _ _ _ HZ3.out
    have s0 := frozen_of_row _ _ 0 _ _ HZ3.out
    have r1 := cell_of_row _ _ 1 _ _ _ HZ3.out
    have s1 := frozen_of_row _ _ 1 _ _ HZ3.out
    have r2 := cell_of_row _ _ 2 _ _ _ HZ3.out
    have s2 := frozen_of_row _ _ 2 _ _ HZ3.out
    have r3 := cell_of_row _ _ 3 _ _ _ HZ3.out
    have s3 := frozen_of_row _ _ 3 _ _ HZ3.out
    have r4 := cell_of_row _ _ 4 _ _ _ HZ3.out
    have s4 := frozen_of_row _ _ 4 _ _ HZ3.out
    have r5 := cell_of_row _ _ 5 _ _ _ HZ3.out
    have s5 := frozen_of_row _ _ 5 _ _ HZ3.out
    have r6 := cell_of_row _ _ 6 _ _ _ HZ3.out
    have s6 := frozen_of_row _ _ 6 _ _ HZ3.out
    simp at r0 r1 r2 r3 r4 r5 r6
    have HBz := zA (((((((HB3.out.setCell (p := ⟨v2.heap.size, 0, none⟩) (by simp; try omega) (.slice none 0 0)).setCell (p := ⟨v2.heap.size, 1, none⟩) (by simp; try omega) (.slice none 0 0)).setCell (p := ⟨v2.heap.size, 2, none⟩) (by simp; try omega) (.slice none 0 0)).setCell (p := ⟨v2.heap.size, 3, none⟩) (by simp; try omega) (.int .i64 0)).setCell (p := ⟨v2.heap.size, 4, none⟩) (by simp; try omega) (.slice none 0 0)).setCell (p := ⟨v2.heap.size, 5, none⟩) (by simp; try omega) (.slice none 0 0)).setCell (p := ⟨v2.heap.size, 6, none⟩) (by simp; try omega) (.slice none 0 0))
    refine oR 7 rfl rfl fun K hK => ?_
    go_simp
    refine hK _ _ (zC HLd.out HBz.out) ?_
    clear hK K r0 s0 r1 s1 r2 s2 r3 s3 r4 s4 r5 s5 r6 s6
    generalize (((((((v3.setCell ⟨v2.heap.size, 0, none⟩ (.slice none 0 0)).setCell ⟨v2.heap.size, 1, none⟩ (.slice none 0 0)).setCell ⟨v2.heap.size, 2, none⟩ (.slice none 0 0)).setCell ⟨v2.heap.size, 3, none⟩ (.int .i64 0)).setCell ⟨v2.heap.size, 4, none⟩ (.slice none 0 0)).setCell ⟨v2.heap.size, 5, none⟩ (.slice none 0 0)).setCell ⟨v2.heap.size, 6, none⟩ (.slice none 0 0)) = wz at *
    refine oR 8 rfl rfl fun K hK => ?_
    go_simp
    refine hK _ _ (zC HLd.out HBz.out) ?_
    clear hK K
    refine wpAnyH_done (by kernel_rfl) ?_ _
    go_wp2_with fail
    go_meet
    case rel => exact ⟨rfl, zA (HAd.out.trans (HBz.out.mono (by omega)))⟩
   ·go_simp
    have hb := (Below.refl v1.heap.size v1).alloc (Nat.le_refl _) (.cells #[.slice none 0 0, .slice none 0 0, .slice none 0 0, .int .i64 0, .slice none 0 0, .slice none 0 0, .slice none 0 0] 32)
    have HB4 := trR HB1 hb
    have HZ4 := zA (heap_alloc_new v1 (.cells #[.slice none 0 0, .slice none 0 0, .slice none 0 0, .int .i64 0, .slice none 0 0, .slice none 0 0, .slice none 0 0] 32))
    have q4 : v1.heap.size < (v1.alloc (.cells #[.slice none 0 0, .slice none 0 0, .slice none 0 0, .int .i64 0, .slice none 0 0, .slice none 0 0, .slice none 0 0] 32)).heap.size := by simp
    have u4 := HB1.out.size
    refine hK _ _ (zC HLd.out HB4.out) ?_
    clear hK K hb
    generalize v1.alloc (.cells #[.slice none 0 0, .slice none 0 0, .slice none 0 0, .int .i64 0, .slice none 0 0, .slice none 0 0, .slice none 0 0] 32) = v4 at *
    refine oR 2 rfl rfl fun K hK => ?_
    go_simp
    refine (sellAlone4 (HSd.out.below HB4.out)).mono ?_
    rintro e v5 ⟨rfl, hb⟩
    have HB5 := trR HB4 hb
    have HZ5 := atR HZ4 hb
    have q5 := ltR HZ5
    refine hK _ _ (zC HLd.out HB5.out) ?_
    clear hK K hb
    refine yB (fuel := 2) (by kernel_rfl) (fun c d v a w h => by cases d <;> exact h) (zC HLd.out HB5.out) [3, 4, 5] _ _ (by kernel_rfl) ?_
    refine pS (.tuple #[stV none none none 0 0 0 0 0 0 0 none 0 0 none 0 0 none 0 0, .int .i64 4]) rfl rfl ?_
    refine pS (stV none none none 0 0 0 0 0 0 0 none 0 0 none 0 0 none 0 0) rfl rfl ?_
    refine pS (.int .i64 4) rfl rfl ?_
    refine zE ?_
    have r0 := cell_of_row _ _ 0 _ _ _ HZ5.out
    have s0 := frozen_of_row _ _ 0 _ _ HZ5.out
    have r1 := cell_of_row _ _ 1 _ _ _ HZ5.out
    have s1 := frozen_of_row _ _ 1 _ _ HZ5.out
    have r2 := cell_of_row _ _ 2 _ _ _ HZ5.out
    have s2 := frozen_of_row _ _ 2 _ _ HZ5.out
    have r3 := cell_of_row _ _ 3 _ _ _ HZ5.out
    have s3 := frozen_of_row _ _ 3 _ _ HZ5.out
    have r4 := cell_of_row _ _ 4 _ _ _ HZ5.out
    have s4 := frozen_of_row _ _ 4 _ _ HZ5.out
    have r5 := cell_of_row _ _ 5 _ _ _ HZ5.out
    have s5 := frozen_of_row _ _ 5 _ _ HZ5.out
    have r6 := cell_of_row _ _ 6 _ _ _ HZ5.out
    have s6 := frozen_of_row _ _ 6 _ _ HZ5.out
    simp at r0 r1 r2 r3 r4 r5 r6
    have HBz := zA (((((((HB5.out.setCell (p := ⟨v1.heap.size, 0, none⟩) (by simp; try omega) (.slice none 0 0)).setCell (p := ⟨v1.heap.size, 1, none⟩) (by simp; try omega) (.slice none 0 0)).setCell (p := ⟨v1.heap.size, 2, none⟩) (by simp; try omega) (.slice none 0 0)).setCell (p := ⟨v1.heap.size, 3, none⟩) (by simp; try omega) (.int .i64 0)).setCell (p := ⟨v1.heap.size, 4, none⟩) (by simp; try omega) (.slice none 0 0)).setCell (p := ⟨v1.heap.size, 5, none⟩) (by simp; try omega) (.slice none 0 0)).setCell (p := ⟨v1.heap.size, 6, none⟩) (by simp; try omega) (.slice none 0 0))
    refine oR 7 rfl rfl fun K hK => ?_
    go_simp
    refine hK _ _ (zC HLd.out HBz.out) ?_
    clear hK K r0 s0 r1 s1 r2 s2 r3 s3 r4 s4 r5 s5 r6 s6
    generalize (((((((v5.setCell ⟨v1.heap.size, 0, none⟩ (.slice none 0 0)).setCell ⟨v1.heap.size, 1, none⟩ (.slice none 0 0)).setCell ⟨v1.heap.size, 2, none⟩ (.slice none 0 0)).setCell ⟨v1.heap.size, 3, none⟩ (.int .i64 0)).setCell ⟨v1.heap.size, 4, none⟩ (.slice none 0 0)).setCell ⟨v1.heap.size, 5, none⟩ (.slice none 0 0)).setCell ⟨v1.heap.size, 6, none⟩ (.slice none 0 0)) = wz at *
    refine oR 8 rfl rfl fun K hK => ?_
    go_simp
    refine hK _ _ (zC HLd.out HBz.out) ?_
    clear hK K
    refine wpAnyH_done (by kernel_rfl) ?_ _
    go_wp2_with fail
    go_meet
    case rel => exact ⟨rfl, zA (HAd.out.trans (HBz.out.mono (by omega)))⟩
  ·go_simp
   have hb := (Below.refl w0.heap.size w0).alloc (Nat.le_refl _) (.cells #[.slice none 0 0, .slice none 0 0, .slice none 0 0, .int .i64 0, .slice none 0 0, .slice none 0 0, .slice none 0 0] 32)
   have HB6 := zA (hb)
   have HZ6 := zA (heap_alloc_new w0 (.cells #[.slice none 0 0, .slice none 0 0, .slice none 0 0, .int .i64 0, .slice none 0 0, .slice none 0 0, .slice none 0 0] 32))
   have q6 : w0.heap.size < (w0.alloc (.cells #[.slice none 0 0, .slice none 0 0, .slice none 0 0, .int .i64 0, .slice none 0 0, .slice none 0 0, .slice none 0 0] 32)).heap.size := by simp
   have u6 : w0.heap.size ≤ w0.heap.size := Nat.le_refl _
   refine hK _ _ (zC HLd.out HB6.out) ?_
   clear hK K hb
   generalize w0.alloc (.cells #[.slice none 0 0, .slice none 0 0, .slice none 0 0, .int .i64 0, .slice none 0 0, .slice none 0 0, .slice none 0 0] 32) = v6 at *
   refine oR 1 rfl rfl fun K hK => ?_
   go_simp
   refine (single_any _ _).mono ?_
   rintro e v7 ⟨rfl, hb⟩
   have HB7 := trR HB6 hb
   have HZ7 := atR HZ6 hb
   have q7 := ltR HZ7
   refine hK _ _ (zC HLd.out HB7.out) ?_
   clear hK K hb
   refine oR 2 rfl rfl fun K hK => ?_
   go_simp
   refine (sellAlone4 (HSd.out.below HB7.out)).mono ?_
   rintro e v8 ⟨rfl, hb⟩
   have HB8 := trR HB7 hb
   have HZ8 := atR HZ7 hb
   have q8 := ltR HZ8
   refine hK _ _ (zC HLd.out HB8.out) ?_
   clear hK K hb
   refine yB (fuel := 2) (by kernel_rfl) (fun c d v a w h => by cases d <;> exact h) (zC HLd.out HB8.out) [3, 4, 5] _ _ (by kernel_rfl) ?_
   refine pS (.tuple #[stV none none none 0 0 0 0 0 0 0 none 0 0 none 0 0 none 0 0, .int .i64 4]) rfl rfl ?_
   refine pS (stV none none none 0 0 0 0 0 0 0 none 0 0 none 0 0 none 0 0) rfl rfl ?_
   refine pS (.int .i64 4) rfl rfl ?_
   refine zE ?_
   have r0 := cell_of_row _ _ 0 _ _ _ HZ8.out
   have s0 := frozen_of_row _ _ 0 _ _ HZ8.out
   have r1 := cell_of_row _ _ 1 _ _ _ HZ8.out
   have s1 := frozen_of_row _ _ 1 _ _ HZ8.out
   have r2 := cell_of_row _ _ 2 _ _ _ HZ8.out
   have s2 := frozen_of_row _ _ 2 _ _ HZ8.out
   have r3 := cell_of_row _ _ 3 _ _ _ HZ8.out
   have s3 := frozen_of_row _ _ 3 _ _ HZ8.out
   have r4 := cell_of_row _ _ 4 _ _ _ HZ8.out
   have s4 := frozen_of_row _ _ 4 _ _ HZ8.out
   have r5 := cell_of_row _ _ 5 _ _ _ HZ8.out
   have s5 := frozen_of_row _ _ 5 _ _ HZ8.out
   have r6 := cell_of_row _ _ 6 _ _ _ HZ8.out
   have s6 := frozen_of_row _ _ 6 _ _ HZ8.out
   simp at r0 r1 r2 r3 r4 r5 r6
   have HBz := zA (((((((HB8.out.setCell (p := ⟨w0.heap.size, 0, none⟩) (by simp; try omega) (.slice none 0 0)).setCell (p := ⟨w0.heap.size, 1, none⟩) (by simp; try omega) (.slice none 0 0)).setCell (p := ⟨w0.heap.size, 2, none⟩) (by simp; try omega) (.slice none 0 0)).setCell (p := ⟨w0.heap.size, 3, none⟩) (by simp; try omega) (.int .i64 0)).setCell (p := ⟨w0.heap.size, 4, none⟩) (by simp; try omega) (.slice none 0 0)).setCell (p := ⟨w0.heap.size, 5, none⟩) (by simp; try omega) (.slice none 0 0)).setCell (p := ⟨w0.heap.size, 6, none⟩) (by simp; try omega) (.slice none 0 0))
   refine oR 7 rfl rfl fun K hK => ?_
   go_simp
   refine hK _ _ (zC HLd.out HBz.out) ?_
   clear hK K r0 s0 r1 s1 r2 s2 r3 s3 r4 s4 r5 s5 r6 s6
   generalize (((((((v8.setCell ⟨w0.heap.size, 0, none⟩ (.slice none 0 0)).setCell ⟨w0.heap.size, 1, none⟩ (.slice none 0 0)).setCell ⟨w0.heap.size, 2, none⟩ (.slice none 0 0)).setCell ⟨w0.heap.size, 3, none⟩ (.int .i64 0)).setCell ⟨w0.heap.size, 4, none⟩ (.slice none 0 0)).setCell ⟨w0.heap.size, 5, none⟩ (.slice none 0 0)).setCell ⟨w0.heap.size, 6, none⟩ (.slice none 0 0)) = wz at *
   refine oR 8 rfl rfl fun K hK => ?_
   go_simp
   refine hK _ _ (zC HLd.out HBz.out) ?_
   clear hK K
   refine wpAnyH_done (by kernel_rfl) ?_ _
   go_wp2_with fail
   go_meet
   case rel => exact ⟨rfl, zA (HAd.out.trans (HBz.out.mono (by omega)))⟩
 case rest =>
  obtain ⟨rfl, HB⟩ := hcut
  have hb := HB.out
  have Bwwc := trR Bwwa hb
  have Bw4awc := trR Bw4awa hb
  have Bw6awc := trR Bw6awa hb
  have OAwc := atR OAwa hb
  have OLwc := atR OLwa hb
  have OBwc := atR OBwa hb
  have OCwc := atR OCwa hb
  have ODwc := atR ODwa hb
  have OSwc := atR OSwa hb
  have zwwc := Bwwc.out.size
  have zw4awc := Bw4awc.out.size
  have zw6awc := Bw6awc.out.size
  have lAwc := ltR OAwc
  have lLwc := ltR OLwc
  have lBwc := ltR OBwc
  have lCwc := ltR OCwc
  have lDwc := ltR ODwc
  have lSwc := ltR OSwc
  clear hb HB Bwwa Bw4awa Bw6awa OAwa OLwa OBwa OCwa ODwa OSwa
  go_wp2_with fail
  refine (stationNew_any _).mono ?_
  rintro e w12 ⟨⟨kg, lg, kv, lv, rfl, hsn⟩, hb⟩
  have Bww12 := trR Bwwc hb
  have Bw4aw12 := trR Bw4awc hb
  have Bw6aw12 := trR Bw6awc hb
  have OAw12 := atR OAwc hb
  have OLw12 := atR OLwc hb
  have OBw12 := atR OBwc hb
  have OCw12 := atR OCwc hb
  have ODw12 := atR ODwc hb
  have OSw12 := atR OSwc hb
  have zww12 := Bww12.out.size
  have zw4aw12 := Bw4aw12.out.size
  have zw6aw12 := Bw6aw12.out.size
  have lAw12 := ltR OAw12
  have lLw12 := ltR OLw12
  have lBw12 := ltR OBw12
  have lCw12 := ltR OCw12
  have lDw12 := ltR ODw12
  have lSw12 := ltR OSw12
  clear hb Bwwc Bw4awc Bw6awc OAwc OLwc OBwc OCwc ODwc OSwc
  have HSN := zA hsn
  clear hsn
  go_wp2_with fail
  have HCk := zA (qB [] [] [] 0 [] xE newV none none none none kg kv 0 0 0 0 lg lv w12 HSN.out.led HSN.out.lok HSN.out.den.1 HSN.out.den.2.1 HSN.out.gts HSN.out.gok HSN.out.vws HSN.out.vln)
  rw [ev_new] at HCk
  refine (HCk.out).mono ?_
  rintro e w13 ⟨rfl, hb⟩
  have Bww13 := trR Bww12 hb
  have Bw4aw13 := trR Bw4aw12 hb
  have Bw6aw13 := trR Bw6aw12 hb
  have OAw13 := atR OAw12 hb
  have OLw13 := atR OLw12 hb
  have OBw13 := atR OBw12 hb
  have OCw13 := atR OCw12 hb
  have ODw13 := atR ODw12 hb
  have OSw13 := atR OSw12 hb
  have zww13 := Bww13.out.size
  have zw4aw13 := Bw4aw13.out.size
  have zw6aw13 := Bw6aw13.out.size
  have lAw13 := ltR OAw13
  have lLw13 := ltR OLw13
  have lBw13 := ltR OBw13
  have lCw13 := ltR OCw13
  have lDw13 := ltR ODw13
  have lSw13 := ltR OSw13
  clear hb Bww12 Bw4aw12 Bw6aw12 OAw12 OLw12 OBw12 OCw12 ODw12 OSw12
  obtain ⟨g0, hg0, hgA⟩ : ∃ g0, G'[0]? = some g0 ∧ g0.A.length = 1 := by
   have hm := HM.out
   cases hx : G' with
   | nil => rw [hx] at hm; simp [gB] at hm
   | cons x X =>
    rw [hx] at hm
    simp only [gB, List.map_cons, List.cons.injEq] at hm
    exact ⟨x, rfl, by have := congrArg (fun y => y.A.length) hm.1; simpa [GT.p] using this⟩
  obtain ⟨bb, rfl, h8, -, -⟩ := (HSC.out.below Bw6aw13.out).gts 0 g0 hg0
  obtain ⟨-, -, -, d3, -, -, -, -⟩ := h8
  simp only [Nat.zero_mul] at d3
  rw [hgA] at d3
  simp [Addr.add] at d3
  obtain ⟨cA0, cA1, cA2, cA3, cA4, cA5, cA6⟩ := zY OAw13.out
  obtain ⟨cB0, cB1, cB2, cB3, cB4, cB5, cB6⟩ := zY OBw13.out
  obtain ⟨cC0, cC1, cC2, cC3, cC4, cC5, cC6⟩ := zY OCw13.out
  obtain ⟨cD0, cD1, cD2, cD3, cD4, cD5, cD6⟩ := zY ODw13.out
  obtain ⟨cS0, cS1, cS2, cS3, cS4, cS5, cS6⟩ := zY OSw13.out
  clear hg0 hgA HM HSC HSA HSN HCk
  go_wp2_with fail
  go_ret
  exact ⟨rfl, Bww13.out⟩
theorem t1 : tapG 1 2 4 [] 1 [7] 2 90 ⟨1, 1, 10, 500, 15, 0⟩ 50 = 0 := by decide +kernel
theorem t2 : tapG 1 2 5 [⟨1, 1, 5, 50, 2⟩] 1 [7] 1 90 ⟨1, 1, 10, 500, 15, 0⟩ 60 = 10 := by decide +kernel
theorem t3 : tapG 1 2 4 [] 1 [7] 2 90 ⟨7, 1, 10, 500, 15, 0⟩ 50 = 11 := by decide +kernel
theorem t4 : tapG 1 2 4 [] 1 [7] 2 90 ⟨1, 1, 10, 500, 15, 0⟩ 91 = 8 := by decide +kernel
theorem t5 : vA 1 2 5 [⟨1, 1, 5, 50, 2⟩] 1 [7] 1 90 5 [] 60 = 0 := by decide +kernel
theorem t6 : xH 1 2 5 [⟨1, 1, 5, 50, 2⟩] 1 [7] 1 90 = 0 := by decide +kernel
theorem sameTaps_same (L : List TP) (o o' : Option Addr) (c c' : Nat) (w : World) (hL : zI w o L) (hM : zI w o' L) (hlen : L.length ≤ 100) :
  Calls Tryz.prog 105 #[.slice o L.length c, .slice o' L.length c'] w fun e w' => e = .returned (.bool true) ∧ Below w.heap.size w w' := by
 have HL := zA hL
 have HM := zA hM
 clear hL hM
 go_enter Tryz.func105, Tryz.ntmps105
 go_wp2_with fail
 go_loopw [5] (fun j wr => ∃ (q : Nat), q ≤ L.length ∧ j = .int .i64 q ∧ Below w.heap.size w wr) (fun j _ => L.length - (intOf j).toNat)
 case atStart => exact ⟨0, Nat.zero_le _, rfl, Below.refl _ _⟩
 case round =>
  obtain ⟨q, hq, rfl, hbr⟩ := hrel
  by_cases hgo : q < L.length
  ·obtain ⟨p, hp⟩ : ∃ p, L[q]? = some p := ⟨L[q], by simp [hgo]⟩
   obtain ⟨A, rfl, c0, c1, c2, c3, c4⟩ := (HL.out.below hbr) q p hp
   obtain ⟨A', rfl, d0, d1, d2, d3, d4⟩ := (HM.out.below hbr) q p hp
   clear hp
   go_wp2_with fail
   go_region
   go_wp2_with fail
   exact ⟨⟨q + 1, by omega, by simp, hbr.drew⟩, by simp [intOf]; omega⟩
  ·go_wp2_with fail
   go_ret
   exact ⟨rfl, hbr⟩
theorem sameGate_same (i z s : Int) (P : List TP) (v : Int) (D : List Int) (l u : Int) (oa oa' od od' : Option Addr) (ca ca' cd cd' : Nat) (w : World) (h1 : zI w oa P) (h2 : zI w oa' P) (h3 : zH w od D) (h4 : zH w od' D) (hP : P.length ≤ 100) (hD : D.length ≤ 100) :
  Calls Tryz.prog 58 #[gtV i z s oa P.length ca v od D.length cd l u, gtV i z s oa' P.length ca' v od' D.length cd' l u] w fun e w' => e = .returned (.bool true) ∧ Below w.heap.size w w' := by
 have HA := zA (fun W (h : zI W oa P) (h' : zI W oa' P) => sameTaps_same P oa oa' ca ca' W h h' hP)
 have HB := zA (fun W (h : zH W od D) (h' : zH W od' D) => sameDenied_same v D od od' cd cd' W h h' hD)
 have H1 := zA h1
 have H2 := zA h2
 have H3 := zA h3
 have H4 := zA h4
 clear h1 h2 h3 h4
 go_enter Tryz.func58, Tryz.ntmps58
 go_wp2_with fail
 have HG1 := zA (((zL.nil w).more (.cells #[.int .i64 i, .int .i64 z, .int .i64 s, .slice oa P.length ca, .int .i64 v, .slice od D.length cd, .int .i64 l, .int .i64 u] 58) (by simp)).more (.cells #[.int .i64 i, .int .i64 z, .int .i64 s, .slice oa' P.length ca', .int .i64 v, .slice od' D.length cd', .int .i64 l, .int .i64 u] 58) (by simp))
 refine (HA.out _ (H1.out.below HG1.out.2.2) (H2.out.below HG1.out.2.2)).mono ?_
 rintro e w1 ⟨rfl, hb⟩
 have HG1w1 := zA (HG1.out.on hb)
 clear hb HG1
 have lG1_0 := HG1w1.out.lt 0 w.heap.size (by simp) rfl
 obtain ⟨cG1_0_0, cG1_0_1, cG1_0_2, cG1_0_3, cG1_0_4, cG1_0_5, cG1_0_6, cG1_0_7⟩ := HG1w1.out.c8 0 w.heap.size rfl rfl rfl rfl rfl rfl rfl rfl rfl rfl
 have lG1_1 := HG1w1.out.lt 1 (w.heap.size + 1) (by simp) rfl
 obtain ⟨cG1_1_0, cG1_1_1, cG1_1_2, cG1_1_3, cG1_1_4, cG1_1_5, cG1_1_6, cG1_1_7⟩ := HG1w1.out.c8 1 (w.heap.size + 1) rfl rfl rfl rfl rfl rfl rfl rfl rfl rfl
 go_wp2_with fail
 refine (HB.out _ (H3.out.below HG1w1.out.2.2) (H4.out.below HG1w1.out.2.2)).mono ?_
 rintro e w2 ⟨rfl, hb⟩
 have HG1w2 := zA (HG1w1.out.on hb)
 clear lG1_0 cG1_0_0 cG1_0_1 cG1_0_2 cG1_0_3 cG1_0_4 cG1_0_5 cG1_0_6 cG1_0_7 lG1_1 cG1_1_0 cG1_1_1 cG1_1_2 cG1_1_3 cG1_1_4 cG1_1_5 cG1_1_6 cG1_1_7
 clear hb HG1w1
 have lG1_0 := HG1w2.out.lt 0 w.heap.size (by simp) rfl
 obtain ⟨cG1_0_0, cG1_0_1, cG1_0_2, cG1_0_3, cG1_0_4, cG1_0_5, cG1_0_6, cG1_0_7⟩ := HG1w2.out.c8 0 w.heap.size rfl rfl rfl rfl rfl rfl rfl rfl rfl rfl
 have lG1_1 := HG1w2.out.lt 1 (w.heap.size + 1) (by simp) rfl
 obtain ⟨cG1_1_0, cG1_1_1, cG1_1_2, cG1_1_3, cG1_1_4, cG1_1_5, cG1_1_6, cG1_1_7⟩ := HG1w2.out.c8 1 (w.heap.size + 1) rfl rfl rfl rfl rfl rfl rfl rfl rfl rfl
 go_wp2_with fail
 go_ret
 exact ⟨rfl, HG1w2.out.2.2⟩
theorem sameTickets_same (L : List TK) (o o' : Option Addr) (c c' : Nat) (w : World) (hL : zV w o L) (hM : zV w o' L) (hlen : L.length ≤ 100) :
  Calls Tryz.prog 104 #[.slice o L.length c, .slice o' L.length c'] w fun e w' => e = .returned (.bool true) ∧ Below w.heap.size w w' := by
 have HL := zA hL
 have HM := zA hM
 clear hL hM
 go_enter Tryz.func104, Tryz.ntmps104
 go_wp2_with fail
 go_loopw [5] (fun j wr => ∃ (q : Nat), q ≤ L.length ∧ j = .int .i64 q ∧ Below w.heap.size w wr) (fun j _ => L.length - (intOf j).toNat)
 case atStart => exact ⟨0, Nat.zero_le _, rfl, Below.refl _ _⟩
 case round =>
  obtain ⟨q, hq, rfl, hbr⟩ := hrel
  by_cases hgo : q < L.length
  ·obtain ⟨p, hp⟩ : ∃ p, L[q]? = some p := ⟨L[q], by simp [hgo]⟩
   obtain ⟨A, rfl, c0, c1, c2, c3, c4, c5⟩ := (HL.out.below hbr) q p hp
   obtain ⟨A', rfl, d0, d1, d2, d3, d4, d5⟩ := (HM.out.below hbr) q p hp
   clear hp
   go_wp2_with fail
   go_region
   go_wp2_with fail
   exact ⟨⟨q + 1, by omega, by simp, hbr.drew⟩, by simp [intOf]; omega⟩
  ·go_wp2_with fail
   go_ret
   exact ⟨rfl, hbr⟩
theorem sameLedger_same (T : List TK) (P : List TP) (V : List Int) (o1 o2 o3 q1 q2 q3 : Option Addr) (c1 c2 c3 d1 d2 d3 : Nat) (w : World) (h1 : zV w o1 T) (h2 : zI w o2 P) (h3 : zH w o3 V) (g1 : zV w q1 T) (g2 : zI w q2 P) (g3 : zH w q3 V)
  (l1 : T.length ≤ 100) (l2 : P.length ≤ 100) (l3 : V.length ≤ 100) :
  Calls Tryz.prog 55 #[lg o1 o2 o3 T.length c1 P.length c2 V.length c3, lg q1 q2 q3 T.length d1 P.length d2 V.length d3] w fun e w' => e = .returned (.bool true) ∧ Below w.heap.size w w' := by
 have HA := zA (fun W (h : zV W o1 T) (g : zV W q1 T) => sameTickets_same T o1 q1 c1 d1 W h g l1)
 have HB := zA (fun W (h : zI W o2 P) (g : zI W q2 P) => sameTaps_same P o2 q2 c2 d2 W h g l2)
 have HC := zA (fun W (h : zH W o3 V) (g : zH W q3 V) => sameInts_same V o3 q3 c3 d3 W h g l3)
 have H1 := zA (And.intro h1 g1)
 have H2 := zA (And.intro h2 g2)
 have H3 := zA (And.intro h3 g3)
 clear h1 h2 h3 g1 g2 g3
 go_enter Tryz.func55, Tryz.ntmps55
 go_wp2_with fail
 have hb0 : Below w.heap.size w ((w.alloc (cL o1 o2 o3 T.length c1 P.length c2 V.length c3 26)).alloc (cL q1 q2 q3 T.length d1 P.length d2 V.length d3 26)) := ((Below.refl _ _).alloc (Nat.le_refl _) _).alloc (by simp) _
 have HL1 : Hid (Led3 ((w.alloc (cL o1 o2 o3 T.length c1 P.length c2 V.length c3 26)).alloc (cL q1 q2 q3 T.length d1 P.length d2 V.length d3 26)) w.heap.size o1 o2 o3 T.length c1 P.length c2 V.length c3) := zA ⟨by simp [go_sem], by simp [go_sem], by simp [go_sem]⟩
 have HL2 : Hid (Led3 ((w.alloc (cL o1 o2 o3 T.length c1 P.length c2 V.length c3 26)).alloc (cL q1 q2 q3 T.length d1 P.length d2 V.length d3 26)) (w.heap.size + 1) q1 q2 q3 T.length d1 P.length d2 V.length d3) := zA ⟨by simp [go_sem], by simp [go_sem], by simp [go_sem]⟩
 have HB0 := zA hb0
 clear hb0
 generalize (w.alloc (cL o1 o2 o3 T.length c1 P.length c2 V.length c3 26)).alloc (cL q1 q2 q3 T.length d1 P.length d2 V.length d3 26) = w1 at *
 refine (HA.out _ (H1.out.1.below HB0.out) (H1.out.2.below HB0.out)).mono ?_
 rintro e w2 ⟨rfl, hb2⟩
 have HB2 := zA (HB0.out.trans (hb2.mono HB0.out.size))
 have HL3 := zA (HL1.out.below hb2 HL1.out.lt)
 have HL4 := zA (HL2.out.below hb2 HL2.out.lt)
 clear hb2 HL1 HL2 HB0
 obtain ⟨x0, x1, x2⟩ := HL3.out
 obtain ⟨y0, y1, y2⟩ := HL4.out
 go_wp2_with fail
 refine (HB.out _ (H2.out.1.below HB2.out) (H2.out.2.below HB2.out)).mono ?_
 rintro e w3 ⟨rfl, hb3⟩
 have HB3 := zA (HB2.out.trans (hb3.mono HB2.out.size))
 have HL5 := zA (HL3.out.below hb3 HL3.out.lt)
 have HL6 := zA (HL4.out.below hb3 HL4.out.lt)
 clear hb3 HL3 HL4 HB2 x0 x1 x2 y0 y1 y2
 obtain ⟨x0, x1, x2⟩ := HL5.out
 obtain ⟨y0, y1, y2⟩ := HL6.out
 go_wp2_with fail
 refine (HC.out _ (H3.out.1.below HB3.out) (H3.out.2.below HB3.out)).mono ?_
 rintro e w4 ⟨rfl, hb4⟩
 have HB4 := zA (HB3.out.trans (hb4.mono HB3.out.size))
 clear hb4 HL5 HL6 HB3 x0 x1 x2 y0 y1 y2
 go_wp2_with fail
 go_ret
 exact ⟨rfl, HB4.out⟩
theorem sameStation_same (T : List TK) (P : List TP) (V : List Int) (dv : Int) (D : List Int) (G : List GT) (W : List VW) (o1 o2 o3 od og ov : Option Addr) (c1 c2 c3 cd cg cv : Nat) (x1 x2 x3 x4 x5 x6 : Option Addr) (y1 y2 y3 y4 y5 y6 : Nat) (G' : List GT) (w : World) (hs : StW w o1 o2 o3 c1 c2 c3 T P V od cd D og cg G ov cv W) (hx : StW w x1 x2 x3 y1 y2 y3 T P V x4 y4 D x5 y5 G' x6 y6 W) (hm : G'.map GT.p = G.map GT.p)
  (l1 : T.length ≤ 100) (l2 : P.length ≤ 100) (l3 : V.length ≤ 100) (l4 : D.length ≤ 100) (l5 : W.length ≤ 100) (lG : G.length ≤ 100) (hG : ∀ g ∈ G, g.A.length ≤ 100 ∧ g.D.length ≤ 100) :
  Calls Tryz.prog 16 #[stV o1 o2 o3 T.length c1 P.length c2 V.length c3 dv od D.length cd og G.length cg ov W.length cv, stV x1 x2 x3 T.length y1 P.length y2 V.length y3 dv x4 D.length y4 x5 G'.length y5 x6 W.length y6] w fun e w' => e = .returned (.bool true) ∧ Below w.heap.size w w' := by
 have HB := zA (((zL.nil w).more (.cells #[.slice o1 T.length c1, .slice o2 P.length c2, .slice o3 V.length c3, .int .i64 dv, .slice od D.length cd, .slice og G.length cg, .slice ov W.length cv] 32) (by simp)).more (.cells #[.slice x1 T.length y1, .slice x2 P.length y2, .slice x3 V.length y3, .int .i64 dv, .slice x4 D.length y4, .slice x5 G'.length y5, .slice x6 W.length y6] 32) (by simp))
 have Hw := zA HB.out.2.2
 have OS0 := zA (show _ = _ from HB.out.1 0 _ rfl)
 rw [Nat.add_zero] at OS0
 have OX0 := zA (show _ = _ from HB.out.1 1 _ rfl)
 have hl : G'.length = G.length := by have := congrArg List.length hm; simpa using this
 have hn : ((G.length : Int) != (G'.length : Int)) = false := by rw [hl]; simp
 have hl1 : G'.length ≤ G.length := by omega
 have hl2 : G.length ≤ G'.length := by omega
 have HM := zA hm
 have HG := zA hG
 clear hm hG hl
 have HS := zA hs
 have HX := zA hx
 clear hs hx
 have HE1 := zA (fun X (h : StW X o1 o2 o3 c1 c2 c3 T P V od cd D og cg G ov cv W) (g : StW X x1 x2 x3 y1 y2 y3 T P V x4 y4 D x5 y5 G' x6 y6 W) => sameLedger_same T P V o1 o2 o3 x1 x2 x3 c1 c2 c3 y1 y2 y3 X h.led.parts3.1.ats h.led.parts3.2.1.ats h.led.parts3.2.2.ats g.led.parts3.1.ats g.led.parts3.2.1.ats g.led.parts3.2.2.ats l1 l2 l3)
 have HE2 := zA (fun X (h : StW X o1 o2 o3 c1 c2 c3 T P V od cd D og cg G ov cv W) (g : StW X x1 x2 x3 y1 y2 y3 T P V x4 y4 D x5 y5 G' x6 y6 W) => sameDenied_same dv D od x4 cd y4 X h.den.1 g.den.1 l4)
 have HE3 := zA (fun X (h : StW X o1 o2 o3 c1 c2 c3 T P V od cd D og cg G ov cv W) (g : StW X x1 x2 x3 y1 y2 y3 T P V x4 y4 D x5 y5 G' x6 y6 W) => sameViews_same W ov x6 cv y6 X h.vws g.vws l5)
 go_enter Tryz.func16, Tryz.ntmps16
 obtain ⟨cS0, cS1, cS2, cS3, cS4, cS5, cS6⟩ := zY OS0.out
 obtain ⟨cX0, cX1, cX2, cX3, cX4, cX5, cX6⟩ := zY OX0.out
 go_wp2_with fail
 generalize ((w.alloc (.cells #[.slice o1 T.length c1, .slice o2 P.length c2, .slice o3 V.length c3, .int .i64 dv, .slice od D.length cd, .slice og G.length cg, .slice ov W.length cv] 32)).alloc (.cells #[.slice x1 T.length y1, .slice x2 P.length y2, .slice x3 V.length y3, .int .i64 dv, .slice x4 D.length y4, .slice x5 G'.length y5, .slice x6 W.length y6] 32)) = w0 at *
 clear HB
 refine (HE1.out _ (HS.out.below Hw.out) (HX.out.below Hw.out)).mono ?_
 rintro e w1 ⟨rfl, hb⟩
 have Bww1 := trR Hw hb
 have OSw1 := atR OS0 hb
 have OXw1 := atR OX0 hb
 have zww1 := Bww1.out.size
 have lSw1 := ltR OSw1
 have lXw1 : w.heap.size + 1 < w1.heap.size := (Array.getElem?_eq_some_iff.1 OXw1.out).1
 clear hb Hw OS0 OX0
 clear cS0 cS1 cS2 cS3 cS4 cS5 cS6
 clear cX0 cX1 cX2 cX3 cX4 cX5 cX6
 obtain ⟨cS0, cS1, cS2, cS3, cS4, cS5, cS6⟩ := zY OSw1.out
 obtain ⟨cX0, cX1, cX2, cX3, cX4, cX5, cX6⟩ := zY OXw1.out
 go_wp2_with fail
 refine (HE2.out _ (HS.out.below Bww1.out) (HX.out.below Bww1.out)).mono ?_
 rintro e w2 ⟨rfl, hb⟩
 have Bww2 := trR Bww1 hb
 have OSw2 := atR OSw1 hb
 have OXw2 := atR OXw1 hb
 have zww2 := Bww2.out.size
 have lSw2 := ltR OSw2
 have lXw2 : w.heap.size + 1 < w2.heap.size := (Array.getElem?_eq_some_iff.1 OXw2.out).1
 clear hb Bww1 OSw1 OXw1
 clear cS0 cS1 cS2 cS3 cS4 cS5 cS6
 clear cX0 cX1 cX2 cX3 cX4 cX5 cX6
 obtain ⟨cS0, cS1, cS2, cS3, cS4, cS5, cS6⟩ := zY OSw2.out
 obtain ⟨cX0, cX1, cX2, cX3, cX4, cX5, cX6⟩ := zY OXw2.out
 go_wp2_with fail
 refine (HE3.out _ (HS.out.below Bww2.out) (HX.out.below Bww2.out)).mono ?_
 rintro e w3 ⟨rfl, hb⟩
 have Bww3 := trR Bww2 hb
 have OSw3 := atR OSw2 hb
 have OXw3 := atR OXw2 hb
 have zww3 := Bww3.out.size
 have lSw3 := ltR OSw3
 have lXw3 : w.heap.size + 1 < w3.heap.size := (Array.getElem?_eq_some_iff.1 OXw3.out).1
 clear hb Bww2 OSw2 OXw2
 clear cS0 cS1 cS2 cS3 cS4 cS5 cS6
 clear cX0 cX1 cX2 cX3 cX4 cX5 cX6
 obtain ⟨cS0, cS1, cS2, cS3, cS4, cS5, cS6⟩ := zY OSw3.out
 obtain ⟨cX0, cX1, cX2, cX3, cX4, cX5, cX6⟩ := zY OXw3.out
 go_wp2_with fail
 go_loopw [5] (fun j wr => ∃ (p : Nat), p ≤ G.length ∧ j = .int .i64 p ∧ Hid (Below w3.heap.size w3 wr)) (fun j _ => G.length - (intOf j).toNat)
 case atStart => exact ⟨0, by omega, rfl, zA (Below.refl _ _)⟩
 case round =>
  clear cS0 cS1 cS2 cS3 cS4 cS5 cS6
  clear cX0 cX1 cX2 cX3 cX4 cX5 cX6
  obtain ⟨p, hp, rfl, HR⟩ := hrel
  have hb := HR.out
  have Bwwr := trR Bww3 hb
  have Bw3wr := zA hb
  have OSwr := atR OSw3 hb
  have OXwr := atR OXw3 hb
  clear hb Bww3 OSw3 OXw3
  have zwwr := Bwwr.out.size
  have zw3wr := Bw3wr.out.size
  have lSwr := ltR OSwr
  have lXwr : w.heap.size + 1 < wr.heap.size := (Array.getElem?_eq_some_iff.1 OXwr.out).1
  clear HR
  obtain ⟨cS0, cS1, cS2, cS3, cS4, cS5, cS6⟩ := zY OSwr.out
  obtain ⟨cX0, cX1, cX2, cX3, cX4, cX5, cX6⟩ := zY OXwr.out
  have HSx := zA (HS.out.below Bwwr.out)
  have HXx := zA (HX.out.below Bwwr.out)
  by_cases hgo : p < G.length
  ·obtain ⟨e0, he0⟩ : ∃ e0, G[p]? = some e0 := ⟨_, List.getElem?_eq_getElem (by omega)⟩
   obtain ⟨e1, he1, hep⟩ : ∃ e1, G'[p]? = some e1 ∧ e1.p = e0.p := by
    have h := congrArg (fun l => l[p]?) HM.out
    simp only [List.getElem?_map] at h
    rw [he0, Option.map_some, Option.map_eq_some_iff] at h
    exact h
   have hch := HG.out e0 (List.mem_of_getElem? he0)
   have hok := HSx.out.gok e0 (List.mem_of_getElem? he0)
   obtain ⟨b1, rfl, h81, ha1, hi1⟩ := HSx.out.gts p e0 he0
   obtain ⟨b2, rfl, h82, ha2, hi2⟩ := HXx.out.gts p e1 he1
   clear he0 he1
   obtain ⟨ei, ez, es, eoa, eA, eca, ev, eod, eD, ecd, el, eu⟩ := e0
   obtain ⟨fi, fz, fs, foa, fA, fca, fv, fod, fD, fcd, fl, fu⟩ := e1
   simp only [GT.p, GP.mk.injEq] at hep
   obtain ⟨rfl, rfl, rfl, rfl, rfl, rfl, rfl, rfl⟩ := hep
   obtain ⟨s0, s1, s2, s3, s4, s5, s6, s7⟩ := h81
   obtain ⟨t0, t1, t2, t3, t4, t5, t6, t7⟩ := h82
   simp only at s0 s1 s2 s3 s4 s5 s6 s7 t0 t1 t2 t3 t4 t5 t6 t7 ha1 ha2 hi1 hi2 hch
   have Ha1 := zA ha1
   have Ha2 := zA ha2
   have Hi1 := zA hi1
   have Hi2 := zA hi2
   clear ha1 ha2 hi1 hi2 hok
   have qcS0 := cell_regrown cS0
   have qcS1 := cell_regrown cS1
   have qcS2 := cell_regrown cS2
   have qcS3 := cell_regrown cS3
   have qcS4 := cell_regrown cS4
   have qcS5 := cell_regrown cS5
   have qcS6 := cell_regrown cS6
   have qcX0 := cell_regrown cX0
   have qcX1 := cell_regrown cX1
   have qcX2 := cell_regrown cX2
   have qcX3 := cell_regrown cX3
   have qcX4 := cell_regrown cX4
   have qcX5 := cell_regrown cX5
   have qcX6 := cell_regrown cX6
   have qs0 := cell_regrown s0
   have qs1 := cell_regrown s1
   have qs2 := cell_regrown s2
   have qs3 := cell_regrown s3
   have qs4 := cell_regrown s4
   have qs5 := cell_regrown s5
   have qs6 := cell_regrown s6
   have qs7 := cell_regrown s7
   have qt0 := cell_regrown t0
   have qt1 := cell_regrown t1
   have qt2 := cell_regrown t2
   have qt3 := cell_regrown t3
   have qt4 := cell_regrown t4
   have qt5 := cell_regrown t5
   have qt6 := cell_regrown t6
   have qt7 := cell_regrown t7
   have kG : ∀ d os, Calls Tryz.prog 58 #[gtV fi fz fs eoa fA.length eca fv eod fD.length ecd fl fu, gtV fi fz fs foa fA.length fca fv fod fD.length fcd fl fu] (Sort.grow (redrawn wr d) os) fun e w'' => e = .returned (.bool true) ∧ ∃ p : Regrown, w'' = Sort.grow (redrawn wr p.d) p.os :=
    fun d os => Calls.regrown_of (sameGate_same fi fz fs fA fv fD fl fu eoa foa eod fod eca fca ecd fcd _ (Ha1.out.below (below_regrown wr d os)).ats (Ha2.out.below (below_regrown wr d os)).ats (Hi1.out.below (below_regrown wr d os)).ats (Hi2.out.below (below_regrown wr d os)).ats hch.1 hch.2)
   go_wp2_with fail
   refine wp_region_quiet_below (by kernel_rfl) (by kernel_rfl) ?_
   repeat (go_big_quiet_step (first | exact kG _ _))
   refine wpQuiet_nil ?_
   intro _ hw'
   obtain ⟨⟨dq, osq⟩, hw''⟩ := hw'
   subst hw''
   have hb := below_regrown wr dq osq
   clear qcS0 cS0 qcS1 cS1 qcS2 cS2 qcS3 cS3 qcS4 cS4 qcS5 cS5 qcS6 cS6 qcX0 cX0 qcX1 cX1 qcX2 cX2 qcX3 cX3 qcX4 cX4 qcX5 cX5 qcX6 cX6 qs0 s0 qs1 s1 qs2 s2 qs3 s3 qs4 s4 qs5 s5 qs6 s6 qs7 s7 qt0 t0 qt1 t1 qt2 t2 qt3 t3 qt4 t4 qt5 t5 qt6 t6 qt7 t7 kG
   have Bwwq := trR Bwwr hb
   have Bw3wq := trR Bw3wr hb
   have OSwq := atR OSwr hb
   have OXwq := atR OXwr hb
   clear hb Bwwr Bw3wr OSwr OXwr
   generalize (Sort.grow (redrawn wr dq) osq) = wq at *
   have zwwq := Bwwq.out.size
   have zw3wq := Bw3wq.out.size
   have lSwq := ltR OSwq
   have lXwq : w.heap.size + 1 < wq.heap.size := (Array.getElem?_eq_some_iff.1 OXwq.out).1
   go_wp2_with fail
   exact ⟨⟨p + 1, by omega, by simp, Bw3wq⟩, by simp [intOf]; omega⟩
  ·go_wp2_with fail
   go_ret
   exact ⟨rfl, Bwwr.out⟩
theorem jM {w : World} {b : Nat} {cur : Array Value} {e : TypeId} (h : w.heap[b]? = some (.cells cur e (0, 0))) : ∀ j u, cur.toList[j]? = some u → w.cell? ((⟨b, 0, none⟩ : Addr).add j) = some u := by
 intro j u hu
 rw [qX, cell_of_row _ _ j _ _ _ h]
 simpa using hu
theorem qY {w : World} {b : Nat} {o : Obj} (h : w.heap[b]? = some o) : b < w.heap.size := (Array.getElem?_eq_some_iff.1 h).1
theorem stP {w : World} {b : Nat} {z0 z1 z2 z3 z4 z5 z6 : Value} {T : TypeId} (h : w.heap[b]? = some (.cells #[z0, z1, z2, z3, z4, z5, z6] T (0, 0))) (x1 x2 x3 : Option Addr) (n1 y1 n2 y2 n3 y3 : Nat) (xv : Int) (x4 : Option Addr) (n4 y4 : Nat) (x5 : Option Addr) (n5 y5 : Nat) (x6 : Option Addr) (n6 y6 : Nat) : (((((((w.setCell ⟨b, 0, none⟩ (.slice x1 n1 y1)).setCell ⟨b, 1, none⟩ (.slice x2 n2 y2)).setCell ⟨b, 2, none⟩ (.slice x3 n3 y3)).setCell ⟨b, 3, none⟩ (.int .i64 xv)).setCell ⟨b, 4, none⟩ (.slice x4 n4 y4)).setCell ⟨b, 5, none⟩ (.slice x5 n5 y5)).setCell ⟨b, 6, none⟩ (.slice x6 n6 y6)).heap[b]? = some (.cells #[.slice x1 n1 y1, .slice x2 n2 y2, .slice x3 n3 y3, .int .i64 xv, .slice x4 n4 y4, .slice x5 n5 y5, .slice x6 n6 y6] T (0, 0)) :=
 heap_setCell_same _ b 6 _ _ _ (heap_setCell_same _ b 5 _ _ _ (heap_setCell_same _ b 4 _ _ _ (heap_setCell_same _ b 3 _ _ _ (heap_setCell_same _ b 2 _ _ _ (heap_setCell_same _ b 1 _ _ _ (heap_setCell_same w b 0 _ _ _ h))))))
theorem sbP {a w : World} {b B : Nat} (h : Below B a w) (hn : B ≤ b) (x1 x2 x3 : Option Addr) (n1 y1 n2 y2 n3 y3 : Nat) (xv : Int) (x4 : Option Addr) (n4 y4 : Nat) (x5 : Option Addr) (n5 y5 : Nat) (x6 : Option Addr) (n6 y6 : Nat) : Below B a (((((((w.setCell ⟨b, 0, none⟩ (.slice x1 n1 y1)).setCell ⟨b, 1, none⟩ (.slice x2 n2 y2)).setCell ⟨b, 2, none⟩ (.slice x3 n3 y3)).setCell ⟨b, 3, none⟩ (.int .i64 xv)).setCell ⟨b, 4, none⟩ (.slice x4 n4 y4)).setCell ⟨b, 5, none⟩ (.slice x5 n5 y5)).setCell ⟨b, 6, none⟩ (.slice x6 n6 y6)) :=
 ((((((h.setCell (p := ⟨b, 0, none⟩) hn _).setCell (p := ⟨b, 1, none⟩) hn _).setCell (p := ⟨b, 2, none⟩) hn _).setCell (p := ⟨b, 3, none⟩) hn _).setCell (p := ⟨b, 4, none⟩) hn _).setCell (p := ⟨b, 5, none⟩) hn _).setCell (p := ⟨b, 6, none⟩) hn _
theorem cs7 {w : World} {b : Nat} {T : TypeId} {z0 z1 z2 z3 z4 z5 z6 : Value} (h : w.heap[b]? = some (.cells #[z0, z1, z2, z3, z4, z5, z6] T (0, 0))) :
  w.cell? ⟨b, 0, none⟩ = some z0 ∧ w.cell? ⟨b, 1, none⟩ = some z1 ∧ w.cell? ⟨b, 2, none⟩ = some z2 ∧ w.cell? ⟨b, 3, none⟩ = some z3 ∧ w.cell? ⟨b, 4, none⟩ = some z4 ∧ w.cell? ⟨b, 5, none⟩ = some z5 ∧ w.cell? ⟨b, 6, none⟩ = some z6 ∧ w.frozen? ⟨b, 0, none⟩ = false ∧ w.frozen? ⟨b, 1, none⟩ = false ∧ w.frozen? ⟨b, 2, none⟩ = false ∧ w.frozen? ⟨b, 3, none⟩ = false ∧ w.frozen? ⟨b, 4, none⟩ = false ∧ w.frozen? ⟨b, 5, none⟩ = false ∧ w.frozen? ⟨b, 6, none⟩ = false := by
 refine ⟨?_, ?_, ?_, ?_, ?_, ?_, ?_, ?_, ?_, ?_, ?_, ?_, ?_, ?_⟩
 ·rw [cell_of_row _ _ 0 _ _ _ h]; rfl
 ·rw [cell_of_row _ _ 1 _ _ _ h]; rfl
 ·rw [cell_of_row _ _ 2 _ _ _ h]; rfl
 ·rw [cell_of_row _ _ 3 _ _ _ h]; rfl
 ·rw [cell_of_row _ _ 4 _ _ _ h]; rfl
 ·rw [cell_of_row _ _ 5 _ _ _ h]; rfl
 ·rw [cell_of_row _ _ 6 _ _ _ h]; rfl
 ·exact frozen_of_row _ _ 0 _ _ h
 ·exact frozen_of_row _ _ 1 _ _ h
 ·exact frozen_of_row _ _ 2 _ _ h
 ·exact frozen_of_row _ _ 3 _ _ h
 ·exact frozen_of_row _ _ 4 _ _ h
 ·exact frozen_of_row _ _ 5 _ _ h
 ·exact frozen_of_row _ _ 6 _ _ h
theorem xJ {w w' : World} {B n b : Nat} {v : Value} {xs : List Value} {cs : Array Value} (h : w.ownsRow B 36 10 v n xs) (hb : w.heap[b]? = some (.cells cs 32 (0, 0))) (hg : w.grownBy w' v.ownBlock) : w'.heap[b]? = some (.cells cs 32 (0, 0)) := by
 have hlt := qY hb
 cases hv : v.ownBlock with
 | none => rw [hg.block b hlt (by rw [hv]; simp)]; exact hb
 | some g =>
  by_cases hbg : b = g
  ·subst hbg
   obtain ⟨-, cur, hc⟩ := ownsRow_block h b hv
   rw [hb] at hc
   exact absurd (Obj.cells.inj (Option.some.inj hc)).2.1 (by decide)
  ·rw [hg.block b hlt (by rw [hv]; simpa using hbg)]; exact hb
theorem right_ok (o : Option Addr) (c : Nat) (L : List AC) (a : AC) (w : World) (hL : jC w o L) (hlen : L.length ≤ 9223372036854775807) (hlc : L.length ≤ c) (hno : o = none → c = 0) (h40 : L.length ≤ 40) :
  Calls Tryz.prog 5 #[.slice o L.length c, acV a] w fun e w' => e = .returned (.bool true) ∧ Below w.heap.size w w' := by
 obtain ⟨i0, hi, hz0, hz1, hz2⟩ := info_parts infoAct
 have HB := zA ((zL.nil w).more (.cells #[.int .i64 a.k, .int .i64 a.i, .int .i64 a.o, .int .i64 a.m, .int .i64 a.t.i, .int .i64 a.t.k, .int .i64 a.t.f, .int .i64 a.t.t, .int .i64 a.t.z, .int .i64 a.t.r] 36) (by simp))
 have Hw := zA HB.out.2.2
 have OA0 := zA (show _ = _ from HB.out.1 0 _ rfl)
 rw [Nat.add_zero] at OA0
 have HL := zA hL
 clear hL
 have HR1 := zA (fun X (h : jC X o L) => deskRun_any o c L X h hlen)
 go_enter Tryz.func5, Tryz.ntmps5
 go_wp2_with fail
 generalize (w.alloc (.cells #[.int .i64 a.k, .int .i64 a.i, .int .i64 a.o, .int .i64 a.m, .int .i64 a.t.i, .int .i64 a.t.k, .int .i64 a.t.f, .int .i64 a.t.t, .int .i64 a.t.z, .int .i64 a.t.r] 36)) = w0 at *
 clear HB
 refine (HR1.out _ (HL.out.below Hw.out)).mono ?_
 rintro e w1 ⟨⟨h1, -⟩ | ⟨-, x1, x2, x3, n1, y1, n2, y2, n3, y3, xv, x4, n4, y4, x5, n5, y5, x6, n6, y6, o1, c1, rfl, hq, hi1, hf1⟩, hb⟩
 ·omega
 have Bww1 := trR Hw hb
 clear Hw
 have OAw1 := atR OA0 hb
 clear OA0
 clear hb
 have zww1 := Bww1.out.size
 have lAw1 := ltR OAw1
 have hck := runS_chk L qG new_chkS
 obtain ⟨SS0, hSS⟩ : ∃ s, s = runS qG L := ⟨_, rfl⟩
 obtain ⟨ES, hES⟩ : ∃ s, s = runE qG L := ⟨_, rfl⟩
 have hSn := runS_snoc L qG a
 have hEn := runE_snoc L qG a
 rw [← hSS] at hq hck hSn hEn
 rw [← hES] at hi1 hEn
 have hEl : ES.length = L.length := by rw [hES]; exact runE_len L qG
 obtain ⟨T, P, V, dv, D, L', W⟩ := SS0
 obtain ⟨rfl, rfl, rfl, rfl, rfl, rfl, G, rfl, rfl, hst, -⟩ := hq
 have HST := zA hst
 have HCK : Hid (yP T P V xv D G W = 0) := zA (by rw [chkS_p]; exact hck)
 have HSN := zA hSn
 have HEN := zA hEn
 obtain ⟨c1', c2', c3', c4', c5', c6'⟩ := yM HCK.out
 have HLen : Hid (T.length ≤ 100 ∧ P.length ≤ 100 ∧ V.length ≤ 100 ∧ D.length ≤ 100 ∧ W.length ≤ 100 ∧ G.length ≤ 100 ∧ ∀ g ∈ G, g.A.length ≤ 100 ∧ g.D.length ≤ 100) := zA (by
  have := chkL_lens c1'
  have := (yE c2').2.2.1
  refine ⟨by omega, by omega, by omega, by omega, by omega, by omega, fun g hg => ?_⟩
  obtain ⟨q, hq⟩ := List.getElem?_of_mem hg
  have := gate_lens (c4' q g hq)
  omega)
 have HD1 := zA (fun (h : actE ⟨T, P, V, xv, D, G.map GT.p, W⟩ a = 0) => actE_chk hck h)
 have HD2 := zA (fun id (h : xQ D id = true) => doS_den (s := ⟨T, P, V, xv, D, G.map GT.p, W⟩) (a := a) id h)
 have HD3 := zA (fun (h : actE ⟨T, P, V, xv, D, G.map GT.p, W⟩ a = 0) (x : TK) (hx : x ∈ T) => doS_tik (s := ⟨T, P, V, xv, D, G.map GT.p, W⟩) (a := a) (actE_doE h) hx)
 have HEl := zA hEl
 clear c1' c2' c3' c4' c5' c6' hEl
 have HDO := zA (fun X (h : StW X x1 x2 x3 y1 y2 y3 T P V x4 y4 D x5 y5 G x6 y6 W) => deskDo_any T P V xv D G W x1 x2 x3 x4 x5 x6 y1 y2 y3 y4 y5 y6 a X h)
 clear hst hck hSn hEn hSS hES hi1 hf1 HR1
 go_upto_region 2 with fail
 have hb := (Below.refl w1.heap.size w1).alloc (Nat.le_refl _) (.cells #[.slice x1 T.length y1, .slice x2 P.length y2, .slice x3 V.length y3, .int .i64 xv, .slice x4 D.length y4, .slice x5 G.length y5, .slice x6 W.length y6] 32)
 have OSw2 := zA (heap_alloc_new w1 (.cells #[.slice x1 T.length y1, .slice x2 P.length y2, .slice x3 V.length y3, .int .i64 xv, .slice x4 D.length y4, .slice x5 G.length y5, .slice x6 W.length y6] 32))
 have Bww2 := trR Bww1 hb
 have Bw1w2 := zA hb
 have OAw2 := atR OAw1 hb
 clear hb Bww1 OAw1
 generalize (w1.alloc (.cells #[.slice x1 T.length y1, .slice x2 P.length y2, .slice x3 V.length y3, .int .i64 xv, .slice x4 D.length y4, .slice x5 G.length y5, .slice x6 W.length y6] 32)) = w2 at *
 have zww2 := Bww2.out.size
 have zw1w2 := Bw1w2.out.size
 have lAw2 := ltR OAw2
 have lSw2 := ltR OSw2
 go_wp2_with fail
 refine (deskBegun_any _).mono ?_
 rintro e w3 ⟨rfl, hb⟩
 have Bww3 := trR Bww2 hb
 have Bw1w3 := trR Bw1w2 hb
 have OAw3 := atR OAw2 hb
 have OSw3 := atR OSw2 hb
 have zww3 := Bww3.out.size
 have zw1w3 := Bw1w3.out.size
 have lAw3 := ltR OAw3
 have lSw3 := ltR OSw3
 clear hb Bww2 Bw1w2 OAw2 OSw2
 go_wp2_with fail
 refine (stationBegun_any _).mono ?_
 rintro e w4 ⟨rfl, hb⟩
 have Bww4 := trR Bww3 hb
 have Bw1w4 := trR Bw1w3 hb
 have OAw4 := atR OAw3 hb
 have OSw4 := atR OSw3 hb
 have zww4 := Bww4.out.size
 have zw1w4 := Bw1w4.out.size
 have lAw4 := ltR OAw4
 have lSw4 := ltR OSw4
 clear hb Bww3 Bw1w3 OAw3 OSw3
 obtain ⟨cS0, cS1, cS2, cS3, cS4, cS5, cS6⟩ := zY OSw4.out
 go_wp2_with fail
 have hck := qB T P V xv D G W x1 x2 x3 x4 x5 x6 y1 y2 y3 y4 y5 y6 _ (HST.out.below Bw1w4.out).led (HST.out.below Bw1w4.out).lok (HST.out.below Bw1w4.out).den.1 (HST.out.below Bw1w4.out).den.2.1 (HST.out.below Bw1w4.out).gts (HST.out.below Bw1w4.out).gok (HST.out.below Bw1w4.out).vws (HST.out.below Bw1w4.out).vln
 rw [HCK.out] at hck
 clear cS0 cS1 cS2 cS3 cS4 cS5 cS6
 refine (hck).mono ?_
 rintro e w5 ⟨rfl, hb⟩
 have Bww5 := trR Bww4 hb
 have Bw1w5 := trR Bw1w4 hb
 have OAw5 := atR OAw4 hb
 have OSw5 := atR OSw4 hb
 have zww5 := Bww5.out.size
 have zw1w5 := Bw1w5.out.size
 have lAw5 := ltR OAw5
 have lSw5 := ltR OSw5
 clear hb Bww4 Bw1w4 OAw4 OSw4
 clear hck
 obtain ⟨cS0, cS1, cS2, cS3, cS4, cS5, cS6⟩ := zY OSw5.out
 obtain ⟨cA0, cA1, cA2, cA3, cA4, cA5, cA6, cA7, cA8, cA9⟩ := qV OAw5.out
 go_wp2_with fail
 clear cS0 cS1 cS2 cS3 cS4 cS5 cS6
 clear cA0 cA1 cA2 cA3 cA4 cA5 cA6 cA7 cA8 cA9
 refine (HDO.out _ (HST.out.below Bw1w5.out)).mono ?_
 rintro e w6 ⟨⟨t1, t2, t3, m1, j1, m2, j2, m3, j3, tv, t4, m4, j4, t5, m5, j5, t6, m6, j6, rfl, -, hq8⟩, hb⟩
 have Bww6 := trR Bww5 hb
 have Bw1w6 := trR Bw1w5 hb
 have OAw6 := atR OAw5 hb
 have OSw6 := atR OSw5 hb
 have zww6 := Bww6.out.size
 have zw1w6 := Bw1w6.out.size
 have lAw6 := ltR OAw6
 have lSw6 := ltR OSw6
 clear hb Bww5 Bw1w5 OAw5 OSw5
 have HQ8 := zA hq8
 clear hq8 HDO
 generalize actN ⟨T, P, V, xv, D, G.map GT.p, W⟩ a = NN at *
 generalize actE ⟨T, P, V, xv, D, G.map GT.p, W⟩ a = EE at *
 generalize doS ⟨T, P, V, xv, D, G.map GT.p, W⟩ a = S2 at *
 go_upto_region 9 with fail
 have hb := (Below.refl w6.heap.size w6).alloc (Nat.le_refl _) (.cells #[.slice t1 m1 j1, .slice t2 m2 j2, .slice t3 m3 j3, .int .i64 tv, .slice t4 m4 j4, .slice t5 m5 j5, .slice t6 m6 j6] 32)
 have OXw7 := zA (heap_alloc_new w6 (.cells #[.slice t1 m1 j1, .slice t2 m2 j2, .slice t3 m3 j3, .int .i64 tv, .slice t4 m4 j4, .slice t5 m5 j5, .slice t6 m6 j6] 32))
 have Bww7 := trR Bww6 hb
 have Bw1w7 := trR Bw1w6 hb
 have Bw6w7 := zA hb
 have OAw7 := atR OAw6 hb
 have OSw7 := atR OSw6 hb
 clear hb Bww6 Bw1w6 OAw6 OSw6
 generalize (w6.alloc (.cells #[.slice t1 m1 j1, .slice t2 m2 j2, .slice t3 m3 j3, .int .i64 tv, .slice t4 m4 j4, .slice t5 m5 j5, .slice t6 m6 j6] 32)) = w7 at *
 have zww7 := Bww7.out.size
 have zw1w7 := Bw1w7.out.size
 have zw6w7 := Bw6w7.out.size
 have lAw7 := ltR OAw7
 have lSw7 := ltR OSw7
 have lXw7 := ltR OXw7
 have HLr := zA (HL.out.below Bww7.out)
 go_cut [11, 12, 13] from 55 to 65 (fun s11 s12 s13 wx => ∃ (b11 : Nat) (p1 p2 p3 : Option Addr) (k1 h1 k2 h2 k3 h3 : Nat) (pv : Int) (p4 : Option Addr) (k4 h4 : Nat) (p5 : Option Addr) (k5 h5 : Nat) (p6 : Option Addr) (k6 h6 : Nat) (o' : Option Addr) (N c' : Nat) (E : Int), s11 = .pointer (some ⟨b11, 0, none⟩) ∧ s12 = .slice o' N c' ∧ s13 = .int .i64 E ∧ Hid (wx.heap[b11]? = some (.cells #[.slice p1 k1 h1, .slice p2 k2 h2, .slice p3 k3 h3, .int .i64 pv, .slice p4 k4 h4, .slice p5 k5 h5, .slice p6 k6 h6] 32)) ∧ Hid (RunR wx w7.heap.size b11 p1 p2 p3 k1 h1 k2 h2 k3 h3 pv p4 k4 h4 p5 k5 h5 p6 k6 h6 o' N c' E (L ++ [a])) ∧ Hid (Below w7.heap.size w7 wx))
 case first =>
  refine zJ (fun w' => w'.heap[w.heap.size]? = some (.cells #[.int .i64 a.k, .int .i64 a.i, .int .i64 a.o, .int .i64 a.m, .int .i64 a.t.i, .int .i64 a.t.k, .int .i64 a.t.f, .int .i64 a.t.t, .int .i64 a.t.z, .int .i64 a.t.r] 36)) [1, 3] 13 (by rfl) (by kernel_rfl) (by kernel_rfl) (by kernel_rfl) (fun c d v a w h => by cases d <;> exact h) ?_ ?_
  ·exact zC OAw7.out (Below.refl _ _).drew
  refine zB (.slice o L.length c) rfl rfl (fun w' hS => ?_) ?_
  ·go_simp
  refine zB (acV a) rfl rfl (fun w' hS => ?_) ?_
  ·have u0 : w'.cell? ⟨w.heap.size, 0, none⟩ = some (.int .i64 a.k) := (cell_of_row _ _ 0 _ _ _ hS).trans rfl
   have u1 : w'.cell? ⟨w.heap.size, 1, none⟩ = some (.int .i64 a.i) := (cell_of_row _ _ 1 _ _ _ hS).trans rfl
   have u2 : w'.cell? ⟨w.heap.size, 2, none⟩ = some (.int .i64 a.o) := (cell_of_row _ _ 2 _ _ _ hS).trans rfl
   have u3 : w'.cell? ⟨w.heap.size, 3, none⟩ = some (.int .i64 a.m) := (cell_of_row _ _ 3 _ _ _ hS).trans rfl
   have u4 : w'.cell? ⟨w.heap.size, 4, none⟩ = some (.int .i64 a.t.i) := (cell_of_row _ _ 4 _ _ _ hS).trans rfl
   have u5 : w'.cell? ⟨w.heap.size, 5, none⟩ = some (.int .i64 a.t.k) := (cell_of_row _ _ 5 _ _ _ hS).trans rfl
   have u6 : w'.cell? ⟨w.heap.size, 6, none⟩ = some (.int .i64 a.t.f) := (cell_of_row _ _ 6 _ _ _ hS).trans rfl
   have u7 : w'.cell? ⟨w.heap.size, 7, none⟩ = some (.int .i64 a.t.t) := (cell_of_row _ _ 7 _ _ _ hS).trans rfl
   have u8 : w'.cell? ⟨w.heap.size, 8, none⟩ = some (.int .i64 a.t.z) := (cell_of_row _ _ 8 _ _ _ hS).trans rfl
   have u9 : w'.cell? ⟨w.heap.size, 9, none⟩ = some (.int .i64 a.t.r) := (cell_of_row _ _ 9 _ _ _ hS).trans rfl
   go_simp
  refine zE ?_
  have HOd := zA (zC OAw7.out (Below.refl _ _).drew)
  have HLd := zA (HLr.out.below (Below.refl _ _).drew)
  have HAd := zA ((Below.refl w7.heap.size w7).drew)
  have hsd : w7.heap.size ≤ w7.drew.heap.size := Nat.le_refl _
  generalize (World.drew _) = wd at *
  refine three_readyH (i := 0) (j := 4) (k := 11) (by kernel_rfl) rfl rfl rfl rfl rfl rfl (fun J hJ => ?_) (fun J hJ => ?_) (fun J hJ => ?_)
  ·go_simp
   have hba := (Below.refl wd.heap.size wd).alloc (Nat.le_refl _) (.cells #[] 36)
   have B1 := zA (hba)
   have K1_56 := zA (World.ownsRow_made (base := wd.heap.size) (e := 36) (size := 10) wd #[] 0 (by first | exact Nat.le_refl _ | omega) (by decide) rfl)
   have q1 : wd.heap.size < (wd.alloc (.cells #[] 36)).heap.size := by simp
   refine hJ _ _ (zC HOd.out B1.out) ?_
   clear hJ J hba  
   generalize wd.alloc _ = v1 at *
   have z1 := B1.out.size
   refine three_readyH (i := 2) (j := 4) (k := 11) (by kernel_rfl) rfl rfl rfl rfl rfl rfl (fun J hJ => ?_) (fun J hJ => ?_) (fun J hJ => ?_)
   ·skip
    refine zN _ _ 44 rfl wd.heap.size 36 i0 _ 10 80 Tryz.underlying44 hi hz0 hz1 hz2 rfl (by decide) (.slice (some ⟨wd.heap.size, 0, none⟩) 0 0) 0 [] (by go_simp) K1_56.out o L.length c (zM L) (by go_simp) (xK L) (fun ad e => by subst e; exact xN (HLd.out.below B1.out)) (oneA L) (fun e => ⟨by have := hno e; omega, hno e⟩) (by unfold maxLen; omega) (by omega) B1.out.size ?_
    intro v58 v2 hown hgrow
    have B2 := zA (B1.out.grown hgrow B1.out.size (fun k hk => (K1_56.out.lt k hk).1))
    have hkq := Kq.ofGrown hgrow
    rw [List.nil_append, Nat.zero_add] at hown
    have K2_58 := zA hown
    have z2 := B2.out.size
    refine hJ _ _ (zC HOd.out B2.out) ?_
    clear hJ J hown hgrow hkq B1 K1_56
    refine zT (i := 4) (j := 11) (by kernel_rfl) rfl rfl rfl rfl (fun J hJ => ?_) (fun J hJ => ?_)
    ·go_simp
     have hba := (Below.refl v2.heap.size v2).alloc (Nat.le_refl _) (.cells #[.int .i64 a.k, .int .i64 a.i, .int .i64 a.o, .int .i64 a.m, .int .i64 a.t.i, .int .i64 a.t.k, .int .i64 a.t.f, .int .i64 a.t.t, .int .i64 a.t.z, .int .i64 a.t.r] 36)
     have B3 := zA (B2.out.trans (hba.mono B2.out.size))
     have K3_58 := zA (zF K2_58.out hba)
     have K3_60 := zA (heap_alloc_new v2 (.cells #[.int .i64 a.k, .int .i64 a.i, .int .i64 a.o, .int .i64 a.m, .int .i64 a.t.i, .int .i64 a.t.k, .int .i64 a.t.f, .int .i64 a.t.t, .int .i64 a.t.z, .int .i64 a.t.r] 36))
     have q3 : v2.heap.size < (v2.alloc (.cells #[.int .i64 a.k, .int .i64 a.i, .int .i64 a.o, .int .i64 a.m, .int .i64 a.t.i, .int .i64 a.t.k, .int .i64 a.t.f, .int .i64 a.t.t, .int .i64 a.t.z, .int .i64 a.t.r] 36)).heap.size := by simp
     refine hJ _ _ (zC HOd.out B3.out) ?_
     clear hJ J hba B2 K2_58
     generalize v2.alloc _ = v3 at *
     have z3 := B3.out.size
     refine zT (i := 5) (j := 11) (by kernel_rfl) rfl rfl rfl rfl (fun J hJ => ?_) (fun J hJ => ?_)
     ·skip
      refine zN _ _ 44 rfl wd.heap.size 36 i0 _ 10 80 Tryz.underlying44 hi hz0 hz1 hz2 rfl (by decide) v58 L.length (zM L) (by go_simp) K3_58.out (some ⟨v2.heap.size, 0, none⟩) 1 1 a.cells (by go_simp) rfl (fun ad e => by cases e; exact jM K3_60.out) (fun u hu => oneA [a] u (by simpa [zM] using hu)) (fun e => by cases e) (by unfold maxLen; omega) (by omega) B3.out.size ?_
      intro v61 v4 hown hgrow
      have B4 := zA (B3.out.grown hgrow B3.out.size (fun k hk => (K3_58.out.lt k hk).1))
      obtain ⟨g61, c61, rfl, hg61, -⟩ := yU hown (by omega)
      have K4_61 : Hid (v4.ownsRow wd.heap.size 36 10 (.slice (some ⟨g61, 0, none⟩) (L.length + 1) c61) (L.length + 1) (zM (L ++ [a]))) := zA (by rw [yS]; simpa [zM] using hown)
      have z4 := B4.out.size
      refine hJ _ _ (zC HOd.out B4.out) ?_
      clear hJ J hown hgrow B3 K3_58 K3_60
      refine zT (i := 6) (j := 11) (by kernel_rfl) rfl rfl rfl rfl (fun J hJ => ?_) (fun J hJ => ?_)
      ·go_simp
       refine (yI (some ⟨g61, 0, none⟩) c61 (L.length + 1) (L ++ [a]) v4 (yG K4_61.out (by simp)) (by simp) (by simp; omega)).mono ?_
       rintro e v5 ⟨⟨p1, p2, p3, k1, h1, k2, h2, k3, h3, pv, p4, k4, h4, p5, k5, h5, p6, k6, h6, o', N, c', E, rfl, hru⟩, hb⟩
       have B5 := trR B4 hb
       have K5_R := zA hru
       have z5 := B5.out.size
       have zb5 : v4.heap.size ≤ v5.heap.size := hb.size
       have hBw := B4.out.size
       refine hJ _ _ (zC HOd.out B5.out) ?_
       clear hJ J hb hru B4 K4_61
       refine yB (fuel := 4) (by kernel_rfl) (fun c d v a w h => by cases d <;> exact h) (zC HOd.out B5.out) [7, 8, 9, 10] _ _ (by kernel_rfl) ?_
       refine pS (.tuple #[stV p1 p2 p3 k1 h1 k2 h2 k3 h3 pv p4 k4 h4 p5 k5 h5 p6 k6 h6, .slice o' N c', .int .i64 E]) rfl rfl ?_
       refine pS (stV p1 p2 p3 k1 h1 k2 h2 k3 h3 pv p4 k4 h4 p5 k5 h5 p6 k6 h6) rfl rfl ?_
       refine pS (.slice o' N c') rfl rfl ?_
       refine pS (.int .i64 E) rfl rfl ?_
       refine zE ?_
       refine oR 11 rfl rfl fun J hJ => ?_
       go_simp
       have hba := (Below.refl v5.heap.size v5).alloc (Nat.le_refl _) (.cells #[.slice none 0 0, .slice none 0 0, .slice none 0 0, .int .i64 0, .slice none 0 0, .slice none 0 0, .slice none 0 0] 32)
       have B6 := zA (B5.out.trans (hba.mono B5.out.size))
       have K6_11 := zA (heap_alloc_new v5 (.cells #[.slice none 0 0, .slice none 0 0, .slice none 0 0, .int .i64 0, .slice none 0 0, .slice none 0 0, .slice none 0 0] 32))
       have K6_R := zA (((K5_R.out v5.heap.size (Or.inr (Nat.le_refl _)))).below hba)
       have q6 : v5.heap.size < (v5.alloc (.cells #[.slice none 0 0, .slice none 0 0, .slice none 0 0, .int .i64 0, .slice none 0 0, .slice none 0 0, .slice none 0 0] 32)).heap.size := by simp
       refine hJ _ _ (zC HOd.out B6.out) ?_
       clear hJ J hba B5 K5_R
       generalize v5.alloc _ = v6 at *
       have z6 := B6.out.size
       obtain ⟨r0, r1, r2, r3, r4, r5, r6, s0, s1, s2, s3, s4, s5, s6⟩ := cs7 K6_11.out
       have HZ := zA (stP K6_11.out p1 p2 p3 k1 h1 k2 h2 k3 h3 pv p4 k4 h4 p5 k5 h5 p6 k6 h6)
       have HRz := zA (K6_R.out.store)
       have HBz := zA (sbP B6.out (b := v5.heap.size) (by omega) p1 p2 p3 k1 h1 k2 h2 k3 h3 pv p4 k4 h4 p5 k5 h5 p6 k6 h6)
       refine oR 12 rfl rfl fun J hJ => ?_
       go_simp
       refine hJ _ _ (zC HOd.out HBz.out) ?_
       clear hJ J r0 s0 r1 s1 r2 s2 r3 s3 r4 s4 r5 s5 r6 s6 K6_11 K6_R B6
       generalize World.setCell _ ⟨v5.heap.size, 6, none⟩ _ = wz at *
       refine oR 13 rfl rfl fun J hJ => ?_
       go_simp
       refine hJ _ _ (zC HOd.out HBz.out) ?_
       clear hJ J
       refine oR 14 rfl rfl fun J hJ => ?_
       go_simp
       refine hJ _ _ (zC HOd.out HBz.out) ?_
       clear hJ J
       refine wpAnyH_done (by kernel_rfl) ?_ _
       go_wp2_with fail
       go_meet
       case rel => exact ⟨v5.heap.size, p1, p2, p3, k1, h1, k2, h2, k3, h3, pv, p4, k4, h4, p5, k5, h5, p6, k6, h6, o', N, c', E, rfl, rfl, rfl, HZ, zA (HRz.out.mono (by omega)), zA (HAd.out.trans (HBz.out.mono (by omega)))⟩
      ·go_simp
       have hba := (Below.refl v4.heap.size v4).alloc (Nat.le_refl _) (.cells #[.slice none 0 0, .slice none 0 0, .slice none 0 0, .int .i64 0, .slice none 0 0, .slice none 0 0, .slice none 0 0] 32)
       have B8 := zA (B4.out.trans (hba.mono B4.out.size))
       have K8_61 := zA (zF K4_61.out hba)
       have K8_11 := zA (heap_alloc_new v4 (.cells #[.slice none 0 0, .slice none 0 0, .slice none 0 0, .int .i64 0, .slice none 0 0, .slice none 0 0, .slice none 0 0] 32))
       have q8 : v4.heap.size < (v4.alloc (.cells #[.slice none 0 0, .slice none 0 0, .slice none 0 0, .int .i64 0, .slice none 0 0, .slice none 0 0, .slice none 0 0] 32)).heap.size := by simp
       refine hJ _ _ (zC HOd.out B8.out) ?_
       clear hJ J hba B4 K4_61
       generalize v4.alloc _ = v8 at *
       have z8 := B8.out.size
       refine oR 6 rfl rfl fun J hJ => ?_
       go_simp
       refine (yI (some ⟨g61, 0, none⟩) c61 (L.length + 1) (L ++ [a]) v8 (yG K8_61.out (by simp)) (by simp) (by simp; omega)).mono ?_
       rintro e v9 ⟨⟨p1, p2, p3, k1, h1, k2, h2, k3, h3, pv, p4, k4, h4, p5, k5, h5, p6, k6, h6, o', N, c', E, rfl, hru⟩, hb⟩
       have q11 : v4.heap.size < v8.heap.size := qY K8_11.out
       have B9 := trR B8 hb
       have K9_11 := atR K8_11 hb
       have K9_R := zA (hru v4.heap.size (Or.inl q11))
       have z9 := B9.out.size
       have zb9 : v8.heap.size ≤ v9.heap.size := hb.size
       have hBw := B8.out.size
       refine hJ _ _ (zC HOd.out B9.out) ?_
       clear hJ J hb hru B8 K8_61 K8_11
       refine yB (fuel := 3) (by kernel_rfl) (fun c d v a w h => by cases d <;> exact h) (zC HOd.out B9.out) [7, 8, 9, 10] _ _ (by kernel_rfl) ?_
       refine pS (.tuple #[stV p1 p2 p3 k1 h1 k2 h2 k3 h3 pv p4 k4 h4 p5 k5 h5 p6 k6 h6, .slice o' N c', .int .i64 E]) rfl rfl ?_
       refine pS (stV p1 p2 p3 k1 h1 k2 h2 k3 h3 pv p4 k4 h4 p5 k5 h5 p6 k6 h6) rfl rfl ?_
       refine pS (.slice o' N c') rfl rfl ?_
       refine pS (.int .i64 E) rfl rfl ?_
       refine zE ?_
       obtain ⟨r0, r1, r2, r3, r4, r5, r6, s0, s1, s2, s3, s4, s5, s6⟩ := cs7 K9_11.out
       have HZ := zA (stP K9_11.out p1 p2 p3 k1 h1 k2 h2 k3 h3 pv p4 k4 h4 p5 k5 h5 p6 k6 h6)
       have HRz := zA (K9_R.out.store)
       have HBz := zA (sbP B9.out (b := v4.heap.size) (by omega) p1 p2 p3 k1 h1 k2 h2 k3 h3 pv p4 k4 h4 p5 k5 h5 p6 k6 h6)
       refine oR 12 rfl rfl fun J hJ => ?_
       go_simp
       refine hJ _ _ (zC HOd.out HBz.out) ?_
       clear hJ J r0 s0 r1 s1 r2 s2 r3 s3 r4 s4 r5 s5 r6 s6 K9_11 K9_R B9
       generalize World.setCell _ ⟨v4.heap.size, 6, none⟩ _ = wz at *
       refine oR 13 rfl rfl fun J hJ => ?_
       go_simp
       refine hJ _ _ (zC HOd.out HBz.out) ?_
       clear hJ J
       refine oR 14 rfl rfl fun J hJ => ?_
       go_simp
       refine hJ _ _ (zC HOd.out HBz.out) ?_
       clear hJ J
       refine wpAnyH_done (by kernel_rfl) ?_ _
       go_wp2_with fail
       go_meet
       case rel => exact ⟨v4.heap.size, p1, p2, p3, k1, h1, k2, h2, k3, h3, pv, p4, k4, h4, p5, k5, h5, p6, k6, h6, o', N, c', E, rfl, rfl, rfl, HZ, zA (HRz.out.mono (by omega)), zA (HAd.out.trans (HBz.out.mono (by omega)))⟩
     ·go_simp
      have hba := (Below.refl v3.heap.size v3).alloc (Nat.le_refl _) (.cells #[.slice none 0 0, .slice none 0 0, .slice none 0 0, .int .i64 0, .slice none 0 0, .slice none 0 0, .slice none 0 0] 32)
      have B11 := zA (B3.out.trans (hba.mono B3.out.size))
      have K11_58 := zA (zF K3_58.out hba)
      have K11_60 := zA (zC K3_60.out hba)
      have K11_11 := zA (heap_alloc_new v3 (.cells #[.slice none 0 0, .slice none 0 0, .slice none 0 0, .int .i64 0, .slice none 0 0, .slice none 0 0, .slice none 0 0] 32))
      have q11 : v3.heap.size < (v3.alloc (.cells #[.slice none 0 0, .slice none 0 0, .slice none 0 0, .int .i64 0, .slice none 0 0, .slice none 0 0, .slice none 0 0] 32)).heap.size := by simp
      refine hJ _ _ (zC HOd.out B11.out) ?_
      clear hJ J hba B3 K3_58 K3_60
      generalize v3.alloc _ = v11 at *
      have z11 := B11.out.size
      refine oR 5 rfl rfl fun J hJ => ?_
      refine zN _ _ 44 rfl wd.heap.size 36 i0 _ 10 80 Tryz.underlying44 hi hz0 hz1 hz2 rfl (by decide) v58 L.length (zM L) (by go_simp) K11_58.out (some ⟨v2.heap.size, 0, none⟩) 1 1 a.cells (by go_simp) rfl (fun ad e => by cases e; exact jM K11_60.out) (fun u hu => oneA [a] u (by simpa [zM] using hu)) (fun e => by cases e) (by unfold maxLen; omega) (by omega) B11.out.size ?_
      intro v61 v12 hown hgrow
      have B12 := zA (B11.out.grown hgrow B11.out.size (fun k hk => (K11_58.out.lt k hk).1))
      have K12_11 := zA (xJ K11_58.out K11_11.out hgrow)
      obtain ⟨g61, c61, rfl, hg61, -⟩ := yU hown (by omega)
      have K12_61 : Hid (v12.ownsRow wd.heap.size 36 10 (.slice (some ⟨g61, 0, none⟩) (L.length + 1) c61) (L.length + 1) (zM (L ++ [a]))) := zA (by rw [yS]; simpa [zM] using hown)
      have z12 := B12.out.size
      refine hJ _ _ (zC HOd.out B12.out) ?_
      clear hJ J hown hgrow B11 K11_58 K11_60 K11_11
      refine oR 6 rfl rfl fun J hJ => ?_
      go_simp
      refine (yI (some ⟨g61, 0, none⟩) c61 (L.length + 1) (L ++ [a]) v12 (yG K12_61.out (by simp)) (by simp) (by simp; omega)).mono ?_
      rintro e v13 ⟨⟨p1, p2, p3, k1, h1, k2, h2, k3, h3, pv, p4, k4, h4, p5, k5, h5, p6, k6, h6, o', N, c', E, rfl, hru⟩, hb⟩
      have q11 : v3.heap.size < v12.heap.size := qY K12_11.out
      have B13 := trR B12 hb
      have K13_11 := atR K12_11 hb
      have K13_R := zA (hru v3.heap.size (Or.inl q11))
      have z13 := B13.out.size
      have zb13 : v12.heap.size ≤ v13.heap.size := hb.size
      have hBw := B12.out.size
      refine hJ _ _ (zC HOd.out B13.out) ?_
      clear hJ J hb hru B12 K12_11 K12_61
      refine yB (fuel := 3) (by kernel_rfl) (fun c d v a w h => by cases d <;> exact h) (zC HOd.out B13.out) [7, 8, 9, 10] _ _ (by kernel_rfl) ?_
      refine pS (.tuple #[stV p1 p2 p3 k1 h1 k2 h2 k3 h3 pv p4 k4 h4 p5 k5 h5 p6 k6 h6, .slice o' N c', .int .i64 E]) rfl rfl ?_
      refine pS (stV p1 p2 p3 k1 h1 k2 h2 k3 h3 pv p4 k4 h4 p5 k5 h5 p6 k6 h6) rfl rfl ?_
      refine pS (.slice o' N c') rfl rfl ?_
      refine pS (.int .i64 E) rfl rfl ?_
      refine zE ?_
      obtain ⟨r0, r1, r2, r3, r4, r5, r6, s0, s1, s2, s3, s4, s5, s6⟩ := cs7 K13_11.out
      have HZ := zA (stP K13_11.out p1 p2 p3 k1 h1 k2 h2 k3 h3 pv p4 k4 h4 p5 k5 h5 p6 k6 h6)
      have HRz := zA (K13_R.out.store)
      have HBz := zA (sbP B13.out (b := v3.heap.size) (by omega) p1 p2 p3 k1 h1 k2 h2 k3 h3 pv p4 k4 h4 p5 k5 h5 p6 k6 h6)
      refine oR 12 rfl rfl fun J hJ => ?_
      go_simp
      refine hJ _ _ (zC HOd.out HBz.out) ?_
      clear hJ J r0 s0 r1 s1 r2 s2 r3 s3 r4 s4 r5 s5 r6 s6 K13_11 K13_R B13
      generalize World.setCell _ ⟨v3.heap.size, 6, none⟩ _ = wz at *
      refine oR 13 rfl rfl fun J hJ => ?_
      go_simp
      refine hJ _ _ (zC HOd.out HBz.out) ?_
      clear hJ J
      refine oR 14 rfl rfl fun J hJ => ?_
      go_simp
      refine hJ _ _ (zC HOd.out HBz.out) ?_
      clear hJ J
      refine wpAnyH_done (by kernel_rfl) ?_ _
      go_wp2_with fail
      go_meet
      case rel => exact ⟨v3.heap.size, p1, p2, p3, k1, h1, k2, h2, k3, h3, pv, p4, k4, h4, p5, k5, h5, p6, k6, h6, o', N, c', E, rfl, rfl, rfl, HZ, zA (HRz.out.mono (by omega)), zA (HAd.out.trans (HBz.out.mono (by omega)))⟩
    ·go_simp
     have hba := (Below.refl v2.heap.size v2).alloc (Nat.le_refl _) (.cells #[.slice none 0 0, .slice none 0 0, .slice none 0 0, .int .i64 0, .slice none 0 0, .slice none 0 0, .slice none 0 0] 32)
     have B15 := zA (B2.out.trans (hba.mono B2.out.size))
     have K15_58 := zA (zF K2_58.out hba)
     have K15_11 := zA (heap_alloc_new v2 (.cells #[.slice none 0 0, .slice none 0 0, .slice none 0 0, .int .i64 0, .slice none 0 0, .slice none 0 0, .slice none 0 0] 32))
     have q15 : v2.heap.size < (v2.alloc (.cells #[.slice none 0 0, .slice none 0 0, .slice none 0 0, .int .i64 0, .slice none 0 0, .slice none 0 0, .slice none 0 0] 32)).heap.size := by simp
     refine hJ _ _ (zC HOd.out B15.out) ?_
     clear hJ J hba B2 K2_58
     generalize v2.alloc _ = v15 at *
     have z15 := B15.out.size
     refine oR 4 rfl rfl fun J hJ => ?_
     go_simp
     have hba := (Below.refl v15.heap.size v15).alloc (Nat.le_refl _) (.cells #[.int .i64 a.k, .int .i64 a.i, .int .i64 a.o, .int .i64 a.m, .int .i64 a.t.i, .int .i64 a.t.k, .int .i64 a.t.f, .int .i64 a.t.t, .int .i64 a.t.z, .int .i64 a.t.r] 36)
     have B16 := zA (B15.out.trans (hba.mono B15.out.size))
     have K16_58 := zA (zF K15_58.out hba)
     have K16_11 := zA (zC K15_11.out hba)
     have K16_60 := zA (heap_alloc_new v15 (.cells #[.int .i64 a.k, .int .i64 a.i, .int .i64 a.o, .int .i64 a.m, .int .i64 a.t.i, .int .i64 a.t.k, .int .i64 a.t.f, .int .i64 a.t.t, .int .i64 a.t.z, .int .i64 a.t.r] 36))
     have q16 : v15.heap.size < (v15.alloc (.cells #[.int .i64 a.k, .int .i64 a.i, .int .i64 a.o, .int .i64 a.m, .int .i64 a.t.i, .int .i64 a.t.k, .int .i64 a.t.f, .int .i64 a.t.t, .int .i64 a.t.z, .int .i64 a.t.r] 36)).heap.size := by simp
     refine hJ _ _ (zC HOd.out B16.out) ?_
     clear hJ J hba B15 K15_58 K15_11
     generalize v15.alloc _ = v16 at *
     have z16 := B16.out.size
     refine oR 5 rfl rfl fun J hJ => ?_
     refine zN _ _ 44 rfl wd.heap.size 36 i0 _ 10 80 Tryz.underlying44 hi hz0 hz1 hz2 rfl (by decide) v58 L.length (zM L) (by go_simp) K16_58.out (some ⟨v15.heap.size, 0, none⟩) 1 1 a.cells (by go_simp) rfl (fun ad e => by cases e; exact jM K16_60.out) (fun u hu => oneA [a] u (by simpa [zM] using hu)) (fun e => by cases e) (by unfold maxLen; omega) (by omega) B16.out.size ?_
     intro v61 v17 hown hgrow
     have B17 := zA (B16.out.grown hgrow B16.out.size (fun k hk => (K16_58.out.lt k hk).1))
     have K17_11 := zA (xJ K16_58.out K16_11.out hgrow)
     obtain ⟨g61, c61, rfl, hg61, -⟩ := yU hown (by omega)
     have K17_61 : Hid (v17.ownsRow wd.heap.size 36 10 (.slice (some ⟨g61, 0, none⟩) (L.length + 1) c61) (L.length + 1) (zM (L ++ [a]))) := zA (by rw [yS]; simpa [zM] using hown)
     have z17 := B17.out.size
     refine hJ _ _ (zC HOd.out B17.out) ?_
     clear hJ J hown hgrow B16 K16_58 K16_11 K16_60
     refine oR 6 rfl rfl fun J hJ => ?_
     go_simp
     refine (yI (some ⟨g61, 0, none⟩) c61 (L.length + 1) (L ++ [a]) v17 (yG K17_61.out (by simp)) (by simp) (by simp; omega)).mono ?_
     rintro e v18 ⟨⟨p1, p2, p3, k1, h1, k2, h2, k3, h3, pv, p4, k4, h4, p5, k5, h5, p6, k6, h6, o', N, c', E, rfl, hru⟩, hb⟩
     have q11 : v2.heap.size < v17.heap.size := qY K17_11.out
     have B18 := trR B17 hb
     have K18_11 := atR K17_11 hb
     have K18_R := zA (hru v2.heap.size (Or.inl q11))
     have z18 := B18.out.size
     have zb18 : v17.heap.size ≤ v18.heap.size := hb.size
     have hBw := B17.out.size
     refine hJ _ _ (zC HOd.out B18.out) ?_
     clear hJ J hb hru B17 K17_11 K17_61
     refine yB (fuel := 3) (by kernel_rfl) (fun c d v a w h => by cases d <;> exact h) (zC HOd.out B18.out) [7, 8, 9, 10] _ _ (by kernel_rfl) ?_
     refine pS (.tuple #[stV p1 p2 p3 k1 h1 k2 h2 k3 h3 pv p4 k4 h4 p5 k5 h5 p6 k6 h6, .slice o' N c', .int .i64 E]) rfl rfl ?_
     refine pS (stV p1 p2 p3 k1 h1 k2 h2 k3 h3 pv p4 k4 h4 p5 k5 h5 p6 k6 h6) rfl rfl ?_
     refine pS (.slice o' N c') rfl rfl ?_
     refine pS (.int .i64 E) rfl rfl ?_
     refine zE ?_
     obtain ⟨r0, r1, r2, r3, r4, r5, r6, s0, s1, s2, s3, s4, s5, s6⟩ := cs7 K18_11.out
     have HZ := zA (stP K18_11.out p1 p2 p3 k1 h1 k2 h2 k3 h3 pv p4 k4 h4 p5 k5 h5 p6 k6 h6)
     have HRz := zA (K18_R.out.store)
     have HBz := zA (sbP B18.out (b := v2.heap.size) (by omega) p1 p2 p3 k1 h1 k2 h2 k3 h3 pv p4 k4 h4 p5 k5 h5 p6 k6 h6)
     refine oR 12 rfl rfl fun J hJ => ?_
     go_simp
     refine hJ _ _ (zC HOd.out HBz.out) ?_
     clear hJ J r0 s0 r1 s1 r2 s2 r3 s3 r4 s4 r5 s5 r6 s6 K18_11 K18_R B18
     generalize World.setCell _ ⟨v2.heap.size, 6, none⟩ _ = wz at *
     refine oR 13 rfl rfl fun J hJ => ?_
     go_simp
     refine hJ _ _ (zC HOd.out HBz.out) ?_
     clear hJ J
     refine oR 14 rfl rfl fun J hJ => ?_
     go_simp
     refine hJ _ _ (zC HOd.out HBz.out) ?_
     clear hJ J
     refine wpAnyH_done (by kernel_rfl) ?_ _
     go_wp2_with fail
     go_meet
     case rel => exact ⟨v2.heap.size, p1, p2, p3, k1, h1, k2, h2, k3, h3, pv, p4, k4, h4, p5, k5, h5, p6, k6, h6, o', N, c', E, rfl, rfl, rfl, HZ, zA (HRz.out.mono (by omega)), zA (HAd.out.trans (HBz.out.mono (by omega)))⟩
   ·go_simp
    have hba := (Below.refl v1.heap.size v1).alloc (Nat.le_refl _) (.cells #[.int .i64 a.k, .int .i64 a.i, .int .i64 a.o, .int .i64 a.m, .int .i64 a.t.i, .int .i64 a.t.k, .int .i64 a.t.f, .int .i64 a.t.t, .int .i64 a.t.z, .int .i64 a.t.r] 36)
    have B20 := zA (B1.out.trans (hba.mono B1.out.size))
    have K20_56 := zA (zF K1_56.out hba)
    have K20_60 := zA (heap_alloc_new v1 (.cells #[.int .i64 a.k, .int .i64 a.i, .int .i64 a.o, .int .i64 a.m, .int .i64 a.t.i, .int .i64 a.t.k, .int .i64 a.t.f, .int .i64 a.t.t, .int .i64 a.t.z, .int .i64 a.t.r] 36))
    have q20 : v1.heap.size < (v1.alloc (.cells #[.int .i64 a.k, .int .i64 a.i, .int .i64 a.o, .int .i64 a.m, .int .i64 a.t.i, .int .i64 a.t.k, .int .i64 a.t.f, .int .i64 a.t.t, .int .i64 a.t.z, .int .i64 a.t.r] 36)).heap.size := by simp
    refine hJ _ _ (zC HOd.out B20.out) ?_
    clear hJ J hba B1 K1_56
    generalize v1.alloc _ = v20 at *
    have z20 := B20.out.size
    refine zT (i := 2) (j := 11) (by kernel_rfl) rfl rfl rfl rfl (fun J hJ => ?_) (fun J hJ => ?_)
    ·skip
     refine zN _ _ 44 rfl wd.heap.size 36 i0 _ 10 80 Tryz.underlying44 hi hz0 hz1 hz2 rfl (by decide) (.slice (some ⟨wd.heap.size, 0, none⟩) 0 0) 0 [] (by go_simp) K20_56.out o L.length c (zM L) (by go_simp) (xK L) (fun ad e => by subst e; exact xN (HLd.out.below B20.out)) (oneA L) (fun e => ⟨by have := hno e; omega, hno e⟩) (by unfold maxLen; omega) (by omega) B20.out.size ?_
     intro v58 v21 hown hgrow
     have B21 := zA (B20.out.grown hgrow B20.out.size (fun k hk => (K20_56.out.lt k hk).1))
     have hkq := Kq.ofGrown hgrow
     have K21_60 := zA (hkq.obj K20_60.out (by show ¬ v1.heap.size = wd.heap.size; omega))
     rw [List.nil_append, Nat.zero_add] at hown
     have K21_58 := zA hown
     have z21 := B21.out.size
     refine hJ _ _ (zC HOd.out B21.out) ?_
     clear hJ J hown hgrow hkq B20 K20_56 K20_60
     refine zT (i := 5) (j := 11) (by kernel_rfl) rfl rfl rfl rfl (fun J hJ => ?_) (fun J hJ => ?_)
     ·skip
      refine zN _ _ 44 rfl wd.heap.size 36 i0 _ 10 80 Tryz.underlying44 hi hz0 hz1 hz2 rfl (by decide) v58 L.length (zM L) (by go_simp) K21_58.out (some ⟨v1.heap.size, 0, none⟩) 1 1 a.cells (by go_simp) rfl (fun ad e => by cases e; exact jM K21_60.out) (fun u hu => oneA [a] u (by simpa [zM] using hu)) (fun e => by cases e) (by unfold maxLen; omega) (by omega) B21.out.size ?_
      intro v61 v22 hown hgrow
      have B22 := zA (B21.out.grown hgrow B21.out.size (fun k hk => (K21_58.out.lt k hk).1))
      obtain ⟨g61, c61, rfl, hg61, -⟩ := yU hown (by omega)
      have K22_61 : Hid (v22.ownsRow wd.heap.size 36 10 (.slice (some ⟨g61, 0, none⟩) (L.length + 1) c61) (L.length + 1) (zM (L ++ [a]))) := zA (by rw [yS]; simpa [zM] using hown)
      have z22 := B22.out.size
      refine hJ _ _ (zC HOd.out B22.out) ?_
      clear hJ J hown hgrow B21 K21_60 K21_58
      refine zT (i := 6) (j := 11) (by kernel_rfl) rfl rfl rfl rfl (fun J hJ => ?_) (fun J hJ => ?_)
      ·go_simp
       refine (yI (some ⟨g61, 0, none⟩) c61 (L.length + 1) (L ++ [a]) v22 (yG K22_61.out (by simp)) (by simp) (by simp; omega)).mono ?_
       rintro e v23 ⟨⟨p1, p2, p3, k1, h1, k2, h2, k3, h3, pv, p4, k4, h4, p5, k5, h5, p6, k6, h6, o', N, c', E, rfl, hru⟩, hb⟩
       have B23 := trR B22 hb
       have K23_R := zA hru
       have z23 := B23.out.size
       have zb23 : v22.heap.size ≤ v23.heap.size := hb.size
       have hBw := B22.out.size
       refine hJ _ _ (zC HOd.out B23.out) ?_
       clear hJ J hb hru B22 K22_61
       refine yB (fuel := 4) (by kernel_rfl) (fun c d v a w h => by cases d <;> exact h) (zC HOd.out B23.out) [7, 8, 9, 10] _ _ (by kernel_rfl) ?_
       refine pS (.tuple #[stV p1 p2 p3 k1 h1 k2 h2 k3 h3 pv p4 k4 h4 p5 k5 h5 p6 k6 h6, .slice o' N c', .int .i64 E]) rfl rfl ?_
       refine pS (stV p1 p2 p3 k1 h1 k2 h2 k3 h3 pv p4 k4 h4 p5 k5 h5 p6 k6 h6) rfl rfl ?_
       refine pS (.slice o' N c') rfl rfl ?_
       refine pS (.int .i64 E) rfl rfl ?_
       refine zE ?_
       refine oR 11 rfl rfl fun J hJ => ?_
       go_simp
       have hba := (Below.refl v23.heap.size v23).alloc (Nat.le_refl _) (.cells #[.slice none 0 0, .slice none 0 0, .slice none 0 0, .int .i64 0, .slice none 0 0, .slice none 0 0, .slice none 0 0] 32)
       have B24 := zA (B23.out.trans (hba.mono B23.out.size))
       have K24_11 := zA (heap_alloc_new v23 (.cells #[.slice none 0 0, .slice none 0 0, .slice none 0 0, .int .i64 0, .slice none 0 0, .slice none 0 0, .slice none 0 0] 32))
       have K24_R := zA (((K23_R.out v23.heap.size (Or.inr (Nat.le_refl _)))).below hba)
       have q24 : v23.heap.size < (v23.alloc (.cells #[.slice none 0 0, .slice none 0 0, .slice none 0 0, .int .i64 0, .slice none 0 0, .slice none 0 0, .slice none 0 0] 32)).heap.size := by simp
       refine hJ _ _ (zC HOd.out B24.out) ?_
       clear hJ J hba B23 K23_R
       generalize v23.alloc _ = v24 at *
       have z24 := B24.out.size
       obtain ⟨r0, r1, r2, r3, r4, r5, r6, s0, s1, s2, s3, s4, s5, s6⟩ := cs7 K24_11.out
       have HZ := zA (stP K24_11.out p1 p2 p3 k1 h1 k2 h2 k3 h3 pv p4 k4 h4 p5 k5 h5 p6 k6 h6)
       have HRz := zA (K24_R.out.store)
       have HBz := zA (sbP B24.out (b := v23.heap.size) (by omega) p1 p2 p3 k1 h1 k2 h2 k3 h3 pv p4 k4 h4 p5 k5 h5 p6 k6 h6)
       refine oR 12 rfl rfl fun J hJ => ?_
       go_simp
       refine hJ _ _ (zC HOd.out HBz.out) ?_
       clear hJ J r0 s0 r1 s1 r2 s2 r3 s3 r4 s4 r5 s5 r6 s6 K24_11 K24_R B24
       generalize World.setCell _ ⟨v23.heap.size, 6, none⟩ _ = wz at *
       refine oR 13 rfl rfl fun J hJ => ?_
       go_simp
       refine hJ _ _ (zC HOd.out HBz.out) ?_
       clear hJ J
       refine oR 14 rfl rfl fun J hJ => ?_
       go_simp
       refine hJ _ _ (zC HOd.out HBz.out) ?_
       clear hJ J
       refine wpAnyH_done (by kernel_rfl) ?_ _
       go_wp2_with fail
       go_meet
       case rel => exact ⟨v23.heap.size, p1, p2, p3, k1, h1, k2, h2, k3, h3, pv, p4, k4, h4, p5, k5, h5, p6, k6, h6, o', N, c', E, rfl, rfl, rfl, HZ, zA (HRz.out.mono (by omega)), zA (HAd.out.trans (HBz.out.mono (by omega)))⟩
      ·go_simp
       have hba := (Below.refl v22.heap.size v22).alloc (Nat.le_refl _) (.cells #[.slice none 0 0, .slice none 0 0, .slice none 0 0, .int .i64 0, .slice none 0 0, .slice none 0 0, .slice none 0 0] 32)
       have B26 := zA (B22.out.trans (hba.mono B22.out.size))
       have K26_61 := zA (zF K22_61.out hba)
       have K26_11 := zA (heap_alloc_new v22 (.cells #[.slice none 0 0, .slice none 0 0, .slice none 0 0, .int .i64 0, .slice none 0 0, .slice none 0 0, .slice none 0 0] 32))
       have q26 : v22.heap.size < (v22.alloc (.cells #[.slice none 0 0, .slice none 0 0, .slice none 0 0, .int .i64 0, .slice none 0 0, .slice none 0 0, .slice none 0 0] 32)).heap.size := by simp
       refine hJ _ _ (zC HOd.out B26.out) ?_
       clear hJ J hba B22 K22_61
       generalize v22.alloc _ = v26 at *
       have z26 := B26.out.size
       refine oR 6 rfl rfl fun J hJ => ?_
       go_simp
       refine (yI (some ⟨g61, 0, none⟩) c61 (L.length + 1) (L ++ [a]) v26 (yG K26_61.out (by simp)) (by simp) (by simp; omega)).mono ?_
       rintro e v27 ⟨⟨p1, p2, p3, k1, h1, k2, h2, k3, h3, pv, p4, k4, h4, p5, k5, h5, p6, k6, h6, o', N, c', E, rfl, hru⟩, hb⟩
       have q11 : v22.heap.size < v26.heap.size := qY K26_11.out
       have B27 := trR B26 hb
       have K27_11 := atR K26_11 hb
       have K27_R := zA (hru v22.heap.size (Or.inl q11))
       have z27 := B27.out.size
       have zb27 : v26.heap.size ≤ v27.heap.size := hb.size
       have hBw := B26.out.size
       refine hJ _ _ (zC HOd.out B27.out) ?_
       clear hJ J hb hru B26 K26_61 K26_11
       refine yB (fuel := 3) (by kernel_rfl) (fun c d v a w h => by cases d <;> exact h) (zC HOd.out B27.out) [7, 8, 9, 10] _ _ (by kernel_rfl) ?_
       refine pS (.tuple #[stV p1 p2 p3 k1 h1 k2 h2 k3 h3 pv p4 k4 h4 p5 k5 h5 p6 k6 h6, .slice o' N c', .int .i64 E]) rfl rfl ?_
       refine pS (stV p1 p2 p3 k1 h1 k2 h2 k3 h3 pv p4 k4 h4 p5 k5 h5 p6 k6 h6) rfl rfl ?_
       refine pS (.slice o' N c') rfl rfl ?_
       refine pS (.int .i64 E) rfl rfl ?_
       refine zE ?_
       obtain ⟨r0, r1, r2, r3, r4, r5, r6, s0, s1, s2, s3, s4, s5, s6⟩ := cs7 K27_11.out
       have HZ := zA (stP K27_11.out p1 p2 p3 k1 h1 k2 h2 k3 h3 pv p4 k4 h4 p5 k5 h5 p6 k6 h6)
       have HRz := zA (K27_R.out.store)
       have HBz := zA (sbP B27.out (b := v22.heap.size) (by omega) p1 p2 p3 k1 h1 k2 h2 k3 h3 pv p4 k4 h4 p5 k5 h5 p6 k6 h6)
       refine oR 12 rfl rfl fun J hJ => ?_
       go_simp
       refine hJ _ _ (zC HOd.out HBz.out) ?_
       clear hJ J r0 s0 r1 s1 r2 s2 r3 s3 r4 s4 r5 s5 r6 s6 K27_11 K27_R B27
       generalize World.setCell _ ⟨v22.heap.size, 6, none⟩ _ = wz at *
       refine oR 13 rfl rfl fun J hJ => ?_
       go_simp
       refine hJ _ _ (zC HOd.out HBz.out) ?_
       clear hJ J
       refine oR 14 rfl rfl fun J hJ => ?_
       go_simp
       refine hJ _ _ (zC HOd.out HBz.out) ?_
       clear hJ J
       refine wpAnyH_done (by kernel_rfl) ?_ _
       go_wp2_with fail
       go_meet
       case rel => exact ⟨v22.heap.size, p1, p2, p3, k1, h1, k2, h2, k3, h3, pv, p4, k4, h4, p5, k5, h5, p6, k6, h6, o', N, c', E, rfl, rfl, rfl, HZ, zA (HRz.out.mono (by omega)), zA (HAd.out.trans (HBz.out.mono (by omega)))⟩
     ·go_simp
      have hba := (Below.refl v21.heap.size v21).alloc (Nat.le_refl _) (.cells #[.slice none 0 0, .slice none 0 0, .slice none 0 0, .int .i64 0, .slice none 0 0, .slice none 0 0, .slice none 0 0] 32)
      have B29 := zA (B21.out.trans (hba.mono B21.out.size))
      have K29_60 := zA (zC K21_60.out hba)
      have K29_58 := zA (zF K21_58.out hba)
      have K29_11 := zA (heap_alloc_new v21 (.cells #[.slice none 0 0, .slice none 0 0, .slice none 0 0, .int .i64 0, .slice none 0 0, .slice none 0 0, .slice none 0 0] 32))
      have q29 : v21.heap.size < (v21.alloc (.cells #[.slice none 0 0, .slice none 0 0, .slice none 0 0, .int .i64 0, .slice none 0 0, .slice none 0 0, .slice none 0 0] 32)).heap.size := by simp
      refine hJ _ _ (zC HOd.out B29.out) ?_
      clear hJ J hba B21 K21_60 K21_58
      generalize v21.alloc _ = v29 at *
      have z29 := B29.out.size
      refine oR 5 rfl rfl fun J hJ => ?_
      refine zN _ _ 44 rfl wd.heap.size 36 i0 _ 10 80 Tryz.underlying44 hi hz0 hz1 hz2 rfl (by decide) v58 L.length (zM L) (by go_simp) K29_58.out (some ⟨v1.heap.size, 0, none⟩) 1 1 a.cells (by go_simp) rfl (fun ad e => by cases e; exact jM K29_60.out) (fun u hu => oneA [a] u (by simpa [zM] using hu)) (fun e => by cases e) (by unfold maxLen; omega) (by omega) B29.out.size ?_
      intro v61 v30 hown hgrow
      have B30 := zA (B29.out.grown hgrow B29.out.size (fun k hk => (K29_58.out.lt k hk).1))
      have K30_11 := zA (xJ K29_58.out K29_11.out hgrow)
      obtain ⟨g61, c61, rfl, hg61, -⟩ := yU hown (by omega)
      have K30_61 : Hid (v30.ownsRow wd.heap.size 36 10 (.slice (some ⟨g61, 0, none⟩) (L.length + 1) c61) (L.length + 1) (zM (L ++ [a]))) := zA (by rw [yS]; simpa [zM] using hown)
      have z30 := B30.out.size
      refine hJ _ _ (zC HOd.out B30.out) ?_
      clear hJ J hown hgrow B29 K29_60 K29_58 K29_11
      refine oR 6 rfl rfl fun J hJ => ?_
      go_simp
      refine (yI (some ⟨g61, 0, none⟩) c61 (L.length + 1) (L ++ [a]) v30 (yG K30_61.out (by simp)) (by simp) (by simp; omega)).mono ?_
      rintro e v31 ⟨⟨p1, p2, p3, k1, h1, k2, h2, k3, h3, pv, p4, k4, h4, p5, k5, h5, p6, k6, h6, o', N, c', E, rfl, hru⟩, hb⟩
      have q11 : v21.heap.size < v30.heap.size := qY K30_11.out
      have B31 := trR B30 hb
      have K31_11 := atR K30_11 hb
      have K31_R := zA (hru v21.heap.size (Or.inl q11))
      have z31 := B31.out.size
      have zb31 : v30.heap.size ≤ v31.heap.size := hb.size
      have hBw := B30.out.size
      refine hJ _ _ (zC HOd.out B31.out) ?_
      clear hJ J hb hru B30 K30_11 K30_61
      refine yB (fuel := 3) (by kernel_rfl) (fun c d v a w h => by cases d <;> exact h) (zC HOd.out B31.out) [7, 8, 9, 10] _ _ (by kernel_rfl) ?_
      refine pS (.tuple #[stV p1 p2 p3 k1 h1 k2 h2 k3 h3 pv p4 k4 h4 p5 k5 h5 p6 k6 h6, .slice o' N c', .int .i64 E]) rfl rfl ?_
      refine pS (stV p1 p2 p3 k1 h1 k2 h2 k3 h3 pv p4 k4 h4 p5 k5 h5 p6 k6 h6) rfl rfl ?_
      refine pS (.slice o' N c') rfl rfl ?_
      refine pS (.int .i64 E) rfl rfl ?_
      refine zE ?_
      obtain ⟨r0, r1, r2, r3, r4, r5, r6, s0, s1, s2, s3, s4, s5, s6⟩ := cs7 K31_11.out
      have HZ := zA (stP K31_11.out p1 p2 p3 k1 h1 k2 h2 k3 h3 pv p4 k4 h4 p5 k5 h5 p6 k6 h6)
      have HRz := zA (K31_R.out.store)
      have HBz := zA (sbP B31.out (b := v21.heap.size) (by omega) p1 p2 p3 k1 h1 k2 h2 k3 h3 pv p4 k4 h4 p5 k5 h5 p6 k6 h6)
      refine oR 12 rfl rfl fun J hJ => ?_
      go_simp
      refine hJ _ _ (zC HOd.out HBz.out) ?_
      clear hJ J r0 s0 r1 s1 r2 s2 r3 s3 r4 s4 r5 s5 r6 s6 K31_11 K31_R B31
      generalize World.setCell _ ⟨v21.heap.size, 6, none⟩ _ = wz at *
      refine oR 13 rfl rfl fun J hJ => ?_
      go_simp
      refine hJ _ _ (zC HOd.out HBz.out) ?_
      clear hJ J
      refine oR 14 rfl rfl fun J hJ => ?_
      go_simp
      refine hJ _ _ (zC HOd.out HBz.out) ?_
      clear hJ J
      refine wpAnyH_done (by kernel_rfl) ?_ _
      go_wp2_with fail
      go_meet
      case rel => exact ⟨v21.heap.size, p1, p2, p3, k1, h1, k2, h2, k3, h3, pv, p4, k4, h4, p5, k5, h5, p6, k6, h6, o', N, c', E, rfl, rfl, rfl, HZ, zA (HRz.out.mono (by omega)), zA (HAd.out.trans (HBz.out.mono (by omega)))⟩
    ·go_simp
     have hba := (Below.refl v20.heap.size v20).alloc (Nat.le_refl _) (.cells #[.slice none 0 0, .slice none 0 0, .slice none 0 0, .int .i64 0, .slice none 0 0, .slice none 0 0, .slice none 0 0] 32)
     have B33 := zA (B20.out.trans (hba.mono B20.out.size))
     have K33_56 := zA (zF K20_56.out hba)
     have K33_60 := zA (zC K20_60.out hba)
     have K33_11 := zA (heap_alloc_new v20 (.cells #[.slice none 0 0, .slice none 0 0, .slice none 0 0, .int .i64 0, .slice none 0 0, .slice none 0 0, .slice none 0 0] 32))
     have q33 : v20.heap.size < (v20.alloc (.cells #[.slice none 0 0, .slice none 0 0, .slice none 0 0, .int .i64 0, .slice none 0 0, .slice none 0 0, .slice none 0 0] 32)).heap.size := by simp
     refine hJ _ _ (zC HOd.out B33.out) ?_
     clear hJ J hba B20 K20_56 K20_60
     generalize v20.alloc _ = v33 at *
     have z33 := B33.out.size
     refine oR 2 rfl rfl fun J hJ => ?_
     refine zN _ _ 44 rfl wd.heap.size 36 i0 _ 10 80 Tryz.underlying44 hi hz0 hz1 hz2 rfl (by decide) (.slice (some ⟨wd.heap.size, 0, none⟩) 0 0) 0 [] (by go_simp) K33_56.out o L.length c (zM L) (by go_simp) (xK L) (fun ad e => by subst e; exact xN (HLd.out.below B33.out)) (oneA L) (fun e => ⟨by have := hno e; omega, hno e⟩) (by unfold maxLen; omega) (by omega) B33.out.size ?_
     intro v58 v34 hown hgrow
     have B34 := zA (B33.out.grown hgrow B33.out.size (fun k hk => (K33_56.out.lt k hk).1))
     have hkq := Kq.ofGrown hgrow
     have K34_60 := zA (hkq.obj K33_60.out (by show ¬ v1.heap.size = wd.heap.size; omega))
     have K34_11 := zA (hkq.obj K33_11.out (by show ¬ v20.heap.size = wd.heap.size; omega))
     rw [List.nil_append, Nat.zero_add] at hown
     have K34_58 := zA hown
     have z34 := B34.out.size
     refine hJ _ _ (zC HOd.out B34.out) ?_
     clear hJ J hown hgrow hkq B33 K33_56 K33_60 K33_11
     refine oR 5 rfl rfl fun J hJ => ?_
     refine zN _ _ 44 rfl wd.heap.size 36 i0 _ 10 80 Tryz.underlying44 hi hz0 hz1 hz2 rfl (by decide) v58 L.length (zM L) (by go_simp) K34_58.out (some ⟨v1.heap.size, 0, none⟩) 1 1 a.cells (by go_simp) rfl (fun ad e => by cases e; exact jM K34_60.out) (fun u hu => oneA [a] u (by simpa [zM] using hu)) (fun e => by cases e) (by unfold maxLen; omega) (by omega) B34.out.size ?_
     intro v61 v35 hown hgrow
     have B35 := zA (B34.out.grown hgrow B34.out.size (fun k hk => (K34_58.out.lt k hk).1))
     have K35_11 := zA (xJ K34_58.out K34_11.out hgrow)
     obtain ⟨g61, c61, rfl, hg61, -⟩ := yU hown (by omega)
     have K35_61 : Hid (v35.ownsRow wd.heap.size 36 10 (.slice (some ⟨g61, 0, none⟩) (L.length + 1) c61) (L.length + 1) (zM (L ++ [a]))) := zA (by rw [yS]; simpa [zM] using hown)
     have z35 := B35.out.size
     refine hJ _ _ (zC HOd.out B35.out) ?_
     clear hJ J hown hgrow B34 K34_60 K34_11 K34_58
     refine oR 6 rfl rfl fun J hJ => ?_
     go_simp
     refine (yI (some ⟨g61, 0, none⟩) c61 (L.length + 1) (L ++ [a]) v35 (yG K35_61.out (by simp)) (by simp) (by simp; omega)).mono ?_
     rintro e v36 ⟨⟨p1, p2, p3, k1, h1, k2, h2, k3, h3, pv, p4, k4, h4, p5, k5, h5, p6, k6, h6, o', N, c', E, rfl, hru⟩, hb⟩
     have q11 : v20.heap.size < v35.heap.size := qY K35_11.out
     have B36 := trR B35 hb
     have K36_11 := atR K35_11 hb
     have K36_R := zA (hru v20.heap.size (Or.inl q11))
     have z36 := B36.out.size
     have zb36 : v35.heap.size ≤ v36.heap.size := hb.size
     have hBw := B35.out.size
     refine hJ _ _ (zC HOd.out B36.out) ?_
     clear hJ J hb hru B35 K35_11 K35_61
     refine yB (fuel := 3) (by kernel_rfl) (fun c d v a w h => by cases d <;> exact h) (zC HOd.out B36.out) [7, 8, 9, 10] _ _ (by kernel_rfl) ?_
     refine pS (.tuple #[stV p1 p2 p3 k1 h1 k2 h2 k3 h3 pv p4 k4 h4 p5 k5 h5 p6 k6 h6, .slice o' N c', .int .i64 E]) rfl rfl ?_
     refine pS (stV p1 p2 p3 k1 h1 k2 h2 k3 h3 pv p4 k4 h4 p5 k5 h5 p6 k6 h6) rfl rfl ?_
     refine pS (.slice o' N c') rfl rfl ?_
     refine pS (.int .i64 E) rfl rfl ?_
     refine zE ?_
     obtain ⟨r0, r1, r2, r3, r4, r5, r6, s0, s1, s2, s3, s4, s5, s6⟩ := cs7 K36_11.out
     have HZ := zA (stP K36_11.out p1 p2 p3 k1 h1 k2 h2 k3 h3 pv p4 k4 h4 p5 k5 h5 p6 k6 h6)
     have HRz := zA (K36_R.out.store)
     have HBz := zA (sbP B36.out (b := v20.heap.size) (by omega) p1 p2 p3 k1 h1 k2 h2 k3 h3 pv p4 k4 h4 p5 k5 h5 p6 k6 h6)
     refine oR 12 rfl rfl fun J hJ => ?_
     go_simp
     refine hJ _ _ (zC HOd.out HBz.out) ?_
     clear hJ J r0 s0 r1 s1 r2 s2 r3 s3 r4 s4 r5 s5 r6 s6 K36_11 K36_R B36
     generalize World.setCell _ ⟨v20.heap.size, 6, none⟩ _ = wz at *
     refine oR 13 rfl rfl fun J hJ => ?_
     go_simp
     refine hJ _ _ (zC HOd.out HBz.out) ?_
     clear hJ J
     refine oR 14 rfl rfl fun J hJ => ?_
     go_simp
     refine hJ _ _ (zC HOd.out HBz.out) ?_
     clear hJ J
     refine wpAnyH_done (by kernel_rfl) ?_ _
     go_wp2_with fail
     go_meet
     case rel => exact ⟨v20.heap.size, p1, p2, p3, k1, h1, k2, h2, k3, h3, pv, p4, k4, h4, p5, k5, h5, p6, k6, h6, o', N, c', E, rfl, rfl, rfl, HZ, zA (HRz.out.mono (by omega)), zA (HAd.out.trans (HBz.out.mono (by omega)))⟩
   ·go_simp
    have hba := (Below.refl v1.heap.size v1).alloc (Nat.le_refl _) (.cells #[.slice none 0 0, .slice none 0 0, .slice none 0 0, .int .i64 0, .slice none 0 0, .slice none 0 0, .slice none 0 0] 32)
    have B38 := zA (B1.out.trans (hba.mono B1.out.size))
    have K38_56 := zA (zF K1_56.out hba)
    have K38_11 := zA (heap_alloc_new v1 (.cells #[.slice none 0 0, .slice none 0 0, .slice none 0 0, .int .i64 0, .slice none 0 0, .slice none 0 0, .slice none 0 0] 32))
    have q38 : v1.heap.size < (v1.alloc (.cells #[.slice none 0 0, .slice none 0 0, .slice none 0 0, .int .i64 0, .slice none 0 0, .slice none 0 0, .slice none 0 0] 32)).heap.size := by simp
    refine hJ _ _ (zC HOd.out B38.out) ?_
    clear hJ J hba B1 K1_56
    generalize v1.alloc _ = v38 at *
    have z38 := B38.out.size
    refine zT (i := 2) (j := 4) (by kernel_rfl) rfl rfl rfl rfl (fun J hJ => ?_) (fun J hJ => ?_)
    ·skip
     refine zN _ _ 44 rfl wd.heap.size 36 i0 _ 10 80 Tryz.underlying44 hi hz0 hz1 hz2 rfl (by decide) (.slice (some ⟨wd.heap.size, 0, none⟩) 0 0) 0 [] (by go_simp) K38_56.out o L.length c (zM L) (by go_simp) (xK L) (fun ad e => by subst e; exact xN (HLd.out.below B38.out)) (oneA L) (fun e => ⟨by have := hno e; omega, hno e⟩) (by unfold maxLen; omega) (by omega) B38.out.size ?_
     intro v58 v39 hown hgrow
     have B39 := zA (B38.out.grown hgrow B38.out.size (fun k hk => (K38_56.out.lt k hk).1))
     have hkq := Kq.ofGrown hgrow
     have K39_11 := zA (hkq.obj K38_11.out (by show ¬ v1.heap.size = wd.heap.size; omega))
     rw [List.nil_append, Nat.zero_add] at hown
     have K39_58 := zA hown
     have z39 := B39.out.size
     refine hJ _ _ (zC HOd.out B39.out) ?_
     clear hJ J hown hgrow hkq B38 K38_56 K38_11
     refine oR 4 rfl rfl fun J hJ => ?_
     go_simp
     have hba := (Below.refl v39.heap.size v39).alloc (Nat.le_refl _) (.cells #[.int .i64 a.k, .int .i64 a.i, .int .i64 a.o, .int .i64 a.m, .int .i64 a.t.i, .int .i64 a.t.k, .int .i64 a.t.f, .int .i64 a.t.t, .int .i64 a.t.z, .int .i64 a.t.r] 36)
     have B40 := zA (B39.out.trans (hba.mono B39.out.size))
     have K40_11 := zA (zC K39_11.out hba)
     have K40_58 := zA (zF K39_58.out hba)
     have K40_60 := zA (heap_alloc_new v39 (.cells #[.int .i64 a.k, .int .i64 a.i, .int .i64 a.o, .int .i64 a.m, .int .i64 a.t.i, .int .i64 a.t.k, .int .i64 a.t.f, .int .i64 a.t.t, .int .i64 a.t.z, .int .i64 a.t.r] 36))
     have q40 : v39.heap.size < (v39.alloc (.cells #[.int .i64 a.k, .int .i64 a.i, .int .i64 a.o, .int .i64 a.m, .int .i64 a.t.i, .int .i64 a.t.k, .int .i64 a.t.f, .int .i64 a.t.t, .int .i64 a.t.z, .int .i64 a.t.r] 36)).heap.size := by simp
     refine hJ _ _ (zC HOd.out B40.out) ?_
     clear hJ J hba B39 K39_11 K39_58
     generalize v39.alloc _ = v40 at *
     have z40 := B40.out.size
     refine oR 5 rfl rfl fun J hJ => ?_
     refine zN _ _ 44 rfl wd.heap.size 36 i0 _ 10 80 Tryz.underlying44 hi hz0 hz1 hz2 rfl (by decide) v58 L.length (zM L) (by go_simp) K40_58.out (some ⟨v39.heap.size, 0, none⟩) 1 1 a.cells (by go_simp) rfl (fun ad e => by cases e; exact jM K40_60.out) (fun u hu => oneA [a] u (by simpa [zM] using hu)) (fun e => by cases e) (by unfold maxLen; omega) (by omega) B40.out.size ?_
     intro v61 v41 hown hgrow
     have B41 := zA (B40.out.grown hgrow B40.out.size (fun k hk => (K40_58.out.lt k hk).1))
     have K41_11 := zA (xJ K40_58.out K40_11.out hgrow)
     obtain ⟨g61, c61, rfl, hg61, -⟩ := yU hown (by omega)
     have K41_61 : Hid (v41.ownsRow wd.heap.size 36 10 (.slice (some ⟨g61, 0, none⟩) (L.length + 1) c61) (L.length + 1) (zM (L ++ [a]))) := zA (by rw [yS]; simpa [zM] using hown)
     have z41 := B41.out.size
     refine hJ _ _ (zC HOd.out B41.out) ?_
     clear hJ J hown hgrow B40 K40_11 K40_58 K40_60
     refine oR 6 rfl rfl fun J hJ => ?_
     go_simp
     refine (yI (some ⟨g61, 0, none⟩) c61 (L.length + 1) (L ++ [a]) v41 (yG K41_61.out (by simp)) (by simp) (by simp; omega)).mono ?_
     rintro e v42 ⟨⟨p1, p2, p3, k1, h1, k2, h2, k3, h3, pv, p4, k4, h4, p5, k5, h5, p6, k6, h6, o', N, c', E, rfl, hru⟩, hb⟩
     have q11 : v1.heap.size < v41.heap.size := qY K41_11.out
     have B42 := trR B41 hb
     have K42_11 := atR K41_11 hb
     have K42_R := zA (hru v1.heap.size (Or.inl q11))
     have z42 := B42.out.size
     have zb42 : v41.heap.size ≤ v42.heap.size := hb.size
     have hBw := B41.out.size
     refine hJ _ _ (zC HOd.out B42.out) ?_
     clear hJ J hb hru B41 K41_11 K41_61
     refine yB (fuel := 3) (by kernel_rfl) (fun c d v a w h => by cases d <;> exact h) (zC HOd.out B42.out) [7, 8, 9, 10] _ _ (by kernel_rfl) ?_
     refine pS (.tuple #[stV p1 p2 p3 k1 h1 k2 h2 k3 h3 pv p4 k4 h4 p5 k5 h5 p6 k6 h6, .slice o' N c', .int .i64 E]) rfl rfl ?_
     refine pS (stV p1 p2 p3 k1 h1 k2 h2 k3 h3 pv p4 k4 h4 p5 k5 h5 p6 k6 h6) rfl rfl ?_
     refine pS (.slice o' N c') rfl rfl ?_
     refine pS (.int .i64 E) rfl rfl ?_
     refine zE ?_
     obtain ⟨r0, r1, r2, r3, r4, r5, r6, s0, s1, s2, s3, s4, s5, s6⟩ := cs7 K42_11.out
     have HZ := zA (stP K42_11.out p1 p2 p3 k1 h1 k2 h2 k3 h3 pv p4 k4 h4 p5 k5 h5 p6 k6 h6)
     have HRz := zA (K42_R.out.store)
     have HBz := zA (sbP B42.out (b := v1.heap.size) (by omega) p1 p2 p3 k1 h1 k2 h2 k3 h3 pv p4 k4 h4 p5 k5 h5 p6 k6 h6)
     refine oR 12 rfl rfl fun J hJ => ?_
     go_simp
     refine hJ _ _ (zC HOd.out HBz.out) ?_
     clear hJ J r0 s0 r1 s1 r2 s2 r3 s3 r4 s4 r5 s5 r6 s6 K42_11 K42_R B42
     generalize World.setCell _ ⟨v1.heap.size, 6, none⟩ _ = wz at *
     refine oR 13 rfl rfl fun J hJ => ?_
     go_simp
     refine hJ _ _ (zC HOd.out HBz.out) ?_
     clear hJ J
     refine oR 14 rfl rfl fun J hJ => ?_
     go_simp
     refine hJ _ _ (zC HOd.out HBz.out) ?_
     clear hJ J
     refine wpAnyH_done (by kernel_rfl) ?_ _
     go_wp2_with fail
     go_meet
     case rel => exact ⟨v1.heap.size, p1, p2, p3, k1, h1, k2, h2, k3, h3, pv, p4, k4, h4, p5, k5, h5, p6, k6, h6, o', N, c', E, rfl, rfl, rfl, HZ, zA (HRz.out.mono (by omega)), zA (HAd.out.trans (HBz.out.mono (by omega)))⟩
    ·go_simp
     have hba := (Below.refl v38.heap.size v38).alloc (Nat.le_refl _) (.cells #[.int .i64 a.k, .int .i64 a.i, .int .i64 a.o, .int .i64 a.m, .int .i64 a.t.i, .int .i64 a.t.k, .int .i64 a.t.f, .int .i64 a.t.t, .int .i64 a.t.z, .int .i64 a.t.r] 36)
     have B44 := zA (B38.out.trans (hba.mono B38.out.size))
     have K44_56 := zA (zF K38_56.out hba)
     have K44_11 := zA (zC K38_11.out hba)
     have K44_60 := zA (heap_alloc_new v38 (.cells #[.int .i64 a.k, .int .i64 a.i, .int .i64 a.o, .int .i64 a.m, .int .i64 a.t.i, .int .i64 a.t.k, .int .i64 a.t.f, .int .i64 a.t.t, .int .i64 a.t.z, .int .i64 a.t.r] 36))
     have q44 : v38.heap.size < (v38.alloc (.cells #[.int .i64 a.k, .int .i64 a.i, .int .i64 a.o, .int .i64 a.m, .int .i64 a.t.i, .int .i64 a.t.k, .int .i64 a.t.f, .int .i64 a.t.t, .int .i64 a.t.z, .int .i64 a.t.r] 36)).heap.size := by simp
     refine hJ _ _ (zC HOd.out B44.out) ?_
     clear hJ J hba B38 K38_56 K38_11
     generalize v38.alloc _ = v44 at *
     have z44 := B44.out.size
     refine oR 2 rfl rfl fun J hJ => ?_
     refine zN _ _ 44 rfl wd.heap.size 36 i0 _ 10 80 Tryz.underlying44 hi hz0 hz1 hz2 rfl (by decide) (.slice (some ⟨wd.heap.size, 0, none⟩) 0 0) 0 [] (by go_simp) K44_56.out o L.length c (zM L) (by go_simp) (xK L) (fun ad e => by subst e; exact xN (HLd.out.below B44.out)) (oneA L) (fun e => ⟨by have := hno e; omega, hno e⟩) (by unfold maxLen; omega) (by omega) B44.out.size ?_
     intro v58 v45 hown hgrow
     have B45 := zA (B44.out.grown hgrow B44.out.size (fun k hk => (K44_56.out.lt k hk).1))
     have hkq := Kq.ofGrown hgrow
     have K45_60 := zA (hkq.obj K44_60.out (by show ¬ v38.heap.size = wd.heap.size; omega))
     have K45_11 := zA (hkq.obj K44_11.out (by show ¬ v1.heap.size = wd.heap.size; omega))
     rw [List.nil_append, Nat.zero_add] at hown
     have K45_58 := zA hown
     have z45 := B45.out.size
     refine hJ _ _ (zC HOd.out B45.out) ?_
     clear hJ J hown hgrow hkq B44 K44_56 K44_11 K44_60
     refine oR 5 rfl rfl fun J hJ => ?_
     refine zN _ _ 44 rfl wd.heap.size 36 i0 _ 10 80 Tryz.underlying44 hi hz0 hz1 hz2 rfl (by decide) v58 L.length (zM L) (by go_simp) K45_58.out (some ⟨v38.heap.size, 0, none⟩) 1 1 a.cells (by go_simp) rfl (fun ad e => by cases e; exact jM K45_60.out) (fun u hu => oneA [a] u (by simpa [zM] using hu)) (fun e => by cases e) (by unfold maxLen; omega) (by omega) B45.out.size ?_
     intro v61 v46 hown hgrow
     have B46 := zA (B45.out.grown hgrow B45.out.size (fun k hk => (K45_58.out.lt k hk).1))
     have K46_11 := zA (xJ K45_58.out K45_11.out hgrow)
     obtain ⟨g61, c61, rfl, hg61, -⟩ := yU hown (by omega)
     have K46_61 : Hid (v46.ownsRow wd.heap.size 36 10 (.slice (some ⟨g61, 0, none⟩) (L.length + 1) c61) (L.length + 1) (zM (L ++ [a]))) := zA (by rw [yS]; simpa [zM] using hown)
     have z46 := B46.out.size
     refine hJ _ _ (zC HOd.out B46.out) ?_
     clear hJ J hown hgrow B45 K45_11 K45_60 K45_58
     refine oR 6 rfl rfl fun J hJ => ?_
     go_simp
     refine (yI (some ⟨g61, 0, none⟩) c61 (L.length + 1) (L ++ [a]) v46 (yG K46_61.out (by simp)) (by simp) (by simp; omega)).mono ?_
     rintro e v47 ⟨⟨p1, p2, p3, k1, h1, k2, h2, k3, h3, pv, p4, k4, h4, p5, k5, h5, p6, k6, h6, o', N, c', E, rfl, hru⟩, hb⟩
     have q11 : v1.heap.size < v46.heap.size := qY K46_11.out
     have B47 := trR B46 hb
     have K47_11 := atR K46_11 hb
     have K47_R := zA (hru v1.heap.size (Or.inl q11))
     have z47 := B47.out.size
     have zb47 : v46.heap.size ≤ v47.heap.size := hb.size
     have hBw := B46.out.size
     refine hJ _ _ (zC HOd.out B47.out) ?_
     clear hJ J hb hru B46 K46_11 K46_61
     refine yB (fuel := 3) (by kernel_rfl) (fun c d v a w h => by cases d <;> exact h) (zC HOd.out B47.out) [7, 8, 9, 10] _ _ (by kernel_rfl) ?_
     refine pS (.tuple #[stV p1 p2 p3 k1 h1 k2 h2 k3 h3 pv p4 k4 h4 p5 k5 h5 p6 k6 h6, .slice o' N c', .int .i64 E]) rfl rfl ?_
     refine pS (stV p1 p2 p3 k1 h1 k2 h2 k3 h3 pv p4 k4 h4 p5 k5 h5 p6 k6 h6) rfl rfl ?_
     refine pS (.slice o' N c') rfl rfl ?_
     refine pS (.int .i64 E) rfl rfl ?_
     refine zE ?_
     obtain ⟨r0, r1, r2, r3, r4, r5, r6, s0, s1, s2, s3, s4, s5, s6⟩ := cs7 K47_11.out
     have HZ := zA (stP K47_11.out p1 p2 p3 k1 h1 k2 h2 k3 h3 pv p4 k4 h4 p5 k5 h5 p6 k6 h6)
     have HRz := zA (K47_R.out.store)
     have HBz := zA (sbP B47.out (b := v1.heap.size) (by omega) p1 p2 p3 k1 h1 k2 h2 k3 h3 pv p4 k4 h4 p5 k5 h5 p6 k6 h6)
     refine oR 12 rfl rfl fun J hJ => ?_
     go_simp
     refine hJ _ _ (zC HOd.out HBz.out) ?_
     clear hJ J r0 s0 r1 s1 r2 s2 r3 s3 r4 s4 r5 s5 r6 s6 K47_11 K47_R B47
     generalize World.setCell _ ⟨v1.heap.size, 6, none⟩ _ = wz at *
     refine oR 13 rfl rfl fun J hJ => ?_
     go_simp
     refine hJ _ _ (zC HOd.out HBz.out) ?_
     clear hJ J
     refine oR 14 rfl rfl fun J hJ => ?_
     go_simp
     refine hJ _ _ (zC HOd.out HBz.out) ?_
     clear hJ J
     refine wpAnyH_done (by kernel_rfl) ?_ _
     go_wp2_with fail
     go_meet
     case rel => exact ⟨v1.heap.size, p1, p2, p3, k1, h1, k2, h2, k3, h3, pv, p4, k4, h4, p5, k5, h5, p6, k6, h6, o', N, c', E, rfl, rfl, rfl, HZ, zA (HRz.out.mono (by omega)), zA (HAd.out.trans (HBz.out.mono (by omega)))⟩
  ·go_simp
   have hba := (Below.refl wd.heap.size wd).alloc (Nat.le_refl _) (.cells #[.int .i64 a.k, .int .i64 a.i, .int .i64 a.o, .int .i64 a.m, .int .i64 a.t.i, .int .i64 a.t.k, .int .i64 a.t.f, .int .i64 a.t.t, .int .i64 a.t.z, .int .i64 a.t.r] 36)
   have B49 := zA (hba)
   have K49_60 := zA (heap_alloc_new wd (.cells #[.int .i64 a.k, .int .i64 a.i, .int .i64 a.o, .int .i64 a.m, .int .i64 a.t.i, .int .i64 a.t.k, .int .i64 a.t.f, .int .i64 a.t.t, .int .i64 a.t.z, .int .i64 a.t.r] 36))
   have q49 : wd.heap.size < (wd.alloc (.cells #[.int .i64 a.k, .int .i64 a.i, .int .i64 a.o, .int .i64 a.m, .int .i64 a.t.i, .int .i64 a.t.k, .int .i64 a.t.f, .int .i64 a.t.t, .int .i64 a.t.z, .int .i64 a.t.r] 36)).heap.size := by simp
   refine hJ _ _ (zC HOd.out B49.out) ?_
   clear hJ J hba  
   generalize wd.alloc _ = v49 at *
   have z49 := B49.out.size
   refine zT (i := 0) (j := 11) (by kernel_rfl) rfl rfl rfl rfl (fun J hJ => ?_) (fun J hJ => ?_)
   ·go_simp
    have hba := (Below.refl v49.heap.size v49).alloc (Nat.le_refl _) (.cells #[] 36)
    have B50 := zA (B49.out.trans (hba.mono B49.out.size))
    have K50_60 := zA (zC K49_60.out hba)
    have K50_56 := zA (World.ownsRow_made (base := wd.heap.size) (e := 36) (size := 10) v49 #[] 0 (by first | exact Nat.le_refl _ | omega) (by decide) rfl)
    have q50 : v49.heap.size < (v49.alloc (.cells #[] 36)).heap.size := by simp
    refine hJ _ _ (zC HOd.out B50.out) ?_
    clear hJ J hba B49 K49_60
    generalize v49.alloc _ = v50 at *
    have z50 := B50.out.size
    refine zT (i := 2) (j := 11) (by kernel_rfl) rfl rfl rfl rfl (fun J hJ => ?_) (fun J hJ => ?_)
    ·skip
     refine zN _ _ 44 rfl wd.heap.size 36 i0 _ 10 80 Tryz.underlying44 hi hz0 hz1 hz2 rfl (by decide) (.slice (some ⟨v49.heap.size, 0, none⟩) 0 0) 0 [] (by go_simp) K50_56.out o L.length c (zM L) (by go_simp) (xK L) (fun ad e => by subst e; exact xN (HLd.out.below B50.out)) (oneA L) (fun e => ⟨by have := hno e; omega, hno e⟩) (by unfold maxLen; omega) (by omega) B50.out.size ?_
     intro v58 v51 hown hgrow
     have B51 := zA (B50.out.grown hgrow B50.out.size (fun k hk => (K50_56.out.lt k hk).1))
     have hkq := Kq.ofGrown hgrow
     have K51_60 := zA (hkq.obj K50_60.out (by show ¬ wd.heap.size = v49.heap.size; omega))
     rw [List.nil_append, Nat.zero_add] at hown
     have K51_58 := zA hown
     have z51 := B51.out.size
     refine hJ _ _ (zC HOd.out B51.out) ?_
     clear hJ J hown hgrow hkq B50 K50_60 K50_56
     refine zT (i := 5) (j := 11) (by kernel_rfl) rfl rfl rfl rfl (fun J hJ => ?_) (fun J hJ => ?_)
     ·skip
      refine zN _ _ 44 rfl wd.heap.size 36 i0 _ 10 80 Tryz.underlying44 hi hz0 hz1 hz2 rfl (by decide) v58 L.length (zM L) (by go_simp) K51_58.out (some ⟨wd.heap.size, 0, none⟩) 1 1 a.cells (by go_simp) rfl (fun ad e => by cases e; exact jM K51_60.out) (fun u hu => oneA [a] u (by simpa [zM] using hu)) (fun e => by cases e) (by unfold maxLen; omega) (by omega) B51.out.size ?_
      intro v61 v52 hown hgrow
      have B52 := zA (B51.out.grown hgrow B51.out.size (fun k hk => (K51_58.out.lt k hk).1))
      obtain ⟨g61, c61, rfl, hg61, -⟩ := yU hown (by omega)
      have K52_61 : Hid (v52.ownsRow wd.heap.size 36 10 (.slice (some ⟨g61, 0, none⟩) (L.length + 1) c61) (L.length + 1) (zM (L ++ [a]))) := zA (by rw [yS]; simpa [zM] using hown)
      have z52 := B52.out.size
      refine hJ _ _ (zC HOd.out B52.out) ?_
      clear hJ J hown hgrow B51 K51_60 K51_58
      refine zT (i := 6) (j := 11) (by kernel_rfl) rfl rfl rfl rfl (fun J hJ => ?_) (fun J hJ => ?_)
      ·go_simp
       refine (yI (some ⟨g61, 0, none⟩) c61 (L.length + 1) (L ++ [a]) v52 (yG K52_61.out (by simp)) (by simp) (by simp; omega)).mono ?_
       rintro e v53 ⟨⟨p1, p2, p3, k1, h1, k2, h2, k3, h3, pv, p4, k4, h4, p5, k5, h5, p6, k6, h6, o', N, c', E, rfl, hru⟩, hb⟩
       have B53 := trR B52 hb
       have K53_R := zA hru
       have z53 := B53.out.size
       have zb53 : v52.heap.size ≤ v53.heap.size := hb.size
       have hBw := B52.out.size
       refine hJ _ _ (zC HOd.out B53.out) ?_
       clear hJ J hb hru B52 K52_61
       refine yB (fuel := 4) (by kernel_rfl) (fun c d v a w h => by cases d <;> exact h) (zC HOd.out B53.out) [7, 8, 9, 10] _ _ (by kernel_rfl) ?_
       refine pS (.tuple #[stV p1 p2 p3 k1 h1 k2 h2 k3 h3 pv p4 k4 h4 p5 k5 h5 p6 k6 h6, .slice o' N c', .int .i64 E]) rfl rfl ?_
       refine pS (stV p1 p2 p3 k1 h1 k2 h2 k3 h3 pv p4 k4 h4 p5 k5 h5 p6 k6 h6) rfl rfl ?_
       refine pS (.slice o' N c') rfl rfl ?_
       refine pS (.int .i64 E) rfl rfl ?_
       refine zE ?_
       refine oR 11 rfl rfl fun J hJ => ?_
       go_simp
       have hba := (Below.refl v53.heap.size v53).alloc (Nat.le_refl _) (.cells #[.slice none 0 0, .slice none 0 0, .slice none 0 0, .int .i64 0, .slice none 0 0, .slice none 0 0, .slice none 0 0] 32)
       have B54 := zA (B53.out.trans (hba.mono B53.out.size))
       have K54_11 := zA (heap_alloc_new v53 (.cells #[.slice none 0 0, .slice none 0 0, .slice none 0 0, .int .i64 0, .slice none 0 0, .slice none 0 0, .slice none 0 0] 32))
       have K54_R := zA (((K53_R.out v53.heap.size (Or.inr (Nat.le_refl _)))).below hba)
       have q54 : v53.heap.size < (v53.alloc (.cells #[.slice none 0 0, .slice none 0 0, .slice none 0 0, .int .i64 0, .slice none 0 0, .slice none 0 0, .slice none 0 0] 32)).heap.size := by simp
       refine hJ _ _ (zC HOd.out B54.out) ?_
       clear hJ J hba B53 K53_R
       generalize v53.alloc _ = v54 at *
       have z54 := B54.out.size
       obtain ⟨r0, r1, r2, r3, r4, r5, r6, s0, s1, s2, s3, s4, s5, s6⟩ := cs7 K54_11.out
       have HZ := zA (stP K54_11.out p1 p2 p3 k1 h1 k2 h2 k3 h3 pv p4 k4 h4 p5 k5 h5 p6 k6 h6)
       have HRz := zA (K54_R.out.store)
       have HBz := zA (sbP B54.out (b := v53.heap.size) (by omega) p1 p2 p3 k1 h1 k2 h2 k3 h3 pv p4 k4 h4 p5 k5 h5 p6 k6 h6)
       refine oR 12 rfl rfl fun J hJ => ?_
       go_simp
       refine hJ _ _ (zC HOd.out HBz.out) ?_
       clear hJ J r0 s0 r1 s1 r2 s2 r3 s3 r4 s4 r5 s5 r6 s6 K54_11 K54_R B54
       generalize World.setCell _ ⟨v53.heap.size, 6, none⟩ _ = wz at *
       refine oR 13 rfl rfl fun J hJ => ?_
       go_simp
       refine hJ _ _ (zC HOd.out HBz.out) ?_
       clear hJ J
       refine oR 14 rfl rfl fun J hJ => ?_
       go_simp
       refine hJ _ _ (zC HOd.out HBz.out) ?_
       clear hJ J
       refine wpAnyH_done (by kernel_rfl) ?_ _
       go_wp2_with fail
       go_meet
       case rel => exact ⟨v53.heap.size, p1, p2, p3, k1, h1, k2, h2, k3, h3, pv, p4, k4, h4, p5, k5, h5, p6, k6, h6, o', N, c', E, rfl, rfl, rfl, HZ, zA (HRz.out.mono (by omega)), zA (HAd.out.trans (HBz.out.mono (by omega)))⟩
      ·go_simp
       have hba := (Below.refl v52.heap.size v52).alloc (Nat.le_refl _) (.cells #[.slice none 0 0, .slice none 0 0, .slice none 0 0, .int .i64 0, .slice none 0 0, .slice none 0 0, .slice none 0 0] 32)
       have B56 := zA (B52.out.trans (hba.mono B52.out.size))
       have K56_61 := zA (zF K52_61.out hba)
       have K56_11 := zA (heap_alloc_new v52 (.cells #[.slice none 0 0, .slice none 0 0, .slice none 0 0, .int .i64 0, .slice none 0 0, .slice none 0 0, .slice none 0 0] 32))
       have q56 : v52.heap.size < (v52.alloc (.cells #[.slice none 0 0, .slice none 0 0, .slice none 0 0, .int .i64 0, .slice none 0 0, .slice none 0 0, .slice none 0 0] 32)).heap.size := by simp
       refine hJ _ _ (zC HOd.out B56.out) ?_
       clear hJ J hba B52 K52_61
       generalize v52.alloc _ = v56 at *
       have z56 := B56.out.size
       refine oR 6 rfl rfl fun J hJ => ?_
       go_simp
       refine (yI (some ⟨g61, 0, none⟩) c61 (L.length + 1) (L ++ [a]) v56 (yG K56_61.out (by simp)) (by simp) (by simp; omega)).mono ?_
       rintro e v57 ⟨⟨p1, p2, p3, k1, h1, k2, h2, k3, h3, pv, p4, k4, h4, p5, k5, h5, p6, k6, h6, o', N, c', E, rfl, hru⟩, hb⟩
       have q11 : v52.heap.size < v56.heap.size := qY K56_11.out
       have B57 := trR B56 hb
       have K57_11 := atR K56_11 hb
       have K57_R := zA (hru v52.heap.size (Or.inl q11))
       have z57 := B57.out.size
       have zb57 : v56.heap.size ≤ v57.heap.size := hb.size
       have hBw := B56.out.size
       refine hJ _ _ (zC HOd.out B57.out) ?_
       clear hJ J hb hru B56 K56_61 K56_11
       refine yB (fuel := 3) (by kernel_rfl) (fun c d v a w h => by cases d <;> exact h) (zC HOd.out B57.out) [7, 8, 9, 10] _ _ (by kernel_rfl) ?_
       refine pS (.tuple #[stV p1 p2 p3 k1 h1 k2 h2 k3 h3 pv p4 k4 h4 p5 k5 h5 p6 k6 h6, .slice o' N c', .int .i64 E]) rfl rfl ?_
       refine pS (stV p1 p2 p3 k1 h1 k2 h2 k3 h3 pv p4 k4 h4 p5 k5 h5 p6 k6 h6) rfl rfl ?_
       refine pS (.slice o' N c') rfl rfl ?_
       refine pS (.int .i64 E) rfl rfl ?_
       refine zE ?_
       obtain ⟨r0, r1, r2, r3, r4, r5, r6, s0, s1, s2, s3, s4, s5, s6⟩ := cs7 K57_11.out
       have HZ := zA (stP K57_11.out p1 p2 p3 k1 h1 k2 h2 k3 h3 pv p4 k4 h4 p5 k5 h5 p6 k6 h6)
       have HRz := zA (K57_R.out.store)
       have HBz := zA (sbP B57.out (b := v52.heap.size) (by omega) p1 p2 p3 k1 h1 k2 h2 k3 h3 pv p4 k4 h4 p5 k5 h5 p6 k6 h6)
       refine oR 12 rfl rfl fun J hJ => ?_
       go_simp
       refine hJ _ _ (zC HOd.out HBz.out) ?_
       clear hJ J r0 s0 r1 s1 r2 s2 r3 s3 r4 s4 r5 s5 r6 s6 K57_11 K57_R B57
       generalize World.setCell _ ⟨v52.heap.size, 6, none⟩ _ = wz at *
       refine oR 13 rfl rfl fun J hJ => ?_
       go_simp
       refine hJ _ _ (zC HOd.out HBz.out) ?_
       clear hJ J
       refine oR 14 rfl rfl fun J hJ => ?_
       go_simp
       refine hJ _ _ (zC HOd.out HBz.out) ?_
       clear hJ J
       refine wpAnyH_done (by kernel_rfl) ?_ _
       go_wp2_with fail
       go_meet
       case rel => exact ⟨v52.heap.size, p1, p2, p3, k1, h1, k2, h2, k3, h3, pv, p4, k4, h4, p5, k5, h5, p6, k6, h6, o', N, c', E, rfl, rfl, rfl, HZ, zA (HRz.out.mono (by omega)), zA (HAd.out.trans (HBz.out.mono (by omega)))⟩
     ·go_simp
      have hba := (Below.refl v51.heap.size v51).alloc (Nat.le_refl _) (.cells #[.slice none 0 0, .slice none 0 0, .slice none 0 0, .int .i64 0, .slice none 0 0, .slice none 0 0, .slice none 0 0] 32)
      have B59 := zA (B51.out.trans (hba.mono B51.out.size))
      have K59_60 := zA (zC K51_60.out hba)
      have K59_58 := zA (zF K51_58.out hba)
      have K59_11 := zA (heap_alloc_new v51 (.cells #[.slice none 0 0, .slice none 0 0, .slice none 0 0, .int .i64 0, .slice none 0 0, .slice none 0 0, .slice none 0 0] 32))
      have q59 : v51.heap.size < (v51.alloc (.cells #[.slice none 0 0, .slice none 0 0, .slice none 0 0, .int .i64 0, .slice none 0 0, .slice none 0 0, .slice none 0 0] 32)).heap.size := by simp
      refine hJ _ _ (zC HOd.out B59.out) ?_
      clear hJ J hba B51 K51_60 K51_58
      generalize v51.alloc _ = v59 at *
      have z59 := B59.out.size
      refine oR 5 rfl rfl fun J hJ => ?_
      refine zN _ _ 44 rfl wd.heap.size 36 i0 _ 10 80 Tryz.underlying44 hi hz0 hz1 hz2 rfl (by decide) v58 L.length (zM L) (by go_simp) K59_58.out (some ⟨wd.heap.size, 0, none⟩) 1 1 a.cells (by go_simp) rfl (fun ad e => by cases e; exact jM K59_60.out) (fun u hu => oneA [a] u (by simpa [zM] using hu)) (fun e => by cases e) (by unfold maxLen; omega) (by omega) B59.out.size ?_
      intro v61 v60 hown hgrow
      have B60 := zA (B59.out.grown hgrow B59.out.size (fun k hk => (K59_58.out.lt k hk).1))
      have K60_11 := zA (xJ K59_58.out K59_11.out hgrow)
      obtain ⟨g61, c61, rfl, hg61, -⟩ := yU hown (by omega)
      have K60_61 : Hid (v60.ownsRow wd.heap.size 36 10 (.slice (some ⟨g61, 0, none⟩) (L.length + 1) c61) (L.length + 1) (zM (L ++ [a]))) := zA (by rw [yS]; simpa [zM] using hown)
      have z60 := B60.out.size
      refine hJ _ _ (zC HOd.out B60.out) ?_
      clear hJ J hown hgrow B59 K59_60 K59_58 K59_11
      refine oR 6 rfl rfl fun J hJ => ?_
      go_simp
      refine (yI (some ⟨g61, 0, none⟩) c61 (L.length + 1) (L ++ [a]) v60 (yG K60_61.out (by simp)) (by simp) (by simp; omega)).mono ?_
      rintro e v61 ⟨⟨p1, p2, p3, k1, h1, k2, h2, k3, h3, pv, p4, k4, h4, p5, k5, h5, p6, k6, h6, o', N, c', E, rfl, hru⟩, hb⟩
      have q11 : v51.heap.size < v60.heap.size := qY K60_11.out
      have B61 := trR B60 hb
      have K61_11 := atR K60_11 hb
      have K61_R := zA (hru v51.heap.size (Or.inl q11))
      have z61 := B61.out.size
      have zb61 : v60.heap.size ≤ v61.heap.size := hb.size
      have hBw := B60.out.size
      refine hJ _ _ (zC HOd.out B61.out) ?_
      clear hJ J hb hru B60 K60_11 K60_61
      refine yB (fuel := 3) (by kernel_rfl) (fun c d v a w h => by cases d <;> exact h) (zC HOd.out B61.out) [7, 8, 9, 10] _ _ (by kernel_rfl) ?_
      refine pS (.tuple #[stV p1 p2 p3 k1 h1 k2 h2 k3 h3 pv p4 k4 h4 p5 k5 h5 p6 k6 h6, .slice o' N c', .int .i64 E]) rfl rfl ?_
      refine pS (stV p1 p2 p3 k1 h1 k2 h2 k3 h3 pv p4 k4 h4 p5 k5 h5 p6 k6 h6) rfl rfl ?_
      refine pS (.slice o' N c') rfl rfl ?_
      refine pS (.int .i64 E) rfl rfl ?_
      refine zE ?_
      obtain ⟨r0, r1, r2, r3, r4, r5, r6, s0, s1, s2, s3, s4, s5, s6⟩ := cs7 K61_11.out
      have HZ := zA (stP K61_11.out p1 p2 p3 k1 h1 k2 h2 k3 h3 pv p4 k4 h4 p5 k5 h5 p6 k6 h6)
      have HRz := zA (K61_R.out.store)
      have HBz := zA (sbP B61.out (b := v51.heap.size) (by omega) p1 p2 p3 k1 h1 k2 h2 k3 h3 pv p4 k4 h4 p5 k5 h5 p6 k6 h6)
      refine oR 12 rfl rfl fun J hJ => ?_
      go_simp
      refine hJ _ _ (zC HOd.out HBz.out) ?_
      clear hJ J r0 s0 r1 s1 r2 s2 r3 s3 r4 s4 r5 s5 r6 s6 K61_11 K61_R B61
      generalize World.setCell _ ⟨v51.heap.size, 6, none⟩ _ = wz at *
      refine oR 13 rfl rfl fun J hJ => ?_
      go_simp
      refine hJ _ _ (zC HOd.out HBz.out) ?_
      clear hJ J
      refine oR 14 rfl rfl fun J hJ => ?_
      go_simp
      refine hJ _ _ (zC HOd.out HBz.out) ?_
      clear hJ J
      refine wpAnyH_done (by kernel_rfl) ?_ _
      go_wp2_with fail
      go_meet
      case rel => exact ⟨v51.heap.size, p1, p2, p3, k1, h1, k2, h2, k3, h3, pv, p4, k4, h4, p5, k5, h5, p6, k6, h6, o', N, c', E, rfl, rfl, rfl, HZ, zA (HRz.out.mono (by omega)), zA (HAd.out.trans (HBz.out.mono (by omega)))⟩
    ·go_simp
     have hba := (Below.refl v50.heap.size v50).alloc (Nat.le_refl _) (.cells #[.slice none 0 0, .slice none 0 0, .slice none 0 0, .int .i64 0, .slice none 0 0, .slice none 0 0, .slice none 0 0] 32)
     have B63 := zA (B50.out.trans (hba.mono B50.out.size))
     have K63_60 := zA (zC K50_60.out hba)
     have K63_56 := zA (zF K50_56.out hba)
     have K63_11 := zA (heap_alloc_new v50 (.cells #[.slice none 0 0, .slice none 0 0, .slice none 0 0, .int .i64 0, .slice none 0 0, .slice none 0 0, .slice none 0 0] 32))
     have q63 : v50.heap.size < (v50.alloc (.cells #[.slice none 0 0, .slice none 0 0, .slice none 0 0, .int .i64 0, .slice none 0 0, .slice none 0 0, .slice none 0 0] 32)).heap.size := by simp
     refine hJ _ _ (zC HOd.out B63.out) ?_
     clear hJ J hba B50 K50_60 K50_56
     generalize v50.alloc _ = v63 at *
     have z63 := B63.out.size
     refine oR 2 rfl rfl fun J hJ => ?_
     refine zN _ _ 44 rfl wd.heap.size 36 i0 _ 10 80 Tryz.underlying44 hi hz0 hz1 hz2 rfl (by decide) (.slice (some ⟨v49.heap.size, 0, none⟩) 0 0) 0 [] (by go_simp) K63_56.out o L.length c (zM L) (by go_simp) (xK L) (fun ad e => by subst e; exact xN (HLd.out.below B63.out)) (oneA L) (fun e => ⟨by have := hno e; omega, hno e⟩) (by unfold maxLen; omega) (by omega) B63.out.size ?_
     intro v58 v64 hown hgrow
     have B64 := zA (B63.out.grown hgrow B63.out.size (fun k hk => (K63_56.out.lt k hk).1))
     have hkq := Kq.ofGrown hgrow
     have K64_60 := zA (hkq.obj K63_60.out (by show ¬ wd.heap.size = v49.heap.size; omega))
     have K64_11 := zA (hkq.obj K63_11.out (by show ¬ v50.heap.size = v49.heap.size; omega))
     rw [List.nil_append, Nat.zero_add] at hown
     have K64_58 := zA hown
     have z64 := B64.out.size
     refine hJ _ _ (zC HOd.out B64.out) ?_
     clear hJ J hown hgrow hkq B63 K63_60 K63_56 K63_11
     refine oR 5 rfl rfl fun J hJ => ?_
     refine zN _ _ 44 rfl wd.heap.size 36 i0 _ 10 80 Tryz.underlying44 hi hz0 hz1 hz2 rfl (by decide) v58 L.length (zM L) (by go_simp) K64_58.out (some ⟨wd.heap.size, 0, none⟩) 1 1 a.cells (by go_simp) rfl (fun ad e => by cases e; exact jM K64_60.out) (fun u hu => oneA [a] u (by simpa [zM] using hu)) (fun e => by cases e) (by unfold maxLen; omega) (by omega) B64.out.size ?_
     intro v61 v65 hown hgrow
     have B65 := zA (B64.out.grown hgrow B64.out.size (fun k hk => (K64_58.out.lt k hk).1))
     have K65_11 := zA (xJ K64_58.out K64_11.out hgrow)
     obtain ⟨g61, c61, rfl, hg61, -⟩ := yU hown (by omega)
     have K65_61 : Hid (v65.ownsRow wd.heap.size 36 10 (.slice (some ⟨g61, 0, none⟩) (L.length + 1) c61) (L.length + 1) (zM (L ++ [a]))) := zA (by rw [yS]; simpa [zM] using hown)
     have z65 := B65.out.size
     refine hJ _ _ (zC HOd.out B65.out) ?_
     clear hJ J hown hgrow B64 K64_60 K64_11 K64_58
     refine oR 6 rfl rfl fun J hJ => ?_
     go_simp
     refine (yI (some ⟨g61, 0, none⟩) c61 (L.length + 1) (L ++ [a]) v65 (yG K65_61.out (by simp)) (by simp) (by simp; omega)).mono ?_
     rintro e v66 ⟨⟨p1, p2, p3, k1, h1, k2, h2, k3, h3, pv, p4, k4, h4, p5, k5, h5, p6, k6, h6, o', N, c', E, rfl, hru⟩, hb⟩
     have q11 : v50.heap.size < v65.heap.size := qY K65_11.out
     have B66 := trR B65 hb
     have K66_11 := atR K65_11 hb
     have K66_R := zA (hru v50.heap.size (Or.inl q11))
     have z66 := B66.out.size
     have zb66 : v65.heap.size ≤ v66.heap.size := hb.size
     have hBw := B65.out.size
     refine hJ _ _ (zC HOd.out B66.out) ?_
     clear hJ J hb hru B65 K65_11 K65_61
     refine yB (fuel := 3) (by kernel_rfl) (fun c d v a w h => by cases d <;> exact h) (zC HOd.out B66.out) [7, 8, 9, 10] _ _ (by kernel_rfl) ?_
     refine pS (.tuple #[stV p1 p2 p3 k1 h1 k2 h2 k3 h3 pv p4 k4 h4 p5 k5 h5 p6 k6 h6, .slice o' N c', .int .i64 E]) rfl rfl ?_
     refine pS (stV p1 p2 p3 k1 h1 k2 h2 k3 h3 pv p4 k4 h4 p5 k5 h5 p6 k6 h6) rfl rfl ?_
     refine pS (.slice o' N c') rfl rfl ?_
     refine pS (.int .i64 E) rfl rfl ?_
     refine zE ?_
     obtain ⟨r0, r1, r2, r3, r4, r5, r6, s0, s1, s2, s3, s4, s5, s6⟩ := cs7 K66_11.out
     have HZ := zA (stP K66_11.out p1 p2 p3 k1 h1 k2 h2 k3 h3 pv p4 k4 h4 p5 k5 h5 p6 k6 h6)
     have HRz := zA (K66_R.out.store)
     have HBz := zA (sbP B66.out (b := v50.heap.size) (by omega) p1 p2 p3 k1 h1 k2 h2 k3 h3 pv p4 k4 h4 p5 k5 h5 p6 k6 h6)
     refine oR 12 rfl rfl fun J hJ => ?_
     go_simp
     refine hJ _ _ (zC HOd.out HBz.out) ?_
     clear hJ J r0 s0 r1 s1 r2 s2 r3 s3 r4 s4 r5 s5 r6 s6 K66_11 K66_R B66
     generalize World.setCell _ ⟨v50.heap.size, 6, none⟩ _ = wz at *
     refine oR 13 rfl rfl fun J hJ => ?_
     go_simp
     refine hJ _ _ (zC HOd.out HBz.out) ?_
     clear hJ J
     refine oR 14 rfl rfl fun J hJ => ?_
     go_simp
     refine hJ _ _ (zC HOd.out HBz.out) ?_
     clear hJ J
     refine wpAnyH_done (by kernel_rfl) ?_ _
     go_wp2_with fail
     go_meet
     case rel => exact ⟨v50.heap.size, p1, p2, p3, k1, h1, k2, h2, k3, h3, pv, p4, k4, h4, p5, k5, h5, p6, k6, h6, o', N, c', E, rfl, rfl, rfl, HZ, zA (HRz.out.mono (by omega)), zA (HAd.out.trans (HBz.out.mono (by omega)))⟩
   ·go_simp
    have hba := (Below.refl v49.heap.size v49).alloc (Nat.le_refl _) (.cells #[.slice none 0 0, .slice none 0 0, .slice none 0 0, .int .i64 0, .slice none 0 0, .slice none 0 0, .slice none 0 0] 32)
    have B68 := zA (B49.out.trans (hba.mono B49.out.size))
    have K68_60 := zA (zC K49_60.out hba)
    have K68_11 := zA (heap_alloc_new v49 (.cells #[.slice none 0 0, .slice none 0 0, .slice none 0 0, .int .i64 0, .slice none 0 0, .slice none 0 0, .slice none 0 0] 32))
    have q68 : v49.heap.size < (v49.alloc (.cells #[.slice none 0 0, .slice none 0 0, .slice none 0 0, .int .i64 0, .slice none 0 0, .slice none 0 0, .slice none 0 0] 32)).heap.size := by simp
    refine hJ _ _ (zC HOd.out B68.out) ?_
    clear hJ J hba B49 K49_60
    generalize v49.alloc _ = v68 at *
    have z68 := B68.out.size
    refine oR 0 rfl rfl fun J hJ => ?_
    go_simp
    have hba := (Below.refl v68.heap.size v68).alloc (Nat.le_refl _) (.cells #[] 36)
    have B69 := zA (B68.out.trans (hba.mono B68.out.size))
    have K69_60 := zA (zC K68_60.out hba)
    have K69_11 := zA (zC K68_11.out hba)
    have K69_56 := zA (World.ownsRow_made (base := wd.heap.size) (e := 36) (size := 10) v68 #[] 0 (by first | exact Nat.le_refl _ | omega) (by decide) rfl)
    have q69 : v68.heap.size < (v68.alloc (.cells #[] 36)).heap.size := by simp
    refine hJ _ _ (zC HOd.out B69.out) ?_
    clear hJ J hba B68 K68_60 K68_11
    generalize v68.alloc _ = v69 at *
    have z69 := B69.out.size
    refine oR 2 rfl rfl fun J hJ => ?_
    refine zN _ _ 44 rfl wd.heap.size 36 i0 _ 10 80 Tryz.underlying44 hi hz0 hz1 hz2 rfl (by decide) (.slice (some ⟨v68.heap.size, 0, none⟩) 0 0) 0 [] (by go_simp) K69_56.out o L.length c (zM L) (by go_simp) (xK L) (fun ad e => by subst e; exact xN (HLd.out.below B69.out)) (oneA L) (fun e => ⟨by have := hno e; omega, hno e⟩) (by unfold maxLen; omega) (by omega) B69.out.size ?_
    intro v58 v70 hown hgrow
    have B70 := zA (B69.out.grown hgrow B69.out.size (fun k hk => (K69_56.out.lt k hk).1))
    have hkq := Kq.ofGrown hgrow
    have K70_60 := zA (hkq.obj K69_60.out (by show ¬ wd.heap.size = v68.heap.size; omega))
    have K70_11 := zA (hkq.obj K69_11.out (by show ¬ v49.heap.size = v68.heap.size; omega))
    rw [List.nil_append, Nat.zero_add] at hown
    have K70_58 := zA hown
    have z70 := B70.out.size
    refine hJ _ _ (zC HOd.out B70.out) ?_
    clear hJ J hown hgrow hkq B69 K69_60 K69_11 K69_56
    refine oR 5 rfl rfl fun J hJ => ?_
    refine zN _ _ 44 rfl wd.heap.size 36 i0 _ 10 80 Tryz.underlying44 hi hz0 hz1 hz2 rfl (by decide) v58 L.length (zM L) (by go_simp) K70_58.out (some ⟨wd.heap.size, 0, none⟩) 1 1 a.cells (by go_simp) rfl (fun ad e => by cases e; exact jM K70_60.out) (fun u hu => oneA [a] u (by simpa [zM] using hu)) (fun e => by cases e) (by unfold maxLen; omega) (by omega) B70.out.size ?_
    intro v61 v71 hown hgrow
    have B71 := zA (B70.out.grown hgrow B70.out.size (fun k hk => (K70_58.out.lt k hk).1))
    have K71_11 := zA (xJ K70_58.out K70_11.out hgrow)
    obtain ⟨g61, c61, rfl, hg61, -⟩ := yU hown (by omega)
    have K71_61 : Hid (v71.ownsRow wd.heap.size 36 10 (.slice (some ⟨g61, 0, none⟩) (L.length + 1) c61) (L.length + 1) (zM (L ++ [a]))) := zA (by rw [yS]; simpa [zM] using hown)
    have z71 := B71.out.size
    refine hJ _ _ (zC HOd.out B71.out) ?_
    clear hJ J hown hgrow B70 K70_60 K70_11 K70_58
    refine oR 6 rfl rfl fun J hJ => ?_
    go_simp
    refine (yI (some ⟨g61, 0, none⟩) c61 (L.length + 1) (L ++ [a]) v71 (yG K71_61.out (by simp)) (by simp) (by simp; omega)).mono ?_
    rintro e v72 ⟨⟨p1, p2, p3, k1, h1, k2, h2, k3, h3, pv, p4, k4, h4, p5, k5, h5, p6, k6, h6, o', N, c', E, rfl, hru⟩, hb⟩
    have q11 : v49.heap.size < v71.heap.size := qY K71_11.out
    have B72 := trR B71 hb
    have K72_11 := atR K71_11 hb
    have K72_R := zA (hru v49.heap.size (Or.inl q11))
    have z72 := B72.out.size
    have zb72 : v71.heap.size ≤ v72.heap.size := hb.size
    have hBw := B71.out.size
    refine hJ _ _ (zC HOd.out B72.out) ?_
    clear hJ J hb hru B71 K71_11 K71_61
    refine yB (fuel := 3) (by kernel_rfl) (fun c d v a w h => by cases d <;> exact h) (zC HOd.out B72.out) [7, 8, 9, 10] _ _ (by kernel_rfl) ?_
    refine pS (.tuple #[stV p1 p2 p3 k1 h1 k2 h2 k3 h3 pv p4 k4 h4 p5 k5 h5 p6 k6 h6, .slice o' N c', .int .i64 E]) rfl rfl ?_
    refine pS (stV p1 p2 p3 k1 h1 k2 h2 k3 h3 pv p4 k4 h4 p5 k5 h5 p6 k6 h6) rfl rfl ?_
    refine pS (.slice o' N c') rfl rfl ?_
    refine pS (.int .i64 E) rfl rfl ?_
    refine zE ?_
    obtain ⟨r0, r1, r2, r3, r4, r5, r6, s0, s1, s2, s3, s4, s5, s6⟩ := cs7 K72_11.out
    have HZ := zA (stP K72_11.out p1 p2 p3 k1 h1 k2 h2 k3 h3 pv p4 k4 h4 p5 k5 h5 p6 k6 h6)
    have HRz := zA (K72_R.out.store)
    have HBz := zA (sbP B72.out (b := v49.heap.size) (by omega) p1 p2 p3 k1 h1 k2 h2 k3 h3 pv p4 k4 h4 p5 k5 h5 p6 k6 h6)
    refine oR 12 rfl rfl fun J hJ => ?_
    go_simp
    refine hJ _ _ (zC HOd.out HBz.out) ?_
    clear hJ J r0 s0 r1 s1 r2 s2 r3 s3 r4 s4 r5 s5 r6 s6 K72_11 K72_R B72
    generalize World.setCell _ ⟨v49.heap.size, 6, none⟩ _ = wz at *
    refine oR 13 rfl rfl fun J hJ => ?_
    go_simp
    refine hJ _ _ (zC HOd.out HBz.out) ?_
    clear hJ J
    refine oR 14 rfl rfl fun J hJ => ?_
    go_simp
    refine hJ _ _ (zC HOd.out HBz.out) ?_
    clear hJ J
    refine wpAnyH_done (by kernel_rfl) ?_ _
    go_wp2_with fail
    go_meet
    case rel => exact ⟨v49.heap.size, p1, p2, p3, k1, h1, k2, h2, k3, h3, pv, p4, k4, h4, p5, k5, h5, p6, k6, h6, o', N, c', E, rfl, rfl, rfl, HZ, zA (HRz.out.mono (by omega)), zA (HAd.out.trans (HBz.out.mono (by omega)))⟩
  ·go_simp
   have hba := (Below.refl wd.heap.size wd).alloc (Nat.le_refl _) (.cells #[.slice none 0 0, .slice none 0 0, .slice none 0 0, .int .i64 0, .slice none 0 0, .slice none 0 0, .slice none 0 0] 32)
   have B74 := zA (hba)
   have K74_11 := zA (heap_alloc_new wd (.cells #[.slice none 0 0, .slice none 0 0, .slice none 0 0, .int .i64 0, .slice none 0 0, .slice none 0 0, .slice none 0 0] 32))
   have q74 : wd.heap.size < (wd.alloc (.cells #[.slice none 0 0, .slice none 0 0, .slice none 0 0, .int .i64 0, .slice none 0 0, .slice none 0 0, .slice none 0 0] 32)).heap.size := by simp
   refine hJ _ _ (zC HOd.out B74.out) ?_
   clear hJ J hba  
   generalize wd.alloc _ = v74 at *
   have z74 := B74.out.size
   refine zT (i := 0) (j := 4) (by kernel_rfl) rfl rfl rfl rfl (fun J hJ => ?_) (fun J hJ => ?_)
   ·go_simp
    have hba := (Below.refl v74.heap.size v74).alloc (Nat.le_refl _) (.cells #[] 36)
    have B75 := zA (B74.out.trans (hba.mono B74.out.size))
    have K75_11 := zA (zC K74_11.out hba)
    have K75_56 := zA (World.ownsRow_made (base := wd.heap.size) (e := 36) (size := 10) v74 #[] 0 (by first | exact Nat.le_refl _ | omega) (by decide) rfl)
    have q75 : v74.heap.size < (v74.alloc (.cells #[] 36)).heap.size := by simp
    refine hJ _ _ (zC HOd.out B75.out) ?_
    clear hJ J hba B74 K74_11
    generalize v74.alloc _ = v75 at *
    have z75 := B75.out.size
    refine zT (i := 2) (j := 4) (by kernel_rfl) rfl rfl rfl rfl (fun J hJ => ?_) (fun J hJ => ?_)
    ·skip
     refine zN _ _ 44 rfl wd.heap.size 36 i0 _ 10 80 Tryz.underlying44 hi hz0 hz1 hz2 rfl (by decide) (.slice (some ⟨v74.heap.size, 0, none⟩) 0 0) 0 [] (by go_simp) K75_56.out o L.length c (zM L) (by go_simp) (xK L) (fun ad e => by subst e; exact xN (HLd.out.below B75.out)) (oneA L) (fun e => ⟨by have := hno e; omega, hno e⟩) (by unfold maxLen; omega) (by omega) B75.out.size ?_
     intro v58 v76 hown hgrow
     have B76 := zA (B75.out.grown hgrow B75.out.size (fun k hk => (K75_56.out.lt k hk).1))
     have hkq := Kq.ofGrown hgrow
     have K76_11 := zA (hkq.obj K75_11.out (by show ¬ wd.heap.size = v74.heap.size; omega))
     rw [List.nil_append, Nat.zero_add] at hown
     have K76_58 := zA hown
     have z76 := B76.out.size
     refine hJ _ _ (zC HOd.out B76.out) ?_
     clear hJ J hown hgrow hkq B75 K75_11 K75_56
     refine oR 4 rfl rfl fun J hJ => ?_
     go_simp
     have hba := (Below.refl v76.heap.size v76).alloc (Nat.le_refl _) (.cells #[.int .i64 a.k, .int .i64 a.i, .int .i64 a.o, .int .i64 a.m, .int .i64 a.t.i, .int .i64 a.t.k, .int .i64 a.t.f, .int .i64 a.t.t, .int .i64 a.t.z, .int .i64 a.t.r] 36)
     have B77 := zA (B76.out.trans (hba.mono B76.out.size))
     have K77_11 := zA (zC K76_11.out hba)
     have K77_58 := zA (zF K76_58.out hba)
     have K77_60 := zA (heap_alloc_new v76 (.cells #[.int .i64 a.k, .int .i64 a.i, .int .i64 a.o, .int .i64 a.m, .int .i64 a.t.i, .int .i64 a.t.k, .int .i64 a.t.f, .int .i64 a.t.t, .int .i64 a.t.z, .int .i64 a.t.r] 36))
     have q77 : v76.heap.size < (v76.alloc (.cells #[.int .i64 a.k, .int .i64 a.i, .int .i64 a.o, .int .i64 a.m, .int .i64 a.t.i, .int .i64 a.t.k, .int .i64 a.t.f, .int .i64 a.t.t, .int .i64 a.t.z, .int .i64 a.t.r] 36)).heap.size := by simp
     refine hJ _ _ (zC HOd.out B77.out) ?_
     clear hJ J hba B76 K76_11 K76_58
     generalize v76.alloc _ = v77 at *
     have z77 := B77.out.size
     refine oR 5 rfl rfl fun J hJ => ?_
     refine zN _ _ 44 rfl wd.heap.size 36 i0 _ 10 80 Tryz.underlying44 hi hz0 hz1 hz2 rfl (by decide) v58 L.length (zM L) (by go_simp) K77_58.out (some ⟨v76.heap.size, 0, none⟩) 1 1 a.cells (by go_simp) rfl (fun ad e => by cases e; exact jM K77_60.out) (fun u hu => oneA [a] u (by simpa [zM] using hu)) (fun e => by cases e) (by unfold maxLen; omega) (by omega) B77.out.size ?_
     intro v61 v78 hown hgrow
     have B78 := zA (B77.out.grown hgrow B77.out.size (fun k hk => (K77_58.out.lt k hk).1))
     have K78_11 := zA (xJ K77_58.out K77_11.out hgrow)
     obtain ⟨g61, c61, rfl, hg61, -⟩ := yU hown (by omega)
     have K78_61 : Hid (v78.ownsRow wd.heap.size 36 10 (.slice (some ⟨g61, 0, none⟩) (L.length + 1) c61) (L.length + 1) (zM (L ++ [a]))) := zA (by rw [yS]; simpa [zM] using hown)
     have z78 := B78.out.size
     refine hJ _ _ (zC HOd.out B78.out) ?_
     clear hJ J hown hgrow B77 K77_11 K77_58 K77_60
     refine oR 6 rfl rfl fun J hJ => ?_
     go_simp
     refine (yI (some ⟨g61, 0, none⟩) c61 (L.length + 1) (L ++ [a]) v78 (yG K78_61.out (by simp)) (by simp) (by simp; omega)).mono ?_
     rintro e v79 ⟨⟨p1, p2, p3, k1, h1, k2, h2, k3, h3, pv, p4, k4, h4, p5, k5, h5, p6, k6, h6, o', N, c', E, rfl, hru⟩, hb⟩
     have q11 : wd.heap.size < v78.heap.size := qY K78_11.out
     have B79 := trR B78 hb
     have K79_11 := atR K78_11 hb
     have K79_R := zA (hru wd.heap.size (Or.inl q11))
     have z79 := B79.out.size
     have zb79 : v78.heap.size ≤ v79.heap.size := hb.size
     have hBw := B78.out.size
     refine hJ _ _ (zC HOd.out B79.out) ?_
     clear hJ J hb hru B78 K78_11 K78_61
     refine yB (fuel := 3) (by kernel_rfl) (fun c d v a w h => by cases d <;> exact h) (zC HOd.out B79.out) [7, 8, 9, 10] _ _ (by kernel_rfl) ?_
     refine pS (.tuple #[stV p1 p2 p3 k1 h1 k2 h2 k3 h3 pv p4 k4 h4 p5 k5 h5 p6 k6 h6, .slice o' N c', .int .i64 E]) rfl rfl ?_
     refine pS (stV p1 p2 p3 k1 h1 k2 h2 k3 h3 pv p4 k4 h4 p5 k5 h5 p6 k6 h6) rfl rfl ?_
     refine pS (.slice o' N c') rfl rfl ?_
     refine pS (.int .i64 E) rfl rfl ?_
     refine zE ?_
     obtain ⟨r0, r1, r2, r3, r4, r5, r6, s0, s1, s2, s3, s4, s5, s6⟩ := cs7 K79_11.out
     have HZ := zA (stP K79_11.out p1 p2 p3 k1 h1 k2 h2 k3 h3 pv p4 k4 h4 p5 k5 h5 p6 k6 h6)
     have HRz := zA (K79_R.out.store)
     have HBz := zA (sbP B79.out (b := wd.heap.size) (by omega) p1 p2 p3 k1 h1 k2 h2 k3 h3 pv p4 k4 h4 p5 k5 h5 p6 k6 h6)
     refine oR 12 rfl rfl fun J hJ => ?_
     go_simp
     refine hJ _ _ (zC HOd.out HBz.out) ?_
     clear hJ J r0 s0 r1 s1 r2 s2 r3 s3 r4 s4 r5 s5 r6 s6 K79_11 K79_R B79
     generalize World.setCell _ ⟨wd.heap.size, 6, none⟩ _ = wz at *
     refine oR 13 rfl rfl fun J hJ => ?_
     go_simp
     refine hJ _ _ (zC HOd.out HBz.out) ?_
     clear hJ J
     refine oR 14 rfl rfl fun J hJ => ?_
     go_simp
     refine hJ _ _ (zC HOd.out HBz.out) ?_
     clear hJ J
     refine wpAnyH_done (by kernel_rfl) ?_ _
     go_wp2_with fail
     go_meet
     case rel => exact ⟨wd.heap.size, p1, p2, p3, k1, h1, k2, h2, k3, h3, pv, p4, k4, h4, p5, k5, h5, p6, k6, h6, o', N, c', E, rfl, rfl, rfl, HZ, zA (HRz.out.mono (by omega)), zA (HAd.out.trans (HBz.out.mono (by omega)))⟩
    ·go_simp
     have hba := (Below.refl v75.heap.size v75).alloc (Nat.le_refl _) (.cells #[.int .i64 a.k, .int .i64 a.i, .int .i64 a.o, .int .i64 a.m, .int .i64 a.t.i, .int .i64 a.t.k, .int .i64 a.t.f, .int .i64 a.t.t, .int .i64 a.t.z, .int .i64 a.t.r] 36)
     have B81 := zA (B75.out.trans (hba.mono B75.out.size))
     have K81_11 := zA (zC K75_11.out hba)
     have K81_56 := zA (zF K75_56.out hba)
     have K81_60 := zA (heap_alloc_new v75 (.cells #[.int .i64 a.k, .int .i64 a.i, .int .i64 a.o, .int .i64 a.m, .int .i64 a.t.i, .int .i64 a.t.k, .int .i64 a.t.f, .int .i64 a.t.t, .int .i64 a.t.z, .int .i64 a.t.r] 36))
     have q81 : v75.heap.size < (v75.alloc (.cells #[.int .i64 a.k, .int .i64 a.i, .int .i64 a.o, .int .i64 a.m, .int .i64 a.t.i, .int .i64 a.t.k, .int .i64 a.t.f, .int .i64 a.t.t, .int .i64 a.t.z, .int .i64 a.t.r] 36)).heap.size := by simp
     refine hJ _ _ (zC HOd.out B81.out) ?_
     clear hJ J hba B75 K75_11 K75_56
     generalize v75.alloc _ = v81 at *
     have z81 := B81.out.size
     refine oR 2 rfl rfl fun J hJ => ?_
     refine zN _ _ 44 rfl wd.heap.size 36 i0 _ 10 80 Tryz.underlying44 hi hz0 hz1 hz2 rfl (by decide) (.slice (some ⟨v74.heap.size, 0, none⟩) 0 0) 0 [] (by go_simp) K81_56.out o L.length c (zM L) (by go_simp) (xK L) (fun ad e => by subst e; exact xN (HLd.out.below B81.out)) (oneA L) (fun e => ⟨by have := hno e; omega, hno e⟩) (by unfold maxLen; omega) (by omega) B81.out.size ?_
     intro v58 v82 hown hgrow
     have B82 := zA (B81.out.grown hgrow B81.out.size (fun k hk => (K81_56.out.lt k hk).1))
     have hkq := Kq.ofGrown hgrow
     have K82_60 := zA (hkq.obj K81_60.out (by show ¬ v75.heap.size = v74.heap.size; omega))
     have K82_11 := zA (hkq.obj K81_11.out (by show ¬ wd.heap.size = v74.heap.size; omega))
     rw [List.nil_append, Nat.zero_add] at hown
     have K82_58 := zA hown
     have z82 := B82.out.size
     refine hJ _ _ (zC HOd.out B82.out) ?_
     clear hJ J hown hgrow hkq B81 K81_11 K81_56 K81_60
     refine oR 5 rfl rfl fun J hJ => ?_
     refine zN _ _ 44 rfl wd.heap.size 36 i0 _ 10 80 Tryz.underlying44 hi hz0 hz1 hz2 rfl (by decide) v58 L.length (zM L) (by go_simp) K82_58.out (some ⟨v75.heap.size, 0, none⟩) 1 1 a.cells (by go_simp) rfl (fun ad e => by cases e; exact jM K82_60.out) (fun u hu => oneA [a] u (by simpa [zM] using hu)) (fun e => by cases e) (by unfold maxLen; omega) (by omega) B82.out.size ?_
     intro v61 v83 hown hgrow
     have B83 := zA (B82.out.grown hgrow B82.out.size (fun k hk => (K82_58.out.lt k hk).1))
     have K83_11 := zA (xJ K82_58.out K82_11.out hgrow)
     obtain ⟨g61, c61, rfl, hg61, -⟩ := yU hown (by omega)
     have K83_61 : Hid (v83.ownsRow wd.heap.size 36 10 (.slice (some ⟨g61, 0, none⟩) (L.length + 1) c61) (L.length + 1) (zM (L ++ [a]))) := zA (by rw [yS]; simpa [zM] using hown)
     have z83 := B83.out.size
     refine hJ _ _ (zC HOd.out B83.out) ?_
     clear hJ J hown hgrow B82 K82_11 K82_60 K82_58
     refine oR 6 rfl rfl fun J hJ => ?_
     go_simp
     refine (yI (some ⟨g61, 0, none⟩) c61 (L.length + 1) (L ++ [a]) v83 (yG K83_61.out (by simp)) (by simp) (by simp; omega)).mono ?_
     rintro e v84 ⟨⟨p1, p2, p3, k1, h1, k2, h2, k3, h3, pv, p4, k4, h4, p5, k5, h5, p6, k6, h6, o', N, c', E, rfl, hru⟩, hb⟩
     have q11 : wd.heap.size < v83.heap.size := qY K83_11.out
     have B84 := trR B83 hb
     have K84_11 := atR K83_11 hb
     have K84_R := zA (hru wd.heap.size (Or.inl q11))
     have z84 := B84.out.size
     have zb84 : v83.heap.size ≤ v84.heap.size := hb.size
     have hBw := B83.out.size
     refine hJ _ _ (zC HOd.out B84.out) ?_
     clear hJ J hb hru B83 K83_11 K83_61
     refine yB (fuel := 3) (by kernel_rfl) (fun c d v a w h => by cases d <;> exact h) (zC HOd.out B84.out) [7, 8, 9, 10] _ _ (by kernel_rfl) ?_
     refine pS (.tuple #[stV p1 p2 p3 k1 h1 k2 h2 k3 h3 pv p4 k4 h4 p5 k5 h5 p6 k6 h6, .slice o' N c', .int .i64 E]) rfl rfl ?_
     refine pS (stV p1 p2 p3 k1 h1 k2 h2 k3 h3 pv p4 k4 h4 p5 k5 h5 p6 k6 h6) rfl rfl ?_
     refine pS (.slice o' N c') rfl rfl ?_
     refine pS (.int .i64 E) rfl rfl ?_
     refine zE ?_
     obtain ⟨r0, r1, r2, r3, r4, r5, r6, s0, s1, s2, s3, s4, s5, s6⟩ := cs7 K84_11.out
     have HZ := zA (stP K84_11.out p1 p2 p3 k1 h1 k2 h2 k3 h3 pv p4 k4 h4 p5 k5 h5 p6 k6 h6)
     have HRz := zA (K84_R.out.store)
     have HBz := zA (sbP B84.out (b := wd.heap.size) (by omega) p1 p2 p3 k1 h1 k2 h2 k3 h3 pv p4 k4 h4 p5 k5 h5 p6 k6 h6)
     refine oR 12 rfl rfl fun J hJ => ?_
     go_simp
     refine hJ _ _ (zC HOd.out HBz.out) ?_
     clear hJ J r0 s0 r1 s1 r2 s2 r3 s3 r4 s4 r5 s5 r6 s6 K84_11 K84_R B84
     generalize World.setCell _ ⟨wd.heap.size, 6, none⟩ _ = wz at *
     refine oR 13 rfl rfl fun J hJ => ?_
     go_simp
     refine hJ _ _ (zC HOd.out HBz.out) ?_
     clear hJ J
     refine oR 14 rfl rfl fun J hJ => ?_
     go_simp
     refine hJ _ _ (zC HOd.out HBz.out) ?_
     clear hJ J
     refine wpAnyH_done (by kernel_rfl) ?_ _
     go_wp2_with fail
     go_meet
     case rel => exact ⟨wd.heap.size, p1, p2, p3, k1, h1, k2, h2, k3, h3, pv, p4, k4, h4, p5, k5, h5, p6, k6, h6, o', N, c', E, rfl, rfl, rfl, HZ, zA (HRz.out.mono (by omega)), zA (HAd.out.trans (HBz.out.mono (by omega)))⟩
   ·go_simp
    have hba := (Below.refl v74.heap.size v74).alloc (Nat.le_refl _) (.cells #[.int .i64 a.k, .int .i64 a.i, .int .i64 a.o, .int .i64 a.m, .int .i64 a.t.i, .int .i64 a.t.k, .int .i64 a.t.f, .int .i64 a.t.t, .int .i64 a.t.z, .int .i64 a.t.r] 36)
    have B86 := zA (B74.out.trans (hba.mono B74.out.size))
    have K86_11 := zA (zC K74_11.out hba)
    have K86_60 := zA (heap_alloc_new v74 (.cells #[.int .i64 a.k, .int .i64 a.i, .int .i64 a.o, .int .i64 a.m, .int .i64 a.t.i, .int .i64 a.t.k, .int .i64 a.t.f, .int .i64 a.t.t, .int .i64 a.t.z, .int .i64 a.t.r] 36))
    have q86 : v74.heap.size < (v74.alloc (.cells #[.int .i64 a.k, .int .i64 a.i, .int .i64 a.o, .int .i64 a.m, .int .i64 a.t.i, .int .i64 a.t.k, .int .i64 a.t.f, .int .i64 a.t.t, .int .i64 a.t.z, .int .i64 a.t.r] 36)).heap.size := by simp
    refine hJ _ _ (zC HOd.out B86.out) ?_
    clear hJ J hba B74 K74_11
    generalize v74.alloc _ = v86 at *
    have z86 := B86.out.size
    refine oR 0 rfl rfl fun J hJ => ?_
    go_simp
    have hba := (Below.refl v86.heap.size v86).alloc (Nat.le_refl _) (.cells #[] 36)
    have B87 := zA (B86.out.trans (hba.mono B86.out.size))
    have K87_11 := zA (zC K86_11.out hba)
    have K87_60 := zA (zC K86_60.out hba)
    have K87_56 := zA (World.ownsRow_made (base := wd.heap.size) (e := 36) (size := 10) v86 #[] 0 (by first | exact Nat.le_refl _ | omega) (by decide) rfl)
    have q87 : v86.heap.size < (v86.alloc (.cells #[] 36)).heap.size := by simp
    refine hJ _ _ (zC HOd.out B87.out) ?_
    clear hJ J hba B86 K86_11 K86_60
    generalize v86.alloc _ = v87 at *
    have z87 := B87.out.size
    refine oR 2 rfl rfl fun J hJ => ?_
    refine zN _ _ 44 rfl wd.heap.size 36 i0 _ 10 80 Tryz.underlying44 hi hz0 hz1 hz2 rfl (by decide) (.slice (some ⟨v86.heap.size, 0, none⟩) 0 0) 0 [] (by go_simp) K87_56.out o L.length c (zM L) (by go_simp) (xK L) (fun ad e => by subst e; exact xN (HLd.out.below B87.out)) (oneA L) (fun e => ⟨by have := hno e; omega, hno e⟩) (by unfold maxLen; omega) (by omega) B87.out.size ?_
    intro v58 v88 hown hgrow
    have B88 := zA (B87.out.grown hgrow B87.out.size (fun k hk => (K87_56.out.lt k hk).1))
    have hkq := Kq.ofGrown hgrow
    have K88_60 := zA (hkq.obj K87_60.out (by show ¬ v74.heap.size = v86.heap.size; omega))
    have K88_11 := zA (hkq.obj K87_11.out (by show ¬ wd.heap.size = v86.heap.size; omega))
    rw [List.nil_append, Nat.zero_add] at hown
    have K88_58 := zA hown
    have z88 := B88.out.size
    refine hJ _ _ (zC HOd.out B88.out) ?_
    clear hJ J hown hgrow hkq B87 K87_11 K87_60 K87_56
    refine oR 5 rfl rfl fun J hJ => ?_
    refine zN _ _ 44 rfl wd.heap.size 36 i0 _ 10 80 Tryz.underlying44 hi hz0 hz1 hz2 rfl (by decide) v58 L.length (zM L) (by go_simp) K88_58.out (some ⟨v74.heap.size, 0, none⟩) 1 1 a.cells (by go_simp) rfl (fun ad e => by cases e; exact jM K88_60.out) (fun u hu => oneA [a] u (by simpa [zM] using hu)) (fun e => by cases e) (by unfold maxLen; omega) (by omega) B88.out.size ?_
    intro v61 v89 hown hgrow
    have B89 := zA (B88.out.grown hgrow B88.out.size (fun k hk => (K88_58.out.lt k hk).1))
    have K89_11 := zA (xJ K88_58.out K88_11.out hgrow)
    obtain ⟨g61, c61, rfl, hg61, -⟩ := yU hown (by omega)
    have K89_61 : Hid (v89.ownsRow wd.heap.size 36 10 (.slice (some ⟨g61, 0, none⟩) (L.length + 1) c61) (L.length + 1) (zM (L ++ [a]))) := zA (by rw [yS]; simpa [zM] using hown)
    have z89 := B89.out.size
    refine hJ _ _ (zC HOd.out B89.out) ?_
    clear hJ J hown hgrow B88 K88_11 K88_60 K88_58
    refine oR 6 rfl rfl fun J hJ => ?_
    go_simp
    refine (yI (some ⟨g61, 0, none⟩) c61 (L.length + 1) (L ++ [a]) v89 (yG K89_61.out (by simp)) (by simp) (by simp; omega)).mono ?_
    rintro e v90 ⟨⟨p1, p2, p3, k1, h1, k2, h2, k3, h3, pv, p4, k4, h4, p5, k5, h5, p6, k6, h6, o', N, c', E, rfl, hru⟩, hb⟩
    have q11 : wd.heap.size < v89.heap.size := qY K89_11.out
    have B90 := trR B89 hb
    have K90_11 := atR K89_11 hb
    have K90_R := zA (hru wd.heap.size (Or.inl q11))
    have z90 := B90.out.size
    have zb90 : v89.heap.size ≤ v90.heap.size := hb.size
    have hBw := B89.out.size
    refine hJ _ _ (zC HOd.out B90.out) ?_
    clear hJ J hb hru B89 K89_11 K89_61
    refine yB (fuel := 3) (by kernel_rfl) (fun c d v a w h => by cases d <;> exact h) (zC HOd.out B90.out) [7, 8, 9, 10] _ _ (by kernel_rfl) ?_
    refine pS (.tuple #[stV p1 p2 p3 k1 h1 k2 h2 k3 h3 pv p4 k4 h4 p5 k5 h5 p6 k6 h6, .slice o' N c', .int .i64 E]) rfl rfl ?_
    refine pS (stV p1 p2 p3 k1 h1 k2 h2 k3 h3 pv p4 k4 h4 p5 k5 h5 p6 k6 h6) rfl rfl ?_
    refine pS (.slice o' N c') rfl rfl ?_
    refine pS (.int .i64 E) rfl rfl ?_
    refine zE ?_
    obtain ⟨r0, r1, r2, r3, r4, r5, r6, s0, s1, s2, s3, s4, s5, s6⟩ := cs7 K90_11.out
    have HZ := zA (stP K90_11.out p1 p2 p3 k1 h1 k2 h2 k3 h3 pv p4 k4 h4 p5 k5 h5 p6 k6 h6)
    have HRz := zA (K90_R.out.store)
    have HBz := zA (sbP B90.out (b := wd.heap.size) (by omega) p1 p2 p3 k1 h1 k2 h2 k3 h3 pv p4 k4 h4 p5 k5 h5 p6 k6 h6)
    refine oR 12 rfl rfl fun J hJ => ?_
    go_simp
    refine hJ _ _ (zC HOd.out HBz.out) ?_
    clear hJ J r0 s0 r1 s1 r2 s2 r3 s3 r4 s4 r5 s5 r6 s6 K90_11 K90_R B90
    generalize World.setCell _ ⟨wd.heap.size, 6, none⟩ _ = wz at *
    refine oR 13 rfl rfl fun J hJ => ?_
    go_simp
    refine hJ _ _ (zC HOd.out HBz.out) ?_
    clear hJ J
    refine oR 14 rfl rfl fun J hJ => ?_
    go_simp
    refine hJ _ _ (zC HOd.out HBz.out) ?_
    clear hJ J
    refine wpAnyH_done (by kernel_rfl) ?_ _
    go_wp2_with fail
    go_meet
    case rel => exact ⟨wd.heap.size, p1, p2, p3, k1, h1, k2, h2, k3, h3, pv, p4, k4, h4, p5, k5, h5, p6, k6, h6, o', N, c', E, rfl, rfl, rfl, HZ, zA (HRz.out.mono (by omega)), zA (HAd.out.trans (HBz.out.mono (by omega)))⟩
 case rest =>
  obtain ⟨b11, p1, p2, p3, k1, h1, k2, h2, k3, h3, pv, p4, k4, h4, p5, k5, h5, p6, k6, h6, o', N, c', E, rfl, rfl, rfl, HZ, HR, HBc⟩ := hcut
  have hb := HBc.out
  clear HLr
  have Bwwc := trR Bww7 hb
  clear Bww7
  have Bw1wc := trR Bw1w7 hb
  clear Bw1w7
  have Bw6wc := trR Bw6w7 hb
  clear Bw6w7
  have OAwc := atR OAw7 hb
  clear OAw7
  have OSwc := atR OSw7 hb
  clear OSw7
  have OXwc := atR OXw7 hb
  clear OXw7
  clear hb
  have zwwc := Bwwc.out.size
  have zw1wc := Bw1wc.out.size
  have zw6wc := Bw6wc.out.size
  have lAwc := ltR OAwc
  have lSwc := ltR OSwc
  have lXwc := ltR OXwc
  clear HBc
  by_cases h40e : L.length = 40
  ·have b40 : ((L.length : Int) == 40) = true := by rw [h40e]; rfl
   have hE2 : E = 2 := HR.out.1 (by simp; omega)
   subst hE2
   clear h40e
   go_wp2_with fail
   go_ret
   exact ⟨rfl, Bwwc.out⟩
  ·have b40 : ((L.length : Int) == 40) = false := by simpa using (by omega : ¬ (L.length : Int) = 40)
   obtain ⟨rfl, hN, hX, hI, -⟩ := HR.out.2 (by simp; omega)
   have hN' : N = L.length + 1 := by rw [hN]; simp
   subst hN'
   rw [HSN.out] at hX
   rw [HEN.out] at hI
   obtain ⟨ob, rfl, vq⟩ := hI.eqs.2.1 L.length EE (by rw [List.getElem?_append_right (by rw [HEl.out]; exact Nat.le_refl _), HEl.out]; simp)
   have HX := zA hX
   clear hN hX hI HR h40e
   have hlt1 : L.length < L.length + 1 := by omega
   have hw1 : IntKind.i64.wrap ((L.length : Int) + 1) = (L.length : Int) + 1 := by rw [IntKind.wrap_i64]; omega
   have hne : ((L.length : Int) + 1 != (L.length : Int) + 1) = false := by simp
   rcases hE : (EE != 0) with _ | _
   ·obtain rfl : EE = 0 := by simpa using hE
    clear hE
    have hX := HX.out
    rw [if_pos rfl] at hX
    have hq8 := HQ8.out rfl
    have hk2 := HD1.out rfl
    have ht2 := HD3.out rfl
    have hd2 := HD2.out
    clear HX HQ8 HD1 HD2 HD3
    obtain ⟨T2, P2, V2, dv2, D2, L2, W2⟩ := S2
    obtain ⟨rfl, rfl, rfl, rfl, rfl, rfl, GT2', rfl, hm2, hst2, -⟩ := hq8
    obtain ⟨rfl, rfl, rfl, e4, rfl, rfl, GT3, rfl, hm3, hst3, -, -⟩ := hX
    have HS2 := zA hst2
    have HS3 := zA hst3
    have HM2 := zA hm2
    have HM3 := zA hm3
    have HT2 := zA ht2
    have HD2 := zA hd2
    have HK2 : Hid (yP T2 P2 V2 tv D2 GT2' W2 = 0) := zA (by rw [chkS_p, hm2]; exact hk2)
    clear hst2 hst3 hm2 hm3 ht2 hd2 hk2
    have e4' := e4.symm
    subst e4'
    have hDl : D.length ≤ 100 := HLen.out.2.2.2.1
    have hTl : T.length ≤ 100 := HLen.out.1
    go_wp2_with fail
    go_loopw [14] (fun j wr => ∃ (p : Nat), p ≤ D.length ∧ j = .int .i64 p ∧ Hid (Below wc.heap.size wc wr)) (fun j _ => D.length - (intOf j).toNat)
    case atStart => exact ⟨0, Nat.zero_le _, rfl, zA (Below.refl _ _)⟩
    case round =>
     obtain ⟨p, hp, rfl, HR⟩ := hrel
     obtain ⟨wo, hwo⟩ : ∃ x, x = wr := ⟨_, rfl⟩
     subst hwo
     have hb := HR.out
     have Bwwo := trR Bwwc hb
     clear Bwwc
     have Bw1wo := trR Bw1wc hb
     clear Bw1wc
     have Bw6wo := trR Bw6wc hb
     clear Bw6wc
     have Bwcwo := zA hb
     have OAwo := atR OAwc hb
     clear OAwc
     have OSwo := atR OSwc hb
     clear OSwc
     have OXwo := atR OXwc hb
     clear OXwc
     have OYwo := atR HZ hb
     clear HZ
     clear hb
     have zwwo := Bwwo.out.size
     have zw1wo := Bw1wo.out.size
     have zw6wo := Bw6wo.out.size
     have zwcwo := Bwcwo.out.size
     have lAwo := ltR OAwo
     have lSwo := ltR OSwo
     have lXwo := ltR OXwo
     have lYwo := ltR OYwo
     clear HR
     obtain ⟨cS0, cS1, cS2, cS3, cS4, cS5, cS6⟩ := zY OSwo.out
     obtain ⟨cX0, cX1, cX2, cX3, cX4, cX5, cX6⟩ := zY OXwo.out
     have HSo := zA (HST.out.below Bw1wo.out)
     have HXo := zA (HS2.out.below Bw6wo.out)
     by_cases hgo : p < D.length
     ·obtain ⟨x, hx⟩ : ∃ x, D[p]? = some x := ⟨_, List.getElem?_eq_getElem hgo⟩
      obtain ⟨bd, rfl, d0⟩ := HSo.out.den.1 p x hx
      have hh := HD2.out x (by unfold xQ; rw [List.any_eq_true]; exact ⟨x, List.mem_of_getElem? hx, by simp⟩)
      have HH := zA hh
      clear hx hh
      have qcS0 := cell_regrown cS0
      have qcS1 := cell_regrown cS1
      have qcS2 := cell_regrown cS2
      have qcS3 := cell_regrown cS3
      have qcS4 := cell_regrown cS4
      have qcS5 := cell_regrown cS5
      have qcS6 := cell_regrown cS6
      have qcX0 := cell_regrown cX0
      have qcX1 := cell_regrown cX1
      have qcX2 := cell_regrown cX2
      have qcX3 := cell_regrown cX3
      have qcX4 := cell_regrown cX4
      have qcX5 := cell_regrown cX5
      have qcX6 := cell_regrown cX6
      have qd0 := cell_regrown d0
      have kH : ∀ d os, Calls Tryz.prog 17 #[.slice t4 D2.length j4, .int .i64 x] (Sort.grow (redrawn wo d) os) fun e w'' => e = .returned (.bool true) ∧ ∃ p : Regrown, w'' = Sort.grow (redrawn wo p.d) p.os :=
       fun d os => Calls.regrown_of (by
        have h := hasInt_any D2 x t4 j4 _ (HXo.out.below (below_regrown wo d os)).den.1 HXo.out.den.2.1
        rw [HH.out] at h
        exact h.mono fun _ _ ⟨a, b⟩ => ⟨a, by rw [b]; exact Below.refl _ _⟩)
      go_wp2_with fail
      refine wp_region_quiet_below (by kernel_rfl) (by kernel_rfl) ?_
      repeat (go_big_quiet_step (first | exact kH _ _))
      refine wpQuiet_nil ?_
      intro _ hw'
      obtain ⟨⟨dq, osq⟩, hw''⟩ := hw'
      subst hw''
      have hb := below_regrown wo dq osq
      clear qcS0 cS0 qcS1 cS1 qcS2 cS2 qcS3 cS3 qcS4 cS4 qcS5 cS5 qcS6 cS6 qcX0 cX0 qcX1 cX1 qcX2 cX2 qcX3 cX3 qcX4 cX4 qcX5 cX5 qcX6 cX6 qd0 d0 kH
      have Bwwq := trR Bwwo hb
      clear Bwwo
      have Bw1wq := trR Bw1wo hb
      clear Bw1wo
      have Bw6wq := trR Bw6wo hb
      clear Bw6wo
      have Bwcwq := trR Bwcwo hb
      clear Bwcwo
      have OAwq := atR OAwo hb
      clear OAwo
      have OSwq := atR OSwo hb
      clear OSwo
      have OXwq := atR OXwo hb
      clear OXwo
      have OYwq := atR OYwo hb
      clear OYwo
      clear hb
      generalize (Sort.grow (redrawn wo dq) osq) = wq at *
      have zwwq := Bwwq.out.size
      have zw1wq := Bw1wq.out.size
      have zw6wq := Bw6wq.out.size
      have zwcwq := Bwcwq.out.size
      have lAwq := ltR OAwq
      have lSwq := ltR OSwq
      have lXwq := ltR OXwq
      have lYwq := ltR OYwq
      go_wp2_with fail
      exact ⟨⟨p + 1, by omega, by simp, Bwcwq⟩, by simp [intOf]; omega⟩
     ·have hgn : D.length ≤ p := Nat.le_of_not_lt hgo
      go_wp2_with fail
      clear hgo hgn
      clear cS0 cS1 cS2 cS3 cS4 cS5 cS6
      clear cX0 cX1 cX2 cX3 cX4 cX5 cX6
      go_loopw [15] (fun j wr => ∃ (p : Nat), p ≤ T.length ∧ j = .int .i64 p ∧ Hid (Below wo.heap.size wo wr)) (fun j _ => T.length - (intOf j).toNat)
      case atStart => exact ⟨0, Nat.zero_le _, rfl, zA (Below.refl _ _)⟩
      case round =>
       obtain ⟨pp, hpp, rfl, HR⟩ := hrel
       have hb := HR.out
       have Bwwr := trR Bwwo hb
       clear Bwwo
       have Bw1wr := trR Bw1wo hb
       clear Bw1wo
       have Bw6wr := trR Bw6wo hb
       clear Bw6wo
       have Bwcwr := trR Bwcwo hb
       clear Bwcwo
       have Bwowr := zA hb
       have OAwr := atR OAwo hb
       clear OAwo
       have OSwr := atR OSwo hb
       clear OSwo
       have OXwr := atR OXwo hb
       clear OXwo
       have OYwr := atR OYwo hb
       clear OYwo
       clear hb
       have zwwr := Bwwr.out.size
       have zw1wr := Bw1wr.out.size
       have zw6wr := Bw6wr.out.size
       have zwcwr := Bwcwr.out.size
       have zwowr := Bwowr.out.size
       have lAwr := ltR OAwr
       have lSwr := ltR OSwr
       have lXwr := ltR OXwr
       have lYwr := ltR OYwr
       clear HR
       obtain ⟨cS0, cS1, cS2, cS3, cS4, cS5, cS6⟩ := zY OSwr.out
       obtain ⟨cX0, cX1, cX2, cX3, cX4, cX5, cX6⟩ := zY OXwr.out
       have HSr := zA (HST.out.below Bw1wr.out)
       have HXr := zA (HS2.out.below Bw6wr.out)
       by_cases hgo : pp < T.length
       ·obtain ⟨x, hx⟩ : ∃ x, T[pp]? = some x := ⟨_, List.getElem?_eq_getElem hgo⟩
        obtain ⟨bd, rfl, d0, -⟩ := HSr.out.led.parts3.1.ats pp x hx
        have hh := idxT_mem (HT2.out x (List.mem_of_getElem? hx))
        obtain ⟨IX, hIX⟩ : ∃ i, i = qM T2 x.i := ⟨_, rfl⟩
        rw [← hIX] at hh
        have HIX := zA hIX
        clear hx hIX
        have qcS0 := cell_regrown cS0
        have qcS1 := cell_regrown cS1
        have qcS2 := cell_regrown cS2
        have qcS3 := cell_regrown cS3
        have qcS4 := cell_regrown cS4
        have qcS5 := cell_regrown cS5
        have qcS6 := cell_regrown cS6
        have qcX0 := cell_regrown cX0
        have qcX1 := cell_regrown cX1
        have qcX2 := cell_regrown cX2
        have qcX3 := cell_regrown cX3
        have qcX4 := cell_regrown cX4
        have qcX5 := cell_regrown cX5
        have qcX6 := cell_regrown cX6
        have qd0 := cell_regrown d0
        have kT : ∀ d os, Calls Tryz.prog 18 #[.slice t1 T2.length j1, .int .i64 x.i] (Sort.grow (redrawn wr d) os) fun e w'' => e = .returned (.int .i64 IX) ∧ ∃ p : Regrown, w'' = Sort.grow (redrawn wr p.d) p.os :=
         fun d os => Calls.regrown_of (by
          have h := ticketAt_any t1 j1 T2 x.i _ (HXr.out.below (below_regrown wr d os)).led.parts3.1.ats HXr.out.lok.1
          rw [← HIX.out] at h
          exact h.mono fun _ _ ⟨a, b⟩ => ⟨a, by rw [b]; exact Below.refl _ _⟩)
        go_wp2_with fail
        refine wp_region_quiet_below (by kernel_rfl) (by kernel_rfl) ?_
        repeat (go_big_quiet_step (first | exact kT _ _))
        refine wpQuiet_nil ?_
        intro _ hw'
        obtain ⟨⟨dq, osq⟩, hw''⟩ := hw'
        subst hw''
        have hb := below_regrown wr dq osq
        clear qcS0 cS0 qcS1 cS1 qcS2 cS2 qcS3 cS3 qcS4 cS4 qcS5 cS5 qcS6 cS6 qcX0 cX0 qcX1 cX1 qcX2 cX2 qcX3 cX3 qcX4 cX4 qcX5 cX5 qcX6 cX6 qd0 d0 kT
        have Bwwq := trR Bwwr hb
        clear Bwwr
        have Bw1wq := trR Bw1wr hb
        clear Bw1wr
        have Bw6wq := trR Bw6wr hb
        clear Bw6wr
        have Bwcwq := trR Bwcwr hb
        clear Bwcwr
        have Bwowq := trR Bwowr hb
        clear Bwowr
        have OAwq := atR OAwr hb
        clear OAwr
        have OSwq := atR OSwr hb
        clear OSwr
        have OXwq := atR OXwr hb
        clear OXwr
        have OYwq := atR OYwr hb
        clear OYwr
        clear hb
        generalize (Sort.grow (redrawn wr dq) osq) = wq at *
        have zwwq := Bwwq.out.size
        have zw1wq := Bw1wq.out.size
        have zw6wq := Bw6wq.out.size
        have zwcwq := Bwcwq.out.size
        have zwowq := Bwowq.out.size
        have lAwq := ltR OAwq
        have lSwq := ltR OSwq
        have lXwq := ltR OXwq
        have lYwq := ltR OYwq
        go_wp2_with fail
        exact ⟨⟨pp + 1, by omega, by simp, Bwowq⟩, by simp [intOf]; omega⟩
       ·clear HSr HXr
        have hgn : T.length ≤ pp := Nat.le_of_not_lt hgo
        obtain ⟨cY0, cY1, cY2, cY3, cY4, cY5, cY6⟩ := zY OYwr.out
        go_wp2_with fail
        clear hgo hgn
        have hln : T2.length ≤ 100 ∧ P2.length ≤ 100 ∧ V2.length ≤ 100 ∧ D2.length ≤ 100 ∧ W2.length ≤ 100 ∧ GT2'.length ≤ 100 ∧ ∀ g ∈ GT2', g.A.length ≤ 100 ∧ g.D.length ≤ 100 := by
         obtain ⟨c1', c2', c3', c4', c5', c6'⟩ := yM HK2.out
         have := chkL_lens c1'
         have := (yE c2').2.2.1
         refine ⟨by omega, by omega, by omega, by omega, by omega, by omega, fun g hg => ?_⟩
         obtain ⟨q, hq⟩ := List.getElem?_of_mem hg
         have := gate_lens (c4' q g hq)
         omega
        have hss := sameStation_same T2 P2 V2 tv D2 GT2' W2 t1 t2 t3 t4 t5 t6 j1 j2 j3 j4 j5 j6 p1 p2 p3 p4 p5 p6 h1 h2 h3 h4 h5 h6 GT3 _ (HS2.out.below Bw6wr.out) (HS3.out.below Bwcwr.out) (HM3.out.trans HM2.out.symm) hln.1 hln.2.1 hln.2.2.1 hln.2.2.2.1 hln.2.2.2.2.1 hln.2.2.2.2.2.1 hln.2.2.2.2.2.2
        clear cS0 cS1 cS2 cS3 cS4 cS5 cS6
        clear cX0 cX1 cX2 cX3 cX4 cX5 cX6
        clear cY0 cY1 cY2 cY3 cY4 cY5 cY6
        refine (hss).mono ?_
        rintro e w10 ⟨rfl, hb⟩
        have Bww10 := trR Bwwr hb
        have Bw1w10 := trR Bw1wr hb
        have Bw6w10 := trR Bw6wr hb
        have Bwcw10 := trR Bwcwr hb
        have Bwow10 := trR Bwowr hb
        have OAw10 := atR OAwr hb
        have OSw10 := atR OSwr hb
        have OXw10 := atR OXwr hb
        have OYw10 := atR OYwr hb
        have zww10 := Bww10.out.size
        have zw1w10 := Bw1w10.out.size
        have zw6w10 := Bw6w10.out.size
        have zwcw10 := Bwcw10.out.size
        have zwow10 := Bwow10.out.size
        have lAw10 := ltR OAw10
        have lSw10 := ltR OSw10
        have lXw10 := ltR OXw10
        have lYw10 := ltR OYw10
        clear hb Bwwr Bw1wr Bw6wr Bwcwr Bwowr OAwr OSwr OXwr OYwr
        clear hss hln
        obtain ⟨cX0, cX1, cX2, cX3, cX4, cX5, cX6⟩ := zY OXw10.out
        go_wp2_with fail
        have hck := qB T2 P2 V2 tv D2 GT2' W2 t1 t2 t3 t4 t5 t6 j1 j2 j3 j4 j5 j6 _ (HS2.out.below Bw6w10.out).led (HS2.out.below Bw6w10.out).lok (HS2.out.below Bw6w10.out).den.1 (HS2.out.below Bw6w10.out).den.2.1 (HS2.out.below Bw6w10.out).gts (HS2.out.below Bw6w10.out).gok (HS2.out.below Bw6w10.out).vws (HS2.out.below Bw6w10.out).vln
        rw [HK2.out] at hck
        clear cX0 cX1 cX2 cX3 cX4 cX5 cX6
        refine (hck).mono ?_
        rintro e w11 ⟨rfl, hb⟩
        have Bww11 := trR Bww10 hb
        have Bw1w11 := trR Bw1w10 hb
        have Bw6w11 := trR Bw6w10 hb
        have Bwcw11 := trR Bwcw10 hb
        have Bwow11 := trR Bwow10 hb
        have OAw11 := atR OAw10 hb
        have OSw11 := atR OSw10 hb
        have OXw11 := atR OXw10 hb
        have OYw11 := atR OYw10 hb
        have zww11 := Bww11.out.size
        have zw1w11 := Bw1w11.out.size
        have zw6w11 := Bw6w11.out.size
        have zwcw11 := Bwcw11.out.size
        have zwow11 := Bwow11.out.size
        have lAw11 := ltR OAw11
        have lSw11 := ltR OSw11
        have lXw11 := ltR OXw11
        have lYw11 := ltR OYw11
        clear hb Bww10 Bw1w10 Bw6w10 Bwcw10 Bwow10 OAw10 OSw10 OXw10 OYw10
        clear hck
        go_wp2_with fail
        go_ret
        exact ⟨rfl, Bww11.out⟩
   ·have hE0 : ¬ EE = 0 := by simpa using hE
    have hX := HX.out
    rw [if_neg hE0] at hX
    clear HX HQ8 HD1 HD2 HD3 hE0
    obtain ⟨rfl, rfl, rfl, e4, rfl, rfl, GT3, rfl, hm3, hst3, -, -⟩ := hX
    have HS3 := zA hst3
    have HM3 := zA hm3
    clear hst3 hm3
    have e4' := e4.symm
    subst e4'
    have hDl : D.length ≤ 100 := HLen.out.2.2.2.1
    have hTl : T.length ≤ 100 := HLen.out.1
    obtain ⟨cS0, cS1, cS2, cS3, cS4, cS5, cS6⟩ := zY OSwc.out
    obtain ⟨cY0, cY1, cY2, cY3, cY4, cY5, cY6⟩ := zY HZ.out
    go_wp2_with fail
    refine (sameStation_same T P V xv D G W x1 x2 x3 x4 x5 x6 y1 y2 y3 y4 y5 y6 p1 p2 p3 p4 p5 p6 h1 h2 h3 h4 h5 h6 GT3 _ (HST.out.below Bw1wc.out) (HS3.out.below (Below.refl _ _)) HM3.out HLen.out.1 HLen.out.2.1 HLen.out.2.2.1 HLen.out.2.2.2.1 HLen.out.2.2.2.2.1 HLen.out.2.2.2.2.2.1 HLen.out.2.2.2.2.2.2).mono ?_
    rintro e w10 ⟨rfl, hb⟩
    clear cS0 cS1 cS2 cS3 cS4 cS5 cS6
    clear cY0 cY1 cY2 cY3 cY4 cY5 cY6
    have Bww10 := trR Bwwc hb
    clear Bwwc
    have Bw1w10 := trR Bw1wc hb
    clear Bw1wc
    have Bw6w10 := trR Bw6wc hb
    clear Bw6wc
    have Bwcw10 := zA hb
    have OAw10 := atR OAwc hb
    clear OAwc
    have OSw10 := atR OSwc hb
    clear OSwc
    have OXw10 := atR OXwc hb
    clear OXwc
    have OYw10 := atR HZ hb
    clear HZ
    clear hb
    have zww10 := Bww10.out.size
    have zw1w10 := Bw1w10.out.size
    have zw6w10 := Bw6w10.out.size
    have zwcw10 := Bwcw10.out.size
    have lAw10 := ltR OAw10
    have lSw10 := ltR OSw10
    have lXw10 := ltR OXw10
    have lYw10 := ltR OYw10
    go_wp2_with fail
    go_ret
    exact ⟨rfl, Bww10.out⟩
theorem right_many (o : Option Addr) (c : Nat) (L : List AC) (a : AC) (w : World) (hL : jC w o L) (hlen : L.length ≤ 9223372036854775807) (h40 : 40 < L.length) :
  Calls Tryz.prog 5 #[.slice o L.length c, acV a] w fun e w' => e = .returned (.bool true) ∧ Below w.heap.size w w' := by
 obtain ⟨i0, hi, hz0, hz1, hz2⟩ := info_parts infoAct
 have HB := zA ((zL.nil w).more (.cells #[.int .i64 a.k, .int .i64 a.i, .int .i64 a.o, .int .i64 a.m, .int .i64 a.t.i, .int .i64 a.t.k, .int .i64 a.t.f, .int .i64 a.t.t, .int .i64 a.t.z, .int .i64 a.t.r] 36) (by simp))
 have Hw := zA HB.out.2.2
 have OA0 := zA (show _ = _ from HB.out.1 0 _ rfl)
 rw [Nat.add_zero] at OA0
 have HL := zA hL
 clear hL
 have HR1 := zA (fun X (h : jC X o L) => deskRun_any o c L X h hlen)
 go_enter Tryz.func5, Tryz.ntmps5
 go_wp2_with fail
 generalize (w.alloc (.cells #[.int .i64 a.k, .int .i64 a.i, .int .i64 a.o, .int .i64 a.m, .int .i64 a.t.i, .int .i64 a.t.k, .int .i64 a.t.f, .int .i64 a.t.t, .int .i64 a.t.z, .int .i64 a.t.r] 36)) = w0 at *
 clear HB
 refine (HR1.out _ (HL.out.below Hw.out)).mono ?_
 rintro e w1 ⟨⟨-, rfl⟩ | ⟨h1, -⟩, hb⟩
 rotate_left
 ·omega
 have Bww1 := trR Hw hb
 clear Hw
 have OAw1 := atR OA0 hb
 clear OA0
 clear hb
 have zww1 := Bww1.out.size
 have lAw1 := ltR OAw1
 clear HR1 HL
 go_upto_region 2 with fail
 have hb := (Below.refl w1.heap.size w1).alloc (Nat.le_refl _) (.cells #[.slice none 0 0, .slice none 0 0, .slice none 0 0, .int .i64 0, .slice none 0 0, .slice none 0 0, .slice none 0 0] 32)
 have OSw2 := zA (heap_alloc_new w1 (.cells #[.slice none 0 0, .slice none 0 0, .slice none 0 0, .int .i64 0, .slice none 0 0, .slice none 0 0, .slice none 0 0] 32))
 have Bww2 := trR Bww1 hb
 have Bw1w2 := zA hb
 have OAw2 := atR OAw1 hb
 clear hb Bww1 OAw1
 generalize (w1.alloc (.cells #[.slice none 0 0, .slice none 0 0, .slice none 0 0, .int .i64 0, .slice none 0 0, .slice none 0 0, .slice none 0 0] 32)) = w2 at *
 have zww2 := Bww2.out.size
 have zw1w2 := Bw1w2.out.size
 have lAw2 := ltR OAw2
 have lSw2 := ltR OSw2
 go_wp2_with fail
 refine (deskBegun_any _).mono ?_
 rintro e w3 ⟨rfl, hb⟩
 have Bww3 := trR Bww2 hb
 have Bw1w3 := trR Bw1w2 hb
 have OAw3 := atR OAw2 hb
 have OSw3 := atR OSw2 hb
 have zww3 := Bww3.out.size
 have zw1w3 := Bw1w3.out.size
 have lAw3 := ltR OAw3
 have lSw3 := ltR OSw3
 clear hb Bww2 Bw1w2 OAw2 OSw2
 go_wp2_with fail
 refine (stationBegun_any _).mono ?_
 rintro e w4 ⟨rfl, hb⟩
 have Bww4 := trR Bww3 hb
 have Bw1w4 := trR Bw1w3 hb
 have OAw4 := atR OAw3 hb
 have OSw4 := atR OSw3 hb
 have zww4 := Bww4.out.size
 have zw1w4 := Bw1w4.out.size
 have lAw4 := ltR OAw4
 have lSw4 := ltR OSw4
 clear hb Bww3 Bw1w3 OAw3 OSw3
 go_wp2_with fail
 go_ret
 exact ⟨rfl, Bww4.out⟩
theorem deskRight_walk (o : Option Addr) (c : Nat) (L : List AC) (a : AC) (w : World) (hL : jC w o L) (hlen : L.length ≤ 9223372036854775807) (hlc : L.length ≤ c) (hno : o = none → c = 0) :
  Calls Tryz.prog 5 #[.slice o L.length c, acV a] w fun e w' => e = .returned (.bool true) ∧ Below w.heap.size w w' := by
 by_cases h : L.length ≤ 40
 ·exact right_ok o c L a w hL hlen hlc hno h
 ·exact right_many o c L a w hL hlen (by omega)
end
section
open Go.ChangeShapes Go.WideShapes Go.ChangeAt Go.RowKit Go.Deep
theorem cellsAct : Tryz.prog.cellsOf 36 = 10 := by kernel_rfl
section
variable {H : Type} {enc : TypeId × Value → H}
theorem act_of {W : World} {base fuel : Nat} {sp : Nat → Bool} {hd : Bool} {cs : List Value} {x : DataW H × List MemPlace} (hsz : cs.length = 10) (h : DataW.trod enc Tryz.prog W base sp hd fuel 36 cs = some x) :
  ∃ a : AC, cs = [.int .i64 a.k, .int .i64 a.i, .int .i64 a.o, .int .i64 a.m, .int .i64 a.t.i, .int .i64 a.t.k, .int .i64 a.t.f, .int .i64 a.t.t, .int .i64 a.t.z, .int .i64 a.t.r] := by
 match cs, hsz with
 | [d0, d1, d2, d3, d4, d5, d6, d7, d8, d9], _ =>
 obtain ⟨xs, m, _, hx, hl, hlen, hfs⟩ := DataW.trod_struct Tryz.underlying36 h
 match xs, hlen with
 | [y0, y1, y2, y3, y4], _ =>
 have g0 := hfs 0 _ rfl
 have g1 := hfs 1 _ rfl
 have g2 := hfs 2 _ rfl
 have g3 := hfs 3 _ rfl
 have g4 := hfs 4 _ rfl
 simp [cells3', cells23] at g0 g1 g2 g3 g4
 obtain ⟨k0, e0, -⟩ := DataW.trod_int Tryz.underlying3 g0
 obtain ⟨k1, e1, -⟩ := DataW.trod_int Tryz.underlying3 g1
 obtain ⟨k2, e2, -⟩ := DataW.trod_int Tryz.underlying3 g2
 obtain ⟨k3, e3, -⟩ := DataW.trod_int Tryz.underlying3 g3
 obtain ⟨i, k, f, t, z, r, e4⟩ := six_of rfl g4
 simp only [List.cons.injEq, and_true] at e0 e1 e2 e3 e4
 obtain ⟨e4, e5, e6, e7, e8, e9⟩ := e4
 subst e0 e1 e2 e3 e4 e5 e6 e7 e8 e9
 exact ⟨⟨_, _, _, _, ⟨_, _, _, _, _, _⟩⟩, rfl⟩
theorem open_act {W : World} {base : Nat} {sp : Nat → Bool} {v : Value} {d : DataW H} {p : List MemPlace} (hval : Value.okWide Tryz.prog W .any base 36 v) (h : DataW.Trod enc Tryz.prog W 0 sp true 36 v d p) :
  ∃ a : AC, v = acV a := by
 obtain ⟨cs, rfl, hsz⟩ := okWide_struct Tryz.underlying36 hval
 rw [cellsAct] at hsz
 obtain ⟨l⟩ := cs
 obtain ⟨fuel, hf⟩ := h
 obtain ⟨a, e⟩ := act_of (by simpa [Value.cells] using hsz) hf
 simp only [Value.cells] at e
 subst e
 exact ⟨a, rfl⟩
theorem acts_of {W : World} {base fuel : Nat} {sp : Nat → Bool} {hd : Bool} {cs : List Value} {x : DataW H × List MemPlace} (h : DataW.trod enc Tryz.prog W base sp hd fuel 44 cs = some x) :
  ∃ (o : Option Addr) (L : List AC) (cap : Nat), cs = [.slice o L.length cap] ∧ jC W o L ∧ L.length ≤ 9223372036854775807 ∧ L.length ≤ cap ∧ (o = none → cap = 0) := by
 rcases open_slice Tryz.underlying44 h with ⟨rfl, -⟩ | ⟨a, len, cap, m, n, D, Pl, rfl, hb, hl, hm, hmm, -, hx⟩
 ·exact ⟨none, [], 0, rfl, fun i p h => by simp at h, by simp, by simp, fun _ => rfl⟩
 ·rw [cellsAct] at hx
  have hle : len ≤ m := by rw [hmm]; split <;> omega
  have hT : ∀ i, i < len → ∃ p : AC, Act10 W (a.add (i * 10)) p := by
   intro i hi
   obtain ⟨cs', h1, h2⟩ := hx i (by omega)
   obtain ⟨_, hlen, hc⟩ := World.cells?_some h1
   obtain ⟨p, rfl⟩ := act_of hlen h2
   refine ⟨p, ?_, ?_, ?_, ?_, ?_, ?_, ?_, ?_, ?_, ?_⟩
   ·simpa [Addr.add] using hc 0 (by omega)
   ·simpa [Addr.add] using hc 1 (by omega)
   ·simpa [Addr.add] using hc 2 (by omega)
   ·simpa [Addr.add] using hc 3 (by omega)
   ·simpa [Addr.add] using hc 4 (by omega)
   ·simpa [Addr.add] using hc 5 (by omega)
   ·simpa [Addr.add] using hc 6 (by omega)
   ·simpa [Addr.add] using hc 7 (by omega)
   ·simpa [Addr.add] using hc 8 (by omega)
   ·simpa [Addr.add] using hc 9 (by omega)
  haveI : Inhabited AC := ⟨⟨0, 0, 0, 0, ⟨0, 0, 0, 0, 0, 0⟩⟩⟩
  obtain ⟨F, hF⟩ := choose_lt hT
  refine ⟨some a, (List.range len).map F, cap, by simp, ?_, ?_, by simpa using hl, fun h => by cases h⟩
  ·intro i p hi
   rw [List.getElem?_map, Option.map_eq_some_iff] at hi
   obtain ⟨j, hj, rfl⟩ := hi
   obtain ⟨hlt, rfl⟩ : i < len ∧ i = j := by simpa using List.getElem?_eq_some_iff.1 hj
   exact ⟨a, rfl, hF i hlt⟩
  ·have : maxLen = 9223372036854775807 := rfl
   simp
   omega
theorem open_acts {W : World} {base : Nat} {sp : Nat → Bool} {v : Value} {d : DataW H} {p : List MemPlace} (hval : Value.okWide Tryz.prog W .any base 44 v) (h : DataW.Trod enc Tryz.prog W 0 sp true 44 v d p) :
  ∃ (o : Option Addr) (L : List AC) (cap : Nat), v = .slice o L.length cap ∧ jC W o L ∧ L.length ≤ 9223372036854775807 ∧ L.length ≤ cap ∧ (o = none → cap = 0) := by
 obtain ⟨o, len, cap, rfl⟩ := okWide_slice Tryz.underlying44 hval
 obtain ⟨fuel, hf⟩ := h
 obtain ⟨o', L, cap', e, h1⟩ := acts_of hf
 simp [Value.cells] at e
 obtain ⟨rfl, rfl, rfl⟩ := e
 exact ⟨o, L, cap, rfl, h1⟩
end
end
end Go.Proofs.YtgidebfgcbkkkaaGreat
