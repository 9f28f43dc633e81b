/-
  'with' (package gate): the gate behind its next tap.
-/
import Derived.Test.YtlnmheooicancaaJ4
import Derived.Test.YtlnmheooicancaaP5
import Derived.Test.YtlnmheooicancaaN7
namespace Go.Proofs.Ytlnmheooicancaa
open Go.RowKit

/-- a gate that lies behind a value -/
def GateV (w : World) (g : Value) (i z s : Int) (P : List TP) (v : Int) (D : List Int) (l u : Int) : Prop :=
  ∃ oa ca od cd, g = gtV i z s oa P.length ca v od D.length cd l u ∧ TapsAt w oa P ∧ P.length ≤ ca ∧ (oa = none → ca = 0) ∧ IntsAt w od D ∧ D.length ≤ cd ∧ (od = none → cd = 0)

theorem TapsV.setD {w : World} {B : Nat} {v : Value} {L : List TP} (h : TapsV w v L) (hf : Fresh B v) {p : Addr} (hp : p.block < B) (u : Value) : TapsV (w.setCell p u) v L := by
  obtain ⟨o, c, rfl, h1, h2⟩ := h
  refine ⟨o, c, rfl, fun i x hi => ?_, h2⟩
  obtain ⟨b, rfl, a0, a1, a2, a3, a4⟩ := h1 i x hi
  have hB : B ≤ b.block := hf _ rfl
  have hne : ∀ n, p.block ≠ (b.add n).block := fun n => by rw [add_block]; omega
  exact ⟨b, rfl, cell_set_ne (hne _) a0, cell_set_ne (by simpa using hne _) a1, cell_set_ne (by simpa using hne _) a2, cell_set_ne (by simpa using hne _) a3, cell_set_ne (by simpa using hne _) a4⟩

/-- .. whose lists lie in blocks from B on -/
def GateF (B : Nat) (w : World) (g : Value) (i z s : Int) (P : List TP) (v : Int) (D : List Int) (l u : Int) : Prop :=
  ∃ oa ca od cd, g = gtV i z s oa P.length ca v od D.length cd l u ∧ TapsV w (.slice oa P.length ca) P ∧ Fresh B (.slice oa P.length ca) ∧ IntsV w (.slice od D.length cd) D ∧ Fresh B (.slice od D.length cd)

theorem gateV_of {w : World} {i z s v l u : Int} {o1 o2 : Option Addr} {n1 c1 n2 c2 : Nat} {P : List TP} {D : List Int} (h1 : TapsV w (.slice o1 n1 c1) P) (h2 : IntsV w (.slice o2 n2 c2) D) : GateV w (gtV i z s o1 n1 c1 v o2 n2 c2 l u) i z s P v D l u := by
  obtain ⟨oa, ca, e, ha⟩ := h1
  obtain ⟨ob, cb, e', hb⟩ := h2
  simp only [Value.slice.injEq] at e e'
  obtain ⟨rfl, rfl, rfl⟩ := e
  obtain ⟨rfl, rfl, rfl⟩ := e'
  exact ⟨_, _, _, _, rfl, ha.1, ha.2.1, ha.2.2, hb.1, hb.2.1, hb.2.2⟩

theorem GateF.gateV {B : Nat} {w : World} {g : Value} {i z s : Int} {P : List TP} {v : Int} {D : List Int} {l u : Int} (h : GateF B w g i z s P v D l u) : GateV w g i z s P v D l u := by
  obtain ⟨oa, ca, od, cd, rfl, h1, -, h2, -⟩ := h
  exact gateV_of h1 h2

set_option maxHeartbeats 3200000 in
theorem gateWith_any (i z s : Int) (oa : Option Addr) (P : List TP) (ca : Nat) (v : Int) (od : Option Addr) (D : List Int) (cd : Nat) (l u : Int) (a g q m y : Int) (w : World) (hP : TapsAt w oa P) (hD : IntsAt w od D) (hlP : P.length ≤ 12) (hlD : D.length ≤ 12) (hn : oa = none → ca = 0) (hl : 0 ≤ l) (hl2 : l ≤ 9) :
    Calls Try.prog 21 #[gtV i z s oa P.length ca v od D.length cd l u, tp a g q m y] w fun e w' => (∃ x, e = .returned x ∧ GateF w.heap.size w' x i z q (P ++ [⟨a, g, q, m, y⟩]) v D (l - 1) u) ∧ Below w.heap.size w w' := by
  have HP := hide hP
  have HD := hide hD
  have hwr : IntKind.i64.wrap (l - 1) = l - 1 := by rw [IntKind.wrap_i64]; omega
  clear hP hD
  generalize hM : P ++ [(⟨a, g, q, m, y⟩ : TP)] = M
  have HM := hide hM
  clear hM
  go_enter Try.func21, Try.ntmps21
  go_wp2_with fail
  have HB := hide ((((((Blks.nil w).more (.cells #[.int .i64 i, .int .i64 z, .int .i64 q, .slice oa P.length ca, .int .i64 v, .slice od D.length cd, .int .i64 l, .int .i64 u] 48) (by simp)).more (.cells #[.int .i64 a, .int .i64 g, .int .i64 q, .int .i64 m, .int .i64 y] 35) (by simp)).more (.cells #[.int .i64 0, .int .i64 0, .int .i64 0, .slice none 0 0, .int .i64 0, .slice none 0 0, .int .i64 0, .int .i64 0] 29) (by simp)).more (.cells #[.int .i64 a, .int .i64 g, .int .i64 q, .int .i64 m, .int .i64 y] 35) (by simp)).more (.cells #[.slice oa P.length ca, .slice (some ⟨w.heap.size + 1 + 1 + 1, 0, none⟩) 1 1] 22) (by simp))
  refine (concatP_any [(oa, P, ca), (some ⟨w.heap.size + 1 + 1 + 1, 0, none⟩, [(⟨a, g, q, m, y⟩ : TP)], 1)] _ 2 _ ?_ (by simp) (by simp [lenS]; omega)).mono ?_
  · intro n o L cap hq
    match n, hq with
    | 0, hq =>
      simp at hq
      obtain ⟨rfl, rfl, rfl⟩ := hq
      exact ⟨HB.out.cell 4 0 _ _ _ _ rfl rfl rfl, HP.out.below HB.out.2.2, hn⟩
    | 1, hq =>
      simp at hq
      obtain ⟨rfl, rfl, rfl⟩ := hq
      exact ⟨HB.out.cell 4 1 _ _ _ _ rfl rfl rfl, tapsAt_one ⟨HB.out.cell 3 0 _ _ _ _ rfl rfl rfl, HB.out.cell 3 1 _ _ _ _ rfl rfl rfl, HB.out.cell 3 2 _ _ _ _ rfl rfl rfl, HB.out.cell 3 3 _ _ _ _ rfl rfl rfl, HB.out.cell 3 4 _ _ _ _ rfl rfl rfl⟩, fun h => by cases h⟩
    | n + 2, hq => simp at hq
  rintro e w1 ⟨⟨v1, rfl, hv1, hf1⟩, hb1⟩
  replace hv1 : TapsV w1 v1 M := by simpa [HM.out] using hv1
  obtain ⟨o1, c1, rfl, ha⟩ := hv1
  have hf1' := hf1.monoD (show w.heap.size + 1 + 1 + 1 ≤ _ from by simp)
  have HV1 := hide (And.intro (show TapsV w1 (.slice o1 M.length c1) M from ⟨o1, c1, rfl, ha⟩) hf1')
  have HB1 : Hid (Blks w w1 [.cells #[.int .i64 i, .int .i64 z, .int .i64 q, .slice oa P.length ca, .int .i64 v, .slice od D.length cd, .int .i64 l, .int .i64 u] 48, .cells #[.int .i64 a, .int .i64 g, .int .i64 q, .int .i64 m, .int .i64 y] 35, .cells #[.int .i64 0, .int .i64 0, .int .i64 0, .slice none 0 0, .int .i64 0, .slice none 0 0, .int .i64 0, .int .i64 0] 29, .cells #[.int .i64 a, .int .i64 g, .int .i64 q, .int .i64 m, .int .i64 y] 35, .cells #[.slice oa P.length ca, .slice (some ⟨w.heap.size + 1 + 1 + 1, 0, none⟩) 1 1] 22]) := hide (HB.out.on hb1)
  clear hb1 ha hf1 hf1' HB
  have x0 := HB1.out.cell 0 0 w.heap.size _ _ _ rfl rfl rfl
  have fx0 := HB1.out.frozen 0 0 w.heap.size _ _ rfl rfl
  have x1 := HB1.out.cell 0 1 w.heap.size _ _ _ rfl rfl rfl
  have fx1 := HB1.out.frozen 0 1 w.heap.size _ _ rfl rfl
  have x2 := HB1.out.cell 0 2 w.heap.size _ _ _ rfl rfl rfl
  have fx2 := HB1.out.frozen 0 2 w.heap.size _ _ rfl rfl
  have x3 := HB1.out.cell 0 3 w.heap.size _ _ _ rfl rfl rfl
  have fx3 := HB1.out.frozen 0 3 w.heap.size _ _ rfl rfl
  have x4 := HB1.out.cell 0 4 w.heap.size _ _ _ rfl rfl rfl
  have fx4 := HB1.out.frozen 0 4 w.heap.size _ _ rfl rfl
  have x5 := HB1.out.cell 0 5 w.heap.size _ _ _ rfl rfl rfl
  have fx5 := HB1.out.frozen 0 5 w.heap.size _ _ rfl rfl
  have x6 := HB1.out.cell 0 6 w.heap.size _ _ _ rfl rfl rfl
  have fx6 := HB1.out.frozen 0 6 w.heap.size _ _ rfl rfl
  have x7 := HB1.out.cell 0 7 w.heap.size _ _ _ rfl rfl rfl
  have fx7 := HB1.out.frozen 0 7 w.heap.size _ _ rfl rfl
  go_wp2_with fail
  have HB2 : Hid (Blks w (w1.setCell ⟨w.heap.size, 3, none⟩ (.slice o1 M.length c1)) [.cells #[.int .i64 i, .int .i64 z, .int .i64 q, .slice o1 M.length c1, .int .i64 v, .slice od D.length cd, .int .i64 l, .int .i64 u] 48, .cells #[.int .i64 a, .int .i64 g, .int .i64 q, .int .i64 m, .int .i64 y] 35, .cells #[.int .i64 0, .int .i64 0, .int .i64 0, .slice none 0 0, .int .i64 0, .slice none 0 0, .int .i64 0, .int .i64 0] 29, .cells #[.int .i64 a, .int .i64 g, .int .i64 q, .int .i64 m, .int .i64 y] 35, .cells #[.slice oa P.length ca, .slice (some ⟨w.heap.size + 1 + 1 + 1, 0, none⟩) 1 1] 22]) := hide (HB1.out.put 0 3 w.heap.size _ _ _ rfl rfl)
  have HV2 := hide (HV1.out.1.setD HV1.out.2 (p := ⟨w.heap.size, 3, none⟩) (by simp; omega) (.slice o1 M.length c1))
  refine (cloneV_any D od cd _ (HD.out.below HB2.out.2.2) (by omega)).mono ?_
  rintro e w2 ⟨⟨v2, rfl, ⟨o2, c2, rfl, hc⟩, hf2⟩, hb2⟩
  have hsz2 := HB2.out.2.1
  simp only [List.length_cons, List.length_nil] at hsz2
  have HV3 := hide (And.intro (show IntsV w2 (.slice o2 D.length c2) D from ⟨o2, c2, rfl, hc⟩) (hf2.monoD (show w.heap.size + 1 + 1 + 1 ≤ _ by omega)))
  have HV4 := hide (And.intro (HV2.out.below hb2) HV1.out.2)
  have HB3 : Hid (Blks w w2 [.cells #[.int .i64 i, .int .i64 z, .int .i64 q, .slice o1 M.length c1, .int .i64 v, .slice od D.length cd, .int .i64 l, .int .i64 u] 48, .cells #[.int .i64 a, .int .i64 g, .int .i64 q, .int .i64 m, .int .i64 y] 35, .cells #[.int .i64 0, .int .i64 0, .int .i64 0, .slice none 0 0, .int .i64 0, .slice none 0 0, .int .i64 0, .int .i64 0] 29, .cells #[.int .i64 a, .int .i64 g, .int .i64 q, .int .i64 m, .int .i64 y] 35, .cells #[.slice oa P.length ca, .slice (some ⟨w.heap.size + 1 + 1 + 1, 0, none⟩) 1 1] 22]) := hide (HB2.out.on hb2)
  clear hb2 hc hf2 hsz2 HB1 HB2 HV1 HV2
  clear x0 x1 x2 x3 x4 x5 x6 x7 fx0 fx1 fx2 fx3 fx4 fx5 fx6 fx7
  have x0 := HB3.out.cell 0 0 w.heap.size _ _ _ rfl rfl rfl
  have fx0 := HB3.out.frozen 0 0 w.heap.size _ _ rfl rfl
  have x1 := HB3.out.cell 0 1 w.heap.size _ _ _ rfl rfl rfl
  have fx1 := HB3.out.frozen 0 1 w.heap.size _ _ rfl rfl
  have x2 := HB3.out.cell 0 2 w.heap.size _ _ _ rfl rfl rfl
  have fx2 := HB3.out.frozen 0 2 w.heap.size _ _ rfl rfl
  have x3 := HB3.out.cell 0 3 w.heap.size _ _ _ rfl rfl rfl
  have fx3 := HB3.out.frozen 0 3 w.heap.size _ _ rfl rfl
  have x4 := HB3.out.cell 0 4 w.heap.size _ _ _ rfl rfl rfl
  have fx4 := HB3.out.frozen 0 4 w.heap.size _ _ rfl rfl
  have x5 := HB3.out.cell 0 5 w.heap.size _ _ _ rfl rfl rfl
  have fx5 := HB3.out.frozen 0 5 w.heap.size _ _ rfl rfl
  have x6 := HB3.out.cell 0 6 w.heap.size _ _ _ rfl rfl rfl
  have fx6 := HB3.out.frozen 0 6 w.heap.size _ _ rfl rfl
  have x7 := HB3.out.cell 0 7 w.heap.size _ _ _ rfl rfl rfl
  have fx7 := HB3.out.frozen 0 7 w.heap.size _ _ rfl rfl
  have r0 := HB3.out.cell 2 0 (w.heap.size + 1 + 1) _ _ _ rfl rfl rfl
  have fr0 := HB3.out.frozen 2 0 (w.heap.size + 1 + 1) _ _ rfl rfl
  have r1 := HB3.out.cell 2 1 (w.heap.size + 1 + 1) _ _ _ rfl rfl rfl
  have fr1 := HB3.out.frozen 2 1 (w.heap.size + 1 + 1) _ _ rfl rfl
  have r2 := HB3.out.cell 2 2 (w.heap.size + 1 + 1) _ _ _ rfl rfl rfl
  have fr2 := HB3.out.frozen 2 2 (w.heap.size + 1 + 1) _ _ rfl rfl
  have r3 := HB3.out.cell 2 3 (w.heap.size + 1 + 1) _ _ _ rfl rfl rfl
  have fr3 := HB3.out.frozen 2 3 (w.heap.size + 1 + 1) _ _ rfl rfl
  have r4 := HB3.out.cell 2 4 (w.heap.size + 1 + 1) _ _ _ rfl rfl rfl
  have fr4 := HB3.out.frozen 2 4 (w.heap.size + 1 + 1) _ _ rfl rfl
  have r5 := HB3.out.cell 2 5 (w.heap.size + 1 + 1) _ _ _ rfl rfl rfl
  have fr5 := HB3.out.frozen 2 5 (w.heap.size + 1 + 1) _ _ rfl rfl
  have r6 := HB3.out.cell 2 6 (w.heap.size + 1 + 1) _ _ _ rfl rfl rfl
  have fr6 := HB3.out.frozen 2 6 (w.heap.size + 1 + 1) _ _ rfl rfl
  have r7 := HB3.out.cell 2 7 (w.heap.size + 1 + 1) _ _ _ rfl rfl rfl
  have fr7 := HB3.out.frozen 2 7 (w.heap.size + 1 + 1) _ _ rfl rfl
  go_wp2_with fail
  refine bodyPost_ret (v := gtV i z q o1 M.length c1 v o2 D.length c2 (l - 1) u) (by simp [results, Try.results21, go_sem, *]) rfl ⟨⟨_, rfl, ⟨o1, c1, o2, c2, rfl, ?_, HV4.out.2.monoD (by omega), ?_, HV3.out.2.monoD (by omega)⟩⟩, ?_⟩
  · repeat (first | with_reducible exact HV4.out.1 | with_reducible refine TapsV.setD ?_ HV4.out.2 (by simp; try omega) _)
  · repeat (first | with_reducible exact HV3.out.1 | with_reducible refine IntsV.setD ?_ HV3.out.2 (by simp; try omega) _)
  · repeat (first | with_reducible refine Below.setCell ?_ (by simp; try omega) _ | exact HB3.out.2.2)
end Go.Proofs.Ytlnmheooicancaa
