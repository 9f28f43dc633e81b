/-
  'SameGate' (package leeboardref) of the same ones; the walk of GateTold.
-/
import Derived.Test.YtcakfmpckbmdeacJ9
import Derived.Test.YtcakfmpckbmdeacJ10
import Derived.Test.YtcakfmpckbmdeacN9
import Derived.Test.YtcakfmpckbmdeacW3
namespace Go.Proofs.Ytcakfmpckbmdeac
open Go.RowKit

set_option maxHeartbeats 1600000 in
theorem sameGate_same (i z s : Int) (P : List TP) (v : Int) (D : List Int) (l u : Int) (oa oa' od od' : Option Addr) (ca ca' cd cd' : Nat) (w : World) (h1 : TapsAt w oa P) (h2 : TapsAt w oa' P) (h3 : IntsAt w od D) (h4 : IntsAt w od' D) (hP : P.length ≤ 100) (hD : D.length ≤ 100) :
    Calls Try.prog 75 #[gtV i z s oa P.length ca v od D.length cd l u, gtV i z s oa' P.length ca' v od' D.length cd' l u] w fun e w' => e = .returned (.bool true) ∧ Below w.heap.size w w' := by
  have HA := hide (fun W (h : TapsAt W oa P) (h' : TapsAt W oa' P) => sameTaps_same P oa oa' ca ca' W h h' hP)
  have HB := hide (fun W (h : IntsAt W od D) (h' : IntsAt W od' D) => sameDenied_same v D od od' cd cd' W h h' hD)
  have H1 := hide h1
  have H2 := hide h2
  have H3 := hide h3
  have H4 := hide h4
  clear h1 h2 h3 h4
  go_enter Try.func75, Try.ntmps75
  go_wp2_with fail
  have HG1 := hide (((Blks.nil w).more (.cells #[.int .i64 i, .int .i64 z, .int .i64 s, .slice oa P.length ca, .int .i64 v, .slice od D.length cd, .int .i64 l, .int .i64 u] 61) (by simp)).more (.cells #[.int .i64 i, .int .i64 z, .int .i64 s, .slice oa' P.length ca', .int .i64 v, .slice od' D.length cd', .int .i64 l, .int .i64 u] 61) (by simp))
  refine (HA.out _ (H1.out.below HG1.out.2.2) (H2.out.below HG1.out.2.2)).mono ?_
  rintro e w1 ⟨rfl, hb⟩
  have HG1w1 := hide (HG1.out.on hb)
  clear hb HG1
  have lG1_0 := HG1w1.out.lt 0 w.heap.size (by simp) rfl
  have cG1_0_0 := HG1w1.out.cell 0 0 w.heap.size _ _ _ rfl rfl rfl
  have cG1_0_1 := HG1w1.out.cell 0 1 w.heap.size _ _ _ rfl rfl rfl
  have cG1_0_2 := HG1w1.out.cell 0 2 w.heap.size _ _ _ rfl rfl rfl
  have cG1_0_3 := HG1w1.out.cell 0 3 w.heap.size _ _ _ rfl rfl rfl
  have cG1_0_4 := HG1w1.out.cell 0 4 w.heap.size _ _ _ rfl rfl rfl
  have cG1_0_5 := HG1w1.out.cell 0 5 w.heap.size _ _ _ rfl rfl rfl
  have cG1_0_6 := HG1w1.out.cell 0 6 w.heap.size _ _ _ rfl rfl rfl
  have cG1_0_7 := HG1w1.out.cell 0 7 w.heap.size _ _ _ rfl rfl rfl
  have lG1_1 := HG1w1.out.lt 1 (w.heap.size + 1) (by simp) rfl
  have cG1_1_0 := HG1w1.out.cell 1 0 (w.heap.size + 1) _ _ _ rfl rfl rfl
  have cG1_1_1 := HG1w1.out.cell 1 1 (w.heap.size + 1) _ _ _ rfl rfl rfl
  have cG1_1_2 := HG1w1.out.cell 1 2 (w.heap.size + 1) _ _ _ rfl rfl rfl
  have cG1_1_3 := HG1w1.out.cell 1 3 (w.heap.size + 1) _ _ _ rfl rfl rfl
  have cG1_1_4 := HG1w1.out.cell 1 4 (w.heap.size + 1) _ _ _ rfl rfl rfl
  have cG1_1_5 := HG1w1.out.cell 1 5 (w.heap.size + 1) _ _ _ rfl rfl rfl
  have cG1_1_6 := HG1w1.out.cell 1 6 (w.heap.size + 1) _ _ _ rfl rfl rfl
  have cG1_1_7 := HG1w1.out.cell 1 7 (w.heap.size + 1) _ _ _ rfl rfl rfl
  go_wp2_with fail
  refine (HB.out _ (H3.out.below HG1w1.out.2.2) (H4.out.below HG1w1.out.2.2)).mono ?_
  rintro e w2 ⟨rfl, hb⟩
  have HG1w2 := hide (HG1w1.out.on hb)
  clear lG1_0 cG1_0_0 cG1_0_1 cG1_0_2 cG1_0_3 cG1_0_4 cG1_0_5 cG1_0_6 cG1_0_7 lG1_1 cG1_1_0 cG1_1_1 cG1_1_2 cG1_1_3 cG1_1_4 cG1_1_5 cG1_1_6 cG1_1_7
  clear hb HG1w1
  have lG1_0 := HG1w2.out.lt 0 w.heap.size (by simp) rfl
  have cG1_0_0 := HG1w2.out.cell 0 0 w.heap.size _ _ _ rfl rfl rfl
  have cG1_0_1 := HG1w2.out.cell 0 1 w.heap.size _ _ _ rfl rfl rfl
  have cG1_0_2 := HG1w2.out.cell 0 2 w.heap.size _ _ _ rfl rfl rfl
  have cG1_0_3 := HG1w2.out.cell 0 3 w.heap.size _ _ _ rfl rfl rfl
  have cG1_0_4 := HG1w2.out.cell 0 4 w.heap.size _ _ _ rfl rfl rfl
  have cG1_0_5 := HG1w2.out.cell 0 5 w.heap.size _ _ _ rfl rfl rfl
  have cG1_0_6 := HG1w2.out.cell 0 6 w.heap.size _ _ _ rfl rfl rfl
  have cG1_0_7 := HG1w2.out.cell 0 7 w.heap.size _ _ _ rfl rfl rfl
  have lG1_1 := HG1w2.out.lt 1 (w.heap.size + 1) (by simp) rfl
  have cG1_1_0 := HG1w2.out.cell 1 0 (w.heap.size + 1) _ _ _ rfl rfl rfl
  have cG1_1_1 := HG1w2.out.cell 1 1 (w.heap.size + 1) _ _ _ rfl rfl rfl
  have cG1_1_2 := HG1w2.out.cell 1 2 (w.heap.size + 1) _ _ _ rfl rfl rfl
  have cG1_1_3 := HG1w2.out.cell 1 3 (w.heap.size + 1) _ _ _ rfl rfl rfl
  have cG1_1_4 := HG1w2.out.cell 1 4 (w.heap.size + 1) _ _ _ rfl rfl rfl
  have cG1_1_5 := HG1w2.out.cell 1 5 (w.heap.size + 1) _ _ _ rfl rfl rfl
  have cG1_1_6 := HG1w2.out.cell 1 6 (w.heap.size + 1) _ _ _ rfl rfl rfl
  have cG1_1_7 := HG1w2.out.cell 1 7 (w.heap.size + 1) _ _ _ rfl rfl rfl
  go_wp2_with fail
  go_ret
  exact ⟨rfl, HG1w2.out.2.2⟩

end Go.Proofs.Ytcakfmpckbmdeac
