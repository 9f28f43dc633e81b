/-
  'SyncOf' (package leeboardref), 'gateIs' (package leeboardlaw).
-/
import Derived.Test.YtmpghmmcibaefacN11
import Derived.Test.YtmpghmmcibaefacJ12
namespace Go.Proofs.Ytmpghmmcibaefac
open Go.RowKit

set_option maxHeartbeats 3200000 in
theorem syncOf_new (i z s : Int) (oa : Option Addr) (P : List TP) (ca : Nat) (v : Int) (od : Option Addr) (D : List Int) (cd : Nat) (l u : Int) (v' : Int) (od' : Option Addr) (D' : List Int) (cd' : Nat) (m : Int) (w : World) (hm : 0 ≤ m ∧ m ≤ 9999) (hv : v < v') :
    Calls Try.prog 32 #[gtV i z s oa P.length ca v od D.length cd l u, dn v' od' D'.length cd', .int .i64 m] w fun e w' => e = .returned (.tuple #[gtV i z s none 0 0 v' od' D'.length cd' 9 (m + 100), .slice oa P.length ca]) ∧ Below w.heap.size w w' := by
  have HN := hide (fun W => newerOf_any v v' od od' D.length cd D'.length cd' W)
  rw [if_pos hv] at HN
  have hwr : IntKind.i64.wrap (m + 100) = m + 100 := by rw [IntKind.wrap_i64]; omega
  clear hv hm
  go_enter Try.func32, Try.ntmps32
  go_wp2_with fail
  have HG1 := hide ((((Blks.nil w).more (.cells #[.int .i64 i, .int .i64 z, .int .i64 s, .slice oa P.length ca, .int .i64 v, .slice od D.length cd, .int .i64 l, .int .i64 u] 61) (by simp)).more (.cells #[.int .i64 v', .slice od' D'.length cd'] 45) (by simp)).more (.cells #[.int .i64 0, .int .i64 0, .int .i64 0, .slice none 0 0, .int .i64 0, .slice none 0 0, .int .i64 0, .int .i64 0] 61) (by simp))
  refine (HN.out _).mono ?_
  rintro e w1 ⟨rfl, hb⟩
  have HG1w1 := hide (HG1.out.on hb)
  clear hb HG1
  have lG1_0 := HG1w1.out.lt 0 w.heap.size (by simp) rfl
  have cG1_0_0 := HG1w1.out.cell 0 0 w.heap.size _ _ _ rfl rfl rfl
  have fG1_0_0 := HG1w1.out.frozen 0 0 w.heap.size _ _ rfl rfl
  have cG1_0_1 := HG1w1.out.cell 0 1 w.heap.size _ _ _ rfl rfl rfl
  have fG1_0_1 := HG1w1.out.frozen 0 1 w.heap.size _ _ rfl rfl
  have cG1_0_2 := HG1w1.out.cell 0 2 w.heap.size _ _ _ rfl rfl rfl
  have fG1_0_2 := HG1w1.out.frozen 0 2 w.heap.size _ _ rfl rfl
  have cG1_0_3 := HG1w1.out.cell 0 3 w.heap.size _ _ _ rfl rfl rfl
  have fG1_0_3 := HG1w1.out.frozen 0 3 w.heap.size _ _ rfl rfl
  have cG1_0_4 := HG1w1.out.cell 0 4 w.heap.size _ _ _ rfl rfl rfl
  have fG1_0_4 := HG1w1.out.frozen 0 4 w.heap.size _ _ rfl rfl
  have cG1_0_5 := HG1w1.out.cell 0 5 w.heap.size _ _ _ rfl rfl rfl
  have fG1_0_5 := HG1w1.out.frozen 0 5 w.heap.size _ _ rfl rfl
  have cG1_0_6 := HG1w1.out.cell 0 6 w.heap.size _ _ _ rfl rfl rfl
  have fG1_0_6 := HG1w1.out.frozen 0 6 w.heap.size _ _ rfl rfl
  have cG1_0_7 := HG1w1.out.cell 0 7 w.heap.size _ _ _ rfl rfl rfl
  have fG1_0_7 := HG1w1.out.frozen 0 7 w.heap.size _ _ rfl rfl
  have lG1_1 := HG1w1.out.lt 1 (w.heap.size + 1) (by simp) rfl
  have cG1_1_0 := HG1w1.out.cell 1 0 (w.heap.size + 1) _ _ _ rfl rfl rfl
  have fG1_1_0 := HG1w1.out.frozen 1 0 (w.heap.size + 1) _ _ rfl rfl
  have cG1_1_1 := HG1w1.out.cell 1 1 (w.heap.size + 1) _ _ _ rfl rfl rfl
  have fG1_1_1 := HG1w1.out.frozen 1 1 (w.heap.size + 1) _ _ rfl rfl
  have lG1_2 := HG1w1.out.lt 2 (w.heap.size + 1 + 1) (by simp) rfl
  have cG1_2_0 := HG1w1.out.cell 2 0 (w.heap.size + 1 + 1) _ _ _ rfl rfl rfl
  have fG1_2_0 := HG1w1.out.frozen 2 0 (w.heap.size + 1 + 1) _ _ rfl rfl
  have cG1_2_1 := HG1w1.out.cell 2 1 (w.heap.size + 1 + 1) _ _ _ rfl rfl rfl
  have fG1_2_1 := HG1w1.out.frozen 2 1 (w.heap.size + 1 + 1) _ _ rfl rfl
  have cG1_2_2 := HG1w1.out.cell 2 2 (w.heap.size + 1 + 1) _ _ _ rfl rfl rfl
  have fG1_2_2 := HG1w1.out.frozen 2 2 (w.heap.size + 1 + 1) _ _ rfl rfl
  have cG1_2_3 := HG1w1.out.cell 2 3 (w.heap.size + 1 + 1) _ _ _ rfl rfl rfl
  have fG1_2_3 := HG1w1.out.frozen 2 3 (w.heap.size + 1 + 1) _ _ rfl rfl
  have cG1_2_4 := HG1w1.out.cell 2 4 (w.heap.size + 1 + 1) _ _ _ rfl rfl rfl
  have fG1_2_4 := HG1w1.out.frozen 2 4 (w.heap.size + 1 + 1) _ _ rfl rfl
  have cG1_2_5 := HG1w1.out.cell 2 5 (w.heap.size + 1 + 1) _ _ _ rfl rfl rfl
  have fG1_2_5 := HG1w1.out.frozen 2 5 (w.heap.size + 1 + 1) _ _ rfl rfl
  have cG1_2_6 := HG1w1.out.cell 2 6 (w.heap.size + 1 + 1) _ _ _ rfl rfl rfl
  have fG1_2_6 := HG1w1.out.frozen 2 6 (w.heap.size + 1 + 1) _ _ rfl rfl
  have cG1_2_7 := HG1w1.out.cell 2 7 (w.heap.size + 1 + 1) _ _ _ rfl rfl rfl
  have fG1_2_7 := HG1w1.out.frozen 2 7 (w.heap.size + 1 + 1) _ _ rfl rfl
  go_wp2_with fail
  refine bodyPost_ret (v := .tuple #[gtV i z s none 0 0 v' od' D'.length cd' 9 (m + 100), .slice oa P.length ca]) (by simp [results, Try.results32, go_sem, *]) rfl ⟨rfl, ?_⟩
  repeat (first | with_reducible refine Below.setCell ?_ (by simp; try omega) _ | exact HG1w1.out.2.2)

set_option maxHeartbeats 3200000 in
theorem syncOf_old (i z s : Int) (oa : Option Addr) (P : List TP) (ca : Nat) (v : Int) (od : Option Addr) (D : List Int) (cd : Nat) (l u : Int) (v' : Int) (od' : Option Addr) (D' : List Int) (cd' : Nat) (m : Int) (w : World) (hm : 0 ≤ m ∧ m ≤ 9999) (hv : ¬ v < v') :
    Calls Try.prog 32 #[gtV i z s oa P.length ca v od D.length cd l u, dn v' od' D'.length cd', .int .i64 m] w fun e w' => e = .returned (.tuple #[gtV i z s none 0 0 v od D.length cd 9 (m + 100), .slice oa P.length ca]) ∧ Below w.heap.size w w' := by
  have HN := hide (fun W => newerOf_any v v' od od' D.length cd D'.length cd' W)
  rw [if_neg hv] at HN
  have hwr : IntKind.i64.wrap (m + 100) = m + 100 := by rw [IntKind.wrap_i64]; omega
  clear hv hm
  go_enter Try.func32, Try.ntmps32
  go_wp2_with fail
  have HG1 := hide ((((Blks.nil w).more (.cells #[.int .i64 i, .int .i64 z, .int .i64 s, .slice oa P.length ca, .int .i64 v, .slice od D.length cd, .int .i64 l, .int .i64 u] 61) (by simp)).more (.cells #[.int .i64 v', .slice od' D'.length cd'] 45) (by simp)).more (.cells #[.int .i64 0, .int .i64 0, .int .i64 0, .slice none 0 0, .int .i64 0, .slice none 0 0, .int .i64 0, .int .i64 0] 61) (by simp))
  refine (HN.out _).mono ?_
  rintro e w1 ⟨rfl, hb⟩
  have HG1w1 := hide (HG1.out.on hb)
  clear hb HG1
  have lG1_0 := HG1w1.out.lt 0 w.heap.size (by simp) rfl
  have cG1_0_0 := HG1w1.out.cell 0 0 w.heap.size _ _ _ rfl rfl rfl
  have fG1_0_0 := HG1w1.out.frozen 0 0 w.heap.size _ _ rfl rfl
  have cG1_0_1 := HG1w1.out.cell 0 1 w.heap.size _ _ _ rfl rfl rfl
  have fG1_0_1 := HG1w1.out.frozen 0 1 w.heap.size _ _ rfl rfl
  have cG1_0_2 := HG1w1.out.cell 0 2 w.heap.size _ _ _ rfl rfl rfl
  have fG1_0_2 := HG1w1.out.frozen 0 2 w.heap.size _ _ rfl rfl
  have cG1_0_3 := HG1w1.out.cell 0 3 w.heap.size _ _ _ rfl rfl rfl
  have fG1_0_3 := HG1w1.out.frozen 0 3 w.heap.size _ _ rfl rfl
  have cG1_0_4 := HG1w1.out.cell 0 4 w.heap.size _ _ _ rfl rfl rfl
  have fG1_0_4 := HG1w1.out.frozen 0 4 w.heap.size _ _ rfl rfl
  have cG1_0_5 := HG1w1.out.cell 0 5 w.heap.size _ _ _ rfl rfl rfl
  have fG1_0_5 := HG1w1.out.frozen 0 5 w.heap.size _ _ rfl rfl
  have cG1_0_6 := HG1w1.out.cell 0 6 w.heap.size _ _ _ rfl rfl rfl
  have fG1_0_6 := HG1w1.out.frozen 0 6 w.heap.size _ _ rfl rfl
  have cG1_0_7 := HG1w1.out.cell 0 7 w.heap.size _ _ _ rfl rfl rfl
  have fG1_0_7 := HG1w1.out.frozen 0 7 w.heap.size _ _ rfl rfl
  have lG1_1 := HG1w1.out.lt 1 (w.heap.size + 1) (by simp) rfl
  have cG1_1_0 := HG1w1.out.cell 1 0 (w.heap.size + 1) _ _ _ rfl rfl rfl
  have fG1_1_0 := HG1w1.out.frozen 1 0 (w.heap.size + 1) _ _ rfl rfl
  have cG1_1_1 := HG1w1.out.cell 1 1 (w.heap.size + 1) _ _ _ rfl rfl rfl
  have fG1_1_1 := HG1w1.out.frozen 1 1 (w.heap.size + 1) _ _ rfl rfl
  have lG1_2 := HG1w1.out.lt 2 (w.heap.size + 1 + 1) (by simp) rfl
  have cG1_2_0 := HG1w1.out.cell 2 0 (w.heap.size + 1 + 1) _ _ _ rfl rfl rfl
  have fG1_2_0 := HG1w1.out.frozen 2 0 (w.heap.size + 1 + 1) _ _ rfl rfl
  have cG1_2_1 := HG1w1.out.cell 2 1 (w.heap.size + 1 + 1) _ _ _ rfl rfl rfl
  have fG1_2_1 := HG1w1.out.frozen 2 1 (w.heap.size + 1 + 1) _ _ rfl rfl
  have cG1_2_2 := HG1w1.out.cell 2 2 (w.heap.size + 1 + 1) _ _ _ rfl rfl rfl
  have fG1_2_2 := HG1w1.out.frozen 2 2 (w.heap.size + 1 + 1) _ _ rfl rfl
  have cG1_2_3 := HG1w1.out.cell 2 3 (w.heap.size + 1 + 1) _ _ _ rfl rfl rfl
  have fG1_2_3 := HG1w1.out.frozen 2 3 (w.heap.size + 1 + 1) _ _ rfl rfl
  have cG1_2_4 := HG1w1.out.cell 2 4 (w.heap.size + 1 + 1) _ _ _ rfl rfl rfl
  have fG1_2_4 := HG1w1.out.frozen 2 4 (w.heap.size + 1 + 1) _ _ rfl rfl
  have cG1_2_5 := HG1w1.out.cell 2 5 (w.heap.size + 1 + 1) _ _ _ rfl rfl rfl
  have fG1_2_5 := HG1w1.out.frozen 2 5 (w.heap.size + 1 + 1) _ _ rfl rfl
  have cG1_2_6 := HG1w1.out.cell 2 6 (w.heap.size + 1 + 1) _ _ _ rfl rfl rfl
  have fG1_2_6 := HG1w1.out.frozen 2 6 (w.heap.size + 1 + 1) _ _ rfl rfl
  have cG1_2_7 := HG1w1.out.cell 2 7 (w.heap.size + 1 + 1) _ _ _ rfl rfl rfl
  have fG1_2_7 := HG1w1.out.frozen 2 7 (w.heap.size + 1 + 1) _ _ rfl rfl
  go_wp2_with fail
  refine bodyPost_ret (v := .tuple #[gtV i z s none 0 0 v od D.length cd 9 (m + 100), .slice oa P.length ca]) (by simp [results, Try.results32, go_sem, *]) rfl ⟨rfl, ?_⟩
  repeat (first | with_reducible refine Below.setCell ?_ (by simp; try omega) _ | exact HG1w1.out.2.2)

set_option maxHeartbeats 3200000 in
theorem gateIs_ok (i z s : Int) (P : List TP) (v : Int) (D : List Int) (l u : Int) (oa oa' od od' : Option Addr) (ca ca' cd cd' : Nat) (w : World) (h1 : TapsAt w oa P) (h2 : TapsAt w oa' P) (h3 : IntsAt w od D) (h4 : IntsAt w od' D) (hP : P.length ≤ 100) (hD : D.length ≤ 100) :
    Calls Try.prog 35 #[gtV i z s oa P.length ca v od D.length cd l u, .int .i64 0, .int .i64 0, gtV i z s oa' P.length ca' v od' D.length cd' l u] w fun e w' => e = .returned (.bool true) ∧ Below w.heap.size w w' := by
  have H1 := hide h1
  have H2 := hide h2
  have H3 := hide h3
  have H4 := hide h4
  clear h1 h2 h3 h4
  go_enter Try.func35, Try.ntmps35
  go_wp2_with fail
  have HG1 := hide (((Blks.nil w).more (.cells #[.int .i64 i, .int .i64 z, .int .i64 s, .slice oa P.length ca, .int .i64 v, .slice od D.length cd, .int .i64 l, .int .i64 u] 61) (by simp)).more (.cells #[.int .i64 i, .int .i64 z, .int .i64 s, .slice oa' P.length ca', .int .i64 v, .slice od' D.length cd', .int .i64 l, .int .i64 u] 61) (by simp))
  refine (sameGate_same i z s P v D l u oa oa' od od' ca ca' cd cd' _ (H1.out.below HG1.out.2.2) (H2.out.below HG1.out.2.2) (H3.out.below HG1.out.2.2) (H4.out.below HG1.out.2.2) hP hD).mono ?_
  rintro e w1 ⟨rfl, hb⟩
  have HB := hide (HG1.out.on hb)
  clear hb HG1
  go_wp2_with fail
  go_ret
  exact ⟨rfl, HB.out.2.2⟩

set_option maxHeartbeats 3200000 in
theorem gateIs_err (x : Int) (hx : x ≠ 0) (i z s v l u : Int) (oa' od' : Option Addr) (n' ca' d' cd' : Nat) (w : World) :
    Calls Try.prog 35 #[gtV 0 0 0 none 0 0 0 none 0 0 0 0, .int .i64 x, .int .i64 x, gtV i z s oa' n' ca' v od' d' cd' l u] w fun e w' => e = .returned (.bool true) ∧ Below w.heap.size w w' := by
  have h1 : (x != 0) = true := by simpa using hx
  clear hx
  go_enter Try.func35, Try.ntmps35
  go_wp2_with fail
  have HG1 := hide (((Blks.nil w).more (.cells #[.int .i64 0, .int .i64 0, .int .i64 0, .slice none 0 0, .int .i64 0, .slice none 0 0, .int .i64 0, .int .i64 0] 61) (by simp)).more (.cells #[.int .i64 0, .int .i64 0, .int .i64 0, .slice none 0 0, .int .i64 0, .slice none 0 0, .int .i64 0, .int .i64 0] 61) (by simp))
  refine (sameGate_same 0 0 0 [] 0 [] 0 0 none none none none 0 0 0 0 _ (fun i p h => by simp at h) (fun i p h => by simp at h) (fun i p h => by simp at h) (fun i p h => by simp at h) (by simp) (by simp)).mono ?_
  rintro e w1 ⟨rfl, hb⟩
  have HB := hide (HG1.out.on hb)
  clear hb HG1
  go_wp2_with fail
  go_ret
  exact ⟨rfl, HB.out.2.2⟩

end Go.Proofs.Ytmpghmmcibaefac
