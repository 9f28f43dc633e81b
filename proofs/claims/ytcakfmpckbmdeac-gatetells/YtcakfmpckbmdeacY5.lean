/-
  'SyncOf' (package leeboardref), 'gateIs' (package leeboardlaw); Tap, Sync of gates, and TapOf, SyncOf of the document, each in one sentence.
-/
import Derived.Test.YtcakfmpckbmdeacN11
import Derived.Test.YtcakfmpckbmdeacJ12
import Derived.Test.YtcakfmpckbmdeacY1
import Derived.Test.YtcakfmpckbmdeacY3
namespace Go.Proofs.Ytcakfmpckbmdeac
open Go.RowKit

set_option maxHeartbeats 3200000 in
theorem syncOf_new (i z s : Int) (oa : Option Addr) (P : List TP) (ca : Nat) (v : Int) (od : Option Addr) (D : List Int) (cd : Nat) (l u : Int) (v' : Int) (od' : Option Addr) (D' : List Int) (cd' : Nat) (m : Int) (w : World) (hm : 0 ≤ m ∧ m ≤ 9999) (hv : v < v') :
    Calls Try.prog 32 #[gtV i z s oa P.length ca v od D.length cd l u, dn v' od' D'.length cd', .int .i64 m] w fun e w' => e = .returned (.tuple #[gtV i z s none 0 0 v' od' D'.length cd' 9 (m + 100), .slice oa P.length ca]) ∧ Below w.heap.size w w' := by
  have HN := hide (fun W => newerOf_any v v' od od' D.length cd D'.length cd' W)
  rw [if_pos hv] at HN
  have hwr : IntKind.i64.wrap (m + 100) = m + 100 := by rw [IntKind.wrap_i64]; omega
  clear hv hm
  go_enter Try.func32, Try.ntmps32
  go_wp2_with fail
  have HG1 := hide ((((Blks.nil w).more (.cells #[.int .i64 i, .int .i64 z, .int .i64 s, .slice oa P.length ca, .int .i64 v, .slice od D.length cd, .int .i64 l, .int .i64 u] 61) (by simp)).more (.cells #[.int .i64 v', .slice od' D'.length cd'] 45) (by simp)).more (.cells #[.int .i64 0, .int .i64 0, .int .i64 0, .slice none 0 0, .int .i64 0, .slice none 0 0, .int .i64 0, .int .i64 0] 61) (by simp))
  refine (HN.out _).mono ?_
  rintro e w1 ⟨rfl, hb⟩
  have HG1w1 := hide (HG1.out.on hb)
  clear hb HG1
  have lG1_0 := HG1w1.out.lt 0 w.heap.size (by simp) rfl
  have cG1_0_0 := HG1w1.out.cell 0 0 w.heap.size _ _ _ rfl rfl rfl
  have fG1_0_0 := HG1w1.out.frozen 0 0 w.heap.size _ _ rfl rfl
  have cG1_0_1 := HG1w1.out.cell 0 1 w.heap.size _ _ _ rfl rfl rfl
  have fG1_0_1 := HG1w1.out.frozen 0 1 w.heap.size _ _ rfl rfl
  have cG1_0_2 := HG1w1.out.cell 0 2 w.heap.size _ _ _ rfl rfl rfl
  have fG1_0_2 := HG1w1.out.frozen 0 2 w.heap.size _ _ rfl rfl
  have cG1_0_3 := HG1w1.out.cell 0 3 w.heap.size _ _ _ rfl rfl rfl
  have fG1_0_3 := HG1w1.out.frozen 0 3 w.heap.size _ _ rfl rfl
  have cG1_0_4 := HG1w1.out.cell 0 4 w.heap.size _ _ _ rfl rfl rfl
  have fG1_0_4 := HG1w1.out.frozen 0 4 w.heap.size _ _ rfl rfl
  have cG1_0_5 := HG1w1.out.cell 0 5 w.heap.size _ _ _ rfl rfl rfl
  have fG1_0_5 := HG1w1.out.frozen 0 5 w.heap.size _ _ rfl rfl
  have cG1_0_6 := HG1w1.out.cell 0 6 w.heap.size _ _ _ rfl rfl rfl
  have fG1_0_6 := HG1w1.out.frozen 0 6 w.heap.size _ _ rfl rfl
  have cG1_0_7 := HG1w1.out.cell 0 7 w.heap.size _ _ _ rfl rfl rfl
  have fG1_0_7 := HG1w1.out.frozen 0 7 w.heap.size _ _ rfl rfl
  have lG1_1 := HG1w1.out.lt 1 (w.heap.size + 1) (by simp) rfl
  have cG1_1_0 := HG1w1.out.cell 1 0 (w.heap.size + 1) _ _ _ rfl rfl rfl
  have fG1_1_0 := HG1w1.out.frozen 1 0 (w.heap.size + 1) _ _ rfl rfl
  have cG1_1_1 := HG1w1.out.cell 1 1 (w.heap.size + 1) _ _ _ rfl rfl rfl
  have fG1_1_1 := HG1w1.out.frozen 1 1 (w.heap.size + 1) _ _ rfl rfl
  have lG1_2 := HG1w1.out.lt 2 (w.heap.size + 1 + 1) (by simp) rfl
  have cG1_2_0 := HG1w1.out.cell 2 0 (w.heap.size + 1 + 1) _ _ _ rfl rfl rfl
  have fG1_2_0 := HG1w1.out.frozen 2 0 (w.heap.size + 1 + 1) _ _ rfl rfl
  have cG1_2_1 := HG1w1.out.cell 2 1 (w.heap.size + 1 + 1) _ _ _ rfl rfl rfl
  have fG1_2_1 := HG1w1.out.frozen 2 1 (w.heap.size + 1 + 1) _ _ rfl rfl
  have cG1_2_2 := HG1w1.out.cell 2 2 (w.heap.size + 1 + 1) _ _ _ rfl rfl rfl
  have fG1_2_2 := HG1w1.out.frozen 2 2 (w.heap.size + 1 + 1) _ _ rfl rfl
  have cG1_2_3 := HG1w1.out.cell 2 3 (w.heap.size + 1 + 1) _ _ _ rfl rfl rfl
  have fG1_2_3 := HG1w1.out.frozen 2 3 (w.heap.size + 1 + 1) _ _ rfl rfl
  have cG1_2_4 := HG1w1.out.cell 2 4 (w.heap.size + 1 + 1) _ _ _ rfl rfl rfl
  have fG1_2_4 := HG1w1.out.frozen 2 4 (w.heap.size + 1 + 1) _ _ rfl rfl
  have cG1_2_5 := HG1w1.out.cell 2 5 (w.heap.size + 1 + 1) _ _ _ rfl rfl rfl
  have fG1_2_5 := HG1w1.out.frozen 2 5 (w.heap.size + 1 + 1) _ _ rfl rfl
  have cG1_2_6 := HG1w1.out.cell 2 6 (w.heap.size + 1 + 1) _ _ _ rfl rfl rfl
  have fG1_2_6 := HG1w1.out.frozen 2 6 (w.heap.size + 1 + 1) _ _ rfl rfl
  have cG1_2_7 := HG1w1.out.cell 2 7 (w.heap.size + 1 + 1) _ _ _ rfl rfl rfl
  have fG1_2_7 := HG1w1.out.frozen 2 7 (w.heap.size + 1 + 1) _ _ rfl rfl
  go_wp2_with fail
  refine bodyPost_ret (v := .tuple #[gtV i z s none 0 0 v' od' D'.length cd' 9 (m + 100), .slice oa P.length ca]) (by simp [results, Try.results32, go_sem, *]) rfl ⟨rfl, ?_⟩
  repeat (first | with_reducible refine Below.setCell ?_ (by simp; try omega) _ | exact HG1w1.out.2.2)

set_option maxHeartbeats 3200000 in
theorem syncOf_old (i z s : Int) (oa : Option Addr) (P : List TP) (ca : Nat) (v : Int) (od : Option Addr) (D : List Int) (cd : Nat) (l u : Int) (v' : Int) (od' : Option Addr) (D' : List Int) (cd' : Nat) (m : Int) (w : World) (hm : 0 ≤ m ∧ m ≤ 9999) (hv : ¬ v < v') :
    Calls Try.prog 32 #[gtV i z s oa P.length ca v od D.length cd l u, dn v' od' D'.length cd', .int .i64 m] w fun e w' => e = .returned (.tuple #[gtV i z s none 0 0 v od D.length cd 9 (m + 100), .slice oa P.length ca]) ∧ Below w.heap.size w w' := by
  have HN := hide (fun W => newerOf_any v v' od od' D.length cd D'.length cd' W)
  rw [if_neg hv] at HN
  have hwr : IntKind.i64.wrap (m + 100) = m + 100 := by rw [IntKind.wrap_i64]; omega
  clear hv hm
  go_enter Try.func32, Try.ntmps32
  go_wp2_with fail
  have HG1 := hide ((((Blks.nil w).more (.cells #[.int .i64 i, .int .i64 z, .int .i64 s, .slice oa P.length ca, .int .i64 v, .slice od D.length cd, .int .i64 l, .int .i64 u] 61) (by simp)).more (.cells #[.int .i64 v', .slice od' D'.length cd'] 45) (by simp)).more (.cells #[.int .i64 0, .int .i64 0, .int .i64 0, .slice none 0 0, .int .i64 0, .slice none 0 0, .int .i64 0, .int .i64 0] 61) (by simp))
  refine (HN.out _).mono ?_
  rintro e w1 ⟨rfl, hb⟩
  have HG1w1 := hide (HG1.out.on hb)
  clear hb HG1
  have lG1_0 := HG1w1.out.lt 0 w.heap.size (by simp) rfl
  have cG1_0_0 := HG1w1.out.cell 0 0 w.heap.size _ _ _ rfl rfl rfl
  have fG1_0_0 := HG1w1.out.frozen 0 0 w.heap.size _ _ rfl rfl
  have cG1_0_1 := HG1w1.out.cell 0 1 w.heap.size _ _ _ rfl rfl rfl
  have fG1_0_1 := HG1w1.out.frozen 0 1 w.heap.size _ _ rfl rfl
  have cG1_0_2 := HG1w1.out.cell 0 2 w.heap.size _ _ _ rfl rfl rfl
  have fG1_0_2 := HG1w1.out.frozen 0 2 w.heap.size _ _ rfl rfl
  have cG1_0_3 := HG1w1.out.cell 0 3 w.heap.size _ _ _ rfl rfl rfl
  have fG1_0_3 := HG1w1.out.frozen 0 3 w.heap.size _ _ rfl rfl
  have cG1_0_4 := HG1w1.out.cell 0 4 w.heap.size _ _ _ rfl rfl rfl
  have fG1_0_4 := HG1w1.out.frozen 0 4 w.heap.size _ _ rfl rfl
  have cG1_0_5 := HG1w1.out.cell 0 5 w.heap.size _ _ _ rfl rfl rfl
  have fG1_0_5 := HG1w1.out.frozen 0 5 w.heap.size _ _ rfl rfl
  have cG1_0_6 := HG1w1.out.cell 0 6 w.heap.size _ _ _ rfl rfl rfl
  have fG1_0_6 := HG1w1.out.frozen 0 6 w.heap.size _ _ rfl rfl
  have cG1_0_7 := HG1w1.out.cell 0 7 w.heap.size _ _ _ rfl rfl rfl
  have fG1_0_7 := HG1w1.out.frozen 0 7 w.heap.size _ _ rfl rfl
  have lG1_1 := HG1w1.out.lt 1 (w.heap.size + 1) (by simp) rfl
  have cG1_1_0 := HG1w1.out.cell 1 0 (w.heap.size + 1) _ _ _ rfl rfl rfl
  have fG1_1_0 := HG1w1.out.frozen 1 0 (w.heap.size + 1) _ _ rfl rfl
  have cG1_1_1 := HG1w1.out.cell 1 1 (w.heap.size + 1) _ _ _ rfl rfl rfl
  have fG1_1_1 := HG1w1.out.frozen 1 1 (w.heap.size + 1) _ _ rfl rfl
  have lG1_2 := HG1w1.out.lt 2 (w.heap.size + 1 + 1) (by simp) rfl
  have cG1_2_0 := HG1w1.out.cell 2 0 (w.heap.size + 1 + 1) _ _ _ rfl rfl rfl
  have fG1_2_0 := HG1w1.out.frozen 2 0 (w.heap.size + 1 + 1) _ _ rfl rfl
  have cG1_2_1 := HG1w1.out.cell 2 1 (w.heap.size + 1 + 1) _ _ _ rfl rfl rfl
  have fG1_2_1 := HG1w1.out.frozen 2 1 (w.heap.size + 1 + 1) _ _ rfl rfl
  have cG1_2_2 := HG1w1.out.cell 2 2 (w.heap.size + 1 + 1) _ _ _ rfl rfl rfl
  have fG1_2_2 := HG1w1.out.frozen 2 2 (w.heap.size + 1 + 1) _ _ rfl rfl
  have cG1_2_3 := HG1w1.out.cell 2 3 (w.heap.size + 1 + 1) _ _ _ rfl rfl rfl
  have fG1_2_3 := HG1w1.out.frozen 2 3 (w.heap.size + 1 + 1) _ _ rfl rfl
  have cG1_2_4 := HG1w1.out.cell 2 4 (w.heap.size + 1 + 1) _ _ _ rfl rfl rfl
  have fG1_2_4 := HG1w1.out.frozen 2 4 (w.heap.size + 1 + 1) _ _ rfl rfl
  have cG1_2_5 := HG1w1.out.cell 2 5 (w.heap.size + 1 + 1) _ _ _ rfl rfl rfl
  have fG1_2_5 := HG1w1.out.frozen 2 5 (w.heap.size + 1 + 1) _ _ rfl rfl
  have cG1_2_6 := HG1w1.out.cell 2 6 (w.heap.size + 1 + 1) _ _ _ rfl rfl rfl
  have fG1_2_6 := HG1w1.out.frozen 2 6 (w.heap.size + 1 + 1) _ _ rfl rfl
  have cG1_2_7 := HG1w1.out.cell 2 7 (w.heap.size + 1 + 1) _ _ _ rfl rfl rfl
  have fG1_2_7 := HG1w1.out.frozen 2 7 (w.heap.size + 1 + 1) _ _ rfl rfl
  go_wp2_with fail
  refine bodyPost_ret (v := .tuple #[gtV i z s none 0 0 v od D.length cd 9 (m + 100), .slice oa P.length ca]) (by simp [results, Try.results32, go_sem, *]) rfl ⟨rfl, ?_⟩
  repeat (first | with_reducible refine Below.setCell ?_ (by simp; try omega) _ | exact HG1w1.out.2.2)

set_option maxHeartbeats 3200000 in
theorem gateIs_ok (i z s : Int) (P : List TP) (v : Int) (D : List Int) (l u : Int) (oa oa' od od' : Option Addr) (ca ca' cd cd' : Nat) (w : World) (h1 : TapsAt w oa P) (h2 : TapsAt w oa' P) (h3 : IntsAt w od D) (h4 : IntsAt w od' D) (hP : P.length ≤ 100) (hD : D.length ≤ 100) :
    Calls Try.prog 35 #[gtV i z s oa P.length ca v od D.length cd l u, .int .i64 0, .int .i64 0, gtV i z s oa' P.length ca' v od' D.length cd' l u] w fun e w' => e = .returned (.bool true) ∧ Below w.heap.size w w' := by
  have H1 := hide h1
  have H2 := hide h2
  have H3 := hide h3
  have H4 := hide h4
  clear h1 h2 h3 h4
  go_enter Try.func35, Try.ntmps35
  go_wp2_with fail
  have HG1 := hide (((Blks.nil w).more (.cells #[.int .i64 i, .int .i64 z, .int .i64 s, .slice oa P.length ca, .int .i64 v, .slice od D.length cd, .int .i64 l, .int .i64 u] 61) (by simp)).more (.cells #[.int .i64 i, .int .i64 z, .int .i64 s, .slice oa' P.length ca', .int .i64 v, .slice od' D.length cd', .int .i64 l, .int .i64 u] 61) (by simp))
  refine (sameGate_same i z s P v D l u oa oa' od od' ca ca' cd cd' _ (H1.out.below HG1.out.2.2) (H2.out.below HG1.out.2.2) (H3.out.below HG1.out.2.2) (H4.out.below HG1.out.2.2) hP hD).mono ?_
  rintro e w1 ⟨rfl, hb⟩
  have HB := hide (HG1.out.on hb)
  clear hb HG1
  go_wp2_with fail
  go_ret
  exact ⟨rfl, HB.out.2.2⟩

set_option maxHeartbeats 3200000 in
theorem gateIs_err (x : Int) (hx : x ≠ 0) (i z s v l u : Int) (oa' od' : Option Addr) (n' ca' d' cd' : Nat) (w : World) :
    Calls Try.prog 35 #[gtV 0 0 0 none 0 0 0 none 0 0 0 0, .int .i64 x, .int .i64 x, gtV i z s oa' n' ca' v od' d' cd' l u] w fun e w' => e = .returned (.bool true) ∧ Below w.heap.size w w' := by
  have h1 : (x != 0) = true := by simpa using hx
  clear hx
  go_enter Try.func35, Try.ntmps35
  go_wp2_with fail
  have HG1 := hide (((Blks.nil w).more (.cells #[.int .i64 0, .int .i64 0, .int .i64 0, .slice none 0 0, .int .i64 0, .slice none 0 0, .int .i64 0, .int .i64 0] 61) (by simp)).more (.cells #[.int .i64 0, .int .i64 0, .int .i64 0, .slice none 0 0, .int .i64 0, .slice none 0 0, .int .i64 0, .int .i64 0] 61) (by simp))
  refine (sameGate_same 0 0 0 [] 0 [] 0 0 none none none none 0 0 0 0 _ (fun i p h => by simp at h) (fun i p h => by simp at h) (fun i p h => by simp at h) (fun i p h => by simp at h) (by simp) (by simp)).mono ?_
  rintro e w1 ⟨rfl, hb⟩
  have HB := hide (HG1.out.on hb)
  clear hb HG1
  go_wp2_with fail
  go_ret
  exact ⟨rfl, HB.out.2.2⟩

theorem tapsV_nilG (w : World) : TapsV w (.slice none 0 0) [] := ⟨none, 0, rfl, fun i p h => by simp at h, by simp, fun _ => rfl⟩

/-- a gate's value, where something came or nothing -/
def TapR (w : World) (E : Int) (ai az aq : Int) (ao : Option Addr) (an ac : Nat) (av : Int) (ad : Option Addr) (am ae : Nat) (al au : Int) (pa pg ps pm pz : Int) (i z s : Int) (P : List TP) (v : Int) (D : List Int) (l u : Int) (p : TP) : Prop :=
  (E ≠ 0 → gtV ai az aq ao an ac av ad am ae al au = gtV 0 0 0 none 0 0 0 none 0 0 0 0 ∧ tp pa pg ps pm pz = tp 0 0 0 0 0) ∧
  (E = 0 → GateV w (gtV ai az aq ao an ac av ad am ae al au) i z s P v D l u ∧ tp pa pg ps pm pz = tp p.a p.g p.s p.m p.z)

theorem TapR.below {w w' : World} {E ai az aq : Int} {ao : Option Addr} {an ac : Nat} {av : Int} {ad : Option Addr} {am ae : Nat} {al au pa pg ps pm pz i z s : Int} {P : List TP} {v : Int} {D : List Int} {l u : Int} {p : TP} (h : TapR w E ai az aq ao an ac av ad am ae al au pa pg ps pm pz i z s P v D l u p) (hb : Below w.heap.size w w') : TapR w' E ai az aq ao an ac av ad am ae al au pa pg ps pm pz i z s P v D l u p := by
  refine ⟨h.1, fun e => ?_⟩
  obtain ⟨⟨oa, ca, od, cd, e1, h1, h2, h3, h4, h5, h6⟩, e2⟩ := h.2 e
  exact ⟨⟨oa, ca, od, cd, e1, h1.below hb, h2, h3, h4.below hb, h5, h6⟩, e2⟩

theorem GateF.toV {B : Nat} {w : World} {g : Value} {i z s : Int} {P : List TP} {v : Int} {D : List Int} {l u : Int} (h : GateF B w g i z s P v D l u) : GateV w g i z s P v D l u := by
  obtain ⟨oa, ca, od, cd, rfl, h1, -, h2, -⟩ := h
  exact gateV_of h1 h2

theorem GateV.open12 {w : World} {g : Value} {i z s : Int} {P : List TP} {v : Int} {D : List Int} {l u : Int} (h : GateV w g i z s P v D l u) : ∃ ao an ac ad am ae, g = gtV i z s ao an ac v ad am ae l u := by
  obtain ⟨oa, ca, od, cd, rfl, -⟩ := h
  exact ⟨oa, P.length, ca, od, D.length, cd, rfl⟩

theorem gateTapR (i z s : Int) (oa : Option Addr) (P : List TP) (ca : Nat) (v : Int) (od : Option Addr) (D : List Int) (cd : Nat) (l u : Int) (ti k f t y r m : Int) (w : World) (hP : TapsAt w oa P) (hD : IntsAt w od D) (hlP : P.length ≤ 9223372036854775807) (hlD : D.length ≤ 9223372036854775807) (hn : oa = none → ca = 0) :
    Calls Try.prog 27 #[gtV i z s oa P.length ca v od D.length cd l u, tk ti k f t y r, .int .i64 m] w fun e w' => (∃ ai az aq ao an ac av ad am ae al au pa pg ps pm pz, e = .returned (.tuple #[gtV ai az aq ao an ac av ad am ae al au, tp pa pg ps pm pz, .int .i64 (tapG i z s P v D l u ⟨ti, k, f, t, y, r⟩ m)]) ∧ TapR w' (tapG i z s P v D l u ⟨ti, k, f, t, y, r⟩ m) ai az aq ao an ac av ad am ae al au pa pg ps pm pz i z (s + 1) (P ++ [⟨ti, i, s + 1, m, z⟩]) v D (l - 1) u ⟨ti, i, s + 1, m, z⟩) ∧ Below w.heap.size w w' := by
  by_cases hE : tapG i z s P v D l u ⟨ti, k, f, t, y, r⟩ m = 0
  · refine (gateTap_ok i z s oa P ca v od D cd l u ti k f t y r m w hP hD hlP hlD hn hE).mono ?_
    rintro e w' ⟨⟨x, rfl, hx⟩, hb⟩
    obtain ⟨ao, an, ac, ad, am, ae, rfl⟩ := hx.toV.open12
    rw [hE]
    exact ⟨⟨_, _, _, _, _, _, _, _, _, _, _, _, _, _, _, _, _, rfl, fun h => absurd rfl h, fun _ => ⟨hx.toV, rfl⟩⟩, hb⟩
  · refine (gateTap_err i z s oa P ca v od D cd l u ti k f t y r m w hP hD hlP hlD hE).mono ?_
    rintro e w' ⟨rfl, hb⟩
    exact ⟨⟨_, _, _, _, _, _, _, _, _, _, _, _, _, _, _, _, _, rfl, fun _ => ⟨rfl, rfl⟩, fun h => absurd h hE⟩, hb⟩

/-- what TapOf gives, where something came or nothing; its list lies in a new block -/
def TofR (w : World) (B : Nat) (E : Int) (gi gz gq : Int) (go : Option Addr) (gn gc : Nat) (gv : Int) (gd : Option Addr) (gm ge : Nat) (gl gu : Int) (pa pg ps pm pz : Int) (i z s : Int) (L : List TP) (v : Int) (od : Option Addr) (nd cd : Nat) (l u : Int) (p : TP) : Prop :=
  (E ≠ 0 → tp pa pg ps pm pz = tp 0 0 0 0 0) ∧
  (E = 0 → (∃ o c, gtV gi gz gq go gn gc gv gd gm ge gl gu = gtV i z s o L.length c v od nd cd l u ∧ TapsV w (.slice o L.length c) L ∧ Fresh B (.slice o L.length c)) ∧ tp pa pg ps pm pz = tp p.a p.g p.s p.m p.z)

theorem tapOfR (i z s : Int) (oa : Option Addr) (P : List TP) (ca : Nat) (v : Int) (od : Option Addr) (D : List Int) (cd : Nat) (l u : Int) (ti k f t y r m : Int) (w : World) (hP : TapsAt w oa P) (hD : IntsAt w od D) (hn : oa = none → ca = 0) (hc1 : chkG i z s P v D l u = 0) (hc2 : chkK ⟨ti, k, f, t, y, r⟩ = 0) :
    Calls Try.prog 31 #[gtV i z s oa P.length ca v od D.length cd l u, tk ti k f t y r, .int .i64 m] w fun e w' => (∃ ai az aq ao an ac av ad am ae al au pa pg ps pm pz, e = .returned (.tuple #[gtV ai az aq ao an ac av ad am ae al au, tp pa pg ps pm pz, .int .i64 (tapG i z s P v D l u ⟨ti, k, f, t, y, r⟩ m)]) ∧ TofR w' w.heap.size (tapG i z s P v D l u ⟨ti, k, f, t, y, r⟩ m) ai az aq ao an ac av ad am ae al au pa pg ps pm pz i z (s + 1) (P ++ [⟨ti, i, s + 1, m, z⟩]) v od D.length cd (l - 1) u ⟨ti, i, s + 1, m, z⟩) ∧ Below w.heap.size w w' := by
  refine (tapOf_any i z s oa P ca v od D cd l u ti k f t y r m w hP hD hn hc1 hc2).mono ?_
  rintro e w' ⟨⟨hE, rfl⟩ | ⟨hE, o, c, rfl, hx, hf⟩, hb⟩
  · exact ⟨⟨_, _, _, _, _, _, _, _, _, _, _, _, _, _, _, _, _, rfl, fun _ => rfl, fun h => absurd h hE⟩, hb⟩
  · rw [hE]
    refine ⟨⟨_, _, _, _, _, _, _, _, _, _, _, _, _, _, _, _, _, rfl, fun h => absurd rfl h, fun _ => ⟨⟨o, c, ?_, ?_, ?_⟩, rfl⟩⟩, hb⟩
    · rw [List.length_append, List.length_singleton]
    · rw [List.length_append, List.length_singleton]; exact hx
    · rw [List.length_append, List.length_singleton]; exact hf

theorem TofR.below {w w' : World} {B : Nat} {E gi gz gq : Int} {go : Option Addr} {gn gc : Nat} {gv : Int} {gd : Option Addr} {gm ge : Nat} {gl gu pa pg ps pm pz i z s : Int} {L : List TP} {v : Int} {od : Option Addr} {nd cd : Nat} {l u : Int} {p : TP} (h : TofR w B E gi gz gq go gn gc gv gd gm ge gl gu pa pg ps pm pz i z s L v od nd cd l u p) (hb : Below w.heap.size w w') : TofR w' B E gi gz gq go gn gc gv gd gm ge gl gu pa pg ps pm pz i z s L v od nd cd l u p :=
  ⟨h.1, fun e => have ⟨⟨o, c, e1, e2, e3⟩, e4⟩ := h.2 e; ⟨⟨o, c, e1, e2.below hb, e3⟩, e4⟩⟩

theorem TofR.setD {w : World} {B : Nat} {E gi gz gq : Int} {go : Option Addr} {gn gc : Nat} {gv : Int} {gd : Option Addr} {gm ge : Nat} {gl gu pa pg ps pm pz i z s : Int} {L : List TP} {v : Int} {od : Option Addr} {nd cd : Nat} {l u : Int} {p : TP} (h : TofR w B E gi gz gq go gn gc gv gd gm ge gl gu pa pg ps pm pz i z s L v od nd cd l u p) (b : Addr) (hb : b.block < B) (x : Value) : TofR (w.setCell b x) B E gi gz gq go gn gc gv gd gm ge gl gu pa pg ps pm pz i z s L v od nd cd l u p :=
  ⟨h.1, fun e => have ⟨⟨o, c, e1, e2, e3⟩, e4⟩ := h.2 e; ⟨⟨o, c, e1, e2.setD e3 hb x, e3⟩, e4⟩⟩

theorem TofR.gate {w : World} {B : Nat} {E gi gz gq : Int} {go : Option Addr} {gn gc : Nat} {gv : Int} {gd : Option Addr} {gm ge : Nat} {gl gu pa pg ps pm pz i z s : Int} {L : List TP} {v : Int} {od : Option Addr} {D : List Int} {cd : Nat} {l u : Int} {p : TP} (h : TofR w B E gi gz gq go gn gc gv gd gm ge gl gu pa pg ps pm pz i z s L v od D.length cd l u p) (hD : IntsV w (.slice od D.length cd) D) (e : E = 0) : GateV w (gtV gi gz gq go gn gc gv gd gm ge gl gu) i z s L v D l u := by
  obtain ⟨⟨o, c, e1, e2, -⟩, -⟩ := h.2 e
  rw [e1]
  exact gateV_of e2 hD

/-- what Sync gives, where something came or nothing -/
def SynR (w : World) (E : Int) (ai az aq : Int) (ao : Option Addr) (an ac : Nat) (av : Int) (ad : Option Addr) (am ae : Nat) (al au : Int) (lo : Option Addr) (ln lc : Nat) (i z s : Int) (P : List TP) (v : Int) (D : List Int) (l u : Int) : Prop :=
  (E ≠ 0 → gtV ai az aq ao an ac av ad am ae al au = gtV 0 0 0 none 0 0 0 none 0 0 0 0 ∧ (.slice lo ln lc : Value) = .slice none 0 0) ∧
  (E = 0 → GateV w (gtV ai az aq ao an ac av ad am ae al au) i z s [] v D l u ∧ TapsV w (.slice lo ln lc) P)

theorem SynR.below {w w' : World} {E ai az aq : Int} {ao : Option Addr} {an ac : Nat} {av : Int} {ad : Option Addr} {am ae : Nat} {al au : Int} {lo : Option Addr} {ln lc : Nat} {i z s : Int} {P : List TP} {v : Int} {D : List Int} {l u : Int} (h : SynR w E ai az aq ao an ac av ad am ae al au lo ln lc i z s P v D l u) (hb : Below w.heap.size w w') : SynR w' E ai az aq ao an ac av ad am ae al au lo ln lc i z s P v D l u := by
  refine ⟨h.1, fun e => ?_⟩
  obtain ⟨⟨oa, ca, od, cd, e1, h1, h2, h3, h4, h5, h6⟩, e2⟩ := h.2 e
  exact ⟨⟨oa, ca, od, cd, e1, h1.below hb, h2, h3, h4.below hb, h5, h6⟩, e2.below hb⟩

theorem gateSyncR (i z s : Int) (oa : Option Addr) (P : List TP) (ca : Nat) (v : Int) (od : Option Addr) (D : List Int) (cd : Nat) (l u : Int) (v' : Int) (od' : Option Addr) (D' : List Int) (cd' : Nat) (m : Int) (w : World) (hP : TapsAt w oa P) (hD : IntsAt w od D) (hD' : IntsAt w od' D') (hlD : D.length ≤ 9223372036854775807) (hlD' : D'.length ≤ 9223372036854775807) :
    Calls Try.prog 28 #[gtV i z s oa P.length ca v od D.length cd l u, dn v' od' D'.length cd', .int .i64 m] w fun e w' => (∃ ai az aq ao an ac av ad am ae al au lo ln lc, e = .returned (.tuple #[gtV ai az aq ao an ac av ad am ae al au, .slice lo ln lc, .int .i64 (syncG i z s P v D l u v' D' m)]) ∧ SynR w' (syncG i z s P v D l u v' D' m) ai az aq ao an ac av ad am ae al au lo ln lc i z s P (if v < v' then v' else v) (if v < v' then D' else D) 9 (m + 100)) ∧ Below w.heap.size w w' := by
  by_cases hE : syncG i z s P v D l u v' D' m = 0
  · have hlP : P.length ≤ 12 := (errS_right (chkG_right (syncG_right hE).1).1).2.2.2
    refine (gateSync_ok i z s oa P ca v od D cd l u v' od' D' cd' m w hP hD hD' hlD hlD' hlP hE).mono ?_
    rintro e w' ⟨⟨on, cn, x, rfl, h1, -, ⟨lo, lc, rfl, h2⟩, -⟩, hb⟩
    rw [hE]
    refine ⟨⟨_, _, _, _, _, _, _, _, _, _, _, _, _, _, _, rfl, fun h => absurd rfl h, fun _ => ⟨?_, ⟨lo, lc, rfl, h2⟩⟩⟩, hb⟩
    exact gateV_of (tapsV_nilG _) h1
  · refine (gateSync_err i z s oa P ca v od D cd l u v' od' D' cd' m w hP hD hD' hlD hlD' hE).mono ?_
    rintro e w' ⟨rfl, hb⟩
    exact ⟨⟨_, _, _, _, _, _, _, _, _, _, _, _, _, _, _, rfl, fun _ => ⟨rfl, rfl⟩, fun h => absurd h hE⟩, hb⟩

/-- what SyncOf gives lies where it came from -/
theorem syncOfR (i z s : Int) (oa : Option Addr) (P : List TP) (ca : Nat) (v : Int) (od : Option Addr) (D : List Int) (cd : Nat) (l u : Int) (v' : Int) (od' : Option Addr) (D' : List Int) (cd' : Nat) (m : Int) (w : World) (hm : 0 ≤ m ∧ m ≤ 9999) :
    Calls Try.prog 32 #[gtV i z s oa P.length ca v od D.length cd l u, dn v' od' D'.length cd', .int .i64 m] w fun e w' => e = .returned (.tuple #[gtV i z s none 0 0 (if v < v' then v' else v) (if v < v' then od' else od) (if v < v' then D' else D).length (if v < v' then cd' else cd) 9 (m + 100), .slice oa P.length ca]) ∧ Below w.heap.size w w' := by
  by_cases h : v < v'
  · rw [if_pos h, if_pos h, if_pos h, if_pos h]
    exact syncOf_new i z s oa P ca v od D cd l u v' od' D' cd' m w hm h
  · rw [if_neg h, if_neg h, if_neg h, if_neg h]
    exact syncOf_old i z s oa P ca v od D cd l u v' od' D' cd' m w hm h

/-- a gate that must be just what it is -/
theorem gateIsR (E : Int) {ai az aq : Int} {ao : Option Addr} {an ac : Nat} {av : Int} {ad : Option Addr} {am ae : Nat} {al au : Int} {bi bz bs : Int} {bo : Option Addr} {bn bc : Nat} {bv : Int} {bd : Option Addr} {bm be : Nat} {bl bu : Int} {i z s : Int} {P : List TP} {v : Int} {D : List Int} {l u : Int} {w : World}
    (h1 : E ≠ 0 → gtV ai az aq ao an ac av ad am ae al au = gtV 0 0 0 none 0 0 0 none 0 0 0 0) (h2 : E = 0 → GateV w (gtV ai az aq ao an ac av ad am ae al au) i z s P v D l u) (h3 : E = 0 → GateV w (gtV bi bz bs bo bn bc bv bd bm be bl bu) i z s P v D l u) (hP : E = 0 → P.length ≤ 100) (hD : E = 0 → D.length ≤ 100) :
    Calls Try.prog 35 #[gtV ai az aq ao an ac av ad am ae al au, .int .i64 E, .int .i64 E, gtV bi bz bs bo bn bc bv bd bm be bl bu] w fun e w' => e = .returned (.bool true) ∧ Below w.heap.size w w' := by
  by_cases hE : E = 0
  · obtain ⟨oa, ca, od, cd, e1, a1, -, -, a2, -⟩ := h2 hE
    obtain ⟨oa', ca', od', cd', e2, b1, -, -, b2, -⟩ := h3 hE
    rw [e1, e2, hE]
    exact gateIs_ok i z s P v D l u oa oa' od od' ca ca' cd cd' w a1 b1 a2 b2 (hP hE) (hD hE)
  · rw [h1 hE]
    exact gateIs_err E hE _ _ _ _ _ _ _ _ _ _ _ _ _

end Go.Proofs.Ytcakfmpckbmdeac
