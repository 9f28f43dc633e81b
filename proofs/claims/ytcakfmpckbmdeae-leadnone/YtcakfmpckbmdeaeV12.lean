/-
  'leadBegun' (package leeboardlaw).
-/
import Derived.Test.YtcakfmpckbmdeaeV7
import Derived.Test.YtcakfmpckbmdeaeV11
namespace Go.Proofs.Ytcakfmpckbmdeae
open Go.RowKit

theorem VwsV.open3 {w : World} {o : Option Addr} {n c : Nat} {L : List VW} (h : VwsV w (.slice o n c) L) : n = L.length ∧ VwsAt w o L ∧ L.length ≤ c ∧ (o = none → c = 0) := by
  obtain ⟨o', c', e, h1, h2, h3⟩ := h
  simp only [Value.slice.injEq] at e
  obtain ⟨rfl, rfl, rfl⟩ := e
  exact ⟨rfl, h1, h2, h3⟩

def nv1 : List VW := [⟨1, 1, true⟩, ⟨1, 1, true⟩, ⟨1, 1, true⟩]
def nv2 : List VW := [⟨1, 1, true⟩, ⟨1, 1, false⟩, ⟨1, 1, true⟩]

set_option maxHeartbeats 3200000 in
set_option maxRecDepth 100000 in
theorem leadBegun_any (w : World) : Calls Try.prog 27 #[] w fun e w' => e = .returned (.bool true) ∧ Below w.heap.size w w' := by
  have HW := hide (fun W o c (h : VwsAt W o newV) => win_any o c newV 1 W h (by decide))
  rw [show winB newV 1 = true by decide, show winE newV 1 = 0 by decide, show winR newV 1 = nv1 by rfl] at HW
  have HN := hide (fun W o c (h : VwsAt W o nv1) => now_any o c nv1 W h (by decide))
  rw [show nowI nv1 = 1 by decide, show nowB nv1 = true by decide, show chkVs nv1 = 0 by decide] at HN
  have HS := hide (fun W o c (h : VwsAt W o nv1) => set_any o c nv1 1 false W h (by decide))
  rw [show unfW nv1 1 2 = 0 by decide, show setR nv1 1 false = nv2 by rfl] at HS
  have HM := hide (fun W o c (h : VwsAt W o nv2) => now_any o c nv2 W h (by decide))
  rw [show nowI nv2 = 0 by decide, show nowB nv2 = false by decide, show chkVs nv2 = 0 by decide] at HM
  have HC := hide (fun W o c (h : VwsAt W o nv1) => leadCheck_any o c nv1 W h (by decide))
  rw [show chkVs nv1 = 0 by decide] at HC
  go_enter Try.func27, Try.ntmps27
  go_wp2_with fail
  refine (new_any w).mono ?_
  rintro e w1 ⟨⟨og, cg, ov, cv, rfl, -, hv⟩, hb1⟩
  have HB1 := hide hb1
  obtain ⟨o1, c1, e1, hv1, -⟩ := vwsV_own hv
  simp only [Value.slice.injEq] at e1
  obtain ⟨rfl, -, rfl⟩ := e1
  have HV1 := hide hv1
  clear hv hv1 hb1
  have hfd : ∀ W : World, (Instr.field 111 (stV none none none 0 0 0 0 0 0 0 none 0 0 og 3 cg ov 3 cv) 3).run Try.prog W = .ok (.slice ov 3 cv) W := fun _ => by rfl
  go_wp2_with fail
  refine (HW.out _ ov cv HV1.out).mono ?_
  rintro e w2 ⟨⟨o2, n2, c2, rfl, hv2, -⟩, hb2⟩
  obtain ⟨rfl, hv2, -⟩ := hv2.open3
  have HV2 := hide hv2
  have HB2 := hide (HB1.out.trans (hb2.mono HB1.out.size))
  clear hv2 hb2 HB1
  go_wp2_with fail
  refine (HN.out _ o2 c2 HV2.out).mono ?_
  rintro e w3 ⟨rfl, hb3⟩
  have HV3 := hide (HV2.out.below hb3)
  have HB3 := hide (HB2.out.trans (hb3.mono HB2.out.size))
  clear hb3 HB2 HV2
  go_wp2_with fail
  refine (HS.out _ o2 c2 HV3.out).mono ?_
  rintro e w4 ⟨⟨o4, n4, c4, rfl, hv4, -⟩, hb4⟩
  obtain ⟨rfl, hv4, -⟩ := hv4.open3
  have HV4 := hide hv4
  have HV3' := hide (HV3.out.below hb4)
  have HB4 := hide (HB3.out.trans (hb4.mono HB3.out.size))
  clear hv4 hb4 HB3 HV3
  go_wp2_with fail
  refine (HM.out _ o4 c4 HV4.out).mono ?_
  rintro e w5 ⟨rfl, hb5⟩
  have HV5 := hide (HV3'.out.below hb5)
  have HB5 := hide (HB4.out.trans (hb5.mono HB4.out.size))
  clear hb5 HB4 HV3' HV4
  go_wp2_with fail
  refine (HC.out _ o2 c2 HV5.out).mono ?_
  rintro e w6 ⟨rfl, hb6⟩
  have HB6 := hide (HB5.out.trans (hb6.mono HB5.out.size))
  clear hb6 HB5 HV5
  go_wp2_with fail
  go_ret
  exact ⟨rfl, HB6.out⟩
end Go.Proofs.Ytcakfmpckbmdeae
