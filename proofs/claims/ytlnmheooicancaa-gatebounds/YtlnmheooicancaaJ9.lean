/-
  'post', 'gateBegun' (package leeboardlaw).
-/
import Derived.Test.YtlnmheooicancaaJ8
import Derived.Test.YtlnmheooicancaaH1
namespace Go.Proofs.Ytlnmheooicancaa
open Go.RowKit

theorem post_any (w : World) : Calls Try.prog 9 #[] w fun e w' => (∃ b, e = .returned (gtV 1 2 4 none 0 0 1 (some ⟨b, 0, none⟩) 1 1 2 90) ∧ IntsAt w' (some ⟨b, 0, none⟩) [7]) ∧ Below w.heap.size w w' := by
  go_enter Try.func9, Try.ntmps9
  go_wp2_with fail
  refine bodyPost_ret (v := gtV 1 2 4 none 0 0 1 (some ⟨w.heap.size + 1, 0, none⟩) 1 1 2 90) (by simp [results, Try.results9, go_sem]) rfl ⟨⟨w.heap.size + 1, rfl, intsAt_single (by simp [go_sem])⟩, ?_⟩
  repeat (first | with_reducible exact Below.refl _ _ | with_reducible refine Below.alloc ?_ (by simp) _ | with_reducible refine Below.setCell ?_ (by simp) _)

theorem t1 : tapG 1 2 4 [] 1 [7] 2 90 ⟨1, 1, 10, 500, 15, 0⟩ 50 = 0 := by decide +kernel
theorem t2 : tapG 1 2 5 [⟨1, 1, 5, 50, 2⟩] 1 [7] 1 90 ⟨1, 1, 10, 500, 15, 0⟩ 60 = 10 := by decide +kernel
theorem t3 : tapG 1 2 4 [] 1 [7] 2 90 ⟨7, 1, 10, 500, 15, 0⟩ 50 = 11 := by decide +kernel
theorem t4 : tapG 1 2 4 [] 1 [7] 2 90 ⟨1, 1, 10, 500, 15, 0⟩ 91 = 8 := by decide +kernel
theorem t5 : syncG 1 2 5 [⟨1, 1, 5, 50, 2⟩] 1 [7] 1 90 5 [] 60 = 0 := by decide +kernel
theorem t6 : chkG 1 2 5 [⟨1, 1, 5, 50, 2⟩] 1 [7] 1 90 = 0 := by decide +kernel

set_option maxHeartbeats 1600000 in
theorem gateBegun_any (w : World) : Calls Try.prog 4 #[] w fun e w' => e = .returned (.bool true) ∧ Below w.heap.size w w' := by
  have HT1 := hide (fun W o c (h : IntsAt W o [7]) => gateTap_ok 1 2 4 none [] 0 1 o [7] c 2 90 1 1 10 500 15 0 50 W (tapsAt_nil W none) h (by simp) (by simp) (fun _ => rfl) t1)
  have HT2 := hide (fun W oa ca o c (h' : TapsAt W oa [⟨1, 1, 5, 50, 2⟩]) (h : IntsAt W o [7]) => gateTap_err 1 2 5 oa [⟨1, 1, 5, 50, 2⟩] ca 1 o [7] c 1 90 1 1 10 500 15 0 60 W h' h (by simp) (by simp) (by rw [t2]; decide))
  have HT3 := hide (fun W o c (h : IntsAt W o [7]) => gateTap_err 1 2 4 none [] 0 1 o [7] c 2 90 7 1 10 500 15 0 50 W (tapsAt_nil W none) h (by simp) (by simp) (by rw [t3]; decide))
  have HT4 := hide (fun W o c (h : IntsAt W o [7]) => gateTap_err 1 2 4 none [] 0 1 o [7] c 2 90 1 1 10 500 15 0 91 W (tapsAt_nil W none) h (by simp) (by simp) (by rw [t4]; decide))
  have HS := hide (fun W oa ca o c (h' : TapsAt W oa [⟨1, 1, 5, 50, 2⟩]) (h : IntsAt W o [7]) => gateSync_ok 1 2 5 oa [⟨1, 1, 5, 50, 2⟩] ca 1 o [7] c 1 90 5 none [] 0 60 W h' h (fun i p h => by simp at h) (by simp) (by simp) (by simp) t5)
  have HC := hide (fun W oa ca o c (h' : TapsAt W oa [⟨1, 1, 5, 50, 2⟩]) (h : IntsAt W o [7]) => gateCheck_any 1 2 5 oa [⟨1, 1, 5, 50, 2⟩] ca 1 o [7] c 1 90 W h' h (by simp))
  rw [t2] at HT2
  rw [t3] at HT3
  rw [t4] at HT4
  rw [t6] at HC
  rw [if_pos (by decide), if_pos (by decide)] at HS
  go_enter Try.func4, Try.ntmps4
  go_wp2_with fail
  refine (post_any _).mono ?_
  rintro e w1 ⟨⟨b1, rfl, hI⟩, hb⟩
  have HB1 := hide hb
  have HI1 := hide hI
  clear hb hI
  go_wp2_with fail
  refine (single_any 1 _).mono ?_
  rintro e w2 ⟨rfl, hb⟩
  have HB2 := hide (HB1.out.trans (hb.mono HB1.out.size))
  have HI2 := hide (HI1.out.below hb)
  clear hb HB1 HI1
  go_wp2_with fail
  refine (HT1.out _ _ _ HI2.out).mono ?_
  rintro e w3 ⟨⟨x, rfl, ⟨oa, ca, od, cd, rfl, hT, -, hI, -⟩⟩, hb⟩
  have HB3 := hide (HB2.out.trans (hb.mono HB2.out.size))
  have HV3 := hide (And.intro hT hI)
  clear hb hT hI HB2 HI2
  go_wp2_with fail
  have HG : Hid (Blks w3 _ ([] ++ [.cells #[.int .i64 1, .int .i64 2, .int .i64 5, .slice oa 1 ca, .int .i64 1, .slice od 1 cd, .int .i64 1, .int .i64 90] 29] ++ [.cells #[.int .i64 1, .int .i64 1, .int .i64 5, .int .i64 50, .int .i64 2] 35])) := hide (((Blks.nil w3).more (.cells #[.int .i64 1, .int .i64 2, .int .i64 5, .slice oa 1 ca, .int .i64 1, .slice od 1 cd, .int .i64 1, .int .i64 90] 29) (by simp)).more (.cells #[.int .i64 1, .int .i64 1, .int .i64 5, .int .i64 50, .int .i64 2] 35) (by simp))
  have HTa := hide (fun W (h : Below w3.heap.size w3 W) => HT2.out W oa ca od cd (by obtain ⟨o, c, e, h'⟩ := HV3.out.1.below h; simp at e; obtain ⟨rfl, rfl⟩ := e; exact h'.1) (by obtain ⟨o, c, e, h'⟩ := HV3.out.2.below h; simp at e; obtain ⟨rfl, rfl⟩ := e; exact h'.1))
  have HSa := hide (fun W (h : Below w3.heap.size w3 W) => HS.out W oa ca od cd (by obtain ⟨o, c, e, h'⟩ := HV3.out.1.below h; simp at e; obtain ⟨rfl, rfl⟩ := e; exact h'.1) (by obtain ⟨o, c, e, h'⟩ := HV3.out.2.below h; simp at e; obtain ⟨rfl, rfl⟩ := e; exact h'.1))
  have HCa := hide (fun W (h : Below w3.heap.size w3 W) => HC.out W oa ca od cd (by obtain ⟨o, c, e, h'⟩ := HV3.out.1.below h; simp at e; obtain ⟨rfl, rfl⟩ := e; exact h'.1) (by obtain ⟨o, c, e, h'⟩ := HV3.out.2.below h; simp at e; obtain ⟨rfl, rfl⟩ := e; exact h'.1))
  clear HT2 HS HC HV3 HT1
  rename_i K0 hK0
  have key : ∀ (b4 b5 : Nat) (W : World), Hid (Blks w3 W ([] ++ [.cells #[.int .i64 1, .int .i64 2, .int .i64 5, .slice oa 1 ca, .int .i64 1, .slice od 1 cd, .int .i64 1, .int .i64 90] 29] ++ [.cells #[.int .i64 1, .int .i64 1, .int .i64 5, .int .i64 50, .int .i64 2] 35])) → K0 ⟨#[.bool false, .pointer (some ⟨w3.heap.size, 0, none⟩), .pointer (some ⟨w3.heap.size + 1, 0, none⟩), .int .i64 0, .pointer (some ⟨b4, 0, none⟩), .pointer (some ⟨b5, 0, none⟩), .int .i64 10, undef, undef, undef, undef, undef, undef, undef, undef, undef, .tuple #[gtV 1 2 5 oa 1 ca 1 od 1 cd 1 90, tp 1 1 5 50 2, .int .i64 0], gtV 1 2 4 none 0 0 1 (some ⟨b1, 0, none⟩) 1 1 2 90, tk 1 1 10 500 15 0, .tuple #[gtV 1 2 5 oa 1 ca 1 od 1 cd 1 90, tp 1 1 5 50 2, .int .i64 0], gtV 1 2 5 oa 1 ca 1 od 1 cd 1 90, tp 1 1 5 50 2, .int .i64 0, .tuple #[gtV 0 0 0 none 0 0 0 none 0 0 0 0, tp 0 0 0 0 0, .int .i64 10], gtV 1 2 5 oa 1 ca 1 od 1 cd 1 90, tk 1 1 10 500 15 0, .tuple #[gtV 0 0 0 none 0 0 0 none 0 0 0 0, tp 0 0 0 0 0, .int .i64 10], gtV 0 0 0 none 0 0 0 none 0 0 0 0, tp 0 0 0 0 0, .int .i64 10, undef, undef, undef, undef, undef, undef, undef, undef, undef, undef, undef, undef, undef, undef, undef, undef, undef, undef, undef, undef, undef, undef, undef, undef, undef, undef, undef, undef, undef, undef, undef, undef, undef, undef, undef, undef, undef, undef, undef, undef, undef, undef, undef, undef, undef, undef, undef, undef, undef, undef, undef, undef, undef, undef, undef, undef, undef, undef, undef, undef, undef, undef, undef, undef, undef, undef, undef, undef, undef, undef, undef, undef, undef, undef, undef, undef, undef, undef], []⟩ W := by
    intro b4 b5 w6 HG
    refine hK0 _ _ ?_
    go_wp2_with fail
    refine (post_any _).mono ?_
    rintro e w7 ⟨⟨b7, rfl, hI⟩, hb⟩
    have HGw7 := hide (HG.out.on hb)
    have HI7 := hide hI
    clear hI
    clear hb HG
    have lG_0 := HGw7.out.lt 0 w3.heap.size (by simp) rfl
    have cG_0_0 := HGw7.out.cell 0 0 w3.heap.size _ _ _ rfl rfl rfl
    have cG_0_1 := HGw7.out.cell 0 1 w3.heap.size _ _ _ rfl rfl rfl
    have cG_0_2 := HGw7.out.cell 0 2 w3.heap.size _ _ _ rfl rfl rfl
    have cG_0_3 := HGw7.out.cell 0 3 w3.heap.size _ _ _ rfl rfl rfl
    have cG_0_4 := HGw7.out.cell 0 4 w3.heap.size _ _ _ rfl rfl rfl
    have cG_0_5 := HGw7.out.cell 0 5 w3.heap.size _ _ _ rfl rfl rfl
    have cG_0_6 := HGw7.out.cell 0 6 w3.heap.size _ _ _ rfl rfl rfl
    have cG_0_7 := HGw7.out.cell 0 7 w3.heap.size _ _ _ rfl rfl rfl
    have lG_1 := HGw7.out.lt 1 (w3.heap.size + 1) (by simp) rfl
    have cG_1_0 := HGw7.out.cell 1 0 (w3.heap.size + 1) _ _ _ rfl rfl rfl
    have cG_1_1 := HGw7.out.cell 1 1 (w3.heap.size + 1) _ _ _ rfl rfl rfl
    have cG_1_2 := HGw7.out.cell 1 2 (w3.heap.size + 1) _ _ _ rfl rfl rfl
    have cG_1_3 := HGw7.out.cell 1 3 (w3.heap.size + 1) _ _ _ rfl rfl rfl
    have cG_1_4 := HGw7.out.cell 1 4 (w3.heap.size + 1) _ _ _ rfl rfl rfl
    go_wp2_with fail
    refine (single_any 7 _).mono ?_
    rintro e w8 ⟨rfl, hb⟩
    have HGw8 := hide (HGw7.out.on hb)
    have HI8 := hide (HI7.out.below hb)
    clear HI7
    clear lG_0 cG_0_0 cG_0_1 cG_0_2 cG_0_3 cG_0_4 cG_0_5 cG_0_6 cG_0_7 lG_1 cG_1_0 cG_1_1 cG_1_2 cG_1_3 cG_1_4
    clear hb HGw7
    have lG_0 := HGw8.out.lt 0 w3.heap.size (by simp) rfl
    have cG_0_0 := HGw8.out.cell 0 0 w3.heap.size _ _ _ rfl rfl rfl
    have cG_0_1 := HGw8.out.cell 0 1 w3.heap.size _ _ _ rfl rfl rfl
    have cG_0_2 := HGw8.out.cell 0 2 w3.heap.size _ _ _ rfl rfl rfl
    have cG_0_3 := HGw8.out.cell 0 3 w3.heap.size _ _ _ rfl rfl rfl
    have cG_0_4 := HGw8.out.cell 0 4 w3.heap.size _ _ _ rfl rfl rfl
    have cG_0_5 := HGw8.out.cell 0 5 w3.heap.size _ _ _ rfl rfl rfl
    have cG_0_6 := HGw8.out.cell 0 6 w3.heap.size _ _ _ rfl rfl rfl
    have cG_0_7 := HGw8.out.cell 0 7 w3.heap.size _ _ _ rfl rfl rfl
    have lG_1 := HGw8.out.lt 1 (w3.heap.size + 1) (by simp) rfl
    have cG_1_0 := HGw8.out.cell 1 0 (w3.heap.size + 1) _ _ _ rfl rfl rfl
    have cG_1_1 := HGw8.out.cell 1 1 (w3.heap.size + 1) _ _ _ rfl rfl rfl
    have cG_1_2 := HGw8.out.cell 1 2 (w3.heap.size + 1) _ _ _ rfl rfl rfl
    have cG_1_3 := HGw8.out.cell 1 3 (w3.heap.size + 1) _ _ _ rfl rfl rfl
    have cG_1_4 := HGw8.out.cell 1 4 (w3.heap.size + 1) _ _ _ rfl rfl rfl
    go_wp2_with fail
    refine (HT3.out _ _ _ HI8.out).mono ?_
    rintro e w9 ⟨rfl, hb⟩
    have HGw9 := hide (HGw8.out.on hb)
    clear HI8
    clear lG_0 cG_0_0 cG_0_1 cG_0_2 cG_0_3 cG_0_4 cG_0_5 cG_0_6 cG_0_7 lG_1 cG_1_0 cG_1_1 cG_1_2 cG_1_3 cG_1_4
    clear hb HGw8
    have lG_0 := HGw9.out.lt 0 w3.heap.size (by simp) rfl
    have cG_0_0 := HGw9.out.cell 0 0 w3.heap.size _ _ _ rfl rfl rfl
    have cG_0_1 := HGw9.out.cell 0 1 w3.heap.size _ _ _ rfl rfl rfl
    have cG_0_2 := HGw9.out.cell 0 2 w3.heap.size _ _ _ rfl rfl rfl
    have cG_0_3 := HGw9.out.cell 0 3 w3.heap.size _ _ _ rfl rfl rfl
    have cG_0_4 := HGw9.out.cell 0 4 w3.heap.size _ _ _ rfl rfl rfl
    have cG_0_5 := HGw9.out.cell 0 5 w3.heap.size _ _ _ rfl rfl rfl
    have cG_0_6 := HGw9.out.cell 0 6 w3.heap.size _ _ _ rfl rfl rfl
    have cG_0_7 := HGw9.out.cell 0 7 w3.heap.size _ _ _ rfl rfl rfl
    have lG_1 := HGw9.out.lt 1 (w3.heap.size + 1) (by simp) rfl
    have cG_1_0 := HGw9.out.cell 1 0 (w3.heap.size + 1) _ _ _ rfl rfl rfl
    have cG_1_1 := HGw9.out.cell 1 1 (w3.heap.size + 1) _ _ _ rfl rfl rfl
    have cG_1_2 := HGw9.out.cell 1 2 (w3.heap.size + 1) _ _ _ rfl rfl rfl
    have cG_1_3 := HGw9.out.cell 1 3 (w3.heap.size + 1) _ _ _ rfl rfl rfl
    have cG_1_4 := HGw9.out.cell 1 4 (w3.heap.size + 1) _ _ _ rfl rfl rfl
    go_wp2_with fail
    have HA := hide (((Blks.nil w9).more (.cells #[.int .i64 0, .int .i64 0, .int .i64 0, .slice none 0 0, .int .i64 0, .slice none 0 0, .int .i64 0, .int .i64 0] 29) (by simp)).more (.cells #[.int .i64 0, .int .i64 0, .int .i64 0, .int .i64 0, .int .i64 0] 35) (by simp))
    refine (post_any _).mono ?_
    rintro e w10 ⟨⟨b10, rfl, hI⟩, hb⟩
    have HAw10 := hide (HA.out.on hb)
    have HGw10 := hide (HGw9.out.on HAw10.out.2.2)
    have HI10 := hide hI
    clear hI
    clear lG_0 cG_0_0 cG_0_1 cG_0_2 cG_0_3 cG_0_4 cG_0_5 cG_0_6 cG_0_7 lG_1 cG_1_0 cG_1_1 cG_1_2 cG_1_3 cG_1_4
    clear hb HGw9 HA
    have lG_0 := HGw10.out.lt 0 w3.heap.size (by simp) rfl
    have cG_0_0 := HGw10.out.cell 0 0 w3.heap.size _ _ _ rfl rfl rfl
    have cG_0_1 := HGw10.out.cell 0 1 w3.heap.size _ _ _ rfl rfl rfl
    have cG_0_2 := HGw10.out.cell 0 2 w3.heap.size _ _ _ rfl rfl rfl
    have cG_0_3 := HGw10.out.cell 0 3 w3.heap.size _ _ _ rfl rfl rfl
    have cG_0_4 := HGw10.out.cell 0 4 w3.heap.size _ _ _ rfl rfl rfl
    have cG_0_5 := HGw10.out.cell 0 5 w3.heap.size _ _ _ rfl rfl rfl
    have cG_0_6 := HGw10.out.cell 0 6 w3.heap.size _ _ _ rfl rfl rfl
    have cG_0_7 := HGw10.out.cell 0 7 w3.heap.size _ _ _ rfl rfl rfl
    have lG_1 := HGw10.out.lt 1 (w3.heap.size + 1) (by simp) rfl
    have cG_1_0 := HGw10.out.cell 1 0 (w3.heap.size + 1) _ _ _ rfl rfl rfl
    have cG_1_1 := HGw10.out.cell 1 1 (w3.heap.size + 1) _ _ _ rfl rfl rfl
    have cG_1_2 := HGw10.out.cell 1 2 (w3.heap.size + 1) _ _ _ rfl rfl rfl
    have cG_1_3 := HGw10.out.cell 1 3 (w3.heap.size + 1) _ _ _ rfl rfl rfl
    have cG_1_4 := HGw10.out.cell 1 4 (w3.heap.size + 1) _ _ _ rfl rfl rfl
    go_wp2_with fail
    refine (single_any 1 _).mono ?_
    rintro e w11 ⟨rfl, hb⟩
    have HGw11 := hide (HGw10.out.on hb)
    have HAw11 := hide (HAw10.out.on hb)
    have HI11 := hide (HI10.out.below hb)
    clear HI10
    clear lG_0 cG_0_0 cG_0_1 cG_0_2 cG_0_3 cG_0_4 cG_0_5 cG_0_6 cG_0_7 lG_1 cG_1_0 cG_1_1 cG_1_2 cG_1_3 cG_1_4
    clear hb HGw10 HAw10
    have lG_0 := HGw11.out.lt 0 w3.heap.size (by simp) rfl
    have cG_0_0 := HGw11.out.cell 0 0 w3.heap.size _ _ _ rfl rfl rfl
    have cG_0_1 := HGw11.out.cell 0 1 w3.heap.size _ _ _ rfl rfl rfl
    have cG_0_2 := HGw11.out.cell 0 2 w3.heap.size _ _ _ rfl rfl rfl
    have cG_0_3 := HGw11.out.cell 0 3 w3.heap.size _ _ _ rfl rfl rfl
    have cG_0_4 := HGw11.out.cell 0 4 w3.heap.size _ _ _ rfl rfl rfl
    have cG_0_5 := HGw11.out.cell 0 5 w3.heap.size _ _ _ rfl rfl rfl
    have cG_0_6 := HGw11.out.cell 0 6 w3.heap.size _ _ _ rfl rfl rfl
    have cG_0_7 := HGw11.out.cell 0 7 w3.heap.size _ _ _ rfl rfl rfl
    have lG_1 := HGw11.out.lt 1 (w3.heap.size + 1) (by simp) rfl
    have cG_1_0 := HGw11.out.cell 1 0 (w3.heap.size + 1) _ _ _ rfl rfl rfl
    have cG_1_1 := HGw11.out.cell 1 1 (w3.heap.size + 1) _ _ _ rfl rfl rfl
    have cG_1_2 := HGw11.out.cell 1 2 (w3.heap.size + 1) _ _ _ rfl rfl rfl
    have cG_1_3 := HGw11.out.cell 1 3 (w3.heap.size + 1) _ _ _ rfl rfl rfl
    have cG_1_4 := HGw11.out.cell 1 4 (w3.heap.size + 1) _ _ _ rfl rfl rfl
    go_wp2_with fail
    refine (HT4.out _ _ _ HI11.out).mono ?_
    rintro e w12 ⟨rfl, hb⟩
    have HGw12 := hide (HGw11.out.on hb)
    have HAw12 := hide (HAw11.out.on hb)
    clear HI11
    clear lG_0 cG_0_0 cG_0_1 cG_0_2 cG_0_3 cG_0_4 cG_0_5 cG_0_6 cG_0_7 lG_1 cG_1_0 cG_1_1 cG_1_2 cG_1_3 cG_1_4
    clear hb HGw11 HAw11
    have lG_0 := HGw12.out.lt 0 w3.heap.size (by simp) rfl
    have cG_0_0 := HGw12.out.cell 0 0 w3.heap.size _ _ _ rfl rfl rfl
    have cG_0_1 := HGw12.out.cell 0 1 w3.heap.size _ _ _ rfl rfl rfl
    have cG_0_2 := HGw12.out.cell 0 2 w3.heap.size _ _ _ rfl rfl rfl
    have cG_0_3 := HGw12.out.cell 0 3 w3.heap.size _ _ _ rfl rfl rfl
    have cG_0_4 := HGw12.out.cell 0 4 w3.heap.size _ _ _ rfl rfl rfl
    have cG_0_5 := HGw12.out.cell 0 5 w3.heap.size _ _ _ rfl rfl rfl
    have cG_0_6 := HGw12.out.cell 0 6 w3.heap.size _ _ _ rfl rfl rfl
    have cG_0_7 := HGw12.out.cell 0 7 w3.heap.size _ _ _ rfl rfl rfl
    have lG_1 := HGw12.out.lt 1 (w3.heap.size + 1) (by simp) rfl
    have cG_1_0 := HGw12.out.cell 1 0 (w3.heap.size + 1) _ _ _ rfl rfl rfl
    have cG_1_1 := HGw12.out.cell 1 1 (w3.heap.size + 1) _ _ _ rfl rfl rfl
    have cG_1_2 := HGw12.out.cell 1 2 (w3.heap.size + 1) _ _ _ rfl rfl rfl
    have cG_1_3 := HGw12.out.cell 1 3 (w3.heap.size + 1) _ _ _ rfl rfl rfl
    have cG_1_4 := HGw12.out.cell 1 4 (w3.heap.size + 1) _ _ _ rfl rfl rfl
    go_wp2_with fail
    have HB := hide (((Blks.nil w12).more (.cells #[.int .i64 0, .int .i64 0, .int .i64 0, .slice none 0 0, .int .i64 0, .slice none 0 0, .int .i64 0, .int .i64 0] 29) (by simp)).more (.cells #[.int .i64 0, .int .i64 0, .int .i64 0, .int .i64 0, .int .i64 0] 35) (by simp))
    refine (HSa.out _ (HGw12.out.on HB.out.2.2).2.2).mono ?_
    rintro e w13 ⟨⟨on, cn, x, rfl, hI, -, ⟨ox, cx, rfl, hx⟩, -⟩, hb⟩
    have HBw13 := hide (HB.out.on hb)
    have HGw13 := hide (HGw12.out.on HBw13.out.2.2)
    have HAw13 := hide (HAw12.out.on HBw13.out.2.2)
    clear hI hx
    clear lG_0 cG_0_0 cG_0_1 cG_0_2 cG_0_3 cG_0_4 cG_0_5 cG_0_6 cG_0_7 lG_1 cG_1_0 cG_1_1 cG_1_2 cG_1_3 cG_1_4
    clear hb HGw12 HAw12 HB
    have lG_0 := HGw13.out.lt 0 w3.heap.size (by simp) rfl
    have cG_0_0 := HGw13.out.cell 0 0 w3.heap.size _ _ _ rfl rfl rfl
    have cG_0_1 := HGw13.out.cell 0 1 w3.heap.size _ _ _ rfl rfl rfl
    have cG_0_2 := HGw13.out.cell 0 2 w3.heap.size _ _ _ rfl rfl rfl
    have cG_0_3 := HGw13.out.cell 0 3 w3.heap.size _ _ _ rfl rfl rfl
    have cG_0_4 := HGw13.out.cell 0 4 w3.heap.size _ _ _ rfl rfl rfl
    have cG_0_5 := HGw13.out.cell 0 5 w3.heap.size _ _ _ rfl rfl rfl
    have cG_0_6 := HGw13.out.cell 0 6 w3.heap.size _ _ _ rfl rfl rfl
    have cG_0_7 := HGw13.out.cell 0 7 w3.heap.size _ _ _ rfl rfl rfl
    have lG_1 := HGw13.out.lt 1 (w3.heap.size + 1) (by simp) rfl
    have cG_1_0 := HGw13.out.cell 1 0 (w3.heap.size + 1) _ _ _ rfl rfl rfl
    have cG_1_1 := HGw13.out.cell 1 1 (w3.heap.size + 1) _ _ _ rfl rfl rfl
    have cG_1_2 := HGw13.out.cell 1 2 (w3.heap.size + 1) _ _ _ rfl rfl rfl
    have cG_1_3 := HGw13.out.cell 1 3 (w3.heap.size + 1) _ _ _ rfl rfl rfl
    have cG_1_4 := HGw13.out.cell 1 4 (w3.heap.size + 1) _ _ _ rfl rfl rfl
    go_wp2_with fail
    have HC := hide ((Blks.nil w13).more (.cells #[.int .i64 1, .int .i64 2, .int .i64 5, .slice none 0 0, .int .i64 5, .slice on 0 cn, .int .i64 9, .int .i64 160] 29) (by simp))
    refine (HCa.out _ (HGw13.out.on HC.out.2.2).2.2).mono ?_
    rintro e w14 ⟨rfl, hb⟩
    have HCw14 := hide (HC.out.on hb)
    have HGw14 := hide (HGw13.out.on HCw14.out.2.2)
    have HAw14 := hide (HAw13.out.on HCw14.out.2.2)
    have HBw14 := hide (HBw13.out.on HCw14.out.2.2)
    clear lG_0 cG_0_0 cG_0_1 cG_0_2 cG_0_3 cG_0_4 cG_0_5 cG_0_6 cG_0_7 lG_1 cG_1_0 cG_1_1 cG_1_2 cG_1_3 cG_1_4
    clear hb HGw13 HAw13 HBw13 HC
    have lG_0 := HGw14.out.lt 0 w3.heap.size (by simp) rfl
    have cG_0_0 := HGw14.out.cell 0 0 w3.heap.size _ _ _ rfl rfl rfl
    have cG_0_1 := HGw14.out.cell 0 1 w3.heap.size _ _ _ rfl rfl rfl
    have cG_0_2 := HGw14.out.cell 0 2 w3.heap.size _ _ _ rfl rfl rfl
    have cG_0_3 := HGw14.out.cell 0 3 w3.heap.size _ _ _ rfl rfl rfl
    have cG_0_4 := HGw14.out.cell 0 4 w3.heap.size _ _ _ rfl rfl rfl
    have cG_0_5 := HGw14.out.cell 0 5 w3.heap.size _ _ _ rfl rfl rfl
    have cG_0_6 := HGw14.out.cell 0 6 w3.heap.size _ _ _ rfl rfl rfl
    have cG_0_7 := HGw14.out.cell 0 7 w3.heap.size _ _ _ rfl rfl rfl
    have lG_1 := HGw14.out.lt 1 (w3.heap.size + 1) (by simp) rfl
    have cG_1_0 := HGw14.out.cell 1 0 (w3.heap.size + 1) _ _ _ rfl rfl rfl
    have cG_1_1 := HGw14.out.cell 1 1 (w3.heap.size + 1) _ _ _ rfl rfl rfl
    have cG_1_2 := HGw14.out.cell 1 2 (w3.heap.size + 1) _ _ _ rfl rfl rfl
    have cG_1_3 := HGw14.out.cell 1 3 (w3.heap.size + 1) _ _ _ rfl rfl rfl
    have cG_1_4 := HGw14.out.cell 1 4 (w3.heap.size + 1) _ _ _ rfl rfl rfl
    have lC_0 := HCw14.out.lt 0 w13.heap.size (by simp) rfl
    have cC_0_0 := HCw14.out.cell 0 0 w13.heap.size _ _ _ rfl rfl rfl
    have cC_0_1 := HCw14.out.cell 0 1 w13.heap.size _ _ _ rfl rfl rfl
    have cC_0_2 := HCw14.out.cell 0 2 w13.heap.size _ _ _ rfl rfl rfl
    have cC_0_3 := HCw14.out.cell 0 3 w13.heap.size _ _ _ rfl rfl rfl
    have cC_0_4 := HCw14.out.cell 0 4 w13.heap.size _ _ _ rfl rfl rfl
    have cC_0_5 := HCw14.out.cell 0 5 w13.heap.size _ _ _ rfl rfl rfl
    have cC_0_6 := HCw14.out.cell 0 6 w13.heap.size _ _ _ rfl rfl rfl
    have cC_0_7 := HCw14.out.cell 0 7 w13.heap.size _ _ _ rfl rfl rfl
    go_wp2_with fail
    go_ret
    exact ⟨rfl, HB3.out.trans ((HGw14.out.2.2).mono HB3.out.size)⟩
  clear hK0 HT3 HT4 HSa HCa HB3
  refine wp_region_reads (fun w' => Blks w3 w' ([] ++ [.cells #[.int .i64 1, .int .i64 2, .int .i64 5, .slice oa 1 ca, .int .i64 1, .slice od 1 cd, .int .i64 1, .int .i64 90] 29] ++ [.cells #[.int .i64 1, .int .i64 1, .int .i64 5, .int .i64 50, .int .i64 2] 35])) [0] 11 (by rfl) (by kernel_rfl) (by kernel_rfl) (by kernel_rfl) (fun c d v a w h => by cases d <;> exact h) ?_ ?_
  · exact HG.out.on (Below.refl _ _).drew
  refine wpPureH_step (gtV 1 2 5 oa 1 ca 1 od 1 cd 1 90) rfl rfl (fun w' hS => ?_) ?_
  · have k0 := hS.cell 0 0 w3.heap.size _ _ _ rfl rfl rfl
    have k1 := hS.cell 0 1 w3.heap.size _ _ _ rfl rfl rfl
    have k2 := hS.cell 0 2 w3.heap.size _ _ _ rfl rfl rfl
    have k3 := hS.cell 0 3 w3.heap.size _ _ _ rfl rfl rfl
    have k4 := hS.cell 0 4 w3.heap.size _ _ _ rfl rfl rfl
    have k5 := hS.cell 0 5 w3.heap.size _ _ _ rfl rfl rfl
    have k6 := hS.cell 0 6 w3.heap.size _ _ _ rfl rfl rfl
    have k7 := hS.cell 0 7 w3.heap.size _ _ _ rfl rfl rfl
    go_simp
  refine wpPureH_nil ?_
  have HGx : Hid (Blks w3 _ ([] ++ [.cells #[.int .i64 1, .int .i64 2, .int .i64 5, .slice oa 1 ca, .int .i64 1, .slice od 1 cd, .int .i64 1, .int .i64 90] 29] ++ [.cells #[.int .i64 1, .int .i64 1, .int .i64 5, .int .i64 50, .int .i64 2] 35])) := hide (HG.out.on (Below.refl _ _).drew)
  clear HG
  generalize World.drew _ = x at *
  refine three_readyH (i := 1) (j := 7) (k := 8) (by kernel_rfl) rfl rfl rfl rfl rfl rfl (fun K hK => ?_) (fun K hK => ?_) (fun K hK => ?_)
  · skip
    go_simp
    refine (single_any 1 _).mono ?_
    rintro e x1 ⟨rfl, hb⟩
    have HGx1 := hide (HGx.out.on hb)
    refine hK _ _ HGx1.out ?_
    clear hK K hb HGx
    refine three_readyH (i := 2) (j := 7) (k := 8) (by kernel_rfl) rfl rfl rfl rfl rfl rfl (fun K hK => ?_) (fun K hK => ?_) (fun K hK => ?_)
    · skip
      go_simp
      refine (HTa.out _ HGx1.out.2.2).mono ?_
      rintro e x2 ⟨rfl, hb⟩
      have HGx2 := hide (HGx1.out.on hb)
      refine hK _ _ HGx2.out ?_
      clear hK K hb HGx1
      refine takesH (fuel := 5) (by kernel_rfl) (fun c d v a w h => by cases d <;> exact h) HGx2.out [3, 4, 5, 6] _ _ (by kernel_rfl) ?_
      refine wpPureH_step (.tuple #[gtV 0 0 0 none 0 0 0 none 0 0 0 0, tp 0 0 0 0 0, .int .i64 10]) rfl rfl (fun w' hS => ?_) ?_
      · go_simp
      refine wpPureH_step (gtV 0 0 0 none 0 0 0 none 0 0 0 0) rfl rfl (fun w' hS => ?_) ?_
      · go_simp
      refine wpPureH_step (tp 0 0 0 0 0) rfl rfl (fun w' hS => ?_) ?_
      · go_simp
      refine wpPureH_step (.int .i64 10) rfl rfl (fun w' hS => ?_) ?_
      · go_simp
      refine wpPureH_nil ?_
      refine two_readyH (i := 7) (j := 8) (by kernel_rfl) rfl rfl rfl rfl (fun K hK => ?_) (fun K hK => ?_)
      · skip
        go_simp
        have HA3 := hide ((Blks.nil x2).more (.cells #[.int .i64 0, .int .i64 0, .int .i64 0, .slice none 0 0, .int .i64 0, .slice none 0 0, .int .i64 0, .int .i64 0] 29) (by simp))
        have HGx3 := hide (HGx2.out.on HA3.out.2.2)
        have hx7 := HGx2.out.2.1
        simp only [List.length_append, List.length_cons, List.length_nil] at hx7
        refine hK _ _ HGx3.out ?_
        clear hK K HGx2
        generalize x2.alloc (.cells #[.int .i64 0, .int .i64 0, .int .i64 0, .slice none 0 0, .int .i64 0, .slice none 0 0, .int .i64 0, .int .i64 0] 29) = x3 at *
        refine one_readyH (i := 8) (by kernel_rfl) rfl rfl (fun K hK => ?_)
        go_simp
        have HB4 := hide ((Blks.nil x3).more (.cells #[.int .i64 0, .int .i64 0, .int .i64 0, .int .i64 0, .int .i64 0] 35) (by simp))
        have HGx4 := hide (HGx3.out.on HB4.out.2.2)
        have hn45 := HA3.out.2.1
        simp only [List.length_append, List.length_cons, List.length_nil] at hn45
        have HA4 := hide (HA3.out.on HB4.out.2.2)
        have hx8 := HGx3.out.2.1
        simp only [List.length_append, List.length_cons, List.length_nil] at hx8
        refine hK _ _ HGx4.out ?_
        clear hK K HGx3 HA3
        generalize x3.alloc (.cells #[.int .i64 0, .int .i64 0, .int .i64 0, .int .i64 0, .int .i64 0] 35) = x4 at *
        have r0 := HA4.out.cell 0 0 x2.heap.size _ _ _ rfl rfl rfl
        have f0 := HA4.out.frozen 0 0 x2.heap.size _ _ rfl rfl
        have r1 := HA4.out.cell 0 1 x2.heap.size _ _ _ rfl rfl rfl
        have f1 := HA4.out.frozen 0 1 x2.heap.size _ _ rfl rfl
        have r2 := HA4.out.cell 0 2 x2.heap.size _ _ _ rfl rfl rfl
        have f2 := HA4.out.frozen 0 2 x2.heap.size _ _ rfl rfl
        have r3 := HA4.out.cell 0 3 x2.heap.size _ _ _ rfl rfl rfl
        have f3 := HA4.out.frozen 0 3 x2.heap.size _ _ rfl rfl
        have r4 := HA4.out.cell 0 4 x2.heap.size _ _ _ rfl rfl rfl
        have f4 := HA4.out.frozen 0 4 x2.heap.size _ _ rfl rfl
        have r5 := HA4.out.cell 0 5 x2.heap.size _ _ _ rfl rfl rfl
        have f5 := HA4.out.frozen 0 5 x2.heap.size _ _ rfl rfl
        have r6 := HA4.out.cell 0 6 x2.heap.size _ _ _ rfl rfl rfl
        have f6 := HA4.out.frozen 0 6 x2.heap.size _ _ rfl rfl
        have r7 := HA4.out.cell 0 7 x2.heap.size _ _ _ rfl rfl rfl
        have f7 := HA4.out.frozen 0 7 x2.heap.size _ _ rfl rfl
        have s0 := HB4.out.cell 0 0 x3.heap.size _ _ _ rfl rfl rfl
        have g0 := HB4.out.frozen 0 0 x3.heap.size _ _ rfl rfl
        have s1 := HB4.out.cell 0 1 x3.heap.size _ _ _ rfl rfl rfl
        have g1 := HB4.out.frozen 0 1 x3.heap.size _ _ rfl rfl
        have s2 := HB4.out.cell 0 2 x3.heap.size _ _ _ rfl rfl rfl
        have g2 := HB4.out.frozen 0 2 x3.heap.size _ _ rfl rfl
        have s3 := HB4.out.cell 0 3 x3.heap.size _ _ _ rfl rfl rfl
        have g3 := HB4.out.frozen 0 3 x3.heap.size _ _ rfl rfl
        have s4 := HB4.out.cell 0 4 x3.heap.size _ _ _ rfl rfl rfl
        have g4 := HB4.out.frozen 0 4 x3.heap.size _ _ rfl rfl
        have hn : x2.heap.size ≠ x3.heap.size := by
          omega
        have hn' : x3.heap.size ≠ x2.heap.size := fun h => hn h.symm
        refine one_readyH (i := 9) (by kernel_rfl) rfl rfl (fun K hK => ?_)
        go_simp
        refine hK _ _ ?_ ?_
        · repeat (first | with_reducible exact HGx4.out | with_reducible refine Blks.set ?_ _ (by simp; omega) _)
        clear hK K
        refine one_readyH (i := 10) (by kernel_rfl) rfl rfl (fun K hK => ?_)
        go_simp
        have HGz : Hid (Blks w3 (((((((((((((x4.setCell ⟨x2.heap.size, 0, none⟩ (.int .i64 0)).setCell ⟨x2.heap.size, 1, none⟩ (.int .i64 0)).setCell ⟨x2.heap.size, 2, none⟩ (.int .i64 0)).setCell ⟨x2.heap.size, 3, none⟩ (.slice none 0 0)).setCell ⟨x2.heap.size, 4, none⟩ (.int .i64 0)).setCell ⟨x2.heap.size, 5, none⟩ (.slice none 0 0)).setCell ⟨x2.heap.size, 6, none⟩ (.int .i64 0)).setCell ⟨x2.heap.size, 7, none⟩ (.int .i64 0)).setCell ⟨x3.heap.size, 0, none⟩ (.int .i64 0)).setCell ⟨x3.heap.size, 1, none⟩ (.int .i64 0)).setCell ⟨x3.heap.size, 2, none⟩ (.int .i64 0)).setCell ⟨x3.heap.size, 3, none⟩ (.int .i64 0)).setCell ⟨x3.heap.size, 4, none⟩ (.int .i64 0)) ([] ++ [.cells #[.int .i64 1, .int .i64 2, .int .i64 5, .slice oa 1 ca, .int .i64 1, .slice od 1 cd, .int .i64 1, .int .i64 90] 29] ++ [.cells #[.int .i64 1, .int .i64 1, .int .i64 5, .int .i64 50, .int .i64 2] 35])) := by
          refine hide ?_
          repeat (first | with_reducible exact HGx4.out | with_reducible refine Blks.set ?_ _ (by simp; omega) _)
        refine hK _ _ HGz.out ?_
        clear hK K
        refine one_readyH (i := 11) (by kernel_rfl) rfl rfl (fun K hK => ?_)
        go_simp
        refine hK _ _ HGz.out ?_
        clear hK K
        refine wpAnyH_done (by kernel_rfl) ?_ _
        exact key _ _ _ HGz
      · skip
        go_simp
        have HB5 := hide ((Blks.nil x2).more (.cells #[.int .i64 0, .int .i64 0, .int .i64 0, .int .i64 0, .int .i64 0] 35) (by simp))
        have HGx5 := hide (HGx2.out.on HB5.out.2.2)
        have hx8 := HGx2.out.2.1
        simp only [List.length_append, List.length_cons, List.length_nil] at hx8
        refine hK _ _ HGx5.out ?_
        clear hK K HGx2
        generalize x2.alloc (.cells #[.int .i64 0, .int .i64 0, .int .i64 0, .int .i64 0, .int .i64 0] 35) = x5 at *
        refine one_readyH (i := 7) (by kernel_rfl) rfl rfl (fun K hK => ?_)
        go_simp
        have HA6 := hide ((Blks.nil x5).more (.cells #[.int .i64 0, .int .i64 0, .int .i64 0, .slice none 0 0, .int .i64 0, .slice none 0 0, .int .i64 0, .int .i64 0] 29) (by simp))
        have HGx6 := hide (HGx5.out.on HA6.out.2.2)
        have hn45 := HB5.out.2.1
        simp only [List.length_append, List.length_cons, List.length_nil] at hn45
        have HB6 := hide (HB5.out.on HA6.out.2.2)
        have hx7 := HGx5.out.2.1
        simp only [List.length_append, List.length_cons, List.length_nil] at hx7
        refine hK _ _ HGx6.out ?_
        clear hK K HGx5 HB5
        generalize x5.alloc (.cells #[.int .i64 0, .int .i64 0, .int .i64 0, .slice none 0 0, .int .i64 0, .slice none 0 0, .int .i64 0, .int .i64 0] 29) = x6 at *
        have r0 := HA6.out.cell 0 0 x5.heap.size _ _ _ rfl rfl rfl
        have f0 := HA6.out.frozen 0 0 x5.heap.size _ _ rfl rfl
        have r1 := HA6.out.cell 0 1 x5.heap.size _ _ _ rfl rfl rfl
        have f1 := HA6.out.frozen 0 1 x5.heap.size _ _ rfl rfl
        have r2 := HA6.out.cell 0 2 x5.heap.size _ _ _ rfl rfl rfl
        have f2 := HA6.out.frozen 0 2 x5.heap.size _ _ rfl rfl
        have r3 := HA6.out.cell 0 3 x5.heap.size _ _ _ rfl rfl rfl
        have f3 := HA6.out.frozen 0 3 x5.heap.size _ _ rfl rfl
        have r4 := HA6.out.cell 0 4 x5.heap.size _ _ _ rfl rfl rfl
        have f4 := HA6.out.frozen 0 4 x5.heap.size _ _ rfl rfl
        have r5 := HA6.out.cell 0 5 x5.heap.size _ _ _ rfl rfl rfl
        have f5 := HA6.out.frozen 0 5 x5.heap.size _ _ rfl rfl
        have r6 := HA6.out.cell 0 6 x5.heap.size _ _ _ rfl rfl rfl
        have f6 := HA6.out.frozen 0 6 x5.heap.size _ _ rfl rfl
        have r7 := HA6.out.cell 0 7 x5.heap.size _ _ _ rfl rfl rfl
        have f7 := HA6.out.frozen 0 7 x5.heap.size _ _ rfl rfl
        have s0 := HB6.out.cell 0 0 x2.heap.size _ _ _ rfl rfl rfl
        have g0 := HB6.out.frozen 0 0 x2.heap.size _ _ rfl rfl
        have s1 := HB6.out.cell 0 1 x2.heap.size _ _ _ rfl rfl rfl
        have g1 := HB6.out.frozen 0 1 x2.heap.size _ _ rfl rfl
        have s2 := HB6.out.cell 0 2 x2.heap.size _ _ _ rfl rfl rfl
        have g2 := HB6.out.frozen 0 2 x2.heap.size _ _ rfl rfl
        have s3 := HB6.out.cell 0 3 x2.heap.size _ _ _ rfl rfl rfl
        have g3 := HB6.out.frozen 0 3 x2.heap.size _ _ rfl rfl
        have s4 := HB6.out.cell 0 4 x2.heap.size _ _ _ rfl rfl rfl
        have g4 := HB6.out.frozen 0 4 x2.heap.size _ _ rfl rfl
        have hn : x5.heap.size ≠ x2.heap.size := by
          omega
        have hn' : x2.heap.size ≠ x5.heap.size := fun h => hn h.symm
        refine one_readyH (i := 9) (by kernel_rfl) rfl rfl (fun K hK => ?_)
        go_simp
        refine hK _ _ ?_ ?_
        · repeat (first | with_reducible exact HGx6.out | with_reducible refine Blks.set ?_ _ (by simp; omega) _)
        clear hK K
        refine one_readyH (i := 10) (by kernel_rfl) rfl rfl (fun K hK => ?_)
        go_simp
        have HGz : Hid (Blks w3 (((((((((((((x6.setCell ⟨x5.heap.size, 0, none⟩ (.int .i64 0)).setCell ⟨x5.heap.size, 1, none⟩ (.int .i64 0)).setCell ⟨x5.heap.size, 2, none⟩ (.int .i64 0)).setCell ⟨x5.heap.size, 3, none⟩ (.slice none 0 0)).setCell ⟨x5.heap.size, 4, none⟩ (.int .i64 0)).setCell ⟨x5.heap.size, 5, none⟩ (.slice none 0 0)).setCell ⟨x5.heap.size, 6, none⟩ (.int .i64 0)).setCell ⟨x5.heap.size, 7, none⟩ (.int .i64 0)).setCell ⟨x2.heap.size, 0, none⟩ (.int .i64 0)).setCell ⟨x2.heap.size, 1, none⟩ (.int .i64 0)).setCell ⟨x2.heap.size, 2, none⟩ (.int .i64 0)).setCell ⟨x2.heap.size, 3, none⟩ (.int .i64 0)).setCell ⟨x2.heap.size, 4, none⟩ (.int .i64 0)) ([] ++ [.cells #[.int .i64 1, .int .i64 2, .int .i64 5, .slice oa 1 ca, .int .i64 1, .slice od 1 cd, .int .i64 1, .int .i64 90] 29] ++ [.cells #[.int .i64 1, .int .i64 1, .int .i64 5, .int .i64 50, .int .i64 2] 35])) := by
          refine hide ?_
          repeat (first | with_reducible exact HGx6.out | with_reducible refine Blks.set ?_ _ (by simp; omega) _)
        refine hK _ _ HGz.out ?_
        clear hK K
        refine one_readyH (i := 11) (by kernel_rfl) rfl rfl (fun K hK => ?_)
        go_simp
        refine hK _ _ HGz.out ?_
        clear hK K
        refine wpAnyH_done (by kernel_rfl) ?_ _
        exact key _ _ _ HGz
    · skip
      go_simp
      have HA7 := hide ((Blks.nil x1).more (.cells #[.int .i64 0, .int .i64 0, .int .i64 0, .slice none 0 0, .int .i64 0, .slice none 0 0, .int .i64 0, .int .i64 0] 29) (by simp))
      have HGx7 := hide (HGx1.out.on HA7.out.2.2)
      have hx7 := HGx1.out.2.1
      simp only [List.length_append, List.length_cons, List.length_nil] at hx7
      refine hK _ _ HGx7.out ?_
      clear hK K HGx1
      generalize x1.alloc (.cells #[.int .i64 0, .int .i64 0, .int .i64 0, .slice none 0 0, .int .i64 0, .slice none 0 0, .int .i64 0, .int .i64 0] 29) = x7 at *
      refine two_readyH (i := 2) (j := 8) (by kernel_rfl) rfl rfl rfl rfl (fun K hK => ?_) (fun K hK => ?_)
      · skip
        go_simp
        refine (HTa.out _ HGx7.out.2.2).mono ?_
        rintro e x8 ⟨rfl, hb⟩
        have HGx8 := hide (HGx7.out.on hb)
        have HA8 := hide (HA7.out.on hb)
        refine hK _ _ HGx8.out ?_
        clear hK K hb HGx7 HA7
        refine takesH (fuel := 4) (by kernel_rfl) (fun c d v a w h => by cases d <;> exact h) HGx8.out [3, 4, 5, 6] _ _ (by kernel_rfl) ?_
        refine wpPureH_step (.tuple #[gtV 0 0 0 none 0 0 0 none 0 0 0 0, tp 0 0 0 0 0, .int .i64 10]) rfl rfl (fun w' hS => ?_) ?_
        · go_simp
        refine wpPureH_step (gtV 0 0 0 none 0 0 0 none 0 0 0 0) rfl rfl (fun w' hS => ?_) ?_
        · go_simp
        refine wpPureH_step (tp 0 0 0 0 0) rfl rfl (fun w' hS => ?_) ?_
        · go_simp
        refine wpPureH_step (.int .i64 10) rfl rfl (fun w' hS => ?_) ?_
        · go_simp
        refine wpPureH_nil ?_
        refine one_readyH (i := 8) (by kernel_rfl) rfl rfl (fun K hK => ?_)
        go_simp
        have HB9 := hide ((Blks.nil x8).more (.cells #[.int .i64 0, .int .i64 0, .int .i64 0, .int .i64 0, .int .i64 0] 35) (by simp))
        have HGx9 := hide (HGx8.out.on HB9.out.2.2)
        have hn45 := HA8.out.2.1
        simp only [List.length_append, List.length_cons, List.length_nil] at hn45
        have HA9 := hide (HA8.out.on HB9.out.2.2)
        have hx8 := HGx8.out.2.1
        simp only [List.length_append, List.length_cons, List.length_nil] at hx8
        refine hK _ _ HGx9.out ?_
        clear hK K HGx8 HA8
        generalize x8.alloc (.cells #[.int .i64 0, .int .i64 0, .int .i64 0, .int .i64 0, .int .i64 0] 35) = x9 at *
        have r0 := HA9.out.cell 0 0 x1.heap.size _ _ _ rfl rfl rfl
        have f0 := HA9.out.frozen 0 0 x1.heap.size _ _ rfl rfl
        have r1 := HA9.out.cell 0 1 x1.heap.size _ _ _ rfl rfl rfl
        have f1 := HA9.out.frozen 0 1 x1.heap.size _ _ rfl rfl
        have r2 := HA9.out.cell 0 2 x1.heap.size _ _ _ rfl rfl rfl
        have f2 := HA9.out.frozen 0 2 x1.heap.size _ _ rfl rfl
        have r3 := HA9.out.cell 0 3 x1.heap.size _ _ _ rfl rfl rfl
        have f3 := HA9.out.frozen 0 3 x1.heap.size _ _ rfl rfl
        have r4 := HA9.out.cell 0 4 x1.heap.size _ _ _ rfl rfl rfl
        have f4 := HA9.out.frozen 0 4 x1.heap.size _ _ rfl rfl
        have r5 := HA9.out.cell 0 5 x1.heap.size _ _ _ rfl rfl rfl
        have f5 := HA9.out.frozen 0 5 x1.heap.size _ _ rfl rfl
        have r6 := HA9.out.cell 0 6 x1.heap.size _ _ _ rfl rfl rfl
        have f6 := HA9.out.frozen 0 6 x1.heap.size _ _ rfl rfl
        have r7 := HA9.out.cell 0 7 x1.heap.size _ _ _ rfl rfl rfl
        have f7 := HA9.out.frozen 0 7 x1.heap.size _ _ rfl rfl
        have s0 := HB9.out.cell 0 0 x8.heap.size _ _ _ rfl rfl rfl
        have g0 := HB9.out.frozen 0 0 x8.heap.size _ _ rfl rfl
        have s1 := HB9.out.cell 0 1 x8.heap.size _ _ _ rfl rfl rfl
        have g1 := HB9.out.frozen 0 1 x8.heap.size _ _ rfl rfl
        have s2 := HB9.out.cell 0 2 x8.heap.size _ _ _ rfl rfl rfl
        have g2 := HB9.out.frozen 0 2 x8.heap.size _ _ rfl rfl
        have s3 := HB9.out.cell 0 3 x8.heap.size _ _ _ rfl rfl rfl
        have g3 := HB9.out.frozen 0 3 x8.heap.size _ _ rfl rfl
        have s4 := HB9.out.cell 0 4 x8.heap.size _ _ _ rfl rfl rfl
        have g4 := HB9.out.frozen 0 4 x8.heap.size _ _ rfl rfl
        have hn : x1.heap.size ≠ x8.heap.size := by
          omega
        have hn' : x8.heap.size ≠ x1.heap.size := fun h => hn h.symm
        refine one_readyH (i := 9) (by kernel_rfl) rfl rfl (fun K hK => ?_)
        go_simp
        refine hK _ _ ?_ ?_
        · repeat (first | with_reducible exact HGx9.out | with_reducible refine Blks.set ?_ _ (by simp; omega) _)
        clear hK K
        refine one_readyH (i := 10) (by kernel_rfl) rfl rfl (fun K hK => ?_)
        go_simp
        have HGz : Hid (Blks w3 (((((((((((((x9.setCell ⟨x1.heap.size, 0, none⟩ (.int .i64 0)).setCell ⟨x1.heap.size, 1, none⟩ (.int .i64 0)).setCell ⟨x1.heap.size, 2, none⟩ (.int .i64 0)).setCell ⟨x1.heap.size, 3, none⟩ (.slice none 0 0)).setCell ⟨x1.heap.size, 4, none⟩ (.int .i64 0)).setCell ⟨x1.heap.size, 5, none⟩ (.slice none 0 0)).setCell ⟨x1.heap.size, 6, none⟩ (.int .i64 0)).setCell ⟨x1.heap.size, 7, none⟩ (.int .i64 0)).setCell ⟨x8.heap.size, 0, none⟩ (.int .i64 0)).setCell ⟨x8.heap.size, 1, none⟩ (.int .i64 0)).setCell ⟨x8.heap.size, 2, none⟩ (.int .i64 0)).setCell ⟨x8.heap.size, 3, none⟩ (.int .i64 0)).setCell ⟨x8.heap.size, 4, none⟩ (.int .i64 0)) ([] ++ [.cells #[.int .i64 1, .int .i64 2, .int .i64 5, .slice oa 1 ca, .int .i64 1, .slice od 1 cd, .int .i64 1, .int .i64 90] 29] ++ [.cells #[.int .i64 1, .int .i64 1, .int .i64 5, .int .i64 50, .int .i64 2] 35])) := by
          refine hide ?_
          repeat (first | with_reducible exact HGx9.out | with_reducible refine Blks.set ?_ _ (by simp; omega) _)
        refine hK _ _ HGz.out ?_
        clear hK K
        refine one_readyH (i := 11) (by kernel_rfl) rfl rfl (fun K hK => ?_)
        go_simp
        refine hK _ _ HGz.out ?_
        clear hK K
        refine wpAnyH_done (by kernel_rfl) ?_ _
        exact key _ _ _ HGz
      · skip
        go_simp
        have HB10 := hide ((Blks.nil x7).more (.cells #[.int .i64 0, .int .i64 0, .int .i64 0, .int .i64 0, .int .i64 0] 35) (by simp))
        have HGx10 := hide (HGx7.out.on HB10.out.2.2)
        have hn45 := HA7.out.2.1
        simp only [List.length_append, List.length_cons, List.length_nil] at hn45
        have HA10 := hide (HA7.out.on HB10.out.2.2)
        have hx8 := HGx7.out.2.1
        simp only [List.length_append, List.length_cons, List.length_nil] at hx8
        refine hK _ _ HGx10.out ?_
        clear hK K HGx7 HA7
        generalize x7.alloc (.cells #[.int .i64 0, .int .i64 0, .int .i64 0, .int .i64 0, .int .i64 0] 35) = x10 at *
        refine one_readyH (i := 2) (by kernel_rfl) rfl rfl (fun K hK => ?_)
        go_simp
        refine (HTa.out _ HGx10.out.2.2).mono ?_
        rintro e x11 ⟨rfl, hb⟩
        have HGx11 := hide (HGx10.out.on hb)
        have HA11 := hide (HA10.out.on hb)
        have HB11 := hide (HB10.out.on hb)
        refine hK _ _ HGx11.out ?_
        clear hK K hb HGx10 HA10 HB10
        refine takesH (fuel := 3) (by kernel_rfl) (fun c d v a w h => by cases d <;> exact h) HGx11.out [3, 4, 5, 6] _ _ (by kernel_rfl) ?_
        refine wpPureH_step (.tuple #[gtV 0 0 0 none 0 0 0 none 0 0 0 0, tp 0 0 0 0 0, .int .i64 10]) rfl rfl (fun w' hS => ?_) ?_
        · go_simp
        refine wpPureH_step (gtV 0 0 0 none 0 0 0 none 0 0 0 0) rfl rfl (fun w' hS => ?_) ?_
        · go_simp
        refine wpPureH_step (tp 0 0 0 0 0) rfl rfl (fun w' hS => ?_) ?_
        · go_simp
        refine wpPureH_step (.int .i64 10) rfl rfl (fun w' hS => ?_) ?_
        · go_simp
        refine wpPureH_nil ?_
        have r0 := HA11.out.cell 0 0 x1.heap.size _ _ _ rfl rfl rfl
        have f0 := HA11.out.frozen 0 0 x1.heap.size _ _ rfl rfl
        have r1 := HA11.out.cell 0 1 x1.heap.size _ _ _ rfl rfl rfl
        have f1 := HA11.out.frozen 0 1 x1.heap.size _ _ rfl rfl
        have r2 := HA11.out.cell 0 2 x1.heap.size _ _ _ rfl rfl rfl
        have f2 := HA11.out.frozen 0 2 x1.heap.size _ _ rfl rfl
        have r3 := HA11.out.cell 0 3 x1.heap.size _ _ _ rfl rfl rfl
        have f3 := HA11.out.frozen 0 3 x1.heap.size _ _ rfl rfl
        have r4 := HA11.out.cell 0 4 x1.heap.size _ _ _ rfl rfl rfl
        have f4 := HA11.out.frozen 0 4 x1.heap.size _ _ rfl rfl
        have r5 := HA11.out.cell 0 5 x1.heap.size _ _ _ rfl rfl rfl
        have f5 := HA11.out.frozen 0 5 x1.heap.size _ _ rfl rfl
        have r6 := HA11.out.cell 0 6 x1.heap.size _ _ _ rfl rfl rfl
        have f6 := HA11.out.frozen 0 6 x1.heap.size _ _ rfl rfl
        have r7 := HA11.out.cell 0 7 x1.heap.size _ _ _ rfl rfl rfl
        have f7 := HA11.out.frozen 0 7 x1.heap.size _ _ rfl rfl
        have s0 := HB11.out.cell 0 0 x7.heap.size _ _ _ rfl rfl rfl
        have g0 := HB11.out.frozen 0 0 x7.heap.size _ _ rfl rfl
        have s1 := HB11.out.cell 0 1 x7.heap.size _ _ _ rfl rfl rfl
        have g1 := HB11.out.frozen 0 1 x7.heap.size _ _ rfl rfl
        have s2 := HB11.out.cell 0 2 x7.heap.size _ _ _ rfl rfl rfl
        have g2 := HB11.out.frozen 0 2 x7.heap.size _ _ rfl rfl
        have s3 := HB11.out.cell 0 3 x7.heap.size _ _ _ rfl rfl rfl
        have g3 := HB11.out.frozen 0 3 x7.heap.size _ _ rfl rfl
        have s4 := HB11.out.cell 0 4 x7.heap.size _ _ _ rfl rfl rfl
        have g4 := HB11.out.frozen 0 4 x7.heap.size _ _ rfl rfl
        have hn : x1.heap.size ≠ x7.heap.size := by
          omega
        have hn' : x7.heap.size ≠ x1.heap.size := fun h => hn h.symm
        refine one_readyH (i := 9) (by kernel_rfl) rfl rfl (fun K hK => ?_)
        go_simp
        refine hK _ _ ?_ ?_
        · repeat (first | with_reducible exact HGx11.out | with_reducible refine Blks.set ?_ _ (by simp; omega) _)
        clear hK K
        refine one_readyH (i := 10) (by kernel_rfl) rfl rfl (fun K hK => ?_)
        go_simp
        have HGz : Hid (Blks w3 (((((((((((((x11.setCell ⟨x1.heap.size, 0, none⟩ (.int .i64 0)).setCell ⟨x1.heap.size, 1, none⟩ (.int .i64 0)).setCell ⟨x1.heap.size, 2, none⟩ (.int .i64 0)).setCell ⟨x1.heap.size, 3, none⟩ (.slice none 0 0)).setCell ⟨x1.heap.size, 4, none⟩ (.int .i64 0)).setCell ⟨x1.heap.size, 5, none⟩ (.slice none 0 0)).setCell ⟨x1.heap.size, 6, none⟩ (.int .i64 0)).setCell ⟨x1.heap.size, 7, none⟩ (.int .i64 0)).setCell ⟨x7.heap.size, 0, none⟩ (.int .i64 0)).setCell ⟨x7.heap.size, 1, none⟩ (.int .i64 0)).setCell ⟨x7.heap.size, 2, none⟩ (.int .i64 0)).setCell ⟨x7.heap.size, 3, none⟩ (.int .i64 0)).setCell ⟨x7.heap.size, 4, none⟩ (.int .i64 0)) ([] ++ [.cells #[.int .i64 1, .int .i64 2, .int .i64 5, .slice oa 1 ca, .int .i64 1, .slice od 1 cd, .int .i64 1, .int .i64 90] 29] ++ [.cells #[.int .i64 1, .int .i64 1, .int .i64 5, .int .i64 50, .int .i64 2] 35])) := by
          refine hide ?_
          repeat (first | with_reducible exact HGx11.out | with_reducible refine Blks.set ?_ _ (by simp; omega) _)
        refine hK _ _ HGz.out ?_
        clear hK K
        refine one_readyH (i := 11) (by kernel_rfl) rfl rfl (fun K hK => ?_)
        go_simp
        refine hK _ _ HGz.out ?_
        clear hK K
        refine wpAnyH_done (by kernel_rfl) ?_ _
        exact key _ _ _ HGz
    · skip
      go_simp
      have HB12 := hide ((Blks.nil x1).more (.cells #[.int .i64 0, .int .i64 0, .int .i64 0, .int .i64 0, .int .i64 0] 35) (by simp))
      have HGx12 := hide (HGx1.out.on HB12.out.2.2)
      have hx8 := HGx1.out.2.1
      simp only [List.length_append, List.length_cons, List.length_nil] at hx8
      refine hK _ _ HGx12.out ?_
      clear hK K HGx1
      generalize x1.alloc (.cells #[.int .i64 0, .int .i64 0, .int .i64 0, .int .i64 0, .int .i64 0] 35) = x12 at *
      refine two_readyH (i := 2) (j := 7) (by kernel_rfl) rfl rfl rfl rfl (fun K hK => ?_) (fun K hK => ?_)
      · skip
        go_simp
        refine (HTa.out _ HGx12.out.2.2).mono ?_
        rintro e x13 ⟨rfl, hb⟩
        have HGx13 := hide (HGx12.out.on hb)
        have HB13 := hide (HB12.out.on hb)
        refine hK _ _ HGx13.out ?_
        clear hK K hb HGx12 HB12
        refine takesH (fuel := 4) (by kernel_rfl) (fun c d v a w h => by cases d <;> exact h) HGx13.out [3, 4, 5, 6] _ _ (by kernel_rfl) ?_
        refine wpPureH_step (.tuple #[gtV 0 0 0 none 0 0 0 none 0 0 0 0, tp 0 0 0 0 0, .int .i64 10]) rfl rfl (fun w' hS => ?_) ?_
        · go_simp
        refine wpPureH_step (gtV 0 0 0 none 0 0 0 none 0 0 0 0) rfl rfl (fun w' hS => ?_) ?_
        · go_simp
        refine wpPureH_step (tp 0 0 0 0 0) rfl rfl (fun w' hS => ?_) ?_
        · go_simp
        refine wpPureH_step (.int .i64 10) rfl rfl (fun w' hS => ?_) ?_
        · go_simp
        refine wpPureH_nil ?_
        refine one_readyH (i := 7) (by kernel_rfl) rfl rfl (fun K hK => ?_)
        go_simp
        have HA14 := hide ((Blks.nil x13).more (.cells #[.int .i64 0, .int .i64 0, .int .i64 0, .slice none 0 0, .int .i64 0, .slice none 0 0, .int .i64 0, .int .i64 0] 29) (by simp))
        have HGx14 := hide (HGx13.out.on HA14.out.2.2)
        have hn45 := HB13.out.2.1
        simp only [List.length_append, List.length_cons, List.length_nil] at hn45
        have HB14 := hide (HB13.out.on HA14.out.2.2)
        have hx7 := HGx13.out.2.1
        simp only [List.length_append, List.length_cons, List.length_nil] at hx7
        refine hK _ _ HGx14.out ?_
        clear hK K HGx13 HB13
        generalize x13.alloc (.cells #[.int .i64 0, .int .i64 0, .int .i64 0, .slice none 0 0, .int .i64 0, .slice none 0 0, .int .i64 0, .int .i64 0] 29) = x14 at *
        have r0 := HA14.out.cell 0 0 x13.heap.size _ _ _ rfl rfl rfl
        have f0 := HA14.out.frozen 0 0 x13.heap.size _ _ rfl rfl
        have r1 := HA14.out.cell 0 1 x13.heap.size _ _ _ rfl rfl rfl
        have f1 := HA14.out.frozen 0 1 x13.heap.size _ _ rfl rfl
        have r2 := HA14.out.cell 0 2 x13.heap.size _ _ _ rfl rfl rfl
        have f2 := HA14.out.frozen 0 2 x13.heap.size _ _ rfl rfl
        have r3 := HA14.out.cell 0 3 x13.heap.size _ _ _ rfl rfl rfl
        have f3 := HA14.out.frozen 0 3 x13.heap.size _ _ rfl rfl
        have r4 := HA14.out.cell 0 4 x13.heap.size _ _ _ rfl rfl rfl
        have f4 := HA14.out.frozen 0 4 x13.heap.size _ _ rfl rfl
        have r5 := HA14.out.cell 0 5 x13.heap.size _ _ _ rfl rfl rfl
        have f5 := HA14.out.frozen 0 5 x13.heap.size _ _ rfl rfl
        have r6 := HA14.out.cell 0 6 x13.heap.size _ _ _ rfl rfl rfl
        have f6 := HA14.out.frozen 0 6 x13.heap.size _ _ rfl rfl
        have r7 := HA14.out.cell 0 7 x13.heap.size _ _ _ rfl rfl rfl
        have f7 := HA14.out.frozen 0 7 x13.heap.size _ _ rfl rfl
        have s0 := HB14.out.cell 0 0 x1.heap.size _ _ _ rfl rfl rfl
        have g0 := HB14.out.frozen 0 0 x1.heap.size _ _ rfl rfl
        have s1 := HB14.out.cell 0 1 x1.heap.size _ _ _ rfl rfl rfl
        have g1 := HB14.out.frozen 0 1 x1.heap.size _ _ rfl rfl
        have s2 := HB14.out.cell 0 2 x1.heap.size _ _ _ rfl rfl rfl
        have g2 := HB14.out.frozen 0 2 x1.heap.size _ _ rfl rfl
        have s3 := HB14.out.cell 0 3 x1.heap.size _ _ _ rfl rfl rfl
        have g3 := HB14.out.frozen 0 3 x1.heap.size _ _ rfl rfl
        have s4 := HB14.out.cell 0 4 x1.heap.size _ _ _ rfl rfl rfl
        have g4 := HB14.out.frozen 0 4 x1.heap.size _ _ rfl rfl
        have hn : x13.heap.size ≠ x1.heap.size := by
          omega
        have hn' : x1.heap.size ≠ x13.heap.size := fun h => hn h.symm
        refine one_readyH (i := 9) (by kernel_rfl) rfl rfl (fun K hK => ?_)
        go_simp
        refine hK _ _ ?_ ?_
        · repeat (first | with_reducible exact HGx14.out | with_reducible refine Blks.set ?_ _ (by simp; omega) _)
        clear hK K
        refine one_readyH (i := 10) (by kernel_rfl) rfl rfl (fun K hK => ?_)
        go_simp
        have HGz : Hid (Blks w3 (((((((((((((x14.setCell ⟨x13.heap.size, 0, none⟩ (.int .i64 0)).setCell ⟨x13.heap.size, 1, none⟩ (.int .i64 0)).setCell ⟨x13.heap.size, 2, none⟩ (.int .i64 0)).setCell ⟨x13.heap.size, 3, none⟩ (.slice none 0 0)).setCell ⟨x13.heap.size, 4, none⟩ (.int .i64 0)).setCell ⟨x13.heap.size, 5, none⟩ (.slice none 0 0)).setCell ⟨x13.heap.size, 6, none⟩ (.int .i64 0)).setCell ⟨x13.heap.size, 7, none⟩ (.int .i64 0)).setCell ⟨x1.heap.size, 0, none⟩ (.int .i64 0)).setCell ⟨x1.heap.size, 1, none⟩ (.int .i64 0)).setCell ⟨x1.heap.size, 2, none⟩ (.int .i64 0)).setCell ⟨x1.heap.size, 3, none⟩ (.int .i64 0)).setCell ⟨x1.heap.size, 4, none⟩ (.int .i64 0)) ([] ++ [.cells #[.int .i64 1, .int .i64 2, .int .i64 5, .slice oa 1 ca, .int .i64 1, .slice od 1 cd, .int .i64 1, .int .i64 90] 29] ++ [.cells #[.int .i64 1, .int .i64 1, .int .i64 5, .int .i64 50, .int .i64 2] 35])) := by
          refine hide ?_
          repeat (first | with_reducible exact HGx14.out | with_reducible refine Blks.set ?_ _ (by simp; omega) _)
        refine hK _ _ HGz.out ?_
        clear hK K
        refine one_readyH (i := 11) (by kernel_rfl) rfl rfl (fun K hK => ?_)
        go_simp
        refine hK _ _ HGz.out ?_
        clear hK K
        refine wpAnyH_done (by kernel_rfl) ?_ _
        exact key _ _ _ HGz
      · skip
        go_simp
        have HA15 := hide ((Blks.nil x12).more (.cells #[.int .i64 0, .int .i64 0, .int .i64 0, .slice none 0 0, .int .i64 0, .slice none 0 0, .int .i64 0, .int .i64 0] 29) (by simp))
        have HGx15 := hide (HGx12.out.on HA15.out.2.2)
        have hn45 := HB12.out.2.1
        simp only [List.length_append, List.length_cons, List.length_nil] at hn45
        have HB15 := hide (HB12.out.on HA15.out.2.2)
        have hx7 := HGx12.out.2.1
        simp only [List.length_append, List.length_cons, List.length_nil] at hx7
        refine hK _ _ HGx15.out ?_
        clear hK K HGx12 HB12
        generalize x12.alloc (.cells #[.int .i64 0, .int .i64 0, .int .i64 0, .slice none 0 0, .int .i64 0, .slice none 0 0, .int .i64 0, .int .i64 0] 29) = x15 at *
        refine one_readyH (i := 2) (by kernel_rfl) rfl rfl (fun K hK => ?_)
        go_simp
        refine (HTa.out _ HGx15.out.2.2).mono ?_
        rintro e x16 ⟨rfl, hb⟩
        have HGx16 := hide (HGx15.out.on hb)
        have HA16 := hide (HA15.out.on hb)
        have HB16 := hide (HB15.out.on hb)
        refine hK _ _ HGx16.out ?_
        clear hK K hb HGx15 HA15 HB15
        refine takesH (fuel := 3) (by kernel_rfl) (fun c d v a w h => by cases d <;> exact h) HGx16.out [3, 4, 5, 6] _ _ (by kernel_rfl) ?_
        refine wpPureH_step (.tuple #[gtV 0 0 0 none 0 0 0 none 0 0 0 0, tp 0 0 0 0 0, .int .i64 10]) rfl rfl (fun w' hS => ?_) ?_
        · go_simp
        refine wpPureH_step (gtV 0 0 0 none 0 0 0 none 0 0 0 0) rfl rfl (fun w' hS => ?_) ?_
        · go_simp
        refine wpPureH_step (tp 0 0 0 0 0) rfl rfl (fun w' hS => ?_) ?_
        · go_simp
        refine wpPureH_step (.int .i64 10) rfl rfl (fun w' hS => ?_) ?_
        · go_simp
        refine wpPureH_nil ?_
        have r0 := HA16.out.cell 0 0 x12.heap.size _ _ _ rfl rfl rfl
        have f0 := HA16.out.frozen 0 0 x12.heap.size _ _ rfl rfl
        have r1 := HA16.out.cell 0 1 x12.heap.size _ _ _ rfl rfl rfl
        have f1 := HA16.out.frozen 0 1 x12.heap.size _ _ rfl rfl
        have r2 := HA16.out.cell 0 2 x12.heap.size _ _ _ rfl rfl rfl
        have f2 := HA16.out.frozen 0 2 x12.heap.size _ _ rfl rfl
        have r3 := HA16.out.cell 0 3 x12.heap.size _ _ _ rfl rfl rfl
        have f3 := HA16.out.frozen 0 3 x12.heap.size _ _ rfl rfl
        have r4 := HA16.out.cell 0 4 x12.heap.size _ _ _ rfl rfl rfl
        have f4 := HA16.out.frozen 0 4 x12.heap.size _ _ rfl rfl
        have r5 := HA16.out.cell 0 5 x12.heap.size _ _ _ rfl rfl rfl
        have f5 := HA16.out.frozen 0 5 x12.heap.size _ _ rfl rfl
        have r6 := HA16.out.cell 0 6 x12.heap.size _ _ _ rfl rfl rfl
        have f6 := HA16.out.frozen 0 6 x12.heap.size _ _ rfl rfl
        have r7 := HA16.out.cell 0 7 x12.heap.size _ _ _ rfl rfl rfl
        have f7 := HA16.out.frozen 0 7 x12.heap.size _ _ rfl rfl
        have s0 := HB16.out.cell 0 0 x1.heap.size _ _ _ rfl rfl rfl
        have g0 := HB16.out.frozen 0 0 x1.heap.size _ _ rfl rfl
        have s1 := HB16.out.cell 0 1 x1.heap.size _ _ _ rfl rfl rfl
        have g1 := HB16.out.frozen 0 1 x1.heap.size _ _ rfl rfl
        have s2 := HB16.out.cell 0 2 x1.heap.size _ _ _ rfl rfl rfl
        have g2 := HB16.out.frozen 0 2 x1.heap.size _ _ rfl rfl
        have s3 := HB16.out.cell 0 3 x1.heap.size _ _ _ rfl rfl rfl
        have g3 := HB16.out.frozen 0 3 x1.heap.size _ _ rfl rfl
        have s4 := HB16.out.cell 0 4 x1.heap.size _ _ _ rfl rfl rfl
        have g4 := HB16.out.frozen 0 4 x1.heap.size _ _ rfl rfl
        have hn : x12.heap.size ≠ x1.heap.size := by
          omega
        have hn' : x1.heap.size ≠ x12.heap.size := fun h => hn h.symm
        refine one_readyH (i := 9) (by kernel_rfl) rfl rfl (fun K hK => ?_)
        go_simp
        refine hK _ _ ?_ ?_
        · repeat (first | with_reducible exact HGx16.out | with_reducible refine Blks.set ?_ _ (by simp; omega) _)
        clear hK K
        refine one_readyH (i := 10) (by kernel_rfl) rfl rfl (fun K hK => ?_)
        go_simp
        have HGz : Hid (Blks w3 (((((((((((((x16.setCell ⟨x12.heap.size, 0, none⟩ (.int .i64 0)).setCell ⟨x12.heap.size, 1, none⟩ (.int .i64 0)).setCell ⟨x12.heap.size, 2, none⟩ (.int .i64 0)).setCell ⟨x12.heap.size, 3, none⟩ (.slice none 0 0)).setCell ⟨x12.heap.size, 4, none⟩ (.int .i64 0)).setCell ⟨x12.heap.size, 5, none⟩ (.slice none 0 0)).setCell ⟨x12.heap.size, 6, none⟩ (.int .i64 0)).setCell ⟨x12.heap.size, 7, none⟩ (.int .i64 0)).setCell ⟨x1.heap.size, 0, none⟩ (.int .i64 0)).setCell ⟨x1.heap.size, 1, none⟩ (.int .i64 0)).setCell ⟨x1.heap.size, 2, none⟩ (.int .i64 0)).setCell ⟨x1.heap.size, 3, none⟩ (.int .i64 0)).setCell ⟨x1.heap.size, 4, none⟩ (.int .i64 0)) ([] ++ [.cells #[.int .i64 1, .int .i64 2, .int .i64 5, .slice oa 1 ca, .int .i64 1, .slice od 1 cd, .int .i64 1, .int .i64 90] 29] ++ [.cells #[.int .i64 1, .int .i64 1, .int .i64 5, .int .i64 50, .int .i64 2] 35])) := by
          refine hide ?_
          repeat (first | with_reducible exact HGx16.out | with_reducible refine Blks.set ?_ _ (by simp; omega) _)
        refine hK _ _ HGz.out ?_
        clear hK K
        refine one_readyH (i := 11) (by kernel_rfl) rfl rfl (fun K hK => ?_)
        go_simp
        refine hK _ _ HGz.out ?_
        clear hK K
        refine wpAnyH_done (by kernel_rfl) ?_ _
        exact key _ _ _ HGz
  · skip
    go_simp
    have HA17 := hide ((Blks.nil x).more (.cells #[.int .i64 0, .int .i64 0, .int .i64 0, .slice none 0 0, .int .i64 0, .slice none 0 0, .int .i64 0, .int .i64 0] 29) (by simp))
    have HGx17 := hide (HGx.out.on HA17.out.2.2)
    have hx7 := HGx.out.2.1
    simp only [List.length_append, List.length_cons, List.length_nil] at hx7
    refine hK _ _ HGx17.out ?_
    clear hK K HGx
    generalize x.alloc (.cells #[.int .i64 0, .int .i64 0, .int .i64 0, .slice none 0 0, .int .i64 0, .slice none 0 0, .int .i64 0, .int .i64 0] 29) = x17 at *
    refine two_readyH (i := 1) (j := 8) (by kernel_rfl) rfl rfl rfl rfl (fun K hK => ?_) (fun K hK => ?_)
    · skip
      go_simp
      refine (single_any 1 _).mono ?_
      rintro e x18 ⟨rfl, hb⟩
      have HGx18 := hide (HGx17.out.on hb)
      have HA18 := hide (HA17.out.on hb)
      refine hK _ _ HGx18.out ?_
      clear hK K hb HGx17 HA17
      refine two_readyH (i := 2) (j := 8) (by kernel_rfl) rfl rfl rfl rfl (fun K hK => ?_) (fun K hK => ?_)
      · skip
        go_simp
        refine (HTa.out _ HGx18.out.2.2).mono ?_
        rintro e x19 ⟨rfl, hb⟩
        have HGx19 := hide (HGx18.out.on hb)
        have HA19 := hide (HA18.out.on hb)
        refine hK _ _ HGx19.out ?_
        clear hK K hb HGx18 HA18
        refine takesH (fuel := 4) (by kernel_rfl) (fun c d v a w h => by cases d <;> exact h) HGx19.out [3, 4, 5, 6] _ _ (by kernel_rfl) ?_
        refine wpPureH_step (.tuple #[gtV 0 0 0 none 0 0 0 none 0 0 0 0, tp 0 0 0 0 0, .int .i64 10]) rfl rfl (fun w' hS => ?_) ?_
        · go_simp
        refine wpPureH_step (gtV 0 0 0 none 0 0 0 none 0 0 0 0) rfl rfl (fun w' hS => ?_) ?_
        · go_simp
        refine wpPureH_step (tp 0 0 0 0 0) rfl rfl (fun w' hS => ?_) ?_
        · go_simp
        refine wpPureH_step (.int .i64 10) rfl rfl (fun w' hS => ?_) ?_
        · go_simp
        refine wpPureH_nil ?_
        refine one_readyH (i := 8) (by kernel_rfl) rfl rfl (fun K hK => ?_)
        go_simp
        have HB20 := hide ((Blks.nil x19).more (.cells #[.int .i64 0, .int .i64 0, .int .i64 0, .int .i64 0, .int .i64 0] 35) (by simp))
        have HGx20 := hide (HGx19.out.on HB20.out.2.2)
        have hn45 := HA19.out.2.1
        simp only [List.length_append, List.length_cons, List.length_nil] at hn45
        have HA20 := hide (HA19.out.on HB20.out.2.2)
        have hx8 := HGx19.out.2.1
        simp only [List.length_append, List.length_cons, List.length_nil] at hx8
        refine hK _ _ HGx20.out ?_
        clear hK K HGx19 HA19
        generalize x19.alloc (.cells #[.int .i64 0, .int .i64 0, .int .i64 0, .int .i64 0, .int .i64 0] 35) = x20 at *
        have r0 := HA20.out.cell 0 0 x.heap.size _ _ _ rfl rfl rfl
        have f0 := HA20.out.frozen 0 0 x.heap.size _ _ rfl rfl
        have r1 := HA20.out.cell 0 1 x.heap.size _ _ _ rfl rfl rfl
        have f1 := HA20.out.frozen 0 1 x.heap.size _ _ rfl rfl
        have r2 := HA20.out.cell 0 2 x.heap.size _ _ _ rfl rfl rfl
        have f2 := HA20.out.frozen 0 2 x.heap.size _ _ rfl rfl
        have r3 := HA20.out.cell 0 3 x.heap.size _ _ _ rfl rfl rfl
        have f3 := HA20.out.frozen 0 3 x.heap.size _ _ rfl rfl
        have r4 := HA20.out.cell 0 4 x.heap.size _ _ _ rfl rfl rfl
        have f4 := HA20.out.frozen 0 4 x.heap.size _ _ rfl rfl
        have r5 := HA20.out.cell 0 5 x.heap.size _ _ _ rfl rfl rfl
        have f5 := HA20.out.frozen 0 5 x.heap.size _ _ rfl rfl
        have r6 := HA20.out.cell 0 6 x.heap.size _ _ _ rfl rfl rfl
        have f6 := HA20.out.frozen 0 6 x.heap.size _ _ rfl rfl
        have r7 := HA20.out.cell 0 7 x.heap.size _ _ _ rfl rfl rfl
        have f7 := HA20.out.frozen 0 7 x.heap.size _ _ rfl rfl
        have s0 := HB20.out.cell 0 0 x19.heap.size _ _ _ rfl rfl rfl
        have g0 := HB20.out.frozen 0 0 x19.heap.size _ _ rfl rfl
        have s1 := HB20.out.cell 0 1 x19.heap.size _ _ _ rfl rfl rfl
        have g1 := HB20.out.frozen 0 1 x19.heap.size _ _ rfl rfl
        have s2 := HB20.out.cell 0 2 x19.heap.size _ _ _ rfl rfl rfl
        have g2 := HB20.out.frozen 0 2 x19.heap.size _ _ rfl rfl
        have s3 := HB20.out.cell 0 3 x19.heap.size _ _ _ rfl rfl rfl
        have g3 := HB20.out.frozen 0 3 x19.heap.size _ _ rfl rfl
        have s4 := HB20.out.cell 0 4 x19.heap.size _ _ _ rfl rfl rfl
        have g4 := HB20.out.frozen 0 4 x19.heap.size _ _ rfl rfl
        have hn : x.heap.size ≠ x19.heap.size := by
          omega
        have hn' : x19.heap.size ≠ x.heap.size := fun h => hn h.symm
        refine one_readyH (i := 9) (by kernel_rfl) rfl rfl (fun K hK => ?_)
        go_simp
        refine hK _ _ ?_ ?_
        · repeat (first | with_reducible exact HGx20.out | with_reducible refine Blks.set ?_ _ (by simp; omega) _)
        clear hK K
        refine one_readyH (i := 10) (by kernel_rfl) rfl rfl (fun K hK => ?_)
        go_simp
        have HGz : Hid (Blks w3 (((((((((((((x20.setCell ⟨x.heap.size, 0, none⟩ (.int .i64 0)).setCell ⟨x.heap.size, 1, none⟩ (.int .i64 0)).setCell ⟨x.heap.size, 2, none⟩ (.int .i64 0)).setCell ⟨x.heap.size, 3, none⟩ (.slice none 0 0)).setCell ⟨x.heap.size, 4, none⟩ (.int .i64 0)).setCell ⟨x.heap.size, 5, none⟩ (.slice none 0 0)).setCell ⟨x.heap.size, 6, none⟩ (.int .i64 0)).setCell ⟨x.heap.size, 7, none⟩ (.int .i64 0)).setCell ⟨x19.heap.size, 0, none⟩ (.int .i64 0)).setCell ⟨x19.heap.size, 1, none⟩ (.int .i64 0)).setCell ⟨x19.heap.size, 2, none⟩ (.int .i64 0)).setCell ⟨x19.heap.size, 3, none⟩ (.int .i64 0)).setCell ⟨x19.heap.size, 4, none⟩ (.int .i64 0)) ([] ++ [.cells #[.int .i64 1, .int .i64 2, .int .i64 5, .slice oa 1 ca, .int .i64 1, .slice od 1 cd, .int .i64 1, .int .i64 90] 29] ++ [.cells #[.int .i64 1, .int .i64 1, .int .i64 5, .int .i64 50, .int .i64 2] 35])) := by
          refine hide ?_
          repeat (first | with_reducible exact HGx20.out | with_reducible refine Blks.set ?_ _ (by simp; omega) _)
        refine hK _ _ HGz.out ?_
        clear hK K
        refine one_readyH (i := 11) (by kernel_rfl) rfl rfl (fun K hK => ?_)
        go_simp
        refine hK _ _ HGz.out ?_
        clear hK K
        refine wpAnyH_done (by kernel_rfl) ?_ _
        exact key _ _ _ HGz
      · skip
        go_simp
        have HB21 := hide ((Blks.nil x18).more (.cells #[.int .i64 0, .int .i64 0, .int .i64 0, .int .i64 0, .int .i64 0] 35) (by simp))
        have HGx21 := hide (HGx18.out.on HB21.out.2.2)
        have hn45 := HA18.out.2.1
        simp only [List.length_append, List.length_cons, List.length_nil] at hn45
        have HA21 := hide (HA18.out.on HB21.out.2.2)
        have hx8 := HGx18.out.2.1
        simp only [List.length_append, List.length_cons, List.length_nil] at hx8
        refine hK _ _ HGx21.out ?_
        clear hK K HGx18 HA18
        generalize x18.alloc (.cells #[.int .i64 0, .int .i64 0, .int .i64 0, .int .i64 0, .int .i64 0] 35) = x21 at *
        refine one_readyH (i := 2) (by kernel_rfl) rfl rfl (fun K hK => ?_)
        go_simp
        refine (HTa.out _ HGx21.out.2.2).mono ?_
        rintro e x22 ⟨rfl, hb⟩
        have HGx22 := hide (HGx21.out.on hb)
        have HA22 := hide (HA21.out.on hb)
        have HB22 := hide (HB21.out.on hb)
        refine hK _ _ HGx22.out ?_
        clear hK K hb HGx21 HA21 HB21
        refine takesH (fuel := 3) (by kernel_rfl) (fun c d v a w h => by cases d <;> exact h) HGx22.out [3, 4, 5, 6] _ _ (by kernel_rfl) ?_
        refine wpPureH_step (.tuple #[gtV 0 0 0 none 0 0 0 none 0 0 0 0, tp 0 0 0 0 0, .int .i64 10]) rfl rfl (fun w' hS => ?_) ?_
        · go_simp
        refine wpPureH_step (gtV 0 0 0 none 0 0 0 none 0 0 0 0) rfl rfl (fun w' hS => ?_) ?_
        · go_simp
        refine wpPureH_step (tp 0 0 0 0 0) rfl rfl (fun w' hS => ?_) ?_
        · go_simp
        refine wpPureH_step (.int .i64 10) rfl rfl (fun w' hS => ?_) ?_
        · go_simp
        refine wpPureH_nil ?_
        have r0 := HA22.out.cell 0 0 x.heap.size _ _ _ rfl rfl rfl
        have f0 := HA22.out.frozen 0 0 x.heap.size _ _ rfl rfl
        have r1 := HA22.out.cell 0 1 x.heap.size _ _ _ rfl rfl rfl
        have f1 := HA22.out.frozen 0 1 x.heap.size _ _ rfl rfl
        have r2 := HA22.out.cell 0 2 x.heap.size _ _ _ rfl rfl rfl
        have f2 := HA22.out.frozen 0 2 x.heap.size _ _ rfl rfl
        have r3 := HA22.out.cell 0 3 x.heap.size _ _ _ rfl rfl rfl
        have f3 := HA22.out.frozen 0 3 x.heap.size _ _ rfl rfl
        have r4 := HA22.out.cell 0 4 x.heap.size _ _ _ rfl rfl rfl
        have f4 := HA22.out.frozen 0 4 x.heap.size _ _ rfl rfl
        have r5 := HA22.out.cell 0 5 x.heap.size _ _ _ rfl rfl rfl
        have f5 := HA22.out.frozen 0 5 x.heap.size _ _ rfl rfl
        have r6 := HA22.out.cell 0 6 x.heap.size _ _ _ rfl rfl rfl
        have f6 := HA22.out.frozen 0 6 x.heap.size _ _ rfl rfl
        have r7 := HA22.out.cell 0 7 x.heap.size _ _ _ rfl rfl rfl
        have f7 := HA22.out.frozen 0 7 x.heap.size _ _ rfl rfl
        have s0 := HB22.out.cell 0 0 x18.heap.size _ _ _ rfl rfl rfl
        have g0 := HB22.out.frozen 0 0 x18.heap.size _ _ rfl rfl
        have s1 := HB22.out.cell 0 1 x18.heap.size _ _ _ rfl rfl rfl
        have g1 := HB22.out.frozen 0 1 x18.heap.size _ _ rfl rfl
        have s2 := HB22.out.cell 0 2 x18.heap.size _ _ _ rfl rfl rfl
        have g2 := HB22.out.frozen 0 2 x18.heap.size _ _ rfl rfl
        have s3 := HB22.out.cell 0 3 x18.heap.size _ _ _ rfl rfl rfl
        have g3 := HB22.out.frozen 0 3 x18.heap.size _ _ rfl rfl
        have s4 := HB22.out.cell 0 4 x18.heap.size _ _ _ rfl rfl rfl
        have g4 := HB22.out.frozen 0 4 x18.heap.size _ _ rfl rfl
        have hn : x.heap.size ≠ x18.heap.size := by
          omega
        have hn' : x18.heap.size ≠ x.heap.size := fun h => hn h.symm
        refine one_readyH (i := 9) (by kernel_rfl) rfl rfl (fun K hK => ?_)
        go_simp
        refine hK _ _ ?_ ?_
        · repeat (first | with_reducible exact HGx22.out | with_reducible refine Blks.set ?_ _ (by simp; omega) _)
        clear hK K
        refine one_readyH (i := 10) (by kernel_rfl) rfl rfl (fun K hK => ?_)
        go_simp
        have HGz : Hid (Blks w3 (((((((((((((x22.setCell ⟨x.heap.size, 0, none⟩ (.int .i64 0)).setCell ⟨x.heap.size, 1, none⟩ (.int .i64 0)).setCell ⟨x.heap.size, 2, none⟩ (.int .i64 0)).setCell ⟨x.heap.size, 3, none⟩ (.slice none 0 0)).setCell ⟨x.heap.size, 4, none⟩ (.int .i64 0)).setCell ⟨x.heap.size, 5, none⟩ (.slice none 0 0)).setCell ⟨x.heap.size, 6, none⟩ (.int .i64 0)).setCell ⟨x.heap.size, 7, none⟩ (.int .i64 0)).setCell ⟨x18.heap.size, 0, none⟩ (.int .i64 0)).setCell ⟨x18.heap.size, 1, none⟩ (.int .i64 0)).setCell ⟨x18.heap.size, 2, none⟩ (.int .i64 0)).setCell ⟨x18.heap.size, 3, none⟩ (.int .i64 0)).setCell ⟨x18.heap.size, 4, none⟩ (.int .i64 0)) ([] ++ [.cells #[.int .i64 1, .int .i64 2, .int .i64 5, .slice oa 1 ca, .int .i64 1, .slice od 1 cd, .int .i64 1, .int .i64 90] 29] ++ [.cells #[.int .i64 1, .int .i64 1, .int .i64 5, .int .i64 50, .int .i64 2] 35])) := by
          refine hide ?_
          repeat (first | with_reducible exact HGx22.out | with_reducible refine Blks.set ?_ _ (by simp; omega) _)
        refine hK _ _ HGz.out ?_
        clear hK K
        refine one_readyH (i := 11) (by kernel_rfl) rfl rfl (fun K hK => ?_)
        go_simp
        refine hK _ _ HGz.out ?_
        clear hK K
        refine wpAnyH_done (by kernel_rfl) ?_ _
        exact key _ _ _ HGz
    · skip
      go_simp
      have HB23 := hide ((Blks.nil x17).more (.cells #[.int .i64 0, .int .i64 0, .int .i64 0, .int .i64 0, .int .i64 0] 35) (by simp))
      have HGx23 := hide (HGx17.out.on HB23.out.2.2)
      have hn45 := HA17.out.2.1
      simp only [List.length_append, List.length_cons, List.length_nil] at hn45
      have HA23 := hide (HA17.out.on HB23.out.2.2)
      have hx8 := HGx17.out.2.1
      simp only [List.length_append, List.length_cons, List.length_nil] at hx8
      refine hK _ _ HGx23.out ?_
      clear hK K HGx17 HA17
      generalize x17.alloc (.cells #[.int .i64 0, .int .i64 0, .int .i64 0, .int .i64 0, .int .i64 0] 35) = x23 at *
      refine one_readyH (i := 1) (by kernel_rfl) rfl rfl (fun K hK => ?_)
      go_simp
      refine (single_any 1 _).mono ?_
      rintro e x24 ⟨rfl, hb⟩
      have HGx24 := hide (HGx23.out.on hb)
      have HA24 := hide (HA23.out.on hb)
      have HB24 := hide (HB23.out.on hb)
      refine hK _ _ HGx24.out ?_
      clear hK K hb HGx23 HA23 HB23
      refine one_readyH (i := 2) (by kernel_rfl) rfl rfl (fun K hK => ?_)
      go_simp
      refine (HTa.out _ HGx24.out.2.2).mono ?_
      rintro e x25 ⟨rfl, hb⟩
      have HGx25 := hide (HGx24.out.on hb)
      have HA25 := hide (HA24.out.on hb)
      have HB25 := hide (HB24.out.on hb)
      refine hK _ _ HGx25.out ?_
      clear hK K hb HGx24 HA24 HB24
      refine takesH (fuel := 3) (by kernel_rfl) (fun c d v a w h => by cases d <;> exact h) HGx25.out [3, 4, 5, 6] _ _ (by kernel_rfl) ?_
      refine wpPureH_step (.tuple #[gtV 0 0 0 none 0 0 0 none 0 0 0 0, tp 0 0 0 0 0, .int .i64 10]) rfl rfl (fun w' hS => ?_) ?_
      · go_simp
      refine wpPureH_step (gtV 0 0 0 none 0 0 0 none 0 0 0 0) rfl rfl (fun w' hS => ?_) ?_
      · go_simp
      refine wpPureH_step (tp 0 0 0 0 0) rfl rfl (fun w' hS => ?_) ?_
      · go_simp
      refine wpPureH_step (.int .i64 10) rfl rfl (fun w' hS => ?_) ?_
      · go_simp
      refine wpPureH_nil ?_
      have r0 := HA25.out.cell 0 0 x.heap.size _ _ _ rfl rfl rfl
      have f0 := HA25.out.frozen 0 0 x.heap.size _ _ rfl rfl
      have r1 := HA25.out.cell 0 1 x.heap.size _ _ _ rfl rfl rfl
      have f1 := HA25.out.frozen 0 1 x.heap.size _ _ rfl rfl
      have r2 := HA25.out.cell 0 2 x.heap.size _ _ _ rfl rfl rfl
      have f2 := HA25.out.frozen 0 2 x.heap.size _ _ rfl rfl
      have r3 := HA25.out.cell 0 3 x.heap.size _ _ _ rfl rfl rfl
      have f3 := HA25.out.frozen 0 3 x.heap.size _ _ rfl rfl
      have r4 := HA25.out.cell 0 4 x.heap.size _ _ _ rfl rfl rfl
      have f4 := HA25.out.frozen 0 4 x.heap.size _ _ rfl rfl
      have r5 := HA25.out.cell 0 5 x.heap.size _ _ _ rfl rfl rfl
      have f5 := HA25.out.frozen 0 5 x.heap.size _ _ rfl rfl
      have r6 := HA25.out.cell 0 6 x.heap.size _ _ _ rfl rfl rfl
      have f6 := HA25.out.frozen 0 6 x.heap.size _ _ rfl rfl
      have r7 := HA25.out.cell 0 7 x.heap.size _ _ _ rfl rfl rfl
      have f7 := HA25.out.frozen 0 7 x.heap.size _ _ rfl rfl
      have s0 := HB25.out.cell 0 0 x17.heap.size _ _ _ rfl rfl rfl
      have g0 := HB25.out.frozen 0 0 x17.heap.size _ _ rfl rfl
      have s1 := HB25.out.cell 0 1 x17.heap.size _ _ _ rfl rfl rfl
      have g1 := HB25.out.frozen 0 1 x17.heap.size _ _ rfl rfl
      have s2 := HB25.out.cell 0 2 x17.heap.size _ _ _ rfl rfl rfl
      have g2 := HB25.out.frozen 0 2 x17.heap.size _ _ rfl rfl
      have s3 := HB25.out.cell 0 3 x17.heap.size _ _ _ rfl rfl rfl
      have g3 := HB25.out.frozen 0 3 x17.heap.size _ _ rfl rfl
      have s4 := HB25.out.cell 0 4 x17.heap.size _ _ _ rfl rfl rfl
      have g4 := HB25.out.frozen 0 4 x17.heap.size _ _ rfl rfl
      have hn : x.heap.size ≠ x17.heap.size := by
        omega
      have hn' : x17.heap.size ≠ x.heap.size := fun h => hn h.symm
      refine one_readyH (i := 9) (by kernel_rfl) rfl rfl (fun K hK => ?_)
      go_simp
      refine hK _ _ ?_ ?_
      · repeat (first | with_reducible exact HGx25.out | with_reducible refine Blks.set ?_ _ (by simp; omega) _)
      clear hK K
      refine one_readyH (i := 10) (by kernel_rfl) rfl rfl (fun K hK => ?_)
      go_simp
      have HGz : Hid (Blks w3 (((((((((((((x25.setCell ⟨x.heap.size, 0, none⟩ (.int .i64 0)).setCell ⟨x.heap.size, 1, none⟩ (.int .i64 0)).setCell ⟨x.heap.size, 2, none⟩ (.int .i64 0)).setCell ⟨x.heap.size, 3, none⟩ (.slice none 0 0)).setCell ⟨x.heap.size, 4, none⟩ (.int .i64 0)).setCell ⟨x.heap.size, 5, none⟩ (.slice none 0 0)).setCell ⟨x.heap.size, 6, none⟩ (.int .i64 0)).setCell ⟨x.heap.size, 7, none⟩ (.int .i64 0)).setCell ⟨x17.heap.size, 0, none⟩ (.int .i64 0)).setCell ⟨x17.heap.size, 1, none⟩ (.int .i64 0)).setCell ⟨x17.heap.size, 2, none⟩ (.int .i64 0)).setCell ⟨x17.heap.size, 3, none⟩ (.int .i64 0)).setCell ⟨x17.heap.size, 4, none⟩ (.int .i64 0)) ([] ++ [.cells #[.int .i64 1, .int .i64 2, .int .i64 5, .slice oa 1 ca, .int .i64 1, .slice od 1 cd, .int .i64 1, .int .i64 90] 29] ++ [.cells #[.int .i64 1, .int .i64 1, .int .i64 5, .int .i64 50, .int .i64 2] 35])) := by
        refine hide ?_
        repeat (first | with_reducible exact HGx25.out | with_reducible refine Blks.set ?_ _ (by simp; omega) _)
      refine hK _ _ HGz.out ?_
      clear hK K
      refine one_readyH (i := 11) (by kernel_rfl) rfl rfl (fun K hK => ?_)
      go_simp
      refine hK _ _ HGz.out ?_
      clear hK K
      refine wpAnyH_done (by kernel_rfl) ?_ _
      exact key _ _ _ HGz
  · skip
    go_simp
    have HB26 := hide ((Blks.nil x).more (.cells #[.int .i64 0, .int .i64 0, .int .i64 0, .int .i64 0, .int .i64 0] 35) (by simp))
    have HGx26 := hide (HGx.out.on HB26.out.2.2)
    have hx8 := HGx.out.2.1
    simp only [List.length_append, List.length_cons, List.length_nil] at hx8
    refine hK _ _ HGx26.out ?_
    clear hK K HGx
    generalize x.alloc (.cells #[.int .i64 0, .int .i64 0, .int .i64 0, .int .i64 0, .int .i64 0] 35) = x26 at *
    refine two_readyH (i := 1) (j := 7) (by kernel_rfl) rfl rfl rfl rfl (fun K hK => ?_) (fun K hK => ?_)
    · skip
      go_simp
      refine (single_any 1 _).mono ?_
      rintro e x27 ⟨rfl, hb⟩
      have HGx27 := hide (HGx26.out.on hb)
      have HB27 := hide (HB26.out.on hb)
      refine hK _ _ HGx27.out ?_
      clear hK K hb HGx26 HB26
      refine two_readyH (i := 2) (j := 7) (by kernel_rfl) rfl rfl rfl rfl (fun K hK => ?_) (fun K hK => ?_)
      · skip
        go_simp
        refine (HTa.out _ HGx27.out.2.2).mono ?_
        rintro e x28 ⟨rfl, hb⟩
        have HGx28 := hide (HGx27.out.on hb)
        have HB28 := hide (HB27.out.on hb)
        refine hK _ _ HGx28.out ?_
        clear hK K hb HGx27 HB27
        refine takesH (fuel := 4) (by kernel_rfl) (fun c d v a w h => by cases d <;> exact h) HGx28.out [3, 4, 5, 6] _ _ (by kernel_rfl) ?_
        refine wpPureH_step (.tuple #[gtV 0 0 0 none 0 0 0 none 0 0 0 0, tp 0 0 0 0 0, .int .i64 10]) rfl rfl (fun w' hS => ?_) ?_
        · go_simp
        refine wpPureH_step (gtV 0 0 0 none 0 0 0 none 0 0 0 0) rfl rfl (fun w' hS => ?_) ?_
        · go_simp
        refine wpPureH_step (tp 0 0 0 0 0) rfl rfl (fun w' hS => ?_) ?_
        · go_simp
        refine wpPureH_step (.int .i64 10) rfl rfl (fun w' hS => ?_) ?_
        · go_simp
        refine wpPureH_nil ?_
        refine one_readyH (i := 7) (by kernel_rfl) rfl rfl (fun K hK => ?_)
        go_simp
        have HA29 := hide ((Blks.nil x28).more (.cells #[.int .i64 0, .int .i64 0, .int .i64 0, .slice none 0 0, .int .i64 0, .slice none 0 0, .int .i64 0, .int .i64 0] 29) (by simp))
        have HGx29 := hide (HGx28.out.on HA29.out.2.2)
        have hn45 := HB28.out.2.1
        simp only [List.length_append, List.length_cons, List.length_nil] at hn45
        have HB29 := hide (HB28.out.on HA29.out.2.2)
        have hx7 := HGx28.out.2.1
        simp only [List.length_append, List.length_cons, List.length_nil] at hx7
        refine hK _ _ HGx29.out ?_
        clear hK K HGx28 HB28
        generalize x28.alloc (.cells #[.int .i64 0, .int .i64 0, .int .i64 0, .slice none 0 0, .int .i64 0, .slice none 0 0, .int .i64 0, .int .i64 0] 29) = x29 at *
        have r0 := HA29.out.cell 0 0 x28.heap.size _ _ _ rfl rfl rfl
        have f0 := HA29.out.frozen 0 0 x28.heap.size _ _ rfl rfl
        have r1 := HA29.out.cell 0 1 x28.heap.size _ _ _ rfl rfl rfl
        have f1 := HA29.out.frozen 0 1 x28.heap.size _ _ rfl rfl
        have r2 := HA29.out.cell 0 2 x28.heap.size _ _ _ rfl rfl rfl
        have f2 := HA29.out.frozen 0 2 x28.heap.size _ _ rfl rfl
        have r3 := HA29.out.cell 0 3 x28.heap.size _ _ _ rfl rfl rfl
        have f3 := HA29.out.frozen 0 3 x28.heap.size _ _ rfl rfl
        have r4 := HA29.out.cell 0 4 x28.heap.size _ _ _ rfl rfl rfl
        have f4 := HA29.out.frozen 0 4 x28.heap.size _ _ rfl rfl
        have r5 := HA29.out.cell 0 5 x28.heap.size _ _ _ rfl rfl rfl
        have f5 := HA29.out.frozen 0 5 x28.heap.size _ _ rfl rfl
        have r6 := HA29.out.cell 0 6 x28.heap.size _ _ _ rfl rfl rfl
        have f6 := HA29.out.frozen 0 6 x28.heap.size _ _ rfl rfl
        have r7 := HA29.out.cell 0 7 x28.heap.size _ _ _ rfl rfl rfl
        have f7 := HA29.out.frozen 0 7 x28.heap.size _ _ rfl rfl
        have s0 := HB29.out.cell 0 0 x.heap.size _ _ _ rfl rfl rfl
        have g0 := HB29.out.frozen 0 0 x.heap.size _ _ rfl rfl
        have s1 := HB29.out.cell 0 1 x.heap.size _ _ _ rfl rfl rfl
        have g1 := HB29.out.frozen 0 1 x.heap.size _ _ rfl rfl
        have s2 := HB29.out.cell 0 2 x.heap.size _ _ _ rfl rfl rfl
        have g2 := HB29.out.frozen 0 2 x.heap.size _ _ rfl rfl
        have s3 := HB29.out.cell 0 3 x.heap.size _ _ _ rfl rfl rfl
        have g3 := HB29.out.frozen 0 3 x.heap.size _ _ rfl rfl
        have s4 := HB29.out.cell 0 4 x.heap.size _ _ _ rfl rfl rfl
        have g4 := HB29.out.frozen 0 4 x.heap.size _ _ rfl rfl
        have hn : x28.heap.size ≠ x.heap.size := by
          omega
        have hn' : x.heap.size ≠ x28.heap.size := fun h => hn h.symm
        refine one_readyH (i := 9) (by kernel_rfl) rfl rfl (fun K hK => ?_)
        go_simp
        refine hK _ _ ?_ ?_
        · repeat (first | with_reducible exact HGx29.out | with_reducible refine Blks.set ?_ _ (by simp; omega) _)
        clear hK K
        refine one_readyH (i := 10) (by kernel_rfl) rfl rfl (fun K hK => ?_)
        go_simp
        have HGz : Hid (Blks w3 (((((((((((((x29.setCell ⟨x28.heap.size, 0, none⟩ (.int .i64 0)).setCell ⟨x28.heap.size, 1, none⟩ (.int .i64 0)).setCell ⟨x28.heap.size, 2, none⟩ (.int .i64 0)).setCell ⟨x28.heap.size, 3, none⟩ (.slice none 0 0)).setCell ⟨x28.heap.size, 4, none⟩ (.int .i64 0)).setCell ⟨x28.heap.size, 5, none⟩ (.slice none 0 0)).setCell ⟨x28.heap.size, 6, none⟩ (.int .i64 0)).setCell ⟨x28.heap.size, 7, none⟩ (.int .i64 0)).setCell ⟨x.heap.size, 0, none⟩ (.int .i64 0)).setCell ⟨x.heap.size, 1, none⟩ (.int .i64 0)).setCell ⟨x.heap.size, 2, none⟩ (.int .i64 0)).setCell ⟨x.heap.size, 3, none⟩ (.int .i64 0)).setCell ⟨x.heap.size, 4, none⟩ (.int .i64 0)) ([] ++ [.cells #[.int .i64 1, .int .i64 2, .int .i64 5, .slice oa 1 ca, .int .i64 1, .slice od 1 cd, .int .i64 1, .int .i64 90] 29] ++ [.cells #[.int .i64 1, .int .i64 1, .int .i64 5, .int .i64 50, .int .i64 2] 35])) := by
          refine hide ?_
          repeat (first | with_reducible exact HGx29.out | with_reducible refine Blks.set ?_ _ (by simp; omega) _)
        refine hK _ _ HGz.out ?_
        clear hK K
        refine one_readyH (i := 11) (by kernel_rfl) rfl rfl (fun K hK => ?_)
        go_simp
        refine hK _ _ HGz.out ?_
        clear hK K
        refine wpAnyH_done (by kernel_rfl) ?_ _
        exact key _ _ _ HGz
      · skip
        go_simp
        have HA30 := hide ((Blks.nil x27).more (.cells #[.int .i64 0, .int .i64 0, .int .i64 0, .slice none 0 0, .int .i64 0, .slice none 0 0, .int .i64 0, .int .i64 0] 29) (by simp))
        have HGx30 := hide (HGx27.out.on HA30.out.2.2)
        have hn45 := HB27.out.2.1
        simp only [List.length_append, List.length_cons, List.length_nil] at hn45
        have HB30 := hide (HB27.out.on HA30.out.2.2)
        have hx7 := HGx27.out.2.1
        simp only [List.length_append, List.length_cons, List.length_nil] at hx7
        refine hK _ _ HGx30.out ?_
        clear hK K HGx27 HB27
        generalize x27.alloc (.cells #[.int .i64 0, .int .i64 0, .int .i64 0, .slice none 0 0, .int .i64 0, .slice none 0 0, .int .i64 0, .int .i64 0] 29) = x30 at *
        refine one_readyH (i := 2) (by kernel_rfl) rfl rfl (fun K hK => ?_)
        go_simp
        refine (HTa.out _ HGx30.out.2.2).mono ?_
        rintro e x31 ⟨rfl, hb⟩
        have HGx31 := hide (HGx30.out.on hb)
        have HA31 := hide (HA30.out.on hb)
        have HB31 := hide (HB30.out.on hb)
        refine hK _ _ HGx31.out ?_
        clear hK K hb HGx30 HA30 HB30
        refine takesH (fuel := 3) (by kernel_rfl) (fun c d v a w h => by cases d <;> exact h) HGx31.out [3, 4, 5, 6] _ _ (by kernel_rfl) ?_
        refine wpPureH_step (.tuple #[gtV 0 0 0 none 0 0 0 none 0 0 0 0, tp 0 0 0 0 0, .int .i64 10]) rfl rfl (fun w' hS => ?_) ?_
        · go_simp
        refine wpPureH_step (gtV 0 0 0 none 0 0 0 none 0 0 0 0) rfl rfl (fun w' hS => ?_) ?_
        · go_simp
        refine wpPureH_step (tp 0 0 0 0 0) rfl rfl (fun w' hS => ?_) ?_
        · go_simp
        refine wpPureH_step (.int .i64 10) rfl rfl (fun w' hS => ?_) ?_
        · go_simp
        refine wpPureH_nil ?_
        have r0 := HA31.out.cell 0 0 x27.heap.size _ _ _ rfl rfl rfl
        have f0 := HA31.out.frozen 0 0 x27.heap.size _ _ rfl rfl
        have r1 := HA31.out.cell 0 1 x27.heap.size _ _ _ rfl rfl rfl
        have f1 := HA31.out.frozen 0 1 x27.heap.size _ _ rfl rfl
        have r2 := HA31.out.cell 0 2 x27.heap.size _ _ _ rfl rfl rfl
        have f2 := HA31.out.frozen 0 2 x27.heap.size _ _ rfl rfl
        have r3 := HA31.out.cell 0 3 x27.heap.size _ _ _ rfl rfl rfl
        have f3 := HA31.out.frozen 0 3 x27.heap.size _ _ rfl rfl
        have r4 := HA31.out.cell 0 4 x27.heap.size _ _ _ rfl rfl rfl
        have f4 := HA31.out.frozen 0 4 x27.heap.size _ _ rfl rfl
        have r5 := HA31.out.cell 0 5 x27.heap.size _ _ _ rfl rfl rfl
        have f5 := HA31.out.frozen 0 5 x27.heap.size _ _ rfl rfl
        have r6 := HA31.out.cell 0 6 x27.heap.size _ _ _ rfl rfl rfl
        have f6 := HA31.out.frozen 0 6 x27.heap.size _ _ rfl rfl
        have r7 := HA31.out.cell 0 7 x27.heap.size _ _ _ rfl rfl rfl
        have f7 := HA31.out.frozen 0 7 x27.heap.size _ _ rfl rfl
        have s0 := HB31.out.cell 0 0 x.heap.size _ _ _ rfl rfl rfl
        have g0 := HB31.out.frozen 0 0 x.heap.size _ _ rfl rfl
        have s1 := HB31.out.cell 0 1 x.heap.size _ _ _ rfl rfl rfl
        have g1 := HB31.out.frozen 0 1 x.heap.size _ _ rfl rfl
        have s2 := HB31.out.cell 0 2 x.heap.size _ _ _ rfl rfl rfl
        have g2 := HB31.out.frozen 0 2 x.heap.size _ _ rfl rfl
        have s3 := HB31.out.cell 0 3 x.heap.size _ _ _ rfl rfl rfl
        have g3 := HB31.out.frozen 0 3 x.heap.size _ _ rfl rfl
        have s4 := HB31.out.cell 0 4 x.heap.size _ _ _ rfl rfl rfl
        have g4 := HB31.out.frozen 0 4 x.heap.size _ _ rfl rfl
        have hn : x27.heap.size ≠ x.heap.size := by
          omega
        have hn' : x.heap.size ≠ x27.heap.size := fun h => hn h.symm
        refine one_readyH (i := 9) (by kernel_rfl) rfl rfl (fun K hK => ?_)
        go_simp
        refine hK _ _ ?_ ?_
        · repeat (first | with_reducible exact HGx31.out | with_reducible refine Blks.set ?_ _ (by simp; omega) _)
        clear hK K
        refine one_readyH (i := 10) (by kernel_rfl) rfl rfl (fun K hK => ?_)
        go_simp
        have HGz : Hid (Blks w3 (((((((((((((x31.setCell ⟨x27.heap.size, 0, none⟩ (.int .i64 0)).setCell ⟨x27.heap.size, 1, none⟩ (.int .i64 0)).setCell ⟨x27.heap.size, 2, none⟩ (.int .i64 0)).setCell ⟨x27.heap.size, 3, none⟩ (.slice none 0 0)).setCell ⟨x27.heap.size, 4, none⟩ (.int .i64 0)).setCell ⟨x27.heap.size, 5, none⟩ (.slice none 0 0)).setCell ⟨x27.heap.size, 6, none⟩ (.int .i64 0)).setCell ⟨x27.heap.size, 7, none⟩ (.int .i64 0)).setCell ⟨x.heap.size, 0, none⟩ (.int .i64 0)).setCell ⟨x.heap.size, 1, none⟩ (.int .i64 0)).setCell ⟨x.heap.size, 2, none⟩ (.int .i64 0)).setCell ⟨x.heap.size, 3, none⟩ (.int .i64 0)).setCell ⟨x.heap.size, 4, none⟩ (.int .i64 0)) ([] ++ [.cells #[.int .i64 1, .int .i64 2, .int .i64 5, .slice oa 1 ca, .int .i64 1, .slice od 1 cd, .int .i64 1, .int .i64 90] 29] ++ [.cells #[.int .i64 1, .int .i64 1, .int .i64 5, .int .i64 50, .int .i64 2] 35])) := by
          refine hide ?_
          repeat (first | with_reducible exact HGx31.out | with_reducible refine Blks.set ?_ _ (by simp; omega) _)
        refine hK _ _ HGz.out ?_
        clear hK K
        refine one_readyH (i := 11) (by kernel_rfl) rfl rfl (fun K hK => ?_)
        go_simp
        refine hK _ _ HGz.out ?_
        clear hK K
        refine wpAnyH_done (by kernel_rfl) ?_ _
        exact key _ _ _ HGz
    · skip
      go_simp
      have HA32 := hide ((Blks.nil x26).more (.cells #[.int .i64 0, .int .i64 0, .int .i64 0, .slice none 0 0, .int .i64 0, .slice none 0 0, .int .i64 0, .int .i64 0] 29) (by simp))
      have HGx32 := hide (HGx26.out.on HA32.out.2.2)
      have hn45 := HB26.out.2.1
      simp only [List.length_append, List.length_cons, List.length_nil] at hn45
      have HB32 := hide (HB26.out.on HA32.out.2.2)
      have hx7 := HGx26.out.2.1
      simp only [List.length_append, List.length_cons, List.length_nil] at hx7
      refine hK _ _ HGx32.out ?_
      clear hK K HGx26 HB26
      generalize x26.alloc (.cells #[.int .i64 0, .int .i64 0, .int .i64 0, .slice none 0 0, .int .i64 0, .slice none 0 0, .int .i64 0, .int .i64 0] 29) = x32 at *
      refine one_readyH (i := 1) (by kernel_rfl) rfl rfl (fun K hK => ?_)
      go_simp
      refine (single_any 1 _).mono ?_
      rintro e x33 ⟨rfl, hb⟩
      have HGx33 := hide (HGx32.out.on hb)
      have HA33 := hide (HA32.out.on hb)
      have HB33 := hide (HB32.out.on hb)
      refine hK _ _ HGx33.out ?_
      clear hK K hb HGx32 HA32 HB32
      refine one_readyH (i := 2) (by kernel_rfl) rfl rfl (fun K hK => ?_)
      go_simp
      refine (HTa.out _ HGx33.out.2.2).mono ?_
      rintro e x34 ⟨rfl, hb⟩
      have HGx34 := hide (HGx33.out.on hb)
      have HA34 := hide (HA33.out.on hb)
      have HB34 := hide (HB33.out.on hb)
      refine hK _ _ HGx34.out ?_
      clear hK K hb HGx33 HA33 HB33
      refine takesH (fuel := 3) (by kernel_rfl) (fun c d v a w h => by cases d <;> exact h) HGx34.out [3, 4, 5, 6] _ _ (by kernel_rfl) ?_
      refine wpPureH_step (.tuple #[gtV 0 0 0 none 0 0 0 none 0 0 0 0, tp 0 0 0 0 0, .int .i64 10]) rfl rfl (fun w' hS => ?_) ?_
      · go_simp
      refine wpPureH_step (gtV 0 0 0 none 0 0 0 none 0 0 0 0) rfl rfl (fun w' hS => ?_) ?_
      · go_simp
      refine wpPureH_step (tp 0 0 0 0 0) rfl rfl (fun w' hS => ?_) ?_
      · go_simp
      refine wpPureH_step (.int .i64 10) rfl rfl (fun w' hS => ?_) ?_
      · go_simp
      refine wpPureH_nil ?_
      have r0 := HA34.out.cell 0 0 x26.heap.size _ _ _ rfl rfl rfl
      have f0 := HA34.out.frozen 0 0 x26.heap.size _ _ rfl rfl
      have r1 := HA34.out.cell 0 1 x26.heap.size _ _ _ rfl rfl rfl
      have f1 := HA34.out.frozen 0 1 x26.heap.size _ _ rfl rfl
      have r2 := HA34.out.cell 0 2 x26.heap.size _ _ _ rfl rfl rfl
      have f2 := HA34.out.frozen 0 2 x26.heap.size _ _ rfl rfl
      have r3 := HA34.out.cell 0 3 x26.heap.size _ _ _ rfl rfl rfl
      have f3 := HA34.out.frozen 0 3 x26.heap.size _ _ rfl rfl
      have r4 := HA34.out.cell 0 4 x26.heap.size _ _ _ rfl rfl rfl
      have f4 := HA34.out.frozen 0 4 x26.heap.size _ _ rfl rfl
      have r5 := HA34.out.cell 0 5 x26.heap.size _ _ _ rfl rfl rfl
      have f5 := HA34.out.frozen 0 5 x26.heap.size _ _ rfl rfl
      have r6 := HA34.out.cell 0 6 x26.heap.size _ _ _ rfl rfl rfl
      have f6 := HA34.out.frozen 0 6 x26.heap.size _ _ rfl rfl
      have r7 := HA34.out.cell 0 7 x26.heap.size _ _ _ rfl rfl rfl
      have f7 := HA34.out.frozen 0 7 x26.heap.size _ _ rfl rfl
      have s0 := HB34.out.cell 0 0 x.heap.size _ _ _ rfl rfl rfl
      have g0 := HB34.out.frozen 0 0 x.heap.size _ _ rfl rfl
      have s1 := HB34.out.cell 0 1 x.heap.size _ _ _ rfl rfl rfl
      have g1 := HB34.out.frozen 0 1 x.heap.size _ _ rfl rfl
      have s2 := HB34.out.cell 0 2 x.heap.size _ _ _ rfl rfl rfl
      have g2 := HB34.out.frozen 0 2 x.heap.size _ _ rfl rfl
      have s3 := HB34.out.cell 0 3 x.heap.size _ _ _ rfl rfl rfl
      have g3 := HB34.out.frozen 0 3 x.heap.size _ _ rfl rfl
      have s4 := HB34.out.cell 0 4 x.heap.size _ _ _ rfl rfl rfl
      have g4 := HB34.out.frozen 0 4 x.heap.size _ _ rfl rfl
      have hn : x26.heap.size ≠ x.heap.size := by
        omega
      have hn' : x.heap.size ≠ x26.heap.size := fun h => hn h.symm
      refine one_readyH (i := 9) (by kernel_rfl) rfl rfl (fun K hK => ?_)
      go_simp
      refine hK _ _ ?_ ?_
      · repeat (first | with_reducible exact HGx34.out | with_reducible refine Blks.set ?_ _ (by simp; omega) _)
      clear hK K
      refine one_readyH (i := 10) (by kernel_rfl) rfl rfl (fun K hK => ?_)
      go_simp
      have HGz : Hid (Blks w3 (((((((((((((x34.setCell ⟨x26.heap.size, 0, none⟩ (.int .i64 0)).setCell ⟨x26.heap.size, 1, none⟩ (.int .i64 0)).setCell ⟨x26.heap.size, 2, none⟩ (.int .i64 0)).setCell ⟨x26.heap.size, 3, none⟩ (.slice none 0 0)).setCell ⟨x26.heap.size, 4, none⟩ (.int .i64 0)).setCell ⟨x26.heap.size, 5, none⟩ (.slice none 0 0)).setCell ⟨x26.heap.size, 6, none⟩ (.int .i64 0)).setCell ⟨x26.heap.size, 7, none⟩ (.int .i64 0)).setCell ⟨x.heap.size, 0, none⟩ (.int .i64 0)).setCell ⟨x.heap.size, 1, none⟩ (.int .i64 0)).setCell ⟨x.heap.size, 2, none⟩ (.int .i64 0)).setCell ⟨x.heap.size, 3, none⟩ (.int .i64 0)).setCell ⟨x.heap.size, 4, none⟩ (.int .i64 0)) ([] ++ [.cells #[.int .i64 1, .int .i64 2, .int .i64 5, .slice oa 1 ca, .int .i64 1, .slice od 1 cd, .int .i64 1, .int .i64 90] 29] ++ [.cells #[.int .i64 1, .int .i64 1, .int .i64 5, .int .i64 50, .int .i64 2] 35])) := by
        refine hide ?_
        repeat (first | with_reducible exact HGx34.out | with_reducible refine Blks.set ?_ _ (by simp; omega) _)
      refine hK _ _ HGz.out ?_
      clear hK K
      refine one_readyH (i := 11) (by kernel_rfl) rfl rfl (fun K hK => ?_)
      go_simp
      refine hK _ _ HGz.out ?_
      clear hK K
      refine wpAnyH_done (by kernel_rfl) ?_ _
      exact key _ _ _ HGz
end Go.Proofs.Ytlnmheooicancaa
