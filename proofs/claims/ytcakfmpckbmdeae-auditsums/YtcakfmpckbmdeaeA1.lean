/-
  What is counted: 'count' with the literals of 'Gate' and of 'Between', 'allRides' (package audit).
-/
import Derived.Test.YtcakfmpckbmdeaeL8
import Derived.Test.YtcakfmpckbmdeaeG0
namespace Go.Proofs.Ytcakfmpckbmdeae
open Go.RowKit

theorem gate1_any (p : TP) (gate : Int) (B : Nat) (w : World) (hc : w.cell? ⟨B, 0, none⟩ = some (.int .i64 gate)) :
    Calls Try.prog 55 #[tp p.a p.g p.s p.m p.z, .pointer (some ⟨B, 0, none⟩)] w fun e w' => e = .returned (.bool (p.g == gate)) ∧ Below w.heap.size w w' := by
  have hlt := World.block_lt_of_cell? w ⟨B, 0, none⟩ hc
  go_enter Try.func55, Try.ntmps55
  go_wp2_with fail
  go_ret
  exact ⟨rfl, (Below.refl _ _).alloc (Nat.le_refl _) _⟩

theorem between1_any (p : TP) (x y : Int) (B : Nat) (w : World) (hc : w.cell? ⟨B, 0, none⟩ = some (.int .i64 x)) (hd : w.cell? ⟨B + 1, 0, none⟩ = some (.int .i64 y)) :
    Calls Try.prog 57 #[tp p.a p.g p.s p.m p.z, .pointer (some ⟨B, 0, none⟩), .pointer (some ⟨B + 1, 0, none⟩)] w fun e w' => e = .returned (.bool (wi p.m x y)) ∧ Below w.heap.size w w' := by
  have hlt := World.block_lt_of_cell? w ⟨B, 0, none⟩ hc
  have hlt2 := World.block_lt_of_cell? w ⟨B + 1, 0, none⟩ hd
  go_enter Try.func57, Try.ntmps57
  go_wp2_with fail
  refine (within_any _ _ _ _).mono ?_
  rintro e w1 ⟨rfl, rfl⟩
  go_wp2_with fail
  go_ret
  exact ⟨rfl, (Below.refl _ _).alloc (Nat.le_refl _) _⟩

/-- how many of the taps that are meant have a verdict -/
def cnt (f : TP → Bool) (X : List (TP × Int)) (v : Int) : Int := ((X.filter fun x => f x.1 && x.2 == v).length : Int)

theorem cnt_snoc (f : TP → Bool) (X : List (TP × Int)) (x : TP × Int) (v : Int) : cnt f (X ++ [x]) v = cnt f X v + if (f x.1 && x.2 == v) = true then 1 else 0 := by
  unfold cnt
  rw [List.filter_append, List.length_append]
  by_cases h : (f x.1 && x.2 == v) = true
  · simp only [List.filter_cons, h, if_true, List.filter_nil, List.length_cons, List.length_nil]
    omega
  · simp only [List.filter_cons, h, List.filter_nil]
    simp

theorem cnt_bound (f : TP → Bool) (X : List (TP × Int)) (v : Int) : 0 ≤ cnt f X v ∧ cnt f X v ≤ X.length := by
  unfold cnt
  have := List.length_filter_le (fun x : TP × Int => f x.1 && x.2 == v) X
  omega

abbrev cA (a b c : Int) : Obj := .cells #[.int .i64 a, .int .i64 b, .int .i64 c] 92

set_option maxHeartbeats 3200000 in
theorem countGate_any (P : List TP) (V : List Int) (gate : Int) (B : Nat) (o1 o2 o3 : Option Addr) (n1 c1 c2 c3 : Nat) (w : World) (hP : TapsAt w o2 P) (hV : IntsAt w o3 V) (hlen : P.length ≤ 60) (hlv : V.length = P.length) (hv12 : ∀ v ∈ V, v = 1 ∨ v = 2) (hc : w.cell? ⟨B, 0, none⟩ = some (.int .i64 gate)) :
    Calls Try.prog 54 #[lg o1 o2 o3 n1 c1 P.length c2 V.length c3, .func (.func 55) #[] #[.pointer (some ⟨B, 0, none⟩)]] w fun e w' =>
      e = .returned (.agg #[.int .i64 0, .int .i64 (cnt (fun p => p.g == gate) (P.zip V) 1), .int .i64 (cnt (fun p => p.g == gate) (P.zip V) 2)]) ∧ Below w.heap.size w w' := by
  have HP := hide hP
  have HV := hide hV
  have hlen2 : V.length ≤ 60 := by omega
  have HLV := hide hlv
  have H12 := hide hv12
  have hBl := World.block_lt_of_cell? w ⟨B, 0, none⟩ hc
  have HF : Hid (∀ (p : TP) (W : World), Below w.heap.size w W → Calls Try.prog 55 #[tp p.a p.g p.s p.m p.z, .pointer (some ⟨B, 0, none⟩)] W fun e w' => e = .returned (.bool ((fun p : TP => p.g == gate) p)) ∧ Below W.heap.size W w') := hide (fun p W h => gate1_any p gate B W (by rw [h.cell (p := ⟨B, 0, none⟩) hBl]; exact hc))
  generalize hf : (fun p : TP => p.g == gate) = f at HF ⊢
  clear hP hV hlv hv12 hc
  go_enter Try.func54, Try.ntmps54
  go_wp2_with fail
  go_loopw [11] (fun j wr => ∃ (q : Nat), q ≤ P.length ∧ j = .int .i64 q ∧ Blks w wr [cL o1 o2 o3 n1 c1 P.length c2 V.length c3 26, cA 0 0 0, cA 0 (cnt f ((P.zip V).take q) 1) (cnt f ((P.zip V).take q) 2)]) (fun j _ => P.length - (intOf j).toNat)
  case atStart =>
    refine ⟨0, Nat.zero_le _, rfl, ?_⟩
    exact ((((Blks.nil w).more _ (by simp)).more _ (by simp)).more _ (by simp))
  case round =>
    obtain ⟨q, hq, rfl, hB⟩ := hrel
    have HB := hide hB
    clear hB
    have d0 := HB.out.cell 0 0 w.heap.size _ _ _ rfl rfl rfl
    have d1 := HB.out.cell 0 1 w.heap.size _ _ _ rfl rfl rfl
    have d2 := HB.out.cell 0 2 w.heap.size _ _ _ rfl rfl rfl
    have l0 := HB.out.lt 0 w.heap.size (by simp) rfl
    have l1 := HB.out.lt 1 (w.heap.size + 1) (by simp) rfl
    have l2 := HB.out.lt 2 (w.heap.size + 1 + 1) (by simp) rfl
    have r0 := HB.out.cell 1 0 (w.heap.size + 1) _ _ _ rfl rfl rfl
    have r1 := HB.out.cell 1 1 (w.heap.size + 1) _ _ _ rfl rfl rfl
    have r2 := HB.out.cell 1 2 (w.heap.size + 1) _ _ _ rfl rfl rfl
    have t0 := HB.out.frozen 1 0 (w.heap.size + 1) _ _ rfl rfl
    have t1 := HB.out.frozen 1 1 (w.heap.size + 1) _ _ rfl rfl
    have t2 := HB.out.frozen 1 2 (w.heap.size + 1) _ _ rfl rfl
    have g0 := HB.out.cell 2 0 (w.heap.size + 1 + 1) _ _ _ rfl rfl rfl
    have g1 := HB.out.cell 2 1 (w.heap.size + 1 + 1) _ _ _ rfl rfl rfl
    have g2 := HB.out.cell 2 2 (w.heap.size + 1 + 1) _ _ _ rfl rfl rfl
    by_cases hlt : q < P.length
    · obtain ⟨p, hp⟩ : ∃ p, P[q]? = some p := ⟨P[q], by simp [hlt]⟩
      obtain ⟨v, hv⟩ : ∃ v, V[q]? = some v := ⟨V[q]'(by have := HLV.out; omega), by simp⟩
      have hz : (P.zip V)[q]? = some (p, v) := by rw [List.getElem?_zip_eq_some]; exact ⟨hp, hv⟩
      have HS1 : Hid (cnt f ((P.zip V).take (q + 1)) 1 = cnt f ((P.zip V).take q) 1 + if (f p && v == 1) = true then 1 else 0) := by
        show _ = _
        rw [List.take_add_one, hz, Option.toList_some, cnt_snoc]
      have HS2 : Hid (cnt f ((P.zip V).take (q + 1)) 2 = cnt f ((P.zip V).take q) 2 + if (f p && v == 2) = true then 1 else 0) := by
        show _ = _
        rw [List.take_add_one, hz, Option.toList_some, cnt_snoc]
      have b1 := cnt_bound f ((P.zip V).take q) 1
      have b2 := cnt_bound f ((P.zip V).take q) 2
      have hl : ((P.zip V).take q).length ≤ 60 := by rw [List.length_take]; omega
      have hvv := H12.out v (List.mem_of_getElem? hv)
      obtain ⟨A, rfl, e0, e1, e2, e3, e4⟩ := (HP.out.below HB.out.2.2) q p hp
      obtain ⟨A3, rfl, f0⟩ := (HV.out.below HB.out.2.2) q v hv
      have hA : (A.add (q * 5)).block < wr.heap.size := World.block_lt_of_cell? wr (A.add (q * 5)) e0
      have hA3 : (A3.add q).block < wr.heap.size := World.block_lt_of_cell? wr (A3.add q) f0
      have hvl : q < V.length := by have := HLV.out; omega
      clear hp hv hz
      generalize cnt f ((P.zip V).take q) 1 = C1 at *
      generalize cnt f ((P.zip V).take q) 2 = C2 at *
      obtain ⟨b1, b1'⟩ := b1
      obtain ⟨b2, b2'⟩ := b2
      go_wp2_with fail
      refine (HF.out p _ (HB.out.2.2.alloc HB.out.2.2.size _)).mono ?_
      rintro e w1 ⟨rfl, hb⟩
      have HB1 := hide ((HB.out.on ((Below.refl _ _).alloc (Nat.le_refl _) _)).on hb)
      have k3 : w1.cell? (A3.add q) = some (.int .i64 v) := by
        rw [hb.cell (p := A3.add q) (by simp; omega), ((Below.refl wr.heap.size wr).alloc (Nat.le_refl _) _).cell (p := A3.add q) hA3]
        exact f0
      clear hb d0 d1 d2 r0 r1 r2 t0 t1 t2 g0 g1 g2 e0 e1 e2 e3 e4 f0 hA hA3
      have d0 := HB1.out.cell 0 0 w.heap.size _ _ _ rfl rfl rfl
      have d1 := HB1.out.cell 0 1 w.heap.size _ _ _ rfl rfl rfl
      have d2 := HB1.out.cell 0 2 w.heap.size _ _ _ rfl rfl rfl
      have g0 := HB1.out.cell 2 0 (w.heap.size + 1 + 1) _ _ _ rfl rfl rfl
      have g1 := HB1.out.cell 2 1 (w.heap.size + 1 + 1) _ _ _ rfl rfl rfl
      have g2 := HB1.out.cell 2 2 (w.heap.size + 1 + 1) _ _ _ rfl rfl rfl
      have t1 := HB1.out.frozen 2 1 (w.heap.size + 1 + 1) _ _ rfl rfl
      have t2 := HB1.out.frozen 2 2 (w.heap.size + 1 + 1) _ _ rfl rfl
      cases hfp : f p
      · have q1 := HS1.out
        have q2 := HS2.out
        rw [hfp] at q1 q2
        simp only [Bool.false_and, Bool.false_eq_true, if_false, Int.add_zero] at q1 q2
        have Q1 := hide q1
        have Q2 := hide q2
        clear q1 q2
        go_wp2_with fail
        refine ⟨⟨q + 1, by omega, by simp, ?_⟩, by simp [intOf]; omega⟩
        rw [Q1.out, Q2.out]
        exact HB1.out
      · have q1 := HS1.out
        have q2 := HS2.out
        rw [hfp] at q1 q2
        rcases hvv with rfl | rfl
        · have Q1 : Hid (cnt f ((P.zip V).take (q + 1)) 1 = C1 + 1) := hide (by rw [q1]; simp)
          have Q2 : Hid (cnt f ((P.zip V).take (q + 1)) 2 = C2) := hide (by rw [q2]; simp)
          clear q1 q2 HS1 HS2
          have hw1 : IntKind.i64.wrap (C1 + 1) = C1 + 1 := by rw [IntKind.wrap_i64]; omega
          go_wp2_with fail
          refine ⟨⟨q + 1, by omega, by simp, ?_⟩, by simp [intOf]; omega⟩
          rw [Q1.out, Q2.out]
          exact HB1.out.put 2 1 (w.heap.size + 1 + 1) _ _ (.int .i64 (C1 + 1)) rfl rfl
        · have Q1 : Hid (cnt f ((P.zip V).take (q + 1)) 1 = C1) := hide (by rw [q1]; simp)
          have Q2 : Hid (cnt f ((P.zip V).take (q + 1)) 2 = C2 + 1) := hide (by rw [q2]; simp)
          clear q1 q2 HS1 HS2
          have hw1 : IntKind.i64.wrap (C2 + 1) = C2 + 1 := by rw [IntKind.wrap_i64]; omega
          go_wp2_with fail
          refine ⟨⟨q + 1, by omega, by simp, ?_⟩, by simp [intOf]; omega⟩
          rw [Q1.out, Q2.out]
          exact HB1.out.put 2 2 (w.heap.size + 1 + 1) _ _ (.int .i64 (C2 + 1)) rfl rfl
    · have hqe : (P.zip V).take q = P.zip V := List.take_of_length_le (by rw [List.length_zip]; omega)
      rw [hqe] at g1 g2
      have HBB := hide HB.out.2.2
      clear HB hqe
      generalize e1 : cnt f (P.zip V) 1 = C1 at g1
      generalize e2 : cnt f (P.zip V) 2 = C2 at g2
      have E1 := hide e1
      have E2 := hide e2
      clear e1 e2
      go_wp2_with fail
      refine bodyPost_ret (v := .agg #[.int .i64 0, .int .i64 C1, .int .i64 C2]) (by simp [results, Try.results54, go_sem, r0, r1, r2]) rfl ⟨by rw [E1.out, E2.out], ?_⟩
      exact ((HBB.out.setCell (p := ⟨w.heap.size + 1, 0, none⟩) (by simp) _).setCell (p := ⟨w.heap.size + 1, 1, none⟩) (by simp) _).setCell (p := ⟨w.heap.size + 1, 2, none⟩) (by simp) _

set_option maxHeartbeats 3200000 in
theorem countBetween_any (P : List TP) (V : List Int) (x y : Int) (B : Nat) (o1 o2 o3 : Option Addr) (n1 c1 c2 c3 : Nat) (w : World) (hP : TapsAt w o2 P) (hV : IntsAt w o3 V) (hlen : P.length ≤ 60) (hlv : V.length = P.length) (hv12 : ∀ v ∈ V, v = 1 ∨ v = 2) (hc : w.cell? ⟨B, 0, none⟩ = some (.int .i64 x)) (hd : w.cell? ⟨B + 1, 0, none⟩ = some (.int .i64 y)) :
    Calls Try.prog 54 #[lg o1 o2 o3 n1 c1 P.length c2 V.length c3, .func (.func 57) #[] #[.pointer (some ⟨B, 0, none⟩), .pointer (some ⟨B + 1, 0, none⟩)]] w fun e w' =>
      e = .returned (.agg #[.int .i64 0, .int .i64 (cnt (fun p => wi p.m x y) (P.zip V) 1), .int .i64 (cnt (fun p => wi p.m x y) (P.zip V) 2)]) ∧ Below w.heap.size w w' := by
  have HP := hide hP
  have HV := hide hV
  have hlen2 : V.length ≤ 60 := by omega
  have HLV := hide hlv
  have H12 := hide hv12
  have hBl := World.block_lt_of_cell? w ⟨B, 0, none⟩ hc
  have hBl2 := World.block_lt_of_cell? w ⟨B + 1, 0, none⟩ hd
  have HF : Hid (∀ (p : TP) (W : World), Below w.heap.size w W → Calls Try.prog 57 #[tp p.a p.g p.s p.m p.z, .pointer (some ⟨B, 0, none⟩), .pointer (some ⟨B + 1, 0, none⟩)] W fun e w' => e = .returned (.bool ((fun p : TP => wi p.m x y) p)) ∧ Below W.heap.size W w') := hide (fun p W h => between1_any p x y B W (by rw [h.cell (p := ⟨B, 0, none⟩) hBl]; exact hc) (by rw [h.cell (p := ⟨B + 1, 0, none⟩) hBl2]; exact hd))
  generalize hf : (fun p : TP => wi p.m x y) = f at HF ⊢
  clear hP hV hlv hv12 hc hd
  go_enter Try.func54, Try.ntmps54
  go_wp2_with fail
  go_loopw [11] (fun j wr => ∃ (q : Nat), q ≤ P.length ∧ j = .int .i64 q ∧ Blks w wr [cL o1 o2 o3 n1 c1 P.length c2 V.length c3 26, cA 0 0 0, cA 0 (cnt f ((P.zip V).take q) 1) (cnt f ((P.zip V).take q) 2)]) (fun j _ => P.length - (intOf j).toNat)
  case atStart =>
    refine ⟨0, Nat.zero_le _, rfl, ?_⟩
    exact ((((Blks.nil w).more _ (by simp)).more _ (by simp)).more _ (by simp))
  case round =>
    obtain ⟨q, hq, rfl, hB⟩ := hrel
    have HB := hide hB
    clear hB
    have d0 := HB.out.cell 0 0 w.heap.size _ _ _ rfl rfl rfl
    have d1 := HB.out.cell 0 1 w.heap.size _ _ _ rfl rfl rfl
    have d2 := HB.out.cell 0 2 w.heap.size _ _ _ rfl rfl rfl
    have l0 := HB.out.lt 0 w.heap.size (by simp) rfl
    have l1 := HB.out.lt 1 (w.heap.size + 1) (by simp) rfl
    have l2 := HB.out.lt 2 (w.heap.size + 1 + 1) (by simp) rfl
    have r0 := HB.out.cell 1 0 (w.heap.size + 1) _ _ _ rfl rfl rfl
    have r1 := HB.out.cell 1 1 (w.heap.size + 1) _ _ _ rfl rfl rfl
    have r2 := HB.out.cell 1 2 (w.heap.size + 1) _ _ _ rfl rfl rfl
    have t0 := HB.out.frozen 1 0 (w.heap.size + 1) _ _ rfl rfl
    have t1 := HB.out.frozen 1 1 (w.heap.size + 1) _ _ rfl rfl
    have t2 := HB.out.frozen 1 2 (w.heap.size + 1) _ _ rfl rfl
    have g0 := HB.out.cell 2 0 (w.heap.size + 1 + 1) _ _ _ rfl rfl rfl
    have g1 := HB.out.cell 2 1 (w.heap.size + 1 + 1) _ _ _ rfl rfl rfl
    have g2 := HB.out.cell 2 2 (w.heap.size + 1 + 1) _ _ _ rfl rfl rfl
    by_cases hlt : q < P.length
    · obtain ⟨p, hp⟩ : ∃ p, P[q]? = some p := ⟨P[q], by simp [hlt]⟩
      obtain ⟨v, hv⟩ : ∃ v, V[q]? = some v := ⟨V[q]'(by have := HLV.out; omega), by simp⟩
      have hz : (P.zip V)[q]? = some (p, v) := by rw [List.getElem?_zip_eq_some]; exact ⟨hp, hv⟩
      have HS1 : Hid (cnt f ((P.zip V).take (q + 1)) 1 = cnt f ((P.zip V).take q) 1 + if (f p && v == 1) = true then 1 else 0) := by
        show _ = _
        rw [List.take_add_one, hz, Option.toList_some, cnt_snoc]
      have HS2 : Hid (cnt f ((P.zip V).take (q + 1)) 2 = cnt f ((P.zip V).take q) 2 + if (f p && v == 2) = true then 1 else 0) := by
        show _ = _
        rw [List.take_add_one, hz, Option.toList_some, cnt_snoc]
      have b1 := cnt_bound f ((P.zip V).take q) 1
      have b2 := cnt_bound f ((P.zip V).take q) 2
      have hl : ((P.zip V).take q).length ≤ 60 := by rw [List.length_take]; omega
      have hvv := H12.out v (List.mem_of_getElem? hv)
      obtain ⟨A, rfl, e0, e1, e2, e3, e4⟩ := (HP.out.below HB.out.2.2) q p hp
      obtain ⟨A3, rfl, f0⟩ := (HV.out.below HB.out.2.2) q v hv
      have hA : (A.add (q * 5)).block < wr.heap.size := World.block_lt_of_cell? wr (A.add (q * 5)) e0
      have hA3 : (A3.add q).block < wr.heap.size := World.block_lt_of_cell? wr (A3.add q) f0
      have hvl : q < V.length := by have := HLV.out; omega
      clear hp hv hz
      generalize cnt f ((P.zip V).take q) 1 = C1 at *
      generalize cnt f ((P.zip V).take q) 2 = C2 at *
      obtain ⟨b1, b1'⟩ := b1
      obtain ⟨b2, b2'⟩ := b2
      go_wp2_with fail
      refine (HF.out p _ (HB.out.2.2.alloc HB.out.2.2.size _)).mono ?_
      rintro e w1 ⟨rfl, hb⟩
      have HB1 := hide ((HB.out.on ((Below.refl _ _).alloc (Nat.le_refl _) _)).on hb)
      have k3 : w1.cell? (A3.add q) = some (.int .i64 v) := by
        rw [hb.cell (p := A3.add q) (by simp; omega), ((Below.refl wr.heap.size wr).alloc (Nat.le_refl _) _).cell (p := A3.add q) hA3]
        exact f0
      clear hb d0 d1 d2 r0 r1 r2 t0 t1 t2 g0 g1 g2 e0 e1 e2 e3 e4 f0 hA hA3
      have d0 := HB1.out.cell 0 0 w.heap.size _ _ _ rfl rfl rfl
      have d1 := HB1.out.cell 0 1 w.heap.size _ _ _ rfl rfl rfl
      have d2 := HB1.out.cell 0 2 w.heap.size _ _ _ rfl rfl rfl
      have g0 := HB1.out.cell 2 0 (w.heap.size + 1 + 1) _ _ _ rfl rfl rfl
      have g1 := HB1.out.cell 2 1 (w.heap.size + 1 + 1) _ _ _ rfl rfl rfl
      have g2 := HB1.out.cell 2 2 (w.heap.size + 1 + 1) _ _ _ rfl rfl rfl
      have t1 := HB1.out.frozen 2 1 (w.heap.size + 1 + 1) _ _ rfl rfl
      have t2 := HB1.out.frozen 2 2 (w.heap.size + 1 + 1) _ _ rfl rfl
      cases hfp : f p
      · have q1 := HS1.out
        have q2 := HS2.out
        rw [hfp] at q1 q2
        simp only [Bool.false_and, Bool.false_eq_true, if_false, Int.add_zero] at q1 q2
        have Q1 := hide q1
        have Q2 := hide q2
        clear q1 q2
        go_wp2_with fail
        refine ⟨⟨q + 1, by omega, by simp, ?_⟩, by simp [intOf]; omega⟩
        rw [Q1.out, Q2.out]
        exact HB1.out
      · have q1 := HS1.out
        have q2 := HS2.out
        rw [hfp] at q1 q2
        rcases hvv with rfl | rfl
        · have Q1 : Hid (cnt f ((P.zip V).take (q + 1)) 1 = C1 + 1) := hide (by rw [q1]; simp)
          have Q2 : Hid (cnt f ((P.zip V).take (q + 1)) 2 = C2) := hide (by rw [q2]; simp)
          clear q1 q2 HS1 HS2
          have hw1 : IntKind.i64.wrap (C1 + 1) = C1 + 1 := by rw [IntKind.wrap_i64]; omega
          go_wp2_with fail
          refine ⟨⟨q + 1, by omega, by simp, ?_⟩, by simp [intOf]; omega⟩
          rw [Q1.out, Q2.out]
          exact HB1.out.put 2 1 (w.heap.size + 1 + 1) _ _ (.int .i64 (C1 + 1)) rfl rfl
        · have Q1 : Hid (cnt f ((P.zip V).take (q + 1)) 1 = C1) := hide (by rw [q1]; simp)
          have Q2 : Hid (cnt f ((P.zip V).take (q + 1)) 2 = C2 + 1) := hide (by rw [q2]; simp)
          clear q1 q2 HS1 HS2
          have hw1 : IntKind.i64.wrap (C2 + 1) = C2 + 1 := by rw [IntKind.wrap_i64]; omega
          go_wp2_with fail
          refine ⟨⟨q + 1, by omega, by simp, ?_⟩, by simp [intOf]; omega⟩
          rw [Q1.out, Q2.out]
          exact HB1.out.put 2 2 (w.heap.size + 1 + 1) _ _ (.int .i64 (C2 + 1)) rfl rfl
    · have hqe : (P.zip V).take q = P.zip V := List.take_of_length_le (by rw [List.length_zip]; omega)
      rw [hqe] at g1 g2
      have HBB := hide HB.out.2.2
      clear HB hqe
      generalize e1 : cnt f (P.zip V) 1 = C1 at g1
      generalize e2 : cnt f (P.zip V) 2 = C2 at g2
      have E1 := hide e1
      have E2 := hide e2
      clear e1 e2
      go_wp2_with fail
      refine bodyPost_ret (v := .agg #[.int .i64 0, .int .i64 C1, .int .i64 C2]) (by simp [results, Try.results54, go_sem, r0, r1, r2]) rfl ⟨by rw [E1.out, E2.out], ?_⟩
      exact ((HBB.out.setCell (p := ⟨w.heap.size + 1, 0, none⟩) (by simp) _).setCell (p := ⟨w.heap.size + 1, 1, none⟩) (by simp) _).setCell (p := ⟨w.heap.size + 1, 2, none⟩) (by simp) _

/-- the rides that a ticket had when it was sold -/
def allR (k r : Int) : Int := if k = 1 then 1 else if k = 2 then 60 else r

theorem allRides_any (i k f t z r : Int) (w : World) :
    Calls Try.prog 52 #[tk i k f t z r] w fun e w' => e = .returned (.int .i64 (allR k r)) ∧ Below w.heap.size w w' := by
  generalize hA : allR k r = A
  unfold allR at hA
  have hk : ((k == 1) = true ∧ A = 1) ∨ ((k == 1) = false ∧ (k == 2) = true ∧ A = 60) ∨ ((k == 1) = false ∧ (k == 2) = false ∧ A = r) := by
    rw [← hA]
    by_cases k1 : k = 1
    · subst k1; simp
    · by_cases k2 : k = 2
      · subst k2; simp
      · simp [k1, k2]
  clear hA
  rcases hk with ⟨k1, rfl⟩ | ⟨k1, k2, rfl⟩ | ⟨k1, k2, rfl⟩
  all_goals
    go_enter Try.func52, Try.ntmps52
    go_wp2_with fail
    go_ret
    exact ⟨rfl, (Below.refl _ _).alloc (Nat.le_refl _) _⟩

theorem left1_any (i k f t z r id : Int) (B : Nat) (w : World) (hc : w.cell? ⟨B, 0, none⟩ = some (.int .i64 id)) :
    Calls Try.prog 51 #[tk i k f t z r, .pointer (some ⟨B, 0, none⟩)] w fun e w' => e = .returned (.bool (i == id)) ∧ Below w.heap.size w w' := by
  have hlt := World.block_lt_of_cell? w ⟨B, 0, none⟩ hc
  go_enter Try.func51, Try.ntmps51
  go_wp2_with fail
  go_ret
  exact ⟨rfl, (Below.refl _ _).alloc (Nat.le_refl _) _⟩

set_option maxHeartbeats 1600000 in
theorem indexL_any (B : Nat) (id : Int) (L : List TK) (o : Option Addr) (cap : Nat) (w : World) (hL : TiksAt w o L) (hlen : L.length ≤ 9223372036854775807) (hc : w.cell? ⟨B, 0, none⟩ = some (.int .i64 id)) :
    Calls Try.prog 50 #[.slice o L.length cap, .func (.func 51) #[] #[.pointer (some ⟨B, 0, none⟩)]] w fun e w' => e = .returned (.int .i64 (idxT L id)) ∧ Below w.heap.size w w' := by
  have HL := hide hL
  have hlt := World.block_lt_of_cell? w ⟨B, 0, none⟩ hc
  have HF := hide (fun (x : TK) (W : World) h => left1_any x.i x.k x.f x.t x.z x.r id B W h)
  clear hL
  go_enter Try.func50, Try.ntmps50
  go_wp2_with fail
  go_loopw [8] (fun j wr => ∃ (q : Nat), q ≤ L.length ∧ j = .int .i64 q ∧ Hid (∀ j, j < q → ∀ p, L[j]? = some p → p.i ≠ id) ∧ Below w.heap.size w wr) (fun j _ => L.length - (intOf j).toNat)
  case atStart => exact ⟨0, Nat.zero_le _, rfl, fun j h => by omega, Below.refl _ _⟩
  case round =>
    obtain ⟨q, hq, rfl, hE, hbr⟩ := hrel
    have c' : wr.cell? ⟨B, 0, none⟩ = some (.int .i64 id) := by rw [hbr.cell (p := ⟨B, 0, none⟩) hlt]; exact hc
    by_cases hgo : q < L.length
    · obtain ⟨x, hx⟩ : ∃ x, L[q]? = some x := ⟨L[q], by simp [hgo]⟩
      obtain ⟨A, rfl, c0, c1, c2, c3, c4, c5⟩ := (HL.out.below hbr) q x hx
      have HX := hide hx
      clear hx
      go_wp2_with fail
      refine (HF.out x _ c').mono ?_
      rintro e w1 ⟨rfl, hb⟩
      have hbr3 := hbr.trans (hb.mono hbr.size)
      clear hbr hb c'
      cases hg : (x.i == id)
      · go_wp2_with fail
        refine ⟨⟨q + 1, by omega, by simp, ?_, hbr3⟩, by simp [intOf]; omega⟩
        intro j hj p hp
        rcases Nat.lt_or_ge j q with h | h
        · exact hE.out j h p hp
        · have : j = q := by omega
          subst this
          rw [HX.out] at hp
          cases hp
          simpa using hg
      · have e1 := idxT_some HX.out (by simpa using hg) hE.out
        have H1 := hide e1
        clear e1
        go_wp2_with fail
        go_ret
        exact ⟨by rw [H1.out]; rfl, hbr3⟩
    · have e1 := idxT_none (L := L) (id := id) (fun j p hp => hE.out j (by have := (List.getElem?_eq_some_iff.1 hp).1; omega) p hp)
      have H1 := hide e1
      clear e1
      go_wp2_with fail
      go_ret
      exact ⟨by rw [H1.out]; rfl, hbr⟩

end Go.Proofs.Ytcakfmpckbmdeae
