/-
  The document's answer 'ParseOf' (package leeboardref).
-/
import Derived.Test.YtcakfmpckbmdeaaD2
import Derived.Test.YtcakfmpckbmdeaaC14
import Derived.Test.YtcakfmpckbmdeaaT13
namespace Go.Proofs.Ytcakfmpckbmdeaa
open Go.RowKit

theorem mul_step (x more p R A v : Nat) (h : R + more * p = 31 * A + v) :
    ((31 * x + more) % 256 * p + R) + (31 * x + more) / 256 * (p * 256) = 31 * (x * p + A) + v := by
  have e : (31 * x + more) % 256 * p + (31 * x + more) / 256 * (p * 256) = (31 * x + more) * p := by
    rw [Nat.mul_comm p 256, ← Nat.mul_assoc, ← Nat.add_mul, Nat.mul_comm ((31 * x + more) / 256) 256, Nat.mod_add_div]
  have e2 : (31 * x + more) * p = 31 * (x * p) + more * p := by rw [Nat.add_mul, Nat.mul_assoc]
  omega

theorem vals_take {l : List UInt8} {vs : List Nat} (h : vals l = some vs) (n : Nat) : vals (l.take n) = some (vs.take n) := by
  induction l generalizing vs n with
  | nil => simp [vals] at h; subst h; simp [vals]
  | cons a l ih =>
    obtain ⟨u, us, h1, h2, rfl⟩ := vals_cons_some.1 h
    cases n with
    | zero => simp [vals]
    | succ n => exact vals_cons_some.2 ⟨u, us.take n, h1, ih h2 n, rfl⟩

theorem parse_bad (l : List UInt8) (h : l.length ≠ 14 ∨ vals l = none) : parseV l = (tk 0 0 0 0 0 0, 1) := by
  unfold parseV
  cases hn : nin l with
  | none => rfl
  | some n =>
    simp only
    rw [if_neg]
    rintro ⟨_, hc⟩
    subst hc
    rcases h with h | h
    · exact h (codeL_len n)
    · rw [show codeL n = (codeD n).map sgn from rfl, vals_sgn (codeD_lt n)] at h; cases h

theorem eight_num (L : List UInt8) (h : L.length = 8) : digs (num L) 8 8 = L := by
  obtain ⟨b0, b1, b2, b3, b4, b5, b6, b7, t, rfl⟩ := eight L (by omega)
  obtain rfl : t = [] := by simpa using h
  exact digs_num _ _ _ _ _ _ _ _

set_option maxHeartbeats 3200000 in
theorem parseOf_bad (s : ByteArray) (w : World) (h : s.size ≠ 14 ∨ (s.size = 14 ∧ vals s.data.toList = none)) :
    Calls Try.prog 20 #[.string s] w fun e w' => e = .returned (.tuple #[tk 0 0 0 0 0 0, .bool false]) ∧ Below w.heap.size w w' := by
  rcases h with h | ⟨h, hv⟩
  · have h14 : ((s.size : Int) != 14) = true := by rw [bne_iff_ne]; omega
    clear h
    go_enter Try.func20, Try.ntmps20
    go_wp2_with fail
    refine bodyPost_ret (v := .tuple #[tk 0 0 0 0 0 0, .bool false]) (by simp [results, Try.results20, go_sem]) rfl ⟨rfl, ?_⟩
    repeat (first | with_reducible exact (Below.refl _ _).alloc (Nat.le_refl _) _ | with_reducible refine Below.setCell ?_ (by simp) _)
  · have h14 : ((s.size : Int) != 14) = false := by rw [h]; rfl
    have HV := hide hv
    have H := hide h
    clear h hv
    go_enter Try.func20, Try.ntmps20
    go_wp2_with fail
    refine (areSigns_any s _ (by rw [H.out]; omega)).mono ?_
    rintro e w1 ⟨rfl, rfl⟩
    rw [HV.out, Option.isSome_none]
    go_wp2_with fail
    refine bodyPost_ret (v := .tuple #[tk 0 0 0 0 0 0, .bool false]) (by simp [results, Try.results20, go_sem]) rfl ⟨rfl, ?_⟩
    repeat (first | with_reducible exact (Below.refl _ _).alloc (Nat.le_refl _) _ | with_reducible refine Below.setCell ?_ (by simp) _)

set_option maxHeartbeats 6400000 in
theorem parseOf_signs (s : ByteArray) (vs : List Nat) (w : World) (h : s.size = 14) (hv : vals s.data.toList = some vs) :
    Calls Try.prog 20 #[.string s] w fun e w' => e = .returned (.tuple #[(parseV s.data.toList).1, .bool ((parseV s.data.toList).2 == 0)]) ∧ Below w.heap.size w w' := by
  obtain ⟨i0, hi, hz0, hz1, hz2⟩ := info_parts info5
  have hmk : ∀ u : World, (Instr.makeSlice 40 (.int .i64 8) (.int .i64 8)).run Try.prog u = .ok (.slice (some ⟨u.heap.size, 0, none⟩) 8 8) (u.alloc (.cells #[.int .u8 0, .int .u8 0, .int .u8 0, .int .u8 0, .int .u8 0, .int .u8 0, .int .u8 0, .int .u8 0] 5)) := fun u => by
    have h := run_make (P := Try.prog) u 40 5 i0 (.int .u8 0) Try.underlying40 hi hz0 .i64 .i64 8 8 (by omega) (Int.le_refl _) (by rw [hz2]; omega) (by omega)
    have e : madeCells #[Value.int .u8 0] 8 = #[.int .u8 0, .int .u8 0, .int .u8 0, .int .u8 0, .int .u8 0, .int .u8 0, .int .u8 0, .int .u8 0] := by
      apply Array.ext'; rw [toList_madeCells_one]; rfl
    simpa [hz1, Value.cells, e] using h
  have hl14 : s.data.toList.length = 14 := by simpa using h
  have hvl : vs.length = 14 := by rw [vals_len hv]; exact hl14
  have h14 : ((s.size : Int) != 14) = false := by rw [h]; rfl
  generalize hPV : parseV s.data.toList = PV
  have HPV := hide hPV
  have HV := hide hv
  have HVL := hide hvl
  have HLT := hide (vals_lt hv)
  have HL14 := hide hl14
  clear hPV hv hvl hl14
  have srow : Row ((w.alloc (.cells #[.int .i64 0, .int .i64 0, .int .i64 0, .int .i64 0, .int .i64 0, .int .i64 0] 23)).alloc (.cells #[.int .u8 0, .int .u8 0, .int .u8 0, .int .u8 0, .int .u8 0, .int .u8 0, .int .u8 0, .int .u8 0] 5)) (w.heap.size + 1) [0, 0, 0, 0, 0, 0, 0, 0] := by
    refine ⟨fun j hj => ?_, fun j hj => ?_⟩
    · have hj8 : j < 8 := hj
      match j, hj8 with
      | 0, _ => simp [go_sem]
      | 1, _ => simp [go_sem]
      | 2, _ => simp [go_sem]
      | 3, _ => simp [go_sem]
      | 4, _ => simp [go_sem]
      | 5, _ => simp [go_sem]
      | 6, _ => simp [go_sem]
      | 7, _ => simp [go_sem]
    · simp [go_sem]
  have ssix := (six_new w (.int .i64 0) (.int .i64 0) (.int .i64 0) (.int .i64 0) (.int .i64 0) (.int .i64 0) 23).alloc (.cells #[.int .u8 0, .int .u8 0, .int .u8 0, .int .u8 0, .int .u8 0, .int .u8 0, .int .u8 0, .int .u8 0] 5)
  have SROW := hide srow
  have SSIX := hide ssix
  clear srow ssix
  go_enter Try.func20, Try.ntmps20
  go_wp2_with fail
  refine (areSigns_any s _ (by rw [h]; omega)).mono ?_
  rintro e w1 ⟨rfl, rfl⟩
  rw [HV.out, Option.isSome_some]
  go_wp2_with fail
  go_loopw [5] (fun iv wr => ∃ (k : Nat) (L : List UInt8), k ≤ 13 ∧ iv = .int .i64 (k : Int) ∧ L.length = 8 ∧ num L = wn (vs.take k) ∧ Row wr (w.heap.size + 1) L ∧ Six wr w.heap.size (.int .i64 0) (.int .i64 0) (.int .i64 0) (.int .i64 0) (.int .i64 0) (.int .i64 0) ∧ Below w.heap.size w wr)
    (fun iv _ => 13 - (intOf iv).toNat)
  case atStart => exact ⟨0, [0, 0, 0, 0, 0, 0, 0, 0], by omega, rfl, rfl, rfl, SROW.out, SSIX.out, ((Below.refl _ _).alloc (Nat.le_refl _) _).alloc (by simp) _⟩
  case round =>
    obtain ⟨k, L, hk, rfl, hL8, hLn, hrow, hsix, hb⟩ := hrel
    have HL8 := hide hL8
    have HLn := hide hLn
    have HROW := hide hrow
    have HSIX := hide hsix
    clear hL8 hLn hrow hsix
    by_cases hk13 : k < 13
    · have hks : k < s.size := by omega
      obtain ⟨v, hv0, hv0'⟩ := vals_get HV.out k (by rw [HL14.out]; omega)
      have hvi : vi s[k] = (v : Int) := vof_some.1 hv0'
      have hv31 := (vof_lt hv0').1
      have hwn : wn (vs.take (k + 1)) = (wn (vs.take k) * 31 + v) % 18446744073709551616 := by
        have hkl : k < vs.length := by rw [HVL.out]; omega
        rw [List.take_succ_eq_append_getElem hkl, wn_snoc]
        rw [List.getElem?_eq_getElem hkl] at hv0
        rw [Option.some.inj hv0]
      have HVI := hide hvi
      have HWN := hide hwn
      clear hvi hwn hv0 hv0'
      go_wp2_with (go_at_call 24; refine (valueOf_any _ _).mono ?_; rintro e w' ⟨rfl, rfl⟩; rw [HVI.out])
      go_loopw [6, 7] (fun mv kv wq => ∃ (q m more : Nat) (R : List UInt8), q + m = 8 ∧ kv = .int .i64 ((q : Int) - 1) ∧ mv = .int .i64 (more : Int) ∧ more < 31 ∧ R.length = m ∧ num R + more * 256 ^ m = 31 * num (L.drop q) + v ∧ Row wq (w.heap.size + 1) (L.take q ++ R) ∧ Six wq w.heap.size (.int .i64 0) (.int .i64 0) (.int .i64 0) (.int .i64 0) (.int .i64 0) (.int .i64 0) ∧ Below w.heap.size w wq)
        (fun _ kv _ => (intOf kv + 1).toNat)
      case atStart =>
        refine ⟨8, 0, v, [], rfl, rfl, rfl, hv31, rfl, ?_, ?_, HSIX.out, hb⟩
        · rw [List.drop_of_length_le (by rw [HL8.out]; omega)]; simp [num]
        · rw [List.take_of_length_le (by rw [HL8.out]; omega), List.append_nil]; exact HROW.out
      case round =>
        obtain ⟨q, m, more, R, hqm, rfl, rfl, hmore, hRl, hRn, hrowR, hsixR, hbR⟩ := hrel
        have HRL := hide hRl
        have HRN := hide hRn
        have HRR := hide hrowR
        have HSR := hide hsixR
        have HQM := hide hqm
        clear hRl hRn hrowR hsixR
        cases q with
        | zero =>
          have hm8 : m = 8 := by omega
          have hnum : num R = wn (vs.take (k + 1)) := by
            have h1 := HRN.out
            rw [hm8, List.drop_zero, HLn.out] at h1
            have h2 := num_lt8 R (by rw [HRL.out]; omega)
            rw [HWN.out]
            have e8 : (256 : Nat) ^ 8 = 18446744073709551616 := by decide
            rw [e8] at h1
            omega
          have HNUM := hide hnum
          have HM8 := hide hm8
          clear hnum hm8
          go_wp2_with fail
          exact ⟨⟨k + 1, R, by omega, by go_num, by rw [HRL.out]; exact HM8.out, HNUM.out, by simpa using HRR.out, HSR.out, hbR⟩, by simp [intOf]; omega⟩
        | succ q =>
          have hqL : q < L.length := by rw [HL8.out]; omega
          have htl : (L.take (q + 1)).length = q + 1 := by rw [List.length_take, HL8.out]; omega
          have hql : q < (L.take (q + 1) ++ R).length := by rw [List.length_append, htl]; omega
          have hget : (L.take (q + 1) ++ R)[q] = L[q] := by
            rw [List.getElem_append_left (by rw [htl]; omega), List.getElem_take]
          have hc := HRR.out.c q hql
          have hz := HRR.out.z q hql
          rw [hget] at hc
          have hx := (L[q]).toNat_lt
          have hset : ∀ b : UInt8, (L.take (q + 1) ++ R).set q b = L.take q ++ (b :: R) := fun b => by
            rw [List.take_succ_eq_append_getElem hqL, List.append_assoc, List.set_append_right _ _ (by rw [List.length_take]; omega)]
            rw [show q - (L.take q).length = 0 by rw [List.length_take]; omega]
            rfl
          have hdrop : num (L.drop q) = (L[q]).toNat * 256 ^ m + num (L.drop (q + 1)) := by
            rw [List.drop_eq_getElem_cons hqL, show L[q] :: L.drop (q + 1) = [L[q]] ++ L.drop (q + 1) from rfl, num_append]
            rw [show (L.drop (q + 1)).length = m by rw [List.length_drop, HL8.out]; omega]
            simp [num]
          generalize hxx : (L[q]).toNat = x at *
          have hms := mul_step x more (256 ^ m) (num R) _ v HRN.out
          have hbv : ((UInt8.ofNat ((31 * x + more) % 256)).toNat : Int) = (31 * (x : Int) + (more : Int)) % 256 := by simp only [UInt8.toNat_ofNat']; omega
          have hrow' := HRR.out.set q hql (UInt8.ofNat ((31 * x + more) % 256))
          rw [hset, hbv] at hrow'
          have hRn' : num (UInt8.ofNat ((31 * x + more) % 256) :: R) + (31 * x + more) / 256 * 256 ^ (m + 1) = 31 * num (L.drop q) + v := by
            rw [show UInt8.ofNat ((31 * x + more) % 256) :: R = [UInt8.ofNat ((31 * x + more) % 256)] ++ R from rfl, num_append, HRL.out, hdrop]
            rw [num_one _ (Nat.mod_lt _ (by omega))]
            rw [Nat.pow_succ]
            exact hms
          have HROW' := hide hrow'
          have HRN' := hide hRn'
          clear hget hset hdrop hxx hms hbv hrow' hRn' htl
          go_wp2_with fail
          exact ⟨⟨q, m + 1, (31 * x + more) / 256, UInt8.ofNat ((31 * x + more) % 256) :: R, by have := HQM.out; omega, rfl, v_int (by omega), by omega, by simp [HRL.out], HRN'.out, HROW'.out,
            HSR.out.kp (P := fun k => k = w.heap.size + 1) (Kp.setCell (S := fun k => k = w.heap.size + 1) (Kp.refl _ _) (Or.inl rfl) _) (by omega), hbR.setCell (by simp) _⟩, by simp [intOf]⟩
    · have hke : k = 13 := by omega
      have hstr := string_of wr (w.heap.size + 1) 8 8 L HL8.out HROW.out.c
      have hnin : nin s.data.toList = some (num L) := by
        unfold nin
        rw [if_pos HL14.out, vals_take HV.out 13, HLn.out, hke]; rfl
      have hdig := eight_num L HL8.out
      have HNIN := hide hnin
      have HDIG := hide hdig
      clear hnin hdig
      go_wp2_with fail
      refine (ticketOf_any _ _).mono ?_
      rintro e w3 ⟨rfl, hb3⟩
      rw [show (⟨L.toArray⟩ : ByteArray).data.toList = L by simp]
      have s3 := HSIX.out.kp (Kp.ofBelow (S := fun _ => False) hb3) (fun h => h)
      have hB3 := hb.trans (hb3.mono hb.size)
      clear hb3
      rcases dec_cases L with ⟨e2, h2, he2⟩ | ⟨i2, k2, f2, t2, z2, r2, h2, hE2⟩
      · rw [h2]
        have hr : PV = (tk 0 0 0 0 0 0, 1) := by rw [← HPV.out]; unfold parseV; rw [HNIN.out]; simp [HDIG.out, h2, he2]
        have HRe := hide hr
        have he2' : (e2 != 0) = true := by simpa using he2
        have H2 := hide h2
        obtain ⟨c0, c1, c2, c3, c4, c5, y⟩ := s3.alloc (.cells #[.int .i64 0, .int .i64 0, .int .i64 0, .int .i64 0, .int .i64 0, .int .i64 0] 23)
        have hB4 := hB3.alloc hB3.size (.cells #[.int .i64 0, .int .i64 0, .int .i64 0, .int .i64 0, .int .i64 0, .int .i64 0] 23)
        clear h2 he2 hr s3
        go_wp2_with fail
        rw [HRe.out]
        refine bodyPost_ret (v := .tuple #[tk 0 0 0 0 0 0, .bool false]) (by simp [results, Try.results20, go_sem, c0, c1, c2, c3, c4, c5]) rfl ⟨rfl, ?_⟩
        repeat (first | with_reducible exact hB4 | with_reducible refine Below.setCell ?_ (by simp) _)
      · rw [h2]
        have hc : chk i2 k2 f2 t2 z2 r2 = 0 := by
          by_cases h : chk i2 k2 f2 t2 z2 r2 = 0
          · exact h
          · unfold encV at hE2; rw [if_neg h] at hE2
            exact congrArg Prod.snd hE2
        have hEL : encL i2.toNat k2.toNat f2.toNat t2.toNat z2.toNat r2.toNat = L := by
          unfold encV at hE2; rw [if_pos hc] at hE2
          exact congrArg Prod.fst hE2
        obtain ⟨i2, k2, f2, t2, z2, r2, rfl, rfl, rfl, rfl, rfl, rfl, hR⟩ := right_of _ _ _ _ _ _ hc
        simp only [Int.toNat_natCast] at hEL
        have H2 := hide h2
        have HR := hide hR
        have HEL := hide hEL
        have HS3 := hide (s3.alloc (.cells #[.int .i64 i2, .int .i64 k2, .int .i64 f2, .int .i64 t2, .int .i64 z2, .int .i64 r2] 23))
        have HX3 := hide (six_new w3 (.int .i64 i2) (.int .i64 k2) (.int .i64 f2) (.int .i64 t2) (.int .i64 z2) (.int .i64 r2) 23)
        have hB4 := hB3.alloc hB3.size (.cells #[.int .i64 i2, .int .i64 k2, .int .i64 f2, .int .i64 t2, .int .i64 z2, .int .i64 r2] 23)
        clear h2 hE2 hc hEL hR s3
        go_wp2_with fail
        refine (codeOf_ok i2 k2 f2 t2 z2 r2 _ HR.out).mono ?_
        rintro e w4 ⟨rfl, hb4⟩
        rw [HEL.out]
        simp only [S]
        obtain ⟨c0, c1, c2, c3, c4, c5, y⟩ := HS3.out.kp (Kp.ofBelow (S := fun _ => False) hb4) (fun h => h)
        obtain ⟨d0, d1, d2, d3, d4, d5, y'⟩ := HX3.out.kp (Kp.ofBelow (S := fun _ => False) hb4) (fun h => h)
        have hB5 := hB4.trans (hb4.mono hB4.size)
        clear hb4 hB3 hB4
        generalize hA : (⟨(codeL (num L)).toArray⟩ : ByteArray) = A
        have hAl : A.data.toList = codeL (num L) := by rw [← hA]
        by_cases heq : codeL (num L) = s.data.toList
        · have hAs : A = s := by
            apply ByteArray.ext; apply Array.ext'; rw [hAl, heq]
          have hr : PV = (tk i2 k2 f2 t2 z2 r2, 0) := by rw [← HPV.out]; unfold parseV; rw [HNIN.out]; simp [HDIG.out, H2.out, heq]
          have HRe := hide hr
          subst hAs
          clear hA hAl heq hr
          go_wp2_with fail
          rw [HRe.out]
          refine bodyPost_ret (v := .tuple #[tk i2 k2 f2 t2 z2 r2, .bool true]) (by simp [results, Try.results20, go_sem, c0, c1, c2, c3, c4, c5]) rfl ⟨rfl, ?_⟩
          repeat (first | with_reducible exact hB5 | with_reducible refine Below.setCell ?_ (by simp) _)
        · have hne : (A.toList == s.toList) = false := by
            rw [ByteArray.toList_eq, ByteArray.toList_eq, hAl]; exact beq_eq_false_iff_ne.2 heq
          have hr : PV = (tk 0 0 0 0 0 0, 1) := by rw [← HPV.out]; unfold parseV; rw [HNIN.out]; simp [heq]
          have HRe := hide hr
          clear hA hAl heq hr
          go_wp2_with fail
          rw [HRe.out]
          refine bodyPost_ret (v := .tuple #[tk 0 0 0 0 0 0, .bool false]) (by simp [results, Try.results20, go_sem, c0, c1, c2, c3, c4, c5]) rfl ⟨rfl, ?_⟩
          repeat (first | with_reducible exact hB5 | with_reducible refine Below.setCell ?_ (by simp) _)
end Go.Proofs.Ytcakfmpckbmdeaa
