/-
  The contract of 'code.Parse'.
-/
import Derived.Test.YtcakfmpckbmdeabC8
import Derived.Test.YtcakfmpckbmdeabT11
namespace Go.Proofs.Ytcakfmpckbmdeab
open Go.RowKit

/-- what Parse says of a text: a ticket, and an error -/
def parseV (l : List UInt8) : Value × Int := match nin l with
  | none => (tk 0 0 0 0 0 0, 1)
  | some n => if (decV (digs n 8 8)).2 = 0 ∧ codeL n = l then ((decV (digs n 8 8)).1, 0) else (tk 0 0 0 0 0 0, 1)

theorem num_digs (n : Nat) (h : n < 18446744073709551616) : num (digs n 8 8) = n := by
  have e : digs n 8 8 = [UInt8.ofNat (n / 72057594037927936), UInt8.ofNat (n / 281474976710656), UInt8.ofNat (n / 1099511627776), UInt8.ofNat (n / 4294967296), UInt8.ofNat (n / 16777216), UInt8.ofNat (n / 65536), UInt8.ofNat (n / 256), UInt8.ofNat n] := by
    simp [digs, List.range_succ]
  rw [e]
  simp only [num, List.foldl_cons, List.foldl_nil, UInt8.toNat_ofNat']
  omega

theorem cells1 (w : World) (a : Nat) (T : TypeId) (j n : Nat) (h : [a][j]? = some n) :
    (w.alloc (.cells #[.int .u64 (a : Int)] T)).cell? ((⟨w.heap.size, 0, none⟩ : Addr).add j) = some (.int .u64 (n : Int)) := by
  match j, h with
  | 0, h => simp at h; subst h; simp [go_sem]

theorem nin_cases (s : ByteArray) (w : World) : Calls Try.prog 68 #[.string s] w fun e w' => Below w.heap.size w w' ∧
    ((nin s.data.toList = none ∧ e = .returned (.tuple #[.int .u64 0, .bool false])) ∨ ∃ n, nin s.data.toList = some n ∧ n < 18446744073709551616 ∧ e = .returned (.tuple #[.int .u64 (n : Int), .bool true])) := by
  by_cases h : s.data.toList.length = 14
  · obtain ⟨b, c, hb, hs⟩ : ∃ (b : List UInt8) (c : UInt8), b.length = 13 ∧ s.data.toList = b ++ [c] := by
      have h1 : s.data.toList = s.data.toList.take 13 ++ s.data.toList.drop 13 := (List.take_append_drop 13 _).symm
      have h2 : (s.data.toList.drop 13).length = 1 := by rw [List.length_drop]; omega
      match hd : s.data.toList.drop 13, h2 with
      | [c], _ => exact ⟨s.data.toList.take 13, c, by rw [List.length_take]; omega, by rw [← hd]; exact h1⟩
    have ht : s.data.toList.take 13 = b := by rw [hs, List.take_append_of_le_length (by omega), List.take_of_length_le (by omega)]
    refine (numberIn_some s b c w hb hs).mono ?_
    rintro e w' ⟨hB, ⟨vs, hv, rfl⟩ | ⟨hv, rfl⟩⟩
    · exact ⟨hB, Or.inr ⟨wn vs, by unfold nin; rw [if_pos h, ht, hv]; rfl, wn_lt _, rfl⟩⟩
    · exact ⟨hB, Or.inl ⟨by unfold nin; rw [if_pos h, ht, hv]; rfl, rfl⟩⟩
  · refine (numberIn_none s w h).mono ?_
    rintro e w' ⟨rfl, hB⟩
    exact ⟨hB, Or.inl ⟨by unfold nin; rw [if_neg h], rfl⟩⟩

set_option maxHeartbeats 1600000 in
set_option maxRecDepth 100000 in
theorem parse_any (s : ByteArray) (w : World) :
    Calls Try.prog 36 #[.string s] w fun e w' => e = .returned (.tuple #[(parseV s.data.toList).1, .int .i64 (parseV s.data.toList).2]) ∧ Below w.heap.size w w' := by
  generalize hR : parseV s.data.toList = R
  have HR := hide hR
  clear hR
  go_enter Try.func36, Try.ntmps36
  go_wp2_with fail
  refine (nin_cases s _).mono ?_
  rintro e w1 ⟨hb1, ⟨hn, rfl⟩ | ⟨n, hn, hlt, rfl⟩⟩
  · have hr : R = (tk 0 0 0 0 0 0, 1) := by rw [← HR.out]; unfold parseV; rw [hn]
    have HRe := hide hr
    obtain ⟨c0, c1, c2, c3, c4, c5, y⟩ := (six_new w (.int .i64 0) (.int .i64 0) (.int .i64 0) (.int .i64 0) (.int .i64 0) (.int .i64 0) 23).kp (Kp.ofBelow (S := fun _ => False) hb1) (fun h => h)
    have hB : Below w.heap.size w w1 := ((Below.refl _ _).alloc (Nat.le_refl _) _).trans (hb1.mono (by simp))
    clear hr hn
    go_wp2_with fail
    rw [HRe.out]
    refine bodyPost_ret (v := .tuple #[tk 0 0 0 0 0 0, .int .i64 1]) (by simp [results, Try.results36, go_sem, c0, c1, c2, c3, c4, c5]) rfl ⟨rfl, ?_⟩
    repeat (first | with_reducible exact hB | with_reducible refine Below.setCell ?_ (by simp) _)
  · have s1 := (six_new w (.int .i64 0) (.int .i64 0) (.int .i64 0) (.int .i64 0) (.int .i64 0) (.int .i64 0) 23).kp (Kp.ofBelow (S := fun _ => False) hb1) (fun h => h)
    have hB : Below w.heap.size w w1 := ((Below.refl _ _).alloc (Nat.le_refl _) _).trans (hb1.mono (by simp))
    have HN := hide hn
    have HS1 := hide s1
    clear hn s1
    go_wp2_with fail
    refine (put_any 8 1 8 1 ⟨w1.heap.size, 0, none⟩ [n] _ (by omega) rfl (by omega) rfl (fun j m h => cells1 w1 n 58 j m h) (by intro m hm; simp at hm; omega)).mono ?_
    rintro e w2 ⟨rfl, hb2⟩
    rw [show putL 8 [n] = digs n 8 8 by simp [putL]]
    have s2 := ((HS1.out).alloc (.cells #[.int .u64 (n : Int)] 58)).kp (Kp.ofBelow (S := fun _ => False) hb2) (fun h => h)
    have hB2 : Below w.heap.size w w2 := (hB.alloc hB.size _).trans (hb2.mono (by have := hB.size; simp; omega))
    have HS2 := hide s2
    clear hb1 hb2 hB s2
    go_wp2_with fail
    refine (decode_any _ _).mono ?_
    rintro e w3 ⟨rfl, hb3⟩
    rw [show (⟨(digs n 8 8).toArray⟩ : ByteArray).data.toList = digs n 8 8 by simp]
    have s3 := (HS2.out).kp (Kp.ofBelow (S := fun _ => False) hb3) (fun h => h)
    have hB3 := hB2.trans (hb3.mono hB2.size)
    clear hb3 hB2
    rcases dec_cases (digs n 8 8) with ⟨e2, h2, he2⟩ | ⟨i2, k2, f2, t2, z2, r2, h2, hE2⟩
    · rw [h2]
      have hr : R = (tk 0 0 0 0 0 0, 1) := by rw [← HR.out]; unfold parseV; rw [HN.out]; simp [h2, he2]
      have HRe := hide hr
      have he2' : (e2 != 0) = true := by simpa using he2
      have H2 := hide h2
      obtain ⟨c0, c1, c2, c3, c4, c5, y⟩ := s3.alloc (.cells #[.int .i64 0, .int .i64 0, .int .i64 0, .int .i64 0, .int .i64 0, .int .i64 0] 23)
      have hB4 := hB3.alloc hB3.size (.cells #[.int .i64 0, .int .i64 0, .int .i64 0, .int .i64 0, .int .i64 0, .int .i64 0] 23)
      clear h2 he2 hr s3
      go_wp2_with fail
      rw [HRe.out]
      refine bodyPost_ret (v := .tuple #[tk 0 0 0 0 0 0, .int .i64 1]) (by simp [results, Try.results36, go_sem, c0, c1, c2, c3, c4, c5]) rfl ⟨rfl, ?_⟩
      repeat (first | with_reducible exact hB4 | with_reducible refine Below.setCell ?_ (by simp) _)
    · rw [h2]
      have hP : printV i2 k2 f2 t2 z2 r2 = (codeL n, 0) := by
        have hc : chk i2 k2 f2 t2 z2 r2 = 0 := by
          by_cases h : chk i2 k2 f2 t2 z2 r2 = 0
          · exact h
          · unfold encV at hE2; rw [if_neg h] at hE2
            have := congrArg Prod.snd hE2
            exact this
        unfold printV; rw [if_pos hc, hE2, num_digs n hlt]
      have HP := hide hP
      have H2 := hide h2
      have HS3 := hide (s3.alloc (.cells #[.int .i64 i2, .int .i64 k2, .int .i64 f2, .int .i64 t2, .int .i64 z2, .int .i64 r2] 23))
      have HX3 := hide (six_new w3 (.int .i64 i2) (.int .i64 k2) (.int .i64 f2) (.int .i64 t2) (.int .i64 z2) (.int .i64 r2) 23)
      have hB4 := hB3.alloc hB3.size (.cells #[.int .i64 i2, .int .i64 k2, .int .i64 f2, .int .i64 t2, .int .i64 z2, .int .i64 r2] 23)
      clear h2 hE2 hP s3
      go_wp2_with fail
      refine (print_any _ _ _ _ _ _ _).mono ?_
      rintro e w4 ⟨rfl, hb4⟩
      rw [HP.out]
      simp only [S]
      obtain ⟨c0, c1, c2, c3, c4, c5, y⟩ := HS3.out.kp (Kp.ofBelow (S := fun _ => False) hb4) (fun h => h)
      obtain ⟨d0, d1, d2, d3, d4, d5, y'⟩ := HX3.out.kp (Kp.ofBelow (S := fun _ => False) hb4) (fun h => h)
      have hB5 := hB4.trans (hb4.mono hB4.size)
      clear hb4 hB3 hB4
      generalize hA : (⟨(codeL n).toArray⟩ : ByteArray) = A
      have hAl : A.data.toList = codeL n := by rw [← hA]
      by_cases heq : codeL n = s.data.toList
      · have hAs : A = s := by
          apply ByteArray.ext; apply Array.ext'; rw [hAl, heq]
        have hr : R = (tk i2 k2 f2 t2 z2 r2, 0) := by rw [← HR.out]; unfold parseV; rw [HN.out]; simp [H2.out, heq]
        have HRe := hide hr
        subst hAs
        clear hA hAl heq hr
        go_wp2_with fail
        rw [HRe.out]
        refine bodyPost_ret (v := .tuple #[tk i2 k2 f2 t2 z2 r2, .int .i64 0]) (by simp [results, Try.results36, go_sem, c0, c1, c2, c3, c4, c5]) rfl ⟨rfl, ?_⟩
        repeat (first | with_reducible exact hB5 | with_reducible refine Below.setCell ?_ (by simp) _)
      · have hne : (A.toList == s.toList) = false := by
          rw [ByteArray.toList_eq, ByteArray.toList_eq, hAl]; exact beq_eq_false_iff_ne.2 heq
        have hr : R = (tk 0 0 0 0 0 0, 1) := by rw [← HR.out]; unfold parseV; rw [HN.out]; simp [heq]
        have HRe := hide hr
        clear hA hAl heq hr
        go_wp2_with fail
        rw [HRe.out]
        refine bodyPost_ret (v := .tuple #[tk 0 0 0 0 0 0, .int .i64 1]) (by simp [results, Try.results36, go_sem, c0, c1, c2, c3, c4, c5]) rfl ⟨rfl, ?_⟩
        repeat (first | with_reducible exact hB5 | with_reducible refine Below.setCell ?_ (by simp) _)
end Go.Proofs.Ytcakfmpckbmdeab
