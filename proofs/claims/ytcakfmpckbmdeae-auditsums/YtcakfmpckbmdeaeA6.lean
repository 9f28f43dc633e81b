/-
  'AtGate' and 'LeftOf' (package leeboardref).
-/
import Derived.Test.YtcakfmpckbmdeaeA2
import Derived.Test.YtcakfmpckbmdeaeR7
namespace Go.Proofs.Ytcakfmpckbmdeae
open Go.RowKit

set_option maxHeartbeats 3200000 in
theorem atGate_any (o1 o2 o3 : Option Addr) (n1 c1 c2 c3 : Nat) (P : List TP) (V : List Int) (gate : Int) (w : World) (hP : TapsAt w o2 P) (hV : IntsAt w o3 V) (hl : V.length = P.length) (hlen : P.length ≤ 60) :
    Calls Try.prog 23 #[lg o1 o2 o3 n1 c1 P.length c2 V.length c3, .int .i64 gate] w fun e w' =>
      e = .returned (.tuple #[.int .i64 (cnt (fun p => p.g == gate) (P.zip V) 1), .int .i64 (cnt (fun p => p.g == gate) (P.zip V) 2)]) ∧ Below w.heap.size w w' := by
  have HL := hide hP
  have HV := hide hV
  have hlv : V.length ≤ 60 := by omega
  have HLV := hide hl
  clear hP hV hl
  generalize hf : (fun p : TP => p.g == gate) = f
  have HF : Hid (∀ p : TP, f p = (p.g == gate)) := hide (fun p => by rw [← hf])
  clear hf
  go_enter Try.func23, Try.ntmps23
  go_wp2_with fail
  go_loopw [6, 7, 8] (fun x y i wr => ∃ (q : Nat) (c l : Int), q ≤ P.length ∧ i = .int .i64 q ∧ x = .int .i64 c ∧ y = .int .i64 l ∧ 0 ≤ c ∧ c ≤ q ∧ 0 ≤ l ∧ l ≤ q ∧ Hid (cnt f ((P.zip V).take q) 1 = c ∧ cnt f ((P.zip V).take q) 2 = l) ∧ Below (w.heap.size + 1) (w.alloc (.cells #[.slice o1 n1 c1, .slice o2 P.length c2, .slice o3 V.length c3] 26)) wr) (fun _ _ i _ => P.length - (intOf i).toNat)
  case atStart => exact ⟨0, 0, 0, Nat.zero_le _, rfl, rfl, rfl, by omega, by omega, by omega, by omega, ⟨rfl, rfl⟩, Below.refl _ _⟩
  case round =>
    obtain ⟨q, c, l, hq, rfl, rfl, rfl, hc0, hcq, hl0, hlq, hM, hbr⟩ := hrel
    have d1 : wr.cell? ⟨w.heap.size, 1, none⟩ = some (.slice o2 P.length c2) := by rw [hbr.cell (p := ⟨w.heap.size, 1, none⟩) (show w.heap.size < w.heap.size + 1 by omega)]; simp [go_sem]
    have d2 : wr.cell? ⟨w.heap.size, 2, none⟩ = some (.slice o3 V.length c3) := by rw [hbr.cell (p := ⟨w.heap.size, 2, none⟩) (show w.heap.size < w.heap.size + 1 by omega)]; simp [go_sem]
    have HB := hide (show Below w.heap.size w wr from ((Below.refl _ _).alloc (Nat.le_refl _) _).trans (hbr.mono (by omega)))
    by_cases hlt : q < P.length
    · have hqV : q < V.length := by have := HLV.out; omega
      obtain ⟨p, hp⟩ : ∃ p, P[q]? = some p := ⟨P[q], by simp [hlt]⟩
      obtain ⟨v, hv⟩ : ∃ v, V[q]? = some v := ⟨V[q], by simp [hqV]⟩
      have HS : Hid (cnt f ((P.zip V).take (q + 1)) 1 = c + (if (f p && v == 1) = true then 1 else 0) ∧ cnt f ((P.zip V).take (q + 1)) 2 = l + (if (f p && v == 2) = true then 1 else 0)) := by
        show _ ∧ _
        have hz : (P.zip V)[q]? = some (p, v) := by rw [List.getElem?_zip_eq_some]; exact ⟨hp, hv⟩
        rw [List.take_add_one, hz, Option.toList_some, cnt_snoc, cnt_snoc, hM.out.1, hM.out.2]
        exact ⟨rfl, rfl⟩
      obtain ⟨A, rfl, e0, e1, _, e3, _⟩ := (HL.out.below HB.out) q p hp
      obtain ⟨A', rfl, f0⟩ := (HV.out.below HB.out) q v hv
      clear hp hv hM
      have hpick : ((p.g == gate) = false ∧ Hid (cnt f ((P.zip V).take (q + 1)) 1 = c ∧ cnt f ((P.zip V).take (q + 1)) 2 = l)) ∨
          ((p.g == gate) = true ∧ (v == 1) = true ∧ (v == 2) = false ∧ Hid (cnt f ((P.zip V).take (q + 1)) 1 = c + 1 ∧ cnt f ((P.zip V).take (q + 1)) 2 = l)) ∨
          ((p.g == gate) = true ∧ (v == 1) = false ∧ (v == 2) = true ∧ Hid (cnt f ((P.zip V).take (q + 1)) 1 = c ∧ cnt f ((P.zip V).take (q + 1)) 2 = l + 1)) ∨
          ((p.g == gate) = true ∧ (v == 1) = false ∧ (v == 2) = false ∧ Hid (cnt f ((P.zip V).take (q + 1)) 1 = c ∧ cnt f ((P.zip V).take (q + 1)) 2 = l)) := by
        have h := HS.out
        rw [HF.out] at h
        cases h1 : (p.g == gate)
        · rw [h1] at h
          exact Or.inl ⟨rfl, hide (by simpa using h)⟩
        · rw [h1] at h
          right
          by_cases h2 : v = 1
          · subst h2
            exact Or.inl ⟨rfl, rfl, rfl, hide (by simpa using h)⟩
          · right
            by_cases h3 : v = 2
            · subst h3
              exact Or.inl ⟨rfl, rfl, rfl, hide (by simpa using h)⟩
            · have e1 : (v == 1) = false := by simpa using h2
              have e2 : (v == 2) = false := by simpa using h3
              rw [e1, e2] at h
              exact Or.inr ⟨rfl, e1, e2, hide (by simpa using h)⟩
      rcases hpick with ⟨h1, h3⟩ | ⟨h1, h2, h2', h3⟩ | ⟨h1, h2, h2', h3⟩ | ⟨h1, h2, h2', h3⟩
      · go_wp2_with fail
        exact ⟨⟨q + 1, c, l, by omega, by simp, rfl, rfl, by omega, by omega, by omega, by omega, h3, hbr⟩, by simp [intOf]; omega⟩
      · go_wp2_with fail
        exact ⟨⟨q + 1, c + 1, l, by omega, by simp, rfl, rfl, by omega, by omega, by omega, by omega, h3, hbr⟩, by simp [intOf]; omega⟩
      · go_wp2_with fail
        exact ⟨⟨q + 1, c, l + 1, by omega, by simp, rfl, rfl, by omega, by omega, by omega, by omega, h3, hbr⟩, by simp [intOf]; omega⟩
      · go_wp2_with fail
        exact ⟨⟨q + 1, c, l, by omega, by simp, rfl, rfl, by omega, by omega, by omega, by omega, h3, hbr⟩, by simp [intOf]; omega⟩
    · have hqe : (P.zip V).take q = P.zip V := List.take_of_length_le (by rw [List.length_zip]; omega)
      have HM := hide hM.out
      rw [hqe] at HM
      clear hqe hM
      go_wp2_with fail
      go_ret2
      exact ⟨by rw [HM.out.1, HM.out.2]; rfl, HB.out⟩

set_option maxHeartbeats 3200000 in
set_option maxRecDepth 100000 in
theorem leftOf_any (o1 o2 o3 : Option Addr) (c1 c2 c3 : Nat) (T : List TK) (P : List TP) (V : List Int) (k : Nat) (x : TK) (w : World) (hT : TiksAt w o1 T) (hP : TapsAt w o2 P) (hV : IntsAt w o3 V) (hl : V.length = P.length) (hlen : P.length ≤ 60) (_hlt : T.length ≤ 12) (hk : T[k]? = some x) (hx : chkK x = 0) :
    Calls Try.prog 22 #[lg o1 o2 o3 T.length c1 P.length c2 V.length c3, .int .i64 (k : Int)] w fun e w' =>
      e = .returned (.int .i64 (allR x.k x.r - (many (P.zip V) x.i).1)) ∧ Below w.heap.size w w' := by
  have HX := hide (chkK_rides hx)
  have hkl := (List.getElem?_eq_some_iff.1 hk).1
  have HT := hide hT
  have HP := hide hP
  have HV := hide hV
  have HK := hide hk
  have hmb := many_bound (P.zip V) x.i
  rw [List.length_zip] at hmb
  have HM := hide (fun W (h : TapsAt W o2 P) (h' : IntsAt W o3 V) => manyOf_any o1 o2 o3 T.length c1 c2 c3 P V x.i P.length W h h' (Nat.le_refl _) (by omega) (by omega))
  rw [List.take_of_length_le (l := P.zip V) (by rw [List.length_zip]; omega)] at HM
  obtain ⟨hm0, hm1⟩ := hmb
  have hm2 : (many (P.zip V) x.i).1 ≤ 60 := by omega
  generalize (many (P.zip V) x.i).1 = M1 at *
  generalize (many (P.zip V) x.i).2 = M2 at *
  clear hT hP hV hx hk hl hm1
  have HB0 := hide ((Below.refl _ _).alloc (Nat.le_refl w.heap.size) (.cells #[.slice o1 T.length c1, .slice o2 P.length c2, .slice o3 V.length c3] 26))
  obtain ⟨A, rfl, e0, e1, e2, e3, e4, e5⟩ := (HT.out.below HB0.out) k x HK.out
  go_enter Try.func22, Try.ntmps22
  go_wp2_with fail
  have d0 : (w.alloc (.cells #[.slice (some A) T.length c1, .slice o2 P.length c2, .slice o3 V.length c3] 26)).cell? ⟨w.heap.size, 0, none⟩ = some (.slice (some A) T.length c1) := by simp [go_sem]
  have d1 : (w.alloc (.cells #[.slice (some A) T.length c1, .slice o2 P.length c2, .slice o3 V.length c3] 26)).cell? ⟨w.heap.size, 1, none⟩ = some (.slice o2 P.length c2) := by simp [go_sem]
  have d2 : (w.alloc (.cells #[.slice (some A) T.length c1, .slice o2 P.length c2, .slice o3 V.length c3] 26)).cell? ⟨w.heap.size, 2, none⟩ = some (.slice o3 V.length c3) := by simp [go_sem]
  have HB1 := hide (Below.refl (w.alloc (.cells #[.slice (some A) T.length c1, .slice o2 P.length c2, .slice o3 V.length c3] 26)).heap.size (w.alloc (.cells #[.slice (some A) T.length c1, .slice o2 P.length c2, .slice o3 V.length c3] 26)))
  have hs : w.heap.size < (w.alloc (.cells #[.slice (some A) T.length c1, .slice o2 P.length c2, .slice o3 V.length c3] 26)).heap.size := by simp
  have hA : (A.add (k * 6)).block < (w.alloc (.cells #[.slice (some A) T.length c1, .slice o2 P.length c2, .slice o3 V.length c3] 26)).heap.size := World.block_lt_of_cell? _ _ e0
  generalize w.alloc (.cells #[.slice (some A) T.length c1, .slice o2 P.length c2, .slice o3 V.length c3] 26) = w1 at *
  have k0 := cell_regrown d0
  have k1 := cell_regrown d1
  have k2 := cell_regrown d2
  have m0 := cell_regrown e0
  have cM : ∀ d os, Calls Try.prog 62 #[lg (some A) o2 o3 T.length c1 P.length c2 V.length c3, .int .i64 x.i, .int .i64 (P.length : Int)] (Sort.grow (redrawn w1 d) os) fun e w'' => e = .returned (.tuple #[.int .i64 M1, .int .i64 M2]) ∧ ∃ p : Regrown, w'' = Sort.grow (redrawn w1 p.d) p.os :=
    fun d os => Calls.regrown_of (HM.out _ ((HP.out.below HB0.out).below (below_regrown w1 d os)) ((HV.out.below HB0.out).below (below_regrown w1 d os)))
  refine wp_region_quiet_below (by kernel_rfl) (by kernel_rfl) ?_
  repeat (quiet_step (exact cM _ _))
  refine wpQuiet_nil ?_
  intro _ hw'
  obtain ⟨⟨dq, osq⟩, hw''⟩ := hw'
  subst hw''
  have hbw := below_regrown w1 dq osq
  have HB2 := hide (HB0.out.trans (hbw.mono HB0.out.size))
  have d0' : (Sort.grow (redrawn w1 dq) osq).cell? ⟨w.heap.size, 0, none⟩ = some (.slice (some A) T.length c1) := by rw [hbw.cell (p := ⟨w.heap.size, 0, none⟩) hs]; exact d0
  have f1 : (Sort.grow (redrawn w1 dq) osq).cell? ⟨(A.add (k * 6)).block, (A.add (k * 6)).off + 1, none⟩ = some (.int .i64 x.k) := by rw [hbw.cell (p := ⟨(A.add (k * 6)).block, (A.add (k * 6)).off + 1, none⟩) hA]; exact e1
  have f5 : (Sort.grow (redrawn w1 dq) osq).cell? ⟨(A.add (k * 6)).block, (A.add (k * 6)).off + 5, none⟩ = some (.int .i64 x.r) := by rw [hbw.cell (p := ⟨(A.add (k * 6)).block, (A.add (k * 6)).off + 5, none⟩) hA]; exact e5
  clear k0 k1 k2 m0 cM d0 d1 d2 e0 e1 e2 e3 e4 e5 hbw HB0 HB1 HM hs hA
  generalize Sort.grow (redrawn w1 dq) osq = w2 at *
  obtain ⟨hr0, hr9⟩ := HX.out
  have hAR : ((x.k == 1) = true ∧ allR x.k x.r = 1) ∨ ((x.k == 1) = false ∧ (x.k == 2) = true ∧ allR x.k x.r = 60) ∨ ((x.k == 1) = false ∧ (x.k == 2) = false ∧ allR x.k x.r = x.r) := by
    unfold allR
    by_cases k1 : x.k = 1
    · simp [k1]
    · by_cases k2 : x.k = 2
      · simp [k2]
      · simp [k1, k2]
  have hw1 : IntKind.i64.wrap (1 - M1) = 1 - M1 := by rw [IntKind.wrap_i64]; omega
  have hw2 : IntKind.i64.wrap (60 - M1) = 60 - M1 := by rw [IntKind.wrap_i64]; omega
  have hw3 : IntKind.i64.wrap (x.r - M1) = x.r - M1 := by rw [IntKind.wrap_i64]; omega
  rcases hAR with ⟨q1, q3⟩ | ⟨q1, q2, q3⟩ | ⟨q1, q2, q3⟩
  all_goals
    have HQ := hide q3
    clear q3
    go_wp2_with fail
    try go_region
    try go_wp2_with fail
    go_ret
    exact ⟨by rw [HQ.out]; rfl, by first | exact HB2.out | exact HB2.out.drew⟩

end Go.Proofs.Ytcakfmpckbmdeae
