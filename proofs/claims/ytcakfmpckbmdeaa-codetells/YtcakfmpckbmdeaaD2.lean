/-
  The document's answer 'CodeOf' (package leeboardref): bytes divided by 31, again and again.
-/
import Derived.Test.YtcakfmpckbmdeaaD1
import Derived.Test.YtcakfmpckbmdeaaC6
import Derived.Test.YtcakfmpckbmdeaaC12
import Derived.Test.YtcakfmpckbmdeaaE12
namespace Go.Proofs.Ytcakfmpckbmdeaa
open Go.RowKit

/-- the bytes of block g, which may be written -/
structure Row (w : World) (g : Nat) (l : List UInt8) : Prop where
  c : ∀ j (hj : j < l.length), w.cell? ⟨g, j, none⟩ = some (.int .u8 (l[j].toNat : Int))
  z : ∀ j, j < l.length → w.frozen? ⟨g, j, none⟩ = false

theorem Row.set {w : World} {g : Nat} {l : List UInt8} (h : Row w g l) (n : Nat) (hn : n < l.length) (b : UInt8) : Row (w.setCell ⟨g, n, none⟩ (.int .u8 (b.toNat : Int))) g (l.set n b) :=
  ⟨set_cells w g n l b hn h.c, fun j hj => by rw [World.frozen?_setCell]; exact h.z j (by simpa using hj)⟩

theorem num_append (a b : List UInt8) : num (a ++ b) = num a * 256 ^ b.length + num b := by
  induction b generalizing a with
  | nil => simp [num]
  | cons x b ih =>
    have e1 : a ++ x :: b = (a ++ [x]) ++ b := by simp
    have e2 : x :: b = [x] ++ b := rfl
    rw [e1, ih, num_snoc, e2, ih [x]]
    rw [show num [x] = x.toNat by simp [num]]
    simp only [List.length_append, List.length_singleton]
    rw [Nat.add_comm 1 b.length, Nat.pow_succ, Nat.add_mul, Nat.mul_assoc, Nat.mul_comm 256]
    omega

theorem v_int {k : IntKind} {a b : Int} (h : a = b) : Value.int k a = Value.int k b := by rw [h]

theorem div_step (Q r x M : Nat) (hr : r < 31) (hx : x < 256) (h : Q * 31 + r = M) :
    (256 * r + x) / 31 < 256 ∧ (Q * 256 + (256 * r + x) / 31) * 31 + (256 * r + x) % 31 = M * 256 + x := by omega

set_option maxHeartbeats 3200000 in
theorem codeOf_ok (i k f t z r : Nat) (w : World) (h : Right i k f t z r) :
    Calls Try.prog 19 #[tk i k f t z r] w fun e w' => e = .returned (S (codeL (num (encL i k f t z r)))) ∧ Below w.heap.size w w' := by
  have HR := hide h
  have hU8 := encL_len i k f t z r
  clear h
  generalize hU : encL i k f t z r = U at *
  have HU := hide hU
  generalize hN : num U = N at *
  have HN := hide hN
  have HU8 := hide hU8
  clear hU hN hU8
  go_enter Try.func19, Try.ntmps19
  go_wp2_with fail
  refine (bytes_ok i k f t z r _ HR.out).mono ?_
  rintro e w1 ⟨rfl, hb1⟩
  rw [HU.out]
  simp only [S]
  have hB1 : Below w.heap.size w w1 := ((Below.refl _ _).alloc (Nat.le_refl _) _).trans (hb1.mono (by simp))
  clear hb1
  obtain ⟨cap, W, hrun, hcap, hBW, hlt, hcells, hfro⟩ := bytes_of w1 ⟨U.toArray⟩
  have hs8 : (⟨U.toArray⟩ : ByteArray).size = 8 := by have := HU8.out; simpa [ByteArray.size] using this
  rw [hs8] at hrun hcap
  have hrow : Row W w1.heap.size U := ⟨fun j hj => by
    have := hcells j (by rw [hs8]; have := HU8.out; omega)
    exact this, fun j hj => hfro j (by rw [hs8]; have := HU8.out; omega)⟩
  have hBW' := hB1.trans (hBW.mono hB1.size)
  have HROW := hide hrow
  clear hcells hfro hrow hs8
  have hg := hB1.size
  generalize w1.heap.size = g at *
  go_wp2_with fail
  go_loopw [4, 5] (fun sv nv wr => ∃ (m : Nat) (L : List UInt8) (A : ByteArray), m ≤ 13 ∧ nv = .int .i64 (m : Int) ∧ sv = .string A ∧ A = ⟨((dg N m).map sgn).toArray⟩ ∧ L.length = 8 ∧ num L = N / 31 ^ m ∧ Row wr g L ∧ Below w.heap.size w wr)
    (fun _ nv _ => 13 - (intOf nv).toNat)
  case atStart => exact ⟨0, U, ⟨#[]⟩, by omega, rfl, rfl, by simp [dg], HU8.out, by rw [HN.out]; simp, HROW.out, hBW'⟩
  case round =>
    obtain ⟨m, L, A, hm, rfl, rfl, hA, hL8, hLN, hrowL, hb⟩ := hrel
    have hAs : A.size = m := by rw [hA]; simp [ByteArray.size, dg_len]
    have HA := hide hA
    have HLN := hide hLN
    have HRL := hide hrowL
    have HL8 := hide hL8
    have HAS := hide hAs
    clear hA hLN hrowL hL8 hAs
    by_cases hm13 : m < 13
    · go_wp2_with fail
      go_loopw [6, 7] (fun rv iv wq => ∃ (q : Nat) (rest : Nat) (Qs : List UInt8), q ≤ 8 ∧ iv = .int .i64 (q : Int) ∧ rv = .int .i64 (rest : Int) ∧ rest < 31 ∧ Qs.length = q ∧ num Qs * 31 + rest = num (L.take q) ∧ Row wq g (Qs ++ L.drop q) ∧ Below w.heap.size w wq)
        (fun _ iv _ => 8 - (intOf iv).toNat)
      case atStart => exact ⟨0, 0, [], by omega, rfl, rfl, by omega, rfl, by simp [num], by simpa using HRL.out, hb⟩
      case round =>
        obtain ⟨q, rest, Qs, hq, rfl, rfl, hr31, hQl, hQn, hrowQ, hbq⟩ := hrel
        have HQL := hide hQl
        have HQN := hide hQn
        have HRQ := hide hrowQ
        clear hQl hQn hrowQ
        by_cases hq8 : q < 8
        · have hql : q < (Qs ++ L.drop q).length := by rw [List.length_append, List.length_drop, HQL.out, HL8.out]; omega
          have hqL : q < L.length := by rw [HL8.out]; omega
          have hget : (Qs ++ L.drop q)[q] = L[q] := by
            rw [List.getElem_append_right (by rw [HQL.out]; omega)]
            simp [HQL.out]
          have hc := HRQ.out.c q hql
          have hz := HRQ.out.z q hql
          rw [hget] at hc
          have hx := (L[q]).toNat_lt
          have hset : ∀ b : UInt8, (Qs ++ L.drop q).set q b = (Qs ++ [b]) ++ L.drop (q + 1) := fun b => by
            rw [List.set_append_right _ _ (by rw [HQL.out]; omega), HQL.out, Nat.sub_self, List.drop_eq_getElem_cons hqL, List.set_cons_zero]
            simp
          have htake : num (L.take (q + 1)) = num (L.take q) * 256 + (L[q]).toNat := by rw [List.take_succ_eq_append_getElem hqL, num_snoc]
          generalize hxx : (L[q]).toNat = x at *
          have hds := div_step (num Qs) rest x _ hr31 hx HQN.out
          have HT := hide htake
          have HSET := hide hset
          have HDS := hide hds.2
          have hd256 := hds.1
          have hbv : ((UInt8.ofNat ((256 * rest + x) / 31)).toNat : Int) = (256 * (rest : Int) + (x : Int)) / 31 := by simp only [UInt8.toNat_ofNat']; omega
          have hrow' := HRQ.out.set q hql (UInt8.ofNat ((256 * rest + x) / 31))
          rw [HSET.out, hbv] at hrow'
          have HROW' := hide hrow'
          clear htake hset hds hget hxx hbv hrow'
          go_wp2_with fail
          refine ⟨⟨q + 1, (256 * rest + x) % 31, Qs ++ [UInt8.ofNat ((256 * rest + x) / 31)], by omega, by go_num, v_int (by omega), by omega, by simp [HQL.out], ?_, HROW'.out, hbq.setCell hg _⟩, by simp [intOf]; omega⟩
          rw [num_snoc, show (UInt8.ofNat ((256 * rest + x) / 31)).toNat = (256 * rest + x) / 31 by simp only [UInt8.toNat_ofNat']; omega, HT.out, ← HDS.out]
        · have hqe : q = 8 := by omega
          have hcut := run_cut rest hr31
          have hAm : A.size ≤ 12 := by rw [HAS.out]; omega
          have hMr : num Qs * 31 + rest = N / 31 ^ m := by
            have := HQN.out
            rw [List.take_of_length_le (by rw [HL8.out]; omega), HLN.out] at this
            exact this
          have hrest : rest = N / 31 ^ m % 31 := by omega
          have hnum : num Qs = N / 31 ^ (m + 1) := by rw [Nat.pow_succ, ← Nat.div_div_eq_div_mul]; omega
          have HRE := hide hrest
          have HNU := hide hnum
          have HQ8 := hide hqe
          clear hMr hrest hnum
          go_wp2_with fail
          refine ⟨⟨m + 1, Qs, ⟨#[sgn rest]⟩ ++ A, by omega, by go_num, rfl, ?_, by rw [HQL.out]; exact HQ8.out, HNU.out, ?_, hbq⟩, by simp [intOf]; omega⟩
          · rw [HA.out, show (⟨#[sgn rest]⟩ : ByteArray) = ⟨[sgn rest].toArray⟩ from rfl, app_mk, HRE.out]; rfl
          · have := HRQ.out
            rw [HQ8.out, List.drop_of_length_le (by rw [HL8.out]; omega), List.append_nil] at this
            exact this
    · have hme : m = 13 := by omega
      have hAs : A.size ≤ 13 := by rw [HAS.out]; omega
      have hAl : A.data.toList = (dg N 13).map sgn := by rw [HA.out, hme]
      have HAl := hide hAl
      clear hAl
      go_wp2_with fail
      refine (markOf_any A (dg N 13) _ (by omega) (by rw [HAl.out]; exact vals_sgn (dg_lt N 13))).mono ?_
      rintro e w2 ⟨rfl, rfl⟩
      simp only [S]
      have hs1 : (⟨[sgn (mk (dg N 13))].toArray⟩ : ByteArray).size = 1 := rfl
      go_wp2_with fail
      go_ret
      refine ⟨?_, hb⟩
      show Ending.returned (.string (A ++ ⟨[sgn (mk (dg N 13))].toArray⟩)) = _
      rw [HA.out, hme, app_mk]
      simp [S, codeL, codeD]
end Go.Proofs.Ytcakfmpckbmdeaa
