/-
  The law 'CodeMark': its walk.
-/
import Derived.Test.YtcakfmpckbmdeaaC10
import Derived.Test.YtcakfmpckbmdeaaC11
import Derived.Test.YtcakfmpckbmdeaaC12
namespace Go.Proofs.Ytcakfmpckbmdeaa
open Go.RowKit

theorem vals_set {l : List UInt8} {vs : List Nat} {b : UInt8} {v : Nat} (h : vals l = some vs) (hb : vof b = some v) (n : Nat) : vals (l.set n b) = some (vs.set n v) := by
  induction l generalizing vs n with
  | nil => simp [vals] at h; subst h; simp [vals]
  | cons a l ih =>
    obtain ⟨u, us, h1, h2, rfl⟩ := vals_cons_some.1 h
    cases n with
    | zero => exact vals_cons_some.2 ⟨v, us, hb, h2, rfl⟩
    | succ n => exact vals_cons_some.2 ⟨u, us.set n v, h1, ih h2 n, rfl⟩

theorem vals_get {l : List UInt8} {vs : List Nat} (h : vals l = some vs) (n : Nat) (hn : n < l.length) : ∃ v, vs[n]? = some v ∧ vof l[n] = some v := by
  induction l generalizing vs n with
  | nil => simp at hn
  | cons a l ih =>
    obtain ⟨u, us, h1, h2, rfl⟩ := vals_cons_some.1 h
    cases n with
    | zero => exact ⟨u, rfl, h1⟩
    | succ n => simpa using ih h2 n (by simpa using hn)

theorem mk_set_ne (vs : List Nat) (n v u : Nat) (hv : vs[n]? = some v) (hn : n < 20) (hv31 : v < 31) (hu31 : u < 31) (hne : u ≠ v) : mk (vs.set n u) ≠ mk vs := by
  intro h
  have e := wsF_set vs 0 n v u hv
  rw [← ws_wsF, ← ws_wsF] at e
  unfold mk at h
  have h2 : ws (vs.set n u) % 31 = ws vs % 31 := by omega
  apply hne
  refine cancel31 u v (0 + n + 2) hu31 hv31 (by omega) (by omega) ?_
  omega

/-- what Mark says: an error and nothing, or one sign -/
theorem mark_cases (l : List UInt8) : (∃ e : Int, markV l = ([], e) ∧ (e != 0) = true) ∨ ∃ vs, vals l = some vs ∧ markV l = ([sgn (mk vs)], 0) ∧ l.length ≤ 20 ∧ 0 < l.length := by
  unfold markV
  by_cases h : 20 < l.length
  · left; rw [if_pos h]; exact ⟨2, rfl, rfl⟩
  · rw [if_neg h]
    cases hv : vals l with
    | none => left; exact ⟨1, rfl, rfl⟩
    | some vs =>
      cases vs with
      | nil => left; exact ⟨1, rfl, rfl⟩
      | cons v vs => right; refine ⟨_, rfl, rfl, by omega, ?_⟩; have := vals_len hv; simp at this; omega

theorem mark_of_vals {l : List UInt8} {vs : List Nat} (h : vals l = some vs) (h1 : l.length ≤ 20) (h2 : 0 < l.length) : markV l = ([sgn (mk vs)], 0) := by
  unfold markV
  rw [if_neg (by omega), h]
  cases vs with
  | nil => have := vals_len h; simp at this; omega
  | cons v vs => rfl

theorem sgn_inj {a b : Nat} (ha : a < 31) (hb : b < 31) (h : sgn a = sgn b) : a = b := by
  have h1 := vof_sgn ha
  rw [h, vof_sgn hb] at h1
  exact (Option.some.inj h1).symm

set_option maxHeartbeats 3200000 in
theorem codeMark_walk (s : ByteArray) (n : Int) (b : UInt8) (w : World) (hmax : s.size ≤ maxLen) :
    Calls Try.prog 8 #[.string s, .int .i64 n, .int .u8 (b.toNat : Int)] w fun e w' => e = .returned (.bool true) ∧ Below w.heap.size w w' := by
  rcases mark_cases s.data.toList with ⟨e, hM, he⟩ | ⟨vs, hv, hM, h20, h0⟩
  · have HM := hide hM
    clear hM
    go_enter Try.func8, Try.ntmps8
    go_wp2_with fail
    refine (mark_any _ _ hmax).mono ?_
    rintro ee w1 ⟨rfl, hb1⟩
    rw [HM.out]
    simp only [S]
    go_wp2_with fail
    refine (codeBegun_any _).mono ?_
    rintro ee w2 ⟨rfl, hb2⟩
    go_wp2_with fail
    go_ret
    exact ⟨rfl, hb1.trans (hb2.mono hb1.size)⟩
  · have HM := hide hM
    have HV := hide hv
    have hmk := mk_lt vs
    have hsz : s.data.toList.length = s.size := by simp
    rw [hsz] at h20 h0
    have hvm : vi (sgn (mk vs)) = (mk vs : Int) := vof_some.1 (vof_sgn hmk)
    have HVM := hide hvm
    clear hM hv hsz hvm
    by_cases hn0 : n < 0
    · go_enter Try.func8, Try.ntmps8
      go_wp2_with fail
      refine (mark_any _ _ hmax).mono ?_
      rintro ee w1 ⟨rfl, hb1⟩
      rw [HM.out]
      simp only [S]
      go_wp2_with fail
      refine (codeBegun_any _).mono ?_
      rintro ee w2 ⟨rfl, hb2⟩
      have hB2 := hb1.trans (hb2.mono hb1.size)
      clear hb1 hb2
      go_wp2_with fail
      refine (valueOf_any _ _).mono ?_
      rintro ee w3 ⟨rfl, rfl⟩
      rw [show vi ((⟨#[sgn (mk vs)]⟩ : ByteArray)[0]'(Nat.zero_lt_one)) = (mk vs : Int) from HVM.out]
      go_wp2_with fail
      go_ret
      exact ⟨rfl, hB2⟩
    by_cases hn1 : (s.size : Int) ≤ n
    · go_enter Try.func8, Try.ntmps8
      go_wp2_with fail
      refine (mark_any _ _ hmax).mono ?_
      rintro ee w1 ⟨rfl, hb1⟩
      rw [HM.out]
      simp only [S]
      go_wp2_with fail
      refine (codeBegun_any _).mono ?_
      rintro ee w2 ⟨rfl, hb2⟩
      have hB2 := hb1.trans (hb2.mono hb1.size)
      clear hb1 hb2
      go_wp2_with fail
      refine (valueOf_any _ _).mono ?_
      rintro ee w3 ⟨rfl, rfl⟩
      rw [show vi ((⟨#[sgn (mk vs)]⟩ : ByteArray)[0]'(Nat.zero_lt_one)) = (mk vs : Int) from HVM.out]
      go_wp2_with fail
      go_ret
      exact ⟨rfl, hB2⟩
    obtain ⟨q, rfl⟩ := Int.eq_ofNat_of_zero_le (Int.not_lt.1 hn0)
    have hq : q < s.size := by omega
    by_cases hsame : s[q] = b
    · have hbq : (((s[q]).toNat : Int) == (b.toNat : Int)) = true := by rw [hsame]; simp
      have HSM := hide hsame
      clear hsame
      go_enter Try.func8, Try.ntmps8
      go_wp2_with fail
      refine (mark_any _ _ hmax).mono ?_
      rintro ee w1 ⟨rfl, hb1⟩
      rw [HM.out]
      simp only [S]
      go_wp2_with fail
      refine (codeBegun_any _).mono ?_
      rintro ee w2 ⟨rfl, hb2⟩
      have hB2 := hb1.trans (hb2.mono hb1.size)
      clear hb1 hb2
      go_wp2_with fail
      refine (valueOf_any _ _).mono ?_
      rintro ee w3 ⟨rfl, rfl⟩
      rw [show vi ((⟨#[sgn (mk vs)]⟩ : ByteArray)[0]'(Nat.zero_lt_one)) = (mk vs : Int) from HVM.out]
      go_wp2_with fail
      go_ret
      exact ⟨rfl, hB2⟩
    have hbq : (((s[q]).toNat : Int) == (b.toNat : Int)) = false := by
      rw [beq_eq_false_iff_ne]; intro h; apply hsame; apply UInt8.toNat_inj.1; omega
    have HSM := hide hsame
    clear hsame
    cases hvb : vof b with
    | none =>
      have hvn := hide (vof_none.1 hvb)
      clear hvb
      go_enter Try.func8, Try.ntmps8
      go_wp2_with fail
      refine (mark_any _ _ hmax).mono ?_
      rintro ee w1 ⟨rfl, hb1⟩
      rw [HM.out]
      simp only [S]
      go_wp2_with fail
      refine (codeBegun_any _).mono ?_
      rintro ee w2 ⟨rfl, hb2⟩
      have hB2 := hb1.trans (hb2.mono hb1.size)
      clear hb1 hb2
      go_wp2_with fail
      refine (valueOf_any _ _).mono ?_
      rintro ee w3 ⟨rfl, rfl⟩
      rw [show vi ((⟨#[sgn (mk vs)]⟩ : ByteArray)[0]'(Nat.zero_lt_one)) = (mk vs : Int) from HVM.out]
      go_wp2_with fail
      refine (valueOf_any _ _).mono ?_
      rintro ee w4 ⟨rfl, rfl⟩
      rw [hvn.out]
      go_wp2_with fail
      go_ret
      exact ⟨rfl, hB2⟩
    | some v =>
      have hvn := hide (vof_some.1 hvb)
      have HVB := hide hvb
      clear hvb
      go_enter Try.func8, Try.ntmps8
      go_wp2_with fail
      refine (mark_any _ _ hmax).mono ?_
      rintro ee w1 ⟨rfl, hb1⟩
      rw [HM.out]
      simp only [S]
      go_wp2_with fail
      refine (codeBegun_any _).mono ?_
      rintro ee w2 ⟨rfl, hb2⟩
      have hB2 := hb1.trans (hb2.mono hb1.size)
      clear hb1 hb2
      go_wp2_with fail
      refine (valueOf_any _ _).mono ?_
      rintro ee w3 ⟨rfl, rfl⟩
      rw [show vi ((⟨#[sgn (mk vs)]⟩ : ByteArray)[0]'(Nat.zero_lt_one)) = (mk vs : Int) from HVM.out]
      go_wp2_with fail
      refine (valueOf_any _ _).mono ?_
      rintro ee w4 ⟨rfl, rfl⟩
      rw [hvn.out]
      obtain ⟨cap, W, hrun, hcap, hBW, hlt, hcells, hfro⟩ := bytes_of w4 s
      have c1 := hcells q hq
      have z1 := hfro q hq
      have hlen : s.data.toList.length = s.size := by simp
      have hcl : ∀ j (hj : j < s.data.toList.length), W.cell? ⟨w4.heap.size, j, none⟩ = some (.int .u8 ((s.data.toList[j]).toNat : Int)) := fun j hj => hcells j (by omega)
      have hstr := string_of (W.setCell ⟨w4.heap.size, q, none⟩ (.int .u8 (b.toNat : Int))) w4.heap.size cap s.size (s.data.toList.set q b) (by rw [List.length_set]; exact hlen) (set_cells W w4.heap.size q s.data.toList b (by omega) hcl)
      have hM2 : markV (s.data.toList.set q b) = ([sgn (mk (vs.set q v))], 0) := mark_of_vals (vals_set HV.out HVB.out q) (by rw [List.length_set]; omega) (by rw [List.length_set]; omega)
      obtain ⟨v0, hv0, hv0'⟩ := vals_get HV.out q (by omega)
      have hne : mk (vs.set q v) ≠ mk vs := by
        refine mk_set_ne vs q v0 v hv0 (by omega) (vof_lt hv0').1 (vof_lt HVB.out).1 ?_
        intro he
        subst he
        apply unhide HSM
        rw [← (vof_lt HVB.out).2, (vof_lt hv0').2]
        rfl
      have hmk2 := mk_lt (vs.set q v)
      have hneb : (sgn (mk (vs.set q v)) == sgn (mk vs)) = false := by
        rw [beq_eq_false_iff_ne]; intro he; exact hne (sgn_inj hmk2 hmk he)
      have hBS : Below w.heap.size w (W.setCell ⟨w4.heap.size, q, none⟩ (.int .u8 (b.toNat : Int))) := (hB2.trans (hBW.mono hB2.size)).setCell hB2.size _
      generalize hL2 : s.data.toList.set q b = L2 at hstr hM2
      have hL2s : L2.length ≤ 20 := by rw [← hL2, List.length_set]; omega
      generalize hm2 : sgn (mk (vs.set q v)) = g2 at hM2 hneb
      generalize hm1 : sgn (mk vs) = g1 at hneb ⊢
      have HM2 := hide hM2
      have HLE := hide hL2s
      clear hcells hfro hlen hcl hL2 hM2 hv0 hv0' hne hm2 hm1 hL2s hmk2
      go_wp2_with fail
      refine (mark_any _ _ (by have := HLE.out; simp only [ByteArray.size, List.size_toArray]; unfold maxLen; omega)).mono ?_
      rintro ee w5 ⟨rfl, hb5⟩
      rw [show (⟨L2.toArray⟩ : ByteArray).data.toList = L2 by simp, HM2.out]
      simp only [S]
      have hB5 := hBS.trans (hb5.mono hBS.size)
      go_wp2_with fail
      go_ret
      exact ⟨rfl, hB5⟩

theorem byte_of (c : Int) (h : (Lit.int .u8 c).wf = true) : ∃ b : UInt8, c = (b.toNat : Int) := by
  have hx : 0 ≤ c ∧ c ≤ 255 := by simpa [Lit.wf, IntKind.min, IntKind.max, IntKind.signed, IntKind.bits] using h
  exact ⟨UInt8.ofNat c.toNat, by simp only [UInt8.toNat_ofNat']; omega⟩

theorem codeMark_law (s : ByteArray) (n c : Int) (w : World) (hmax : s.size ≤ maxLen) (hc : (Lit.int .u8 c).wf = true) :
    Calls Try.prog 8 #[.string s, .int .i64 n, .int .u8 c] w fun e w' => e = .returned (.bool true) ∧ Below w.heap.size w w' := by
  obtain ⟨b, rfl⟩ := byte_of c hc
  exact codeMark_walk s n b w hmax
end Go.Proofs.Ytcakfmpckbmdeaa
