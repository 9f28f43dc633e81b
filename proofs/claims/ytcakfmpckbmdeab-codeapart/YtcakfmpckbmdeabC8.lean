/-
  The contract of 'code.numberIn'.
-/
import Derived.Test.YtcakfmpckbmdeabC7
namespace Go.Proofs.Ytcakfmpckbmdeab
open Go.RowKit

theorem wn_step (a v : Nat) (_hv : v < 31) : IntKind.u64.wrap (IntKind.u64.wrap ((a : Int) * 31) + (v : Int)) = (((a * 31 + v) % 18446744073709551616 : Nat) : Int) := by
  rw [IntKind.wrap_u64, IntKind.wrap_u64]; omega

set_option maxHeartbeats 1600000 in
set_option maxRecDepth 100000 in
theorem numberIn_some (s : ByteArray) (b : List UInt8) (c : UInt8) (w : World) (hbl : b.length = 13) (hs : s.data.toList = b ++ [c]) :
    Calls Try.prog 68 #[.string s] w fun e w' => Below w.heap.size w w' ∧
      ((∃ vs, vals b = some vs ∧ e = .returned (.tuple #[.int .u64 (wn vs : Int), .bool true])) ∨ (vals b = none ∧ e = .returned (.tuple #[.int .u64 0, .bool false]))) := by
  have hmf : ∀ (fn : Fn) (first cap : Array Value) (w : World), (Instr.makeFunc fn first cap).run Try.prog w = .ok (.func fn first cap) w := fun _ _ _ _ => rfl
  have HS := hide hs
  have HBL := hide hbl
  clear hs hbl
  go_enter Try.func68, Try.ntmps68
  go_wp2_with fail
  refine (whole_ret 89 w.heap.size s ⟨([] : List UInt8).toArray⟩ (fun W => One W w.heap.size (S b)) _ enter42 (fun w1 w2 hk hlt h => h.kp hk (by simp)) (by simp) (fun p W hp hc hz hk hl => ?_)).mono ?_
  · exact clo2_ok p w.heap.size b c [] ⟨#[]⟩ W HBL.out (by rw [← HS.out, ← S_of]; exact hc) hz ((one_new w _ 9 rfl).kp hk (fun h => h)) (by rw [hp]; simp; omega)
  rintro e w1 ⟨rfl, hk, c0, z0⟩
  have hB : Below w.heap.size w w1 := (Kp.next (S := fun _ => False) (Kp.alloc (Kp.refl _ _) _) hk (fun i hi h => by omega)).below (Nat.le_refl _) (fun _ _ h => h)
  rw [toList_mk, List.isEmpty_nil]
  simp only [S] at c0
  generalize hBA : (⟨b.toArray⟩ : ByteArray) = BA at c0
  have hBs : BA.size = 13 := by rw [← hBA]; have := HBL.out; simpa [ByteArray.size] using this
  have hBl : BA.data.toList = b := by rw [← hBA]
  have HBS := hide hBs
  have HBl := hide hBl
  clear hBA hBs hBl hk
  go_wp2_with fail
  refine (valuesOf_any BA _ (by have := HBS.out; omega)).mono ?_
  rw [HBl.out, HBS.out]
  rintro e w2 ⟨hb2, ⟨vs, hv, rfl, hown⟩ | ⟨hv, rfl⟩⟩
  · have hB2 := hB.trans (hb2.mono hB.size)
    have hlt := vals_lt hv
    have hl := vals_len hv
    have HV := hide hv
    have HLT := hide hlt
    have HL := hide (show vs.length = 13 by have := HBL.out; omega)
    have HO := hide hown
    clear hv hlt hl hown
    go_wp2_with fail
    go_loop [8, 23] (fun t i => ∃ k : Nat, k ≤ 13 ∧ i = .int .i64 k ∧ t = .int .u64 (wn (vs.take k) : Int)) (fun _ i => 13 - (intOf i).toNat)
    case atStart => exact ⟨0, Nat.zero_le _, rfl, rfl⟩
    case round =>
      obtain ⟨k, hk, rfl, rfl⟩ := hrel
      have hwl := wn_lt (vs.take k)
      by_cases hkn : k < 13
      · have hkl : k < vs.length := by have := HL.out; omega
        have hc := HO.out.cellAt k (by omega)
        rw [iv_get (List.getElem?_eq_getElem hkl)] at hc
        have hv := HLT.out vs[k] (List.getElem_mem _)
        have hws : wn (vs.take (k + 1)) = (wn (vs.take k) * 31 + vs[k]) % 18446744073709551616 := by
          rw [List.take_succ_eq_append_getElem hkl, wn_snoc]
        generalize hx : vs[k] = x at *
        generalize hy : wn (vs.take k) = y at *
        have HW := hide hws
        have HX := hide hx
        have HY := hide hy
        clear hws hx hy
        go_wp2
        exact ⟨⟨k + 1, by omega, by go_num, by rw [HW.out, wn_step y x hv]⟩, by simp [intOf]; omega⟩
      · have hke : k = 13 := by omega
        subst hke
        go_wp2
        go_ret2
        refine ⟨hB2, Or.inl ⟨vs, HV.out, ?_⟩⟩
        rw [List.take_of_length_le (by have := HL.out; omega)]; rfl
  · have hB2 := hB.trans (hb2.mono hB.size)
    have HV := hide hv
    clear hv
    go_wp2_with fail
    refine wp_loop_rounds 1 ?_
    rw [rounds_succ]
    go_wp2
    go_ret2
    exact ⟨hB2, Or.inr ⟨HV.out, rfl⟩⟩
end Go.Proofs.Ytcakfmpckbmdeab
