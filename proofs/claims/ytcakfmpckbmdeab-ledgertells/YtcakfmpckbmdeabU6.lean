/-
  'SellOf' on ledgers that lie behind a value; 'ledgerIs' (package leeboardlaw).
-/
import Derived.Test.YtcakfmpckbmdeabU4
import Derived.Test.YtcakfmpckbmdeabU5
import Derived.Test.YtcakfmpckbmdeabX7
namespace Go.Proofs.Ytcakfmpckbmdeab
open Go.RowKit

theorem sellOfV {w : World} {v : Value} {T : List TK} {P : List TP} {V : List Int} (hL : LedV w v T P V) (h0 : chkL T P V = 0) (i k f t z r : Int) : Calls Try.prog 22 #[v, tk i k f t z r] w fun e w' =>
      (∃ v, e = .returned (.tuple #[v, .int .i64 (sellE T P V ⟨i, k, f, t, z, r⟩)]) ∧ LedV w' v (if sellE T P V ⟨i, k, f, t, z, r⟩ = 0 then soldT T ⟨i, k, f, t, z, r⟩ else []) (if sellE T P V ⟨i, k, f, t, z, r⟩ = 0 then P else []) (if sellE T P V ⟨i, k, f, t, z, r⟩ = 0 then V else [])) ∧ Below w.heap.size w w' := by
  obtain ⟨v1, v2, v3, rfl, ⟨o1, c1, rfl, hT, l1, hn1⟩, ⟨o2, c2, rfl, hP⟩, ⟨o3, c3, rfl, hV⟩⟩ := hL
  obtain ⟨r1, r2, r3, r4, r5⟩ := chkL_right h0
  rcases sell_ways ⟨i, k, f, t, z, r⟩ h0 with ⟨h1, e⟩ | ⟨h1, h2, e⟩ | ⟨h1, h2, h3, e⟩ | ⟨h1, h2, h3, h4, e⟩
  · rw [e]
    simp only [if_neg h1]
    exact sellOf_wrong T P V i k f t z r o1 o2 o3 c1 c2 c3 w hT r1 h1
  · rw [e]
    simp only [if_neg (show ¬ (6 : Int) = 0 by decide)]
    exact sellOf_twice T P V i k f t z r o1 o2 o3 c1 c2 c3 w hT r1 h1 h2
  · rw [e]
    simp only [if_neg (show ¬ (2 : Int) = 0 by decide)]
    exact sellOf_many T P V i k f t z r o1 o2 o3 c1 c2 c3 w hT r1 h1 h2 h3
  · rw [e]
    simp only [if_true]
    exact sellOf_ok T P V i k f t z r o1 o2 o3 c1 c2 c3 w hT r1 hn1 h3 h1 h2 (rising_of r4) h4 ⟨o2, c2, rfl, hP⟩ ⟨o3, c3, rfl, hV⟩

set_option maxHeartbeats 1600000 in
theorem ledgerIs_ok {w : World} {T : List TK} {P : List TP} {V : List Int} {o1 o2 o3 q1 q2 q3 : Option Addr} {n1 c1 n2 c2 n3 c3 m1 d1 m2 d2 m3 d3 : Nat} (hx : LedV w (lg o1 o2 o3 n1 c1 n2 c2 n3 c3) T P V) (hy : LedV w (lg q1 q2 q3 m1 d1 m2 d2 m3 d3) T P V) (l1 : T.length ≤ 100) (l2 : P.length ≤ 100) (l3 : V.length ≤ 100) :
    Calls Try.prog 28 #[lg o1 o2 o3 n1 c1 n2 c2 n3 c3, .int .i64 0, .int .i64 0, lg q1 q2 q3 m1 d1 m2 d2 m3 d3] w fun e w' => e = .returned (.bool true) ∧ Below w.heap.size w w' := by
  have HX := hide hx
  have HY := hide hy
  clear hx hy
  go_enter Try.func28, Try.ntmps28
  go_wp2_with fail
  have HG1 := hide (((Blks.nil w).more (.cells #[.slice o1 n1 c1, .slice o2 n2 c2, .slice o3 n3 c3] 43) (by simp)).more (.cells #[.slice q1 m1 d1, .slice q2 m2 d2, .slice q3 m3 d3] 43) (by simp))
  refine (same_ledV (HX.out.below HG1.out.2.2) (HY.out.below HG1.out.2.2) l1 l2 l3).mono ?_
  rintro e w1 ⟨rfl, hb⟩
  have HB := hide (HG1.out.on hb)
  clear hb HG1
  go_wp2_with fail
  go_ret
  exact ⟨rfl, HB.out.2.2⟩

set_option maxHeartbeats 1600000 in
theorem ledgerIs_err {w : World} {o1 o2 o3 q1 q2 q3 : Option Addr} {n1 c1 n2 c2 n3 c3 m1 d1 m2 d2 m3 d3 : Nat} (hx : LedV w (lg o1 o2 o3 n1 c1 n2 c2 n3 c3) [] [] []) (x : Int) (hx0 : x ≠ 0) :
    Calls Try.prog 28 #[lg o1 o2 o3 n1 c1 n2 c2 n3 c3, .int .i64 x, .int .i64 x, lg q1 q2 q3 m1 d1 m2 d2 m3 d3] w fun e w' => e = .returned (.bool true) ∧ Below w.heap.size w w' := by
  have HX := hide hx
  have h1 : (x != 0) = true := by simpa using hx0
  clear hx hx0
  go_enter Try.func28, Try.ntmps28
  go_wp2_with fail
  have HG1 := hide (((Blks.nil w).more (.cells #[.slice o1 n1 c1, .slice o2 n2 c2, .slice o3 n3 c3] 43) (by simp)).more (.cells #[.slice none 0 0, .slice none 0 0, .slice none 0 0] 43) (by simp))
  refine (same_ledV (HX.out.below HG1.out.2.2) (ledV_none _) (by simp) (by simp) (by simp)).mono ?_
  rintro e w1 ⟨rfl, hb⟩
  have HB := hide (HG1.out.on hb)
  clear hb HG1
  go_wp2_with fail
  go_ret
  exact ⟨rfl, HB.out.2.2⟩

end Go.Proofs.Ytcakfmpckbmdeab
