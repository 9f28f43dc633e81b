/-
  'judge' (package ledger): what it says, and that this is the document's verdict.
-/
import Derived.Test.YtcakfmpckbmdeabL3
import Derived.Lib.QuietBelow
import Derived.BigQuiet
namespace Go.Proofs.Ytcakfmpckbmdeab
open Go.RowKit

theorem hasT_pos {T : List TK} {id : Int} (hr : Rising T) (h : hasT T id = true) : ∃ x, T[posT T id]? = some x ∧ x.i = id ∧ idxT T id = posT T id := by
  rw [hasT, List.any_eq_true] at h
  obtain ⟨x, hx, hid⟩ := h
  have hid : x.i = id := by simpa using hid
  obtain ⟨n, hn⟩ := List.mem_iff_getElem?.1 hx
  have hp : posT T id = n := posT_of (Nat.le_of_lt (List.getElem?_eq_some_iff.1 hn).1) (fun q y hy hq => by have := hr q n y x hy hn hq; omega) (fun q y hy hq => by
    rcases Nat.lt_or_ge n q with h | h
    · have := hr n q x y hn hy h; omega
    · obtain rfl : q = n := by omega
      rw [hn] at hy; cases hy; omega)
  refine ⟨x, by rw [hp]; exact hn, hid, ?_⟩
  rw [hp]
  exact idxT_some hn hid (fun j hj y hy => by have := hr j n y x hy hn hj; omega)

theorem hasT_idx {T : List TK} {id : Int} : (idxT T id < 0) ↔ hasT T id = false := by
  constructor
  · intro h
    rw [hasT, List.any_eq_false]
    intro x hx
    unfold idxT at h
    split at h
    · omega
    · rename_i hn
      rw [List.findIdx?_eq_none_iff] at hn
      simpa using hn x hx
  · intro h
    rw [hasT, List.any_eq_false] at h
    rw [idxT_none (fun j p hj => by simpa using h p (List.mem_of_getElem? hj))]
    decide

theorem many_rides (X : List (TP × Int)) (id : Int) : many X id = (((ridesL X id).length : Int), lastT (ridesL X id)) := by
  have key : ∀ n, many (X.take n) id = (((ridesL (X.take n) id).length : Int), lastT (ridesL (X.take n) id)) := by
    intro n
    induction n with
    | zero => rfl
    | succ n ih =>
      rw [List.take_add_one]
      cases hx : X[n]? with
      | none => simpa using ih
      | some x =>
        rw [Option.toList_some, many_snoc, ridesL_snoc, ih]
        by_cases h : (x.1.a == id && x.2 == 1) = true
        · have h' : x.1.a = id ∧ x.2 = 1 := by simpa using h
          rw [if_pos h', if_pos h]
          simp [lastT]
        · have h' : ¬ (x.1.a = id ∧ x.2 = 1) := by simpa using h
          rw [if_neg h', if_neg h]
  have := key X.length
  rwa [List.take_length] at this

theorem ridesL_mem {X : List (TP × Int)} {id : Int} {x : TP} (h : x ∈ ridesL X id) : x.a = id ∧ ∃ v, (x, v) ∈ X := by
  simp only [ridesL, List.mem_map, List.mem_filter] at h
  obtain ⟨y, ⟨hy, hc⟩, rfl⟩ := h
  simp at hc
  exact ⟨hc.1, y.2, hy⟩

theorem ridesL_len (X : List (TP × Int)) (id : Int) : (ridesL X id).length ≤ X.length := by
  rw [ridesL, List.length_map]
  exact List.length_filter_le _ _

/-- what a book's judge says -/
def judB (T : List TK) (X : List (TP × Int)) (p : TP) : Int × Int :=
  judgeV (T.getD (posT T p.a) tk0).i (T.getD (posT T p.a) tk0).k (T.getD (posT T p.a) tk0).f (T.getD (posT T p.a) tk0).t (T.getD (posT T p.a) tk0).z (T.getD (posT T p.a) tk0).r (ridesL X p.a).length p (ridesL X p.a)

theorem firstE_of (l : List Int) (h : ∀ x ∈ l, x = 0) : firstE l = 0 := by
  induction l with
  | nil => rfl
  | cons e l ih =>
    simp only [firstE]
    rw [if_pos (h e (by simp))]
    exact ih fun x hx => h x (by simp [hx])

/-- it is the document's verdict, where all is right -/
theorem judB_verd {T : List TK} {P : List TP} {V : List Int} {i : Nat} {p : TP} (hr : Rising T) (hT : ∀ x ∈ T, chkK x = 0) (hP : ∀ x ∈ P.take i, chkT x = 0) (hi : i ≤ 60) (h1 : chkT p = 0) (h2 : hasT T p.a = true) :
    judB T ((P.zip V).take i) p = verd T P V i p := by
  obtain ⟨x, hx, hid, hidx⟩ := hasT_pos hr h2
  have hg : T.getD (posT T p.a) tk0 = x := by simp [List.getD, hx]
  have hE : errJ x.i x.k x.f x.t x.z x.r ((ridesL ((P.zip V).take i) p.a).length : Int) p (ridesL ((P.zip V).take i) p.a) = 0 := by
    have hm : ∀ y ∈ ridesL ((P.zip V).take i) p.a, chkT y = 0 := by
      intro y hy
      obtain ⟨_, v, hv⟩ := ridesL_mem hy
      refine hP y ?_
      obtain ⟨j, hj⟩ := List.mem_iff_getElem?.1 hv
      rw [List.getElem?_take] at hj
      split at hj
      · rename_i hji
        rw [List.getElem?_zip_eq_some] at hj
        exact List.mem_iff_getElem?.2 ⟨j, by rw [List.getElem?_take, if_pos hji]; exact hj.1⟩
      · cases hj
    rw [errJ_end _ _ _ _ _ _ _ _ _ (hT x (List.mem_of_getElem? hx)) h1 ?_ (firstE_of _ ?_), if_neg]
    · rw [hid]
      simp only [bne_self_eq_false, Bool.false_or, List.any_eq_true, not_exists, not_and]
      intro y hy
      simp [(ridesL_mem hy).1]
    · rw [wi_iff]
      have := ridesL_len ((P.zip V).take i) p.a
      rw [List.length_take] at this
      omega
    · intro y hy
      obtain ⟨z, hz, rfl⟩ := List.mem_map.1 hy
      exact hm z hz
  unfold judB verd
  rw [hg, hidx, many_rides, show ((posT T p.a : Int)).toNat = posT T p.a from rfl, hg, judgeV, if_neg (by simpa using hE)]

set_option maxHeartbeats 3200000 in
theorem bookJudge_any (T : List TK) (P : List TP) (V : List Int) (o1 o2 o3 : Option Addr) (c1 c2 c3 : Nat) (a g s m z : Int) (w : World) (hT : TiksAt w o1 T) (hP : TapsAt w o2 P) (hV : IntsAt w o3 V) (hlen : T.length ≤ 12) (hlen2 : P.length ≤ 60) (hlv : V.length = P.length)
    (hr : Rising T) (hh : hasT T a = true) :
    Calls Try.prog 57 #[lg o1 o2 o3 T.length c1 P.length c2 V.length c3, tp a g s m z] w fun e w' => e = .returned (.tuple #[.int .i64 (judB T (P.zip V) ⟨a, g, s, m, z⟩).1, .int .i64 (judB T (P.zip V) ⟨a, g, s, m, z⟩).2]) ∧ Below w.heap.size w w' := by
  obtain ⟨x, hx, -, -⟩ := hasT_pos hr hh
  have HT := hide hT
  have HPl := hide (fun W (h : TiksAt W o1 T) => place_any T a o1 o2 o3 c1 P.length c2 V.length c3 W h hlen hr)
  have HRi := hide (fun W (h : TapsAt W o2 P) (h' : IntsAt W o3 V) => rides_any P V a o1 o2 o3 T.length c1 c2 c3 W h h' hlen2 hlv)
  have HP := hide hP
  have HV := hide hV
  have HRl := hide (show (ridesL (P.zip V) a).length ≤ 60 by have := ridesL_len (P.zip V) a; rw [List.length_zip] at this; omega)
  have hpos : posT T a < T.length := (List.getElem?_eq_some_iff.1 hx).1
  have HX := hide hx
  have HJ : Hid (judB T (P.zip V) ⟨a, g, s, m, z⟩ = judgeV x.i x.k x.f x.t x.z x.r (ridesL (P.zip V) a).length ⟨a, g, s, m, z⟩ (ridesL (P.zip V) a)) := by
    show _ = _
    have hg : T.getD (posT T a) tk0 = x := by simp [List.getD, hx]
    unfold judB
    simp only [hg]
  clear hT hP hV hr hh hx hlv
  rw [HJ.out]
  clear HJ
  generalize hasT T a = hb0 at HPl
  generalize posT T a = n at *
  generalize ridesL (P.zip V) a = R at *
  go_enter Try.func57, Try.ntmps57
  go_wp2_with fail
  refine (HPl.out _ (HT.out.below ?_)).mono ?_
  · repeat (first | with_reducible exact Below.refl _ _ | with_reducible refine Below.alloc ?_ (by simp; try omega) _ | with_reducible refine Below.setCell ?_ (by simp; try omega) _)
  rintro e w1 ⟨rfl, hb1⟩
  have HB1 := hide (boxesB_of _ _ _ _ _ _ _ _ _ _ _ _ _ _ _ _ _ _ hb1)
  clear hb1
  obtain ⟨⟨x0, x1, x2⟩, ⟨y0, y1, y2, y3, y4⟩, -, -⟩ := HB1.out
  simp only [Nat.zero_add] at x0 x1 x2 y0 y1 y2 y3 y4
  go_wp2_with fail
  refine (HRi.out _ (HP.out.below HB1.out.2.2.2) (HV.out.below HB1.out.2.2.2)).mono ?_
  rintro e w2 ⟨⟨o, cap, rfl, hR⟩, hb2⟩
  have HR := hide hR
  have HB2 := hide (HB1.out.on hb2)
  clear hb2 HB1 x0 x1 x2 y0 y1 y2 y3 y4 hR
  go_wp2_with fail
  obtain ⟨⟨x0, x1, x2⟩, ⟨y0, y1, y2, y3, y4⟩, -, hB⟩ := HB2.out
  simp only [Nat.zero_add] at x0 x1 x2 y0 y1 y2 y3 y4
  obtain ⟨A, rfl, z0, z1, z2, z3, z4, z5⟩ := (HT.out.below hB) n x HX.out
  have k0 := cell_regrown x0
  have k1 := cell_regrown x1
  have k2 := cell_regrown x2
  have l0 := cell_regrown y0
  have l1 := cell_regrown y1
  have l2 := cell_regrown y2
  have l3 := cell_regrown y3
  have l4 := cell_regrown y4
  have m0 := cell_regrown z0
  have m1 := cell_regrown z1
  have m2 := cell_regrown z2
  have m3 := cell_regrown z3
  have m4 := cell_regrown z4
  have m5 := cell_regrown z5
  have hRl := HRl.out
  have cJ : ∀ d os, Calls Try.prog 12 #[tk x.i x.k x.f x.t x.z x.r, .slice o R.length cap, .int .i64 (R.length : Int), tp a g s m z] (Sort.grow (redrawn w2 d) os) fun e w'' => e = .returned (.tuple #[.int .i64 (judgeV x.i x.k x.f x.t x.z x.r R.length ⟨a, g, s, m, z⟩ R).1, .int .i64 (judgeV x.i x.k x.f x.t x.z x.r R.length ⟨a, g, s, m, z⟩ R).2]) ∧ ∃ p : Regrown, w'' = Sort.grow (redrawn w2 p.d) p.os :=
    fun d os => Calls.regrown_of (judge_any x.i x.k x.f x.t x.z x.r R.length a g s m z o cap R _ (HR.out.below (below_regrown w2 d os)) (by omega))
  generalize hJ : judgeV x.i x.k x.f x.t x.z x.r R.length ⟨a, g, s, m, z⟩ R = J at cJ
  have HJ := hide hJ
  clear hJ
  clear x0 x1 x2 y0 y1 y2 y3 y4 z0 z1 z2 z3 z4 z5 HB2 HRi HPl HT HV HP HRl HX
  refine wp_region_quiet_below (by kernel_rfl) (by kernel_rfl) ?_
  repeat (quiet_step (exact cJ _ _))
  refine wpQuiet_nil ?_
  intro _ hw'
  obtain ⟨⟨dq, osq⟩, hw''⟩ := hw'
  subst hw''
  go_wp2
  go_ret2
  exact ⟨by rw [HJ.out]; rfl, hB.trans ((below_regrown w2 dq osq).mono hB.size)⟩

end Go.Proofs.Ytcakfmpckbmdeab
