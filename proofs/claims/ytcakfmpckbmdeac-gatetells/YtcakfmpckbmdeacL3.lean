/-
  'rides' (package ledger): the rides that were counted of a ticket, in order.
-/
import Derived.Test.YtcakfmpckbmdeacL2
import Derived.OwnWalk
namespace Go.Proofs.Ytcakfmpckbmdeac
open Go.RowKit

theorem info32 : (Try.prog.info? 38).map (fun i => (i.zero, i.size, i.bytes)) = some (some (.agg #[.int .i64 0, .int .i64 0, .int .i64 0, .int .i64 0, .int .i64 0]), 5, 40) := by kernel_rfl

/-- the cells of taps -/
def cellsP (L : List TP) : List Value := L.flatMap fun p => [.int .i64 p.a, .int .i64 p.g, .int .i64 p.s, .int .i64 p.m, .int .i64 p.z]

theorem cellsP_len (L : List TP) : (cellsP L).length = L.length * 5 := by
  induction L with
  | nil => rfl
  | cons p L ih =>
    rw [cellsP, List.flatMap_cons, List.length_append, List.length_cons, ← cellsP, ih]
    simp; omega

theorem cellsP_snoc (L : List TP) (p : TP) : cellsP (L ++ [p]) = cellsP L ++ [.int .i64 p.a, .int .i64 p.g, .int .i64 p.s, .int .i64 p.m, .int .i64 p.z] := by simp [cellsP]

theorem cellsP_get (L : List TP) (i : Nat) (p : TP) (h : L[i]? = some p) (j : Nat) (hj : j < 5) : (cellsP L)[i * 5 + j]? = [Value.int .i64 p.a, .int .i64 p.g, .int .i64 p.s, .int .i64 p.m, .int .i64 p.z][j]? := by
  induction L generalizing i with
  | nil => simp at h
  | cons q L ih =>
    rw [cellsP, List.flatMap_cons, ← cellsP]
    match i, h with
    | 0, h =>
      simp at h
      subst h
      rw [List.getElem?_append_left (by simp; omega)]
      simp
    | i + 1, h =>
      rw [List.getElem?_append_right (by simp; omega)]
      simp only [List.length_cons, List.length_nil]
      rw [show (i + 1) * 5 + j - (0 + 1 + 1 + 1 + 1 + 1) = i * 5 + j by omega]
      exact ih i (by simpa using h)

theorem add_block (a : Addr) (n : Nat) : (a.add n).block = a.block := by
  unfold Addr.add
  split <;> rfl

/-- taps that a call has made itself -/
theorem taps_own {w : World} {base n : Nat} {v : Value} {L : List TP} (h : w.ownsRow base 38 5 v n (cellsP L)) : n = L.length ∧ ∃ (o : Option Addr) (cap : Nat), v = .slice o L.length cap ∧ TapsAt w o L := by
  have hn : n = L.length := by have := h.1; rw [cellsP_len] at this; omega
  subst hn
  refine ⟨rfl, ?_⟩
  have hc := fun g => h.cells (g := g)
  rcases h.2 with ⟨rfl, h0⟩ | ⟨g, cap, cur, rfl, -⟩
  · have : L = [] := List.eq_nil_of_length_eq_zero h0
    subst this
    exact ⟨none, 0, rfl, fun i p hi => by simp at hi⟩
  · refine ⟨_, cap, rfl, fun i p hi => ⟨_, rfl, ?_⟩⟩
    have e := fun j hj => cellsP_get L i p hi j hj
    have c := fun j u hu => hc g rfl (i * 5 + j) u hu
    have a0 : ∀ j, ((⟨g, 0, none⟩ : Addr).add (i * 5 + j)) = ⟨((⟨g, 0, none⟩ : Addr).add (i * 5)).block, ((⟨g, 0, none⟩ : Addr).add (i * 5)).off + j, none⟩ := by
      intro j
      by_cases h1 : i * 5 = 0 <;> by_cases h2 : j = 0 <;> simp [Addr.add, h1, h2]
    refine ⟨?_, ?_, ?_, ?_, ?_⟩
    · have := c 0 _ (e 0 (by omega))
      simpa using this
    · rw [← a0]; exact c 1 _ (e 1 (by omega))
    · rw [← a0]; exact c 2 _ (e 2 (by omega))
    · rw [← a0]; exact c 3 _ (e 3 (by omega))
    · rw [← a0]; exact c 4 _ (e 4 (by omega))

/-- the rides of a ticket -/
def ridesL (X : List (TP × Int)) (id : Int) : List TP := (X.filter fun x => x.1.a == id && x.2 == 1).map (·.1)

theorem ridesL_snoc (X : List (TP × Int)) (x : TP × Int) (id : Int) : ridesL (X ++ [x]) id = if (x.1.a == id && x.2 == 1) = true then ridesL X id ++ [x.1] else ridesL X id := by
  unfold ridesL
  rw [List.filter_append]
  by_cases h : (x.1.a == id && x.2 == 1) = true
  · simp only [List.filter_cons, h, if_true, List.filter_nil, List.map_append, List.map_cons, List.map_nil]
  · simp only [List.filter_cons, h, List.filter_nil]
    simp

theorem five_new (w : World) (a g s m z : Int) (T : TypeId) : ∀ j u, [Value.int .i64 a, .int .i64 g, .int .i64 s, .int .i64 m, .int .i64 z][j]? = some u → (w.alloc (cP a g s m z T)).cell? ((⟨w.heap.size, 0, none⟩ : Addr).add j) = some u := by
  intro j u hj
  match j, hj with
  | 0, hj | 1, hj | 2, hj | 3, hj | 4, hj =>
    simp at hj
    subst hj
    simp [Addr.add, go_sem]

set_option maxHeartbeats 3200000 in
theorem rides_any (P : List TP) (V : List Int) (id : Int) (o1 o2 o3 : Option Addr) (n1 c1 c2 c3 : Nat) (w : World) (hP : TapsAt w o2 P) (hV : IntsAt w o3 V) (hlen : P.length ≤ 60) (hlv : V.length = P.length) :
    Calls Try.prog 54 #[lg o1 o2 o3 n1 c1 P.length c2 V.length c3, .int .i64 id] w fun e w' =>
      (∃ o cap, e = .returned (.slice o (ridesL (P.zip V) id).length cap) ∧ TapsAt w' o (ridesL (P.zip V) id)) ∧ Below w.heap.size w w' := by
  obtain ⟨i0, hi, hz0, hz1, hz2⟩ := info_parts info32
  have HP := hide hP
  have HV := hide hV
  have hlen2 : V.length ≤ 60 := by omega
  have HLV := hide hlv
  clear hP hV hlv
  go_enter Try.func54, Try.ntmps54
  go_wp2_with fail
  go_loopw [5, 12] (fun v j wr => ∃ (q : Nat), q ≤ P.length ∧ j = .int .i64 q ∧ wr.ownsRow (w.heap.size + 1) 38 5 v (ridesL ((P.zip V).take q) id).length (cellsP (ridesL ((P.zip V).take q) id)) ∧ (ridesL ((P.zip V).take q) id).length ≤ q ∧
    Below (w.heap.size + 1) (w.alloc (cL o1 o2 o3 n1 c1 P.length c2 V.length c3 76)) wr) (fun _ j _ => P.length - (intOf j).toNat)
  case atStart => exact ⟨0, Nat.zero_le _, rfl, World.ownsRow_nil _ _ _ _, by simp [ridesL], Below.refl _ _⟩
  case round =>
    obtain ⟨q, hq, rfl, hown, hql, hbr⟩ := hrel
    have d0 : wr.cell? ⟨w.heap.size, 0, none⟩ = some (.slice o1 n1 c1) := by rw [hbr.cell (p := ⟨w.heap.size, 0, none⟩) (show w.heap.size < w.heap.size + 1 by omega)]; simp [go_sem]
    have d1 : wr.cell? ⟨w.heap.size, 1, none⟩ = some (.slice o2 P.length c2) := by rw [hbr.cell (p := ⟨w.heap.size, 1, none⟩) (show w.heap.size < w.heap.size + 1 by omega)]; simp [go_sem]
    have d2 : wr.cell? ⟨w.heap.size, 2, none⟩ = some (.slice o3 V.length c3) := by rw [hbr.cell (p := ⟨w.heap.size, 2, none⟩) (show w.heap.size < w.heap.size + 1 by omega)]; simp [go_sem]
    have hsz : w.heap.size < wr.heap.size := World.block_lt_of_cell? wr ⟨w.heap.size, 0, none⟩ d0
    have HB := hide (show Below w.heap.size w wr from ((Below.refl _ _).alloc (Nat.le_refl _) _).trans (hbr.mono (by omega)))
    by_cases hlt : q < P.length
    · obtain ⟨p, hp⟩ : ∃ p, P[q]? = some p := ⟨P[q], by simp [hlt]⟩
      obtain ⟨v, hv⟩ : ∃ v, V[q]? = some v := ⟨V[q]'(by have := HLV.out; omega), by simp⟩
      have HS : Hid (ridesL ((P.zip V).take (q + 1)) id = if (p.a == id && v == 1) = true then ridesL ((P.zip V).take q) id ++ [p] else ridesL ((P.zip V).take q) id) := by
        show _ = _
        have : (P.zip V)[q]? = some (p, v) := by rw [List.getElem?_zip_eq_some]; exact ⟨hp, hv⟩
        rw [List.take_add_one, this, Option.toList_some, ridesL_snoc]
      obtain ⟨A, rfl, e0, e1, e2, e3, e4⟩ := (HP.out.below HB.out) q p hp
      obtain ⟨A3, rfl, f0⟩ := (HV.out.below HB.out) q v hv
      have hA : (A.add (q * 5)).block < wr.heap.size := World.block_lt_of_cell? wr (A.add (q * 5)) e0
      have hA3 : (A3.add q).block < wr.heap.size := World.block_lt_of_cell? wr (A3.add q) f0
      have hvl : q < V.length := by have := HLV.out; omega
      clear hp hv
      generalize ridesL ((P.zip V).take q) id = R at *
      cases h1 : (p.a == id)
      · have e := HS.out
        rw [h1] at e
        simp only [Bool.false_and, Bool.false_eq_true, if_false] at e
        have HE := hide e
        clear e
        go_wp2_with fail
        refine ⟨⟨q + 1, by omega, by simp, ?_, ?_, hbr.alloc (by omega) _⟩, by simp [intOf]; omega⟩
        · rw [HE.out]; exact hown.alloc _
        · rw [HE.out]; omega
      · cases h2 : (v == 1)
        · have e := HS.out
          rw [h1, h2] at e
          simp only [Bool.and_false, Bool.false_eq_true, if_false] at e
          have HE := hide e
          clear e
          go_wp2_with fail
          refine ⟨⟨q + 1, by omega, by simp, ?_, ?_, hbr.alloc (by omega) _⟩, by simp [intOf]; omega⟩
          · rw [HE.out]; exact hown.alloc _
          · rw [HE.out]; omega
        · have e := HS.out
          rw [h1, h2] at e
          simp only [Bool.and_true, if_true] at e
          have HE := hide e
          clear e
          have HN : Hid (∀ j u, [Value.int .i64 p.a, .int .i64 p.g, .int .i64 p.s, .int .i64 p.m, .int .i64 p.z][j]? = some u → ((wr.alloc (cP p.a p.g p.s p.m p.z 38)).alloc (cP p.a p.g p.s p.m p.z 38)).cell? ((⟨wr.heap.size + 1, 0, none⟩ : Addr).add j) = some u) := by
            have h := five_new (wr.alloc (cP p.a p.g p.s p.m p.z 38)) p.a p.g p.s p.m p.z 38
            rw [show (wr.alloc (cP p.a p.g p.s p.m p.z 38)).heap.size = wr.heap.size + 1 by simp] at h
            exact h
          go_wp2_with (at_builtin; refine wpList_append_own _ rfl (.tmp 30) (.tmp 32) 23 rfl (w.heap.size + 1) 38 i0 _ 5 40 Try.underlying23 hi hz0 hz1 hz2 rfl (by decide) _ R.length _ rfl ((hown.alloc _).alloc _) ⟨wr.heap.size + 1, 0, none⟩ 1 1 [.int .i64 p.a, .int .i64 p.g, .int .i64 p.s, .int .i64 p.m, .int .i64 p.z] rfl rfl HN.out (by intro u hu; simp at hu; rcases hu with rfl | rfl | rfl | rfl | rfl <;> rfl) (by unfold maxLen; omega) (by omega) (by simp; omega) ?_; intro v1 w1 hown1 hgrow1 _)
          refine ⟨⟨q + 1, by omega, by simp, ?_, ?_, ((hbr.alloc (by omega) _).alloc (by simp; omega) _).grown hgrow1 (by simp; omega) (fun k hk => (hown.lt k hk).1)⟩, by simp [intOf]; omega⟩
          · rw [HE.out, cellsP_snoc, List.length_append]; exact hown1
          · rw [HE.out, List.length_append]; simp; omega
    · obtain rfl : q = P.length := by omega
      rw [List.take_of_length_le (by rw [List.length_zip]; omega)] at hown
      obtain ⟨-, o, cap, rfl, hta⟩ := taps_own hown
      have HO := hide hta
      clear hown hta
      go_wp2_with fail
      go_ret
      exact ⟨⟨o, cap, rfl, HO.out⟩, HB.out⟩

end Go.Proofs.Ytcakfmpckbmdeac
