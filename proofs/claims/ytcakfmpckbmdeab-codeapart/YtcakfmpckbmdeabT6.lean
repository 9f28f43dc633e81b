/-
  The contracts of 'ticket.Decode', 'ticket.Encode'.
-/
import Derived.Test.YtcakfmpckbmdeabT5
namespace Go.Proofs.Ytcakfmpckbmdeab
open Go.RowKit

/-- what Decode says of bytes: a ticket, and an error -/
def decV : List UInt8 → Value × Int
  | [b0, b1, b2, b3, b4, b5, b6, b7] =>
    if chk (num [b0, b1]) ((num [b6] : Int) / 16) (num [b2, b3]) (num [b4, b5]) ((num [b6] : Int) % 16) (num [b7]) = 0 then
      (tk (num [b0, b1]) ((num [b6] : Int) / 16) (num [b2, b3]) (num [b4, b5]) ((num [b6] : Int) % 16) (num [b7]), 0)
    else (tk 0 0 0 0 0 0, chk (num [b0, b1]) ((num [b6] : Int) / 16) (num [b2, b3]) (num [b4, b5]) ((num [b6] : Int) % 16) (num [b7]))
  | _ => (tk 0 0 0 0 0 0, 1)

theorem decV_other (l : List UInt8) (h : l.length ≠ 8) : decV l = (tk 0 0 0 0 0 0, 1) := by
  unfold decV; split
  · simp at h
  · rfl

theorem enter27 (args : Array Value) (W : World) : (callFunc 91 args).run Try.prog W = .ok (.enter 91 args) W := by
  simp [go_sem]

theorem toList_mk (l : List UInt8) : (⟨l.toArray⟩ : ByteArray).toList = l := by
  rw [ByteArray.toList_eq]

theorem eight (l : List UInt8) (h : 8 ≤ l.length) : ∃ b0 b1 b2 b3 b4 b5 b6 b7 t, l = b0 :: b1 :: b2 :: b3 :: b4 :: b5 :: b6 :: b7 :: t := by
  match l, h with
  | b0 :: b1 :: b2 :: b3 :: b4 :: b5 :: b6 :: b7 :: t, _ => exact ⟨b0, b1, b2, b3, b4, b5, b6, b7, t, rfl⟩

abbrev z6 : Array Value := #[.int .i64 0, .int .i64 0, .int .i64 0, .int .i64 0, .int .i64 0, .int .i64 0]
theorem six_new (w : World) (x0 x1 x2 x3 x4 x5 : Value) (T : TypeId) : Six (w.alloc (.cells #[x0, x1, x2, x3, x4, x5] T)) w.heap.size x0 x1 x2 x3 x4 x5 :=
  ⟨by simp [go_sem], by simp [go_sem], by simp [go_sem], by simp [go_sem], by simp [go_sem], by simp [go_sem], fun o => by simp [go_sem]⟩
theorem six_at (w : World) {n : Nat} (hn : n = w.heap.size) (x0 x1 x2 x3 x4 x5 : Value) (T : TypeId) : Six (w.alloc (.cells #[x0, x1, x2, x3, x4, x5] T)) n x0 x1 x2 x3 x4 x5 := by
  subst hn; exact six_new w x0 x1 x2 x3 x4 x5 T
theorem Six.alloc {w : World} {b : Nat} {x0 x1 x2 x3 x4 x5 : Value} (h : Six w b x0 x1 x2 x3 x4 x5) (o : Obj) : Six (w.alloc o) b x0 x1 x2 x3 x4 x5 :=
  h.kp (P := fun _ => False) ((Kp.refl _ _).alloc _) (fun h => h)

set_option maxHeartbeats 1600000 in
set_option maxRecDepth 100000 in
theorem decode_short (s : ByteArray) (w : World) (h : s.data.toList.length < 8) :
    Calls Try.prog 69 #[.string s] w fun e w' => e = .returned (.tuple #[tk 0 0 0 0 0 0, .int .i64 1]) ∧ Below w.heap.size w w' := by
  have hmf : ∀ (fn : Fn) (first cap : Array Value) (w : World), (Instr.makeFunc fn first cap).run Try.prog w = .ok (.func fn first cap) w := fun _ _ _ _ => rfl
  go_enter Try.func69, Try.ntmps69
  go_wp2_with fail
  refine (whole_pan 91 (w.heap.size + 1) s _ enter27 (by simp) (fun p W hp hc hz hk hl => ?_)).mono ?_
  · exact clo_no p (w.heap.size + 1) s.data.toList W (by rw [← S_of]; exact hc) hz h
  rintro e w1 ⟨rfl, hk⟩
  have hs6 : Six w1 w.heap.size _ _ _ _ _ _ := ((six_new w _ _ _ _ _ _ 23).alloc _).kp hk (by omega)
  obtain ⟨c0, c1, c2, c3, c4, c5, z⟩ := hs6
  have hB : Below w.heap.size w w1 := (Kp.next (S := fun _ => False) (Kp.alloc (Kp.alloc (Kp.refl _ _) _) _) hk (fun i hi h => by omega)).below (Nat.le_refl _) (fun _ _ h => h)
  go_wp2_with fail
  refine bodyPost_ret (v := .tuple #[tk 0 0 0 0 0 0, .int .i64 1]) (by simp [results, Try.results69, go_sem, c0, c1, c2, c3, c4, c5]) rfl ⟨rfl, ?_⟩
  repeat (first | with_reducible exact hB | with_reducible refine Below.setCell ?_ (by simp) _)

set_option maxHeartbeats 1600000 in
set_option maxRecDepth 100000 in
theorem decode_long (s : ByteArray) (b0 b1 b2 b3 b4 b5 b6 b7 b8 : UInt8) (l : List UInt8) (w : World) (h : s.data.toList = b0 :: b1 :: b2 :: b3 :: b4 :: b5 :: b6 :: b7 :: b8 :: l) :
    Calls Try.prog 69 #[.string s] w fun e w' => e = .returned (.tuple #[tk 0 0 0 0 0 0, .int .i64 1]) ∧ Below w.heap.size w w' := by
  have hmf : ∀ (fn : Fn) (first cap : Array Value) (w : World), (Instr.makeFunc fn first cap).run Try.prog w = .ok (.func fn first cap) w := fun _ _ _ _ => rfl
  have H := (show Hid _ from h)
  clear h
  go_enter Try.func69, Try.ntmps69
  go_wp2_with fail
  refine (whole_ret 91 (w.heap.size + 1) s ⟨(b8 :: l).toArray⟩ (fun W => Six W (w.heap.size + 1) (.int .i64 (num [b0, b1])) (.int .i64 ((num [b6] : Int) / 16)) (.int .i64 (num [b2, b3])) (.int .i64 (num [b4, b5])) (.int .i64 ((num [b6] : Int) % 16)) (.int .i64 (num [b7]))) _ enter27 (fun w1 w2 hk hlt h => h.kp hk (by simp)) (by simp) (fun p W hp hc hz hk hl => ?_)).mono ?_
  · exact clo_ok p (w.heap.size + 1) b0 b1 b2 b3 b4 b5 b6 b7 (b8 :: l) _ _ _ _ _ _ W (by rw [← H.out, ← S_of]; exact hc) hz ((six_at _ (by simp) _ _ _ _ _ _ 23).kp hk (fun h => h)) (by rw [hp]; simp)
  rintro e w1 ⟨rfl, hk, hr⟩
  have hs6 : Six w1 w.heap.size _ _ _ _ _ _ := ((six_new w _ _ _ _ _ _ 23).alloc _).kp hk (by omega)
  obtain ⟨c0, c1, c2, c3, c4, c5, z⟩ := hs6
  have hB : Below w.heap.size w w1 := (Kp.next (S := fun _ => False) (Kp.alloc (Kp.alloc (Kp.refl _ _) _) _) hk (fun i hi h => by omega)).below (Nat.le_refl _) (fun _ _ h => h)
  rw [toList_mk, List.isEmpty_cons]
  clear hr
  go_wp2_with fail
  refine bodyPost_ret (v := .tuple #[tk 0 0 0 0 0 0, .int .i64 1]) (by simp [results, Try.results69, go_sem, c0, c1, c2, c3, c4, c5]) rfl ⟨rfl, ?_⟩
  repeat (first | with_reducible exact hB | with_reducible refine Below.setCell ?_ (by simp) _)

set_option maxHeartbeats 1600000 in
set_option maxRecDepth 100000 in
theorem decode_eight (s : ByteArray) (b0 b1 b2 b3 b4 b5 b6 b7 : UInt8) (w : World) (h : s.data.toList = [b0, b1, b2, b3, b4, b5, b6, b7]) :
    Calls Try.prog 69 #[.string s] w fun e w' => e = .returned (.tuple #[(decV [b0, b1, b2, b3, b4, b5, b6, b7]).1, .int .i64 (decV [b0, b1, b2, b3, b4, b5, b6, b7]).2]) ∧ Below w.heap.size w w' := by
  have hmf : ∀ (fn : Fn) (first cap : Array Value) (w : World), (Instr.makeFunc fn first cap).run Try.prog w = .ok (.func fn first cap) w := fun _ _ _ _ => rfl
  have H := (show Hid _ from h)
  clear h
  generalize hD : decV [b0, b1, b2, b3, b4, b5, b6, b7] = D
  have HD := (show Hid _ from hD)
  clear hD
  generalize hE : chk (num [b0, b1]) ((num [b6] : Int) / 16) (num [b2, b3]) (num [b4, b5]) ((num [b6] : Int) % 16) (num [b7]) = E
  have HE := (show Hid _ from hE)
  clear hE
  obtain ⟨h0, h0'⟩ | ⟨h0, h0'⟩ : (E = 0 ∧ (E != 0) = false) ∨ (E ≠ 0 ∧ (E != 0) = true) := by
    by_cases h : E = 0
    · exact Or.inl ⟨h, by simp [h]⟩
    · exact Or.inr ⟨h, by simp [h]⟩
  all_goals
    have H0 := hide h0
    clear h0
    go_enter Try.func69, Try.ntmps69
    go_wp2_with fail
    refine (whole_ret 91 (w.heap.size + 1) s ⟨([] : List UInt8).toArray⟩ (fun W => Six W (w.heap.size + 1) (.int .i64 (num [b0, b1])) (.int .i64 ((num [b6] : Int) / 16)) (.int .i64 (num [b2, b3])) (.int .i64 (num [b4, b5])) (.int .i64 ((num [b6] : Int) % 16)) (.int .i64 (num [b7]))) _ enter27 (fun w1 w2 hk hlt h => h.kp hk (by simp)) (by simp) (fun p W hp hc hz hk hl => ?_)).mono ?_
    · exact clo_ok p (w.heap.size + 1) b0 b1 b2 b3 b4 b5 b6 b7 [] _ _ _ _ _ _ W (by rw [← H.out, ← S_of]; exact hc) hz ((six_at _ (by simp) _ _ _ _ _ _ 23).kp hk (fun h => h)) (by rw [hp]; simp)
    rintro e w1 ⟨rfl, hk, hr⟩
    have hs6 : Six w1 w.heap.size _ _ _ _ _ _ := ((six_new w _ _ _ _ _ _ 23).alloc _).kp hk (by omega)
    have hB : Below w.heap.size w w1 := (Kp.next (S := fun _ => False) (Kp.alloc (Kp.alloc (Kp.refl _ _) _) _) hk (fun i hi h => by omega)).below (Nat.le_refl _) (fun _ _ h => h)
    rw [toList_mk, List.isEmpty_nil]
    obtain ⟨d0, d1, d2, d3, d4, d5, y⟩ := hr
    have HS6 := (show Hid _ from hs6)
    clear hs6
    go_wp2_with fail
    refine (check_any _ _ _ _ _ _ _).mono ?_
    rintro e w2 ⟨rfl, hb2⟩
    rw [HE.out]
    obtain ⟨c0, c1, c2, c3, c4, c5, z⟩ := HS6.out.kp (Kp.ofBelow (S := fun _ => False) hb2) (fun h => h)
    obtain ⟨e0, e1, e2, e3, e4, e5, y2⟩ := (Six.mk d0 d1 d2 d3 d4 d5 y).kp (Kp.ofBelow (S := fun _ => False) hb2) (fun h => h)
    have hB2 : Below w.heap.size w w2 := hB.trans (hb2.mono hB.size)
    go_wp2_with fail
    refine bodyPost_ret (v := .tuple #[D.1, .int .i64 D.2]) (by rw [← HD.out]; simp [results, Try.results69, go_sem, c0, c1, c2, c3, c4, c5, decV, HE.out, unhide H0]) rfl ⟨rfl, ?_⟩
    repeat (first | with_reducible exact hB2 | with_reducible refine Below.setCell ?_ (by simp) _)

theorem decode_any (s : ByteArray) (w : World) :
    Calls Try.prog 69 #[.string s] w fun e w' => e = .returned (.tuple #[(decV s.data.toList).1, .int .i64 (decV s.data.toList).2]) ∧ Below w.heap.size w w' := by
  by_cases h : s.data.toList.length < 8
  · rw [decV_other _ (by omega)]
    exact decode_short s w h
  · obtain ⟨b0, b1, b2, b3, b4, b5, b6, b7, t, ht⟩ := eight _ (Nat.le_of_not_lt h)
    cases t with
    | nil => rw [ht]; exact decode_eight s b0 b1 b2 b3 b4 b5 b6 b7 w ht
    | cons b8 l => rw [decV_other _ (by rw [ht]; simp)]; exact decode_long s b0 b1 b2 b3 b4 b5 b6 b7 b8 l w ht
end Go.Proofs.Ytcakfmpckbmdeab
