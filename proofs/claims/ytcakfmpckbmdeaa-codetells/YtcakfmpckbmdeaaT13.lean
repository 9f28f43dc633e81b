/-
  The document's answer 'TicketOf' (package leeboardref).
-/
import Derived.Test.YtcakfmpckbmdeaaE12
import Derived.Test.YtcakfmpckbmdeaaPure
namespace Go.Proofs.Ytcakfmpckbmdeaa
open Go.RowKit

set_option maxHeartbeats 4000000 in
theorem ticketOf_eight (b0 b1 b2 b3 b4 b5 b6 b7 : UInt8) (w : World) :
    Calls Try.prog 13 #[.string ⟨#[b0, b1, b2, b3, b4, b5, b6, b7]⟩] w fun e w' => e = .returned (.tuple #[(decV [b0, b1, b2, b3, b4, b5, b6, b7]).1, .int .i64 (decV [b0, b1, b2, b3, b4, b5, b6, b7]).2]) ∧ Below w.heap.size w w' := by
  have hb0 := b0.toNat_lt; have hb1 := b1.toNat_lt; have hb2 := b2.toNat_lt; have hb3 := b3.toNat_lt
  have hb4 := b4.toNat_lt; have hb5 := b5.toNat_lt; have hb6 := b6.toNat_lt; have hb7 := b7.toNat_lt
  generalize hD : decV [b0, b1, b2, b3, b4, b5, b6, b7] = D
  have HD := hide hD
  clear hD
  have x0 : ∀ h, (⟨#[b0, b1, b2, b3, b4, b5, b6, b7]⟩ : ByteArray)[0]'h = b0 := fun _ => rfl
  have x1 : ∀ h, (⟨#[b0, b1, b2, b3, b4, b5, b6, b7]⟩ : ByteArray)[1]'h = b1 := fun _ => rfl
  have x2 : ∀ h, (⟨#[b0, b1, b2, b3, b4, b5, b6, b7]⟩ : ByteArray)[2]'h = b2 := fun _ => rfl
  have x3 : ∀ h, (⟨#[b0, b1, b2, b3, b4, b5, b6, b7]⟩ : ByteArray)[3]'h = b3 := fun _ => rfl
  have x4 : ∀ h, (⟨#[b0, b1, b2, b3, b4, b5, b6, b7]⟩ : ByteArray)[4]'h = b4 := fun _ => rfl
  have x5 : ∀ h, (⟨#[b0, b1, b2, b3, b4, b5, b6, b7]⟩ : ByteArray)[5]'h = b5 := fun _ => rfl
  have x6 : ∀ h, (⟨#[b0, b1, b2, b3, b4, b5, b6, b7]⟩ : ByteArray)[6]'h = b6 := fun _ => rfl
  have x7 : ∀ h, (⟨#[b0, b1, b2, b3, b4, b5, b6, b7]⟩ : ByteArray)[7]'h = b7 := fun _ => rfl
  have n2 : ∀ a b : UInt8, num [a, b] = a.toNat * 256 + b.toNat := fun a b => by simp [num]
  have n1 : ∀ a : UInt8, num [a] = a.toNat := fun a => by simp [num]
  have y0 : IntKind.i64.wrap (b0.toNat : Int) = (b0.toNat : Int) := by rw [IntKind.wrap_i64]; omega
  have y1 : IntKind.i64.wrap (b1.toNat : Int) = (b1.toNat : Int) := by rw [IntKind.wrap_i64]; omega
  have y2 : IntKind.i64.wrap (b2.toNat : Int) = (b2.toNat : Int) := by rw [IntKind.wrap_i64]; omega
  have y3 : IntKind.i64.wrap (b3.toNat : Int) = (b3.toNat : Int) := by rw [IntKind.wrap_i64]; omega
  have y4 : IntKind.i64.wrap (b4.toNat : Int) = (b4.toNat : Int) := by rw [IntKind.wrap_i64]; omega
  have y5 : IntKind.i64.wrap (b5.toNat : Int) = (b5.toNat : Int) := by rw [IntKind.wrap_i64]; omega
  have y6 : IntKind.i64.wrap (b6.toNat : Int) = (b6.toNat : Int) := by rw [IntKind.wrap_i64]; omega
  have z0 : IntKind.i64.wrap (256 * (b0.toNat : Int)) = 256 * (b0.toNat : Int) := by rw [IntKind.wrap_i64]; omega
  have u0 : IntKind.i64.wrap (256 * (b0.toNat : Int) + (b1.toNat : Int)) = (num [b0, b1] : Int) := by rw [IntKind.wrap_i64, n2]; omega
  have z2 : IntKind.i64.wrap (256 * (b2.toNat : Int)) = 256 * (b2.toNat : Int) := by rw [IntKind.wrap_i64]; omega
  have u2 : IntKind.i64.wrap (256 * (b2.toNat : Int) + (b3.toNat : Int)) = (num [b2, b3] : Int) := by rw [IntKind.wrap_i64, n2]; omega
  have z4 : IntKind.i64.wrap (256 * (b4.toNat : Int)) = 256 * (b4.toNat : Int) := by rw [IntKind.wrap_i64]; omega
  have u4 : IntKind.i64.wrap (256 * (b4.toNat : Int) + (b5.toNat : Int)) = (num [b4, b5] : Int) := by rw [IntKind.wrap_i64, n2]; omega
  have u6 : IntKind.i64.wrap ((b6.toNat : Int) / 16) = (num [b6] : Int) / 16 := by rw [IntKind.wrap_i64, n1]; omega
  have v6 : (b6.toNat : Int).tmod 16 = (num [b6] : Int) % 16 := by rw [n1, Int.tmod_eq_emod_of_nonneg (by omega)]
  have y7 : IntKind.i64.wrap (b7.toNat : Int) = (num [b7] : Int) := by rw [IntKind.wrap_i64, n1]; omega
  clear n1 n2
  generalize hE : chk (num [b0, b1]) ((num [b6] : Int) / 16) (num [b2, b3]) (num [b4, b5]) ((num [b6] : Int) % 16) (num [b7]) = E
  have HE := hide hE
  clear hE
  obtain ⟨h0, h0'⟩ | ⟨h0, h0'⟩ : (E = 0 ∧ (E != 0) = false) ∨ (E ≠ 0 ∧ (E != 0) = true) := by
    by_cases h : E = 0
    · exact Or.inl ⟨h, by simp [h]⟩
    · exact Or.inr ⟨h, by simp [h]⟩
  all_goals
    have H0 := hide h0
    clear h0
    go_enter Try.func13, Try.ntmps13
    go_wp2_with fail
    refine wp_region_pure 36 2 (by rfl) (by kernel_rfl) (by kernel_rfl) (by kernel_rfl) (fun c d v a w h => by cases d <;> exact h) ?_
    simp only [List.take]
    repeat (refine wpPure_step rfl (fun K hK => ?_); go_simp; refine hK _ ?_; clear hK K)
    refine wpPure_nil ?_
    refine one_ready (i := 36) (by kernel_rfl) rfl rfl (fun K hK => ?_)
    go_simp
    refine hK _ _ ?_
    clear hK K
    refine one_ready (i := 37) (by kernel_rfl) rfl rfl (fun K hK => ?_)
    go_simp
    refine hK _ _ ?_
    clear hK K
    refine wpAny_done (by kernel_rfl) ?_ _
    have s6 := ((six_new w (.int .i64 0) (.int .i64 0) (.int .i64 0) (.int .i64 0) (.int .i64 0) (.int .i64 0) 23).alloc (.cells #[.int .i64 (num [b0, b1]), .int .i64 ((num [b6] : Int) / 16), .int .i64 (num [b2, b3]), .int .i64 (num [b4, b5]), .int .i64 ((num [b6] : Int) % 16), .int .i64 (num [b7])] 23))
    have t6 := (six_at (n := w.heap.size + 1) (w.alloc (.cells #[.int .i64 0, .int .i64 0, .int .i64 0, .int .i64 0, .int .i64 0, .int .i64 0] 23)) (by simp) (.int .i64 (num [b0, b1])) (.int .i64 ((num [b6] : Int) / 16)) (.int .i64 (num [b2, b3])) (.int .i64 (num [b4, b5])) (.int .i64 ((num [b6] : Int) % 16)) (.int .i64 (num [b7])) 23)
    have hB : Below w.heap.size w ((w.alloc (.cells #[.int .i64 0, .int .i64 0, .int .i64 0, .int .i64 0, .int .i64 0, .int .i64 0] 23)).alloc (.cells #[.int .i64 (num [b0, b1]), .int .i64 ((num [b6] : Int) / 16), .int .i64 (num [b2, b3]), .int .i64 (num [b4, b5]), .int .i64 ((num [b6] : Int) % 16), .int .i64 (num [b7])] 23)).drew := (((Below.refl _ _).alloc (Nat.le_refl _) _).alloc (by simp) _).drew
    have s6' := hide (s6.kp (P := fun _ => False) (Kp.refl _ _).drew (fun h => h))
    have t6' := hide (t6.kp (P := fun _ => False) (Kp.refl _ _).drew (fun h => h))
    clear s6 t6
    go_wp2_with fail
    refine (checkT_any _ _ _ _ _ _ _).mono ?_
    rintro e w2 ⟨rfl, hb2⟩
    rw [HE.out]
    obtain ⟨c0, c1, c2, c3, c4, c5, zz⟩ := s6'.out.kp (Kp.ofBelow (S := fun _ => False) hb2) (fun h => h)
    obtain ⟨e0, e1, e2, e3, e4, e5, yy⟩ := t6'.out.kp (Kp.ofBelow (S := fun _ => False) hb2) (fun h => h)
    have hB2 : Below w.heap.size w w2 := hB.trans (hb2.mono hB.size)
    clear hb2 hB
    go_wp2_with fail
    refine bodyPost_ret (v := .tuple #[D.1, .int .i64 D.2]) (by rw [← HD.out]; simp [results, Try.results13, go_sem, c0, c1, c2, c3, c4, c5, decV, HE.out, unhide H0]) rfl ⟨rfl, ?_⟩
    repeat (first | with_reducible exact hB2 | with_reducible refine Below.setCell ?_ (by simp) _)

set_option maxHeartbeats 1600000 in
theorem ticketOf_other (s : ByteArray) (w : World) (h : s.data.toList.length ≠ 8) :
    Calls Try.prog 13 #[.string s] w fun e w' => e = .returned (.tuple #[tk 0 0 0 0 0 0, .int .i64 1]) ∧ Below w.heap.size w w' := by
  have hlen : s.data.toList.length = s.size := by simp
  have h8 : ((s.size : Int) != 8) = true := by rw [bne_iff_ne]; omega
  clear h hlen
  obtain ⟨c0, c1, c2, c3, c4, c5, z⟩ := six_new w (.int .i64 0) (.int .i64 0) (.int .i64 0) (.int .i64 0) (.int .i64 0) (.int .i64 0) 23
  go_enter Try.func13, Try.ntmps13
  go_wp2_with fail
  refine bodyPost_ret (v := .tuple #[tk 0 0 0 0 0 0, .int .i64 1]) (by simp [results, Try.results13, go_sem]) rfl ⟨rfl, ?_⟩
  repeat (first | with_reducible exact (Below.refl _ _).alloc (Nat.le_refl _) _ | with_reducible refine Below.setCell ?_ (by simp) _)

theorem ticketOf_any (s : ByteArray) (w : World) :
    Calls Try.prog 13 #[.string s] w fun e w' => e = .returned (.tuple #[(decV s.data.toList).1, .int .i64 (decV s.data.toList).2]) ∧ Below w.heap.size w w' := by
  by_cases h : s.data.toList.length = 8
  · obtain ⟨b0, b1, b2, b3, b4, b5, b6, b7, t, ht⟩ := eight _ (Nat.le_of_eq h.symm)
    obtain rfl : t = [] := by rw [ht] at h; simpa using h
    obtain rfl : s = ⟨#[b0, b1, b2, b3, b4, b5, b6, b7]⟩ := by
      apply ByteArray.ext; apply Array.ext'; rw [ht]
    rw [ht]
    exact ticketOf_eight b0 b1 b2 b3 b4 b5 b6 b7 w
  · rw [decV_other _ h]
    exact ticketOf_other s w h
end Go.Proofs.Ytcakfmpckbmdeaa
