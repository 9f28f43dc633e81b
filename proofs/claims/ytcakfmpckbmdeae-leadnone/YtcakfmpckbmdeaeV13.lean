/-
  What follows of views that are set, and of who wins: lists alone.
-/
import Derived.Test.YtcakfmpckbmdeaeV7
namespace Go.Proofs.Ytcakfmpckbmdeae
open Go.RowKit

theorem three_cases {who : Int} (h0 : 0 ≤ who) (h1 : who ≤ 2) : who = 0 ∨ who = 1 ∨ who = 2 := by omega

theorem setL_right {L : List VW} {a : Int} {up : Bool} (h : unfW L a 2 = 0) : chkVs (setL L a up) = 0 := by
  obtain ⟨hc, h0, h1⟩ := unfW_right h
  obtain ⟨x, y, z, rfl, hx, hy, hz, hs⟩ := chkVs_right hc
  rcases three_cases h0 h1 with rfl | rfl | rfl
  · exact chkVs_of (a := ⟨x.e, x.l, up⟩) hx hy hz hs
  · exact chkVs_of (b := ⟨y.e, y.l, up⟩) hx hy hz hs
  · exact chkVs_of (c := ⟨z.e, z.l, up⟩) hx hy hz hs

theorem setL_up {L : List VW} {a : Int} {up : Bool} (h : unfW L a 2 = 0) : upAt (setL L a up) a = up := by
  obtain ⟨hc, h0, h1⟩ := unfW_right h
  obtain ⟨x, y, z, rfl, -⟩ := chkVs_right hc
  rcases three_cases h0 h1 with rfl | rfl | rfl <;> rfl

theorem winB_down {L : List VW} {a : Int} (h : upAt L a = false) : winB L a = false := by simp [winB, winsW, h]

theorem most_mono {g g' : VW → Bool} {L : List VW} (h : ∀ v, g v = true → g' v = true) (hm : mostW g' L = false) : mostW g L = false := by
  have := List.countP_mono_left (l := L) (p := g) (q := g') (fun x _ => h x)
  simp only [mostW, decide_eq_false_iff_not] at *
  omega

theorem down_two {L : List VW} {a b : Int} (ha : unfW L a 2 = 0) (hb : unfW (setL L a false) b 2 = 0) (hne : a ≠ b) : mostW upG (setL (setL L a false) b false) = false := by
  obtain ⟨hc, h0, h1⟩ := unfW_right ha
  obtain ⟨-, h2, h3⟩ := unfW_right hb
  obtain ⟨⟨xe, xl, xu⟩, ⟨ye, yl, yu⟩, ⟨ze, zl, zu⟩, rfl, -⟩ := chkVs_right hc
  rcases three_cases h0 h1 with rfl | rfl | rfl <;> rcases three_cases h2 h3 with rfl | rfl | rfl
  all_goals
    first
      | exact absurd rfl hne
      | (cases xu <;> cases yu <;> cases zu <;> rfl)

theorem nowB_down {L : List VW} (h : mostW upG L = false) : nowB L = false := by
  have : mostW (lastG (topW L)) L = false := most_mono (fun v hv => by simp only [lastG, Bool.and_eq_true] at hv; exact hv.1) h
  simp [nowB, leadsW, this]

theorem win_down {L : List VW} {who : Int} (h : mostW upG L = false) : winB L who = false ∧ (winE L who = 0 → winR L who = L) := by
  rcases winE_ways L who with ⟨h1, h2, h3, h4⟩ | ⟨h1, h2, h3, h4, h5⟩ | ⟨h1, h2, h3, h4, h5, h6⟩ | ⟨-, -, h3, -⟩ | ⟨-, -, h3, -⟩
  · exact ⟨h3, fun e => absurd (h2.symm.trans e) h1⟩
  · exact ⟨h4, fun _ => h5⟩
  · exact ⟨h5, fun _ => h6⟩
  · rw [h] at h3; cases h3
  · rw [h] at h3; cases h3
end Go.Proofs.Ytcakfmpckbmdeae
