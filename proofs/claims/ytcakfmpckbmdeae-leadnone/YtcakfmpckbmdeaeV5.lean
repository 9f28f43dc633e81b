/-
  Views: 'Now' (package lead).
-/
import Derived.Test.YtcakfmpckbmdeaeV4
namespace Go.Proofs.Ytcakfmpckbmdeae
open Go.RowKit

def nowB (L : List VW) : Bool := decide (chkVs L = 0) && leadsW L
def nowI (L : List VW) : Int := if nowB L = true then (topW L).l else 0

theorem right_range {L : List VW} (h : chkVs L = 0) : ∀ p ∈ L, 0 ≤ p.e ∧ p.e ≤ 99 ∧ (p.l = 0 ∨ p.l = 1) := by
  obtain ⟨a, b, c, rfl, ha, hb, hc, -⟩ := chkVs_right h
  rw [chkW_zero] at ha hb hc
  intro p hp
  simp only [List.mem_cons, List.not_mem_nil, or_false] at hp
  rcases hp with rfl | rfl | rfl
  · exact ⟨ha.1, ha.2.1, ha.2.2.1⟩
  · exact ⟨hb.1, hb.2.1, hb.2.2.1⟩
  · exact ⟨hc.1, hc.2.1, hc.2.2.1⟩

theorem right_len {L : List VW} (h : chkVs L = 0) : L.length = 3 := by
  obtain ⟨a, b, c, rfl, -⟩ := chkVs_right h
  rfl

theorem top_facts {L : List VW} (h : chkVs L = 0) : ∃ (te : Int) (k : Nat) (tu : Bool) (pl : VW), topW L = ⟨te, k, tu⟩ ∧ 0 ≤ te ∧ te ≤ 99 ∧ k < 2 ∧ L[k]? = some pl ∧ upAt L k = pl.u := by
  have hl := right_len h
  have hm := topW_mem L (by intro e; rw [e] at hl; simp at hl)
  obtain ⟨h1, h2, h3⟩ := right_range h _ hm
  obtain ⟨k, hk, hk2⟩ : ∃ k : Nat, (topW L).l = (k : Int) ∧ k < 2 := by
    rcases h3 with h3 | h3
    · exact ⟨0, by rw [h3]; rfl, by omega⟩
    · exact ⟨1, by rw [h3]; rfl, by omega⟩
  obtain ⟨pl, hpl⟩ : ∃ pl, L[k]? = some pl := ⟨L[k]'(by omega), by simp⟩
  refine ⟨(topW L).e, k, (topW L).u, pl, ?_, h1, h2, hk2, hpl, ?_⟩
  · rw [← hk]
  · simp [upAt, hpl]

set_option maxHeartbeats 3200000 in
set_option maxRecDepth 100000 in
theorem now_any (o : Option Addr) (cap : Nat) (L : List VW) (w : World) (hL : VwsAt w o L) (hlen : L.length ≤ 9223372036854775807) :
    Calls Try.prog 29 #[.slice o L.length cap] w fun e w' => e = .returned (.tuple #[.int .i64 (nowI L), .bool (nowB L), .int .i64 (chkVs L)]) ∧ Below w.heap.size w w' := by
  have HL := hide hL
  have HC := hide (fun W (h : VwsAt W o L) => leadCheck_any o cap L W h hlen)
  clear hL
  by_cases h0 : chkVs L = 0
  · have hl3 := right_len h0
    have HN := hide (fun W (h : VwsAt W o L) => newest_any o cap L W h (by omega) (by omega) (fun p hp => ⟨(right_range h0 p hp).1, (right_range h0 p hp).2.1⟩))
    have HM := hide (fun W (h : VwsAt W o L) (B : Nat) (hc) => mostN_any (topW L) B o cap L W h (by omega) hc)
    obtain ⟨te, k, tu, pl, ht, ht0, ht1, hk, hpl, hup⟩ := top_facts h0
    have hp : ((te == 0) = true ∧ nowB L = false) ∨ ((te == 0) = false ∧ pl.u = false ∧ nowB L = false) ∨ ((te == 0) = false ∧ pl.u = true ∧ mostW (lastG ⟨te, k, tu⟩) L = false ∧ nowB L = false) ∨ ((te == 0) = false ∧ pl.u = true ∧ mostW (lastG ⟨te, k, tu⟩) L = true ∧ nowB L = true) := by
      rw [nowB, leadsW, ht, h0]
      simp only [hup]
      by_cases e0 : te = 0
      · left; simp [e0]
      · right
        have e0' : (te == 0) = false := by simpa using e0
        cases pl.u
        · left; simp [e0]
        · right
          cases mostW (lastG ⟨te, k, tu⟩) L
          · left; simp [e0]
          · right; simp [e0]
    have hI : nowI L = if nowB L = true then (k : Int) else 0 := by rw [nowI, ht]
    generalize nowI L = ni at *
    rw [ht] at HN HM
    rw [h0] at HC ⊢
    have HP := hide hpl
    clear ht h0 hup hpl
    generalize mostW (lastG ⟨te, k, tu⟩) L = M at *
    generalize nowB L = nb at *
    obtain ⟨pe, pll, pu⟩ := pl
    simp only [] at hp
    have hkI : (k : Int) < (L.length : Int) := by omega
    clear hl3
    have HP2 := hide hp
    have HI := hide hI
    clear hp hI
    go_enter Try.func29, Try.ntmps29
    go_wp2_with fail
    refine (HC.out _ HL.out).mono ?_
    rintro e w1 ⟨rfl, hb1⟩
    have HL1 := hide (HL.out.below hb1)
    have HB1 := hide hb1
    clear hb1
    go_wp2_with fail
    refine (HN.out _ HL1.out).mono ?_
    rintro e w2 ⟨rfl, hb2⟩
    have HL2 := hide (HL1.out.below hb2)
    have HB2 := hide (HB1.out.trans (hb2.mono HB1.out.size))
    clear hb2 HB1 HL1
    have HG := hide ((Blks.nil w2).more (.cells #[.int .i64 te, .int .i64 k, .bool tu] 106) (by simp))
    go_upto_region 5 with fail
    have HL3 := hide (HL2.out.below HG.out.2.2)
    generalize w2.alloc _ = wa at *
    obtain ⟨A, rfl, y0, y1, y2⟩ := HL3.out k _ HP.out
    have c00 := HG.out.cell 0 0 w2.heap.size _ _ _ rfl rfl rfl
    have c01 := HG.out.cell 0 1 w2.heap.size _ _ _ rfl rfl rfl
    rcases HP2.out with ⟨h1, h4⟩ | ⟨h1, h2, h4⟩ | ⟨h1, h2, h3, h4⟩ | ⟨h1, h2, h3, h4⟩
    · subst h4
      have hI := HI.out
      simp only [Bool.false_eq_true, if_false] at hI
      subst hI
      go_wp2_with fail
      go_ret3
      exact ⟨rfl, HB2.out.trans (HG.out.2.2.mono HB2.out.size)⟩
    · subst h4 h2
      have hI := HI.out
      simp only [Bool.false_eq_true, if_false] at hI
      subst hI
      go_wp2_with fail
      go_ret3
      exact ⟨rfl, HB2.out.trans (HG.out.2.2.mono HB2.out.size)⟩
    · subst h4 h2 h3
      have hI := HI.out
      simp only [Bool.false_eq_true, if_false] at hI
      subst hI
      go_wp2_with fail
      refine (HM.out _ HL3.out w2.heap.size c00).mono ?_
      rintro e w3 ⟨rfl, hb3⟩
      have HG3 := hide (HG.out.on hb3)
      clear hb3
      go_wp2_with fail
      go_ret3
      exact ⟨rfl, HB2.out.trans (HG3.out.2.2.mono HB2.out.size)⟩
    · subst h4 h2 h3
      have hI := HI.out
      simp only [if_true] at hI
      subst hI
      go_wp2_with fail
      refine (HM.out _ HL3.out w2.heap.size c00).mono ?_
      rintro e w3 ⟨rfl, hb3⟩
      have HG3 := hide (HG.out.on hb3)
      clear hb3 y0 y1 y2 c00 c01
      have c00 := HG3.out.cell 0 0 w2.heap.size _ _ _ rfl rfl rfl
      have c01 := HG3.out.cell 0 1 w2.heap.size _ _ _ rfl rfl rfl
      go_wp2_with fail
      go_ret3
      exact ⟨rfl, HB2.out.trans (HG3.out.2.2.mono HB2.out.size)⟩
  · have h0' : (chkVs L != 0) = true := by simpa using h0
    have hb' : nowB L = false := by simp [nowB, h0]
    have hi' : nowI L = 0 := by simp [nowI, hb']
    rw [hb', hi']
    clear hb' hi' h0
    generalize chkVs L = E at *
    go_enter Try.func29, Try.ntmps29
    go_wp2_with fail
    refine (HC.out _ HL.out).mono ?_
    rintro e w1 ⟨rfl, hb⟩
    have HB := hide hb
    clear hb
    go_wp2_with fail
    go_ret3
    exact ⟨rfl, HB.out⟩
end Go.Proofs.Ytcakfmpckbmdeae
