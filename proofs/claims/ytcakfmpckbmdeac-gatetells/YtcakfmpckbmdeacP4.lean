/-
  'goesOn', 'Judge' (package rule).
-/
import Derived.Test.YtcakfmpckbmdeacP3
import Derived.Test.YtcakfmpckbmdeacR4
namespace Go.Proofs.Ytcakfmpckbmdeac
open Go.RowKit

/-- when the last one was; -1: there is none -/
def lastT (L : List TP) : Int := match L.getLast? with
  | none => -1
  | some p => p.m

def goes (last m : Int) : Bool := decide (0 ≤ last ∧ last ≤ m ∧ m < last + 60)

theorem lastT_at (L : List TP) (p : TP) (n : Nat) (hn : L.length = n + 1) (hp : L[n]? = some p) : lastT L = p.m := by
  rw [lastT, List.getLast?_eq_getElem?, hn, Nat.add_sub_cancel, hp]

set_option maxHeartbeats 1600000 in
theorem goesOn_any (a g s m zone : Int) (o : Option Addr) (cap : Nat) (L : List TP) (w : World) (hL : TapsAt w o L) (hlen : L.length ≤ 9223372036854775807) (hm : 0 ≤ m) (hm2 : m ≤ 9999) (hl : ∀ p ∈ L, 0 ≤ p.m ∧ p.m ≤ 9999) :
    Calls Try.prog 106 #[.slice o L.length cap, tp a g s m zone] w fun e w' => e = .returned (.bool (goes (lastT L) m)) ∧ Below w.heap.size w w' := by
  rcases hn : L.length with _ | n
  · have hL0 : L = [] := List.eq_nil_of_length_eq_zero hn
    subst hL0
    clear hL hl
    go_enter Try.func106, Try.ntmps106
    go_wp2_with fail
    go_ret
    exact ⟨by simp [goes, lastT], (Below.refl _ _).alloc (Nat.le_refl _) _⟩
  · obtain ⟨p, hp⟩ : ∃ p, L[n]? = some p := ⟨L[n]'(by omega), by simp [hn]⟩
    have h1 := hl p (List.mem_of_getElem? hp)
    have HR := hide (lastT_at L p n hn hp)
    obtain ⟨A, rfl, h5⟩ := hL n p hp
    obtain ⟨c0, c1, c2, c3, c4⟩ := h5.below ((Below.refl w.heap.size w).alloc (Nat.le_refl _) (.cells #[.int .i64 a, .int .i64 g, .int .i64 s, .int .i64 m, .int .i64 zone] 38)) h5.lt
    have HH := hide (show Tap5 w (A.add (n * 5)) p from h5)
    have hnb : n < 9223372036854775807 := by omega
    clear h5 hL hp hn hl
    obtain ⟨e1, e2⟩ := h1
    go_enter Try.func106, Try.ntmps106
    go_wp2_with fail
    go_region
    go_wp2_with (go_at_call 79; refine (within_any _ _ _ _).mono ?_; rintro e w' ⟨rfl, rfl⟩)
    go_ret
    refine ⟨?_, ((Below.refl w.heap.size w).alloc (Nat.le_refl _) _).drew⟩
    have e : wi (m - p.m) 0 59 = goes (lastT L) m := by
      rw [HR.out]
      simp only [wi, goes, ← Bool.decide_and]
      exact decide_eq_decide.mpr ⟨fun h => by omega, fun h => by omega⟩
    rw [← e]
    rfl

theorem firstE_left (l k : List Int) (h : firstE (l ++ k) = 0) : firstE l = 0 := Decidable.by_contra fun hn => hn (by rw [← firstE_stop l k hn]; exact h)

theorem firstE_mem (l : List Int) (h : firstE l = 0) : ∀ x ∈ l, x = 0 := by
  induction l with
  | nil => intro x hx; cases hx
  | cons e l ih =>
    by_cases he : e = 0
    · simp [firstE, he] at h
      intro x hx
      rcases List.mem_cons.mp hx with rfl | hx
      · exact he
      · exact ih h x hx
    · simp [firstE, he] at h

theorem chkP_right {a g s m z : Int} (h : chkP a g s m z = 0) : (1 ≤ a ∧ a ≤ 9999) ∧ (0 ≤ g ∧ g ≤ 2) ∧ (1 ≤ s ∧ s ≤ 99) ∧ (0 ≤ m ∧ m ≤ 9999) ∧ isZ z = true := by
  unfold chkP at h
  split at h
  · simp at h
  · split at h
    · simp at h
    · simp_all [wi]

theorem chk_right {i k f t z r : Int} (h : chk i k f t z r = 0) : (1 ≤ i ∧ i ≤ 9999) ∧ (0 ≤ f ∧ f ≤ 9999) ∧ (0 ≤ t ∧ t ≤ 9999) ∧ (1 ≤ z ∧ z ≤ 15) ∧ (1 ≤ k ∧ k ≤ 3) ∧ f ≤ t ∧ ridesF k r = true := by
  unfold chk at h
  split at h
  · simp at h
  · split at h
    · simp at h
    · split at h
      · simp at h
      · split at h
        · simp at h
        · simp_all [wi, inR]

/-- of what is handed to Judge nothing is wrong -/
theorem errJ_right {i k f t z r rides : Int} {p : TP} {L : List TP} (h : errJ i k f t z r rides p L = 0) :
    chk i k f t z r = 0 ∧ chkT p = 0 ∧ wi rides 0 60 = true ∧ (∀ x ∈ L, chkT x = 0) ∧ p.a = i ∧ (∀ x ∈ L, x.a = i) := by
  have h0 := firstE_mem _ h
  simp only [List.mem_append, List.mem_cons, List.not_mem_nil, or_false, List.mem_map] at h0
  refine ⟨h0 _ (by simp), h0 _ (by simp), ?_, fun x hx => h0 _ (Or.inl (Or.inl (Or.inr ⟨x, hx, rfl⟩))), ?_, fun x hx => ?_⟩
  · have := h0 (if wi rides 0 60 = true then 0 else 3) (by simp)
    cases hw : wi rides 0 60
    · simp [hw] at this
    · rfl
  · have := h0 (misT i p) (by simp)
    by_cases e : p.a = i
    · exact e
    · simp [misT, e] at this
  · have := h0 (misT i x) (Or.inr ⟨x, hx, rfl⟩)
    by_cases e : x.a = i
    · exact e
    · simp [misT, e] at this

/-- what Judge says: a verdict, and an error -/
def judgeV (i k f t z r rides : Int) (p : TP) (L : List TP) : Int × Int :=
  if errJ i k f t z r rides p L ≠ 0 then (0, errJ i k f t z r rides p L) else judge k f t z r (lastT L) rides p.m p.z

abbrev cK (i k f t z r : Int) (T : TypeId) : Obj := .cells #[.int .i64 i, .int .i64 k, .int .i64 f, .int .i64 t, .int .i64 z, .int .i64 r] T
abbrev cP (a g s m z : Int) (T : TypeId) : Obj := .cells #[.int .i64 a, .int .i64 g, .int .i64 s, .int .i64 m, .int .i64 z] T

/-- the three boxes of Judge -/
def Boxes (w w1 : World) (x : TK) (p : TP) : Prop := Tik6 w1 ⟨w.heap.size + 1 + 1, 0, none⟩ x ∧ Tap5 w1 ⟨w.heap.size + 1, 0, none⟩ p ∧ w.heap.size + 1 + 1 < w1.heap.size ∧ Below w.heap.size w w1

theorem boxes_of (i k f t z r a g s m zone : Int) (T1 T2 T3 : TypeId) (w w1 : World) (h : Below (((w.alloc (cK i k f t z r T1)).alloc (cP a g s m zone T2)).alloc (cK i k f t z r T3)).heap.size (((w.alloc (cK i k f t z r T1)).alloc (cP a g s m zone T2)).alloc (cK i k f t z r T3)) w1) :
    Boxes w w1 ⟨i, k, f, t, z, r⟩ ⟨a, g, s, m, zone⟩ := by
  have s1 := h.size
  simp at s1
  refine ⟨Tik6.below (w := ((w.alloc (cK i k f t z r T1)).alloc (cP a g s m zone T2)).alloc (cK i k f t z r T3)) ⟨?_, ?_, ?_, ?_, ?_, ?_⟩ h (by simp), Tap5.below (w := ((w.alloc (cK i k f t z r T1)).alloc (cP a g s m zone T2)).alloc (cK i k f t z r T3)) ⟨?_, ?_, ?_, ?_, ?_⟩ h (by simp), by omega,
    Below.trans ((((Below.refl _ _).alloc (Nat.le_refl _) _).alloc (by simp) _).alloc (by simp; omega) _) (h.mono (by simp; omega))⟩
  all_goals simp [go_sem]

theorem Boxes.on {w w1 w2 : World} {x : TK} {p : TP} (h : Boxes w w1 x p) (hb : Below w1.heap.size w1 w2) : Boxes w w2 x p :=
  ⟨h.1.below hb h.1.lt, h.2.1.below hb h.2.1.lt, Nat.lt_of_lt_of_le h.2.2.1 hb.size, h.2.2.2.trans (hb.mono h.2.2.2.size)⟩

set_option maxHeartbeats 3200000 in
theorem judge_any (i k f t z r rides a g s m zone : Int) (o : Option Addr) (cap : Nat) (L : List TP) (w : World) (hL : TapsAt w o L) (hlen : L.length ≤ 9223372036854775807) :
    Calls Try.prog 88 #[tk i k f t z r, .slice o L.length cap, .int .i64 rides, tp a g s m zone] w fun e w' =>
      e = .returned (.tuple #[.int .i64 (judgeV i k f t z r rides ⟨a, g, s, m, zone⟩ L).1, .int .i64 (judgeV i k f t z r rides ⟨a, g, s, m, zone⟩ L).2]) ∧ Below w.heap.size w w' := by
  have HL := hide hL
  clear hL
  have HG := hide (fun (h : errJ i k f t z r rides ⟨a, g, s, m, zone⟩ L = 0) => errJ_right h)
  have HX := hide (fun W (h : TapsAt W o L) => wrong_any i k f t z r rides a g s m zone o cap L W h hlen)
  generalize hJ : judgeV i k f t z r rides ⟨a, g, s, m, zone⟩ L = J
  unfold judgeV judge at hJ
  simp only [] at hJ
  generalize errJ i k f t z r rides ⟨a, g, s, m, zone⟩ L = E at *
  by_cases hE : E = 0
  · subst hE
    obtain ⟨h1, h2, -, h4, -⟩ := HG.out rfl
    obtain ⟨-, -, -, ⟨z1, z2⟩, -⟩ := chk_right h1
    obtain ⟨-, -, -, ⟨m1, m2⟩, hzone⟩ := chkP_right h2
    have HS := hide (fun W => shut_any i k f t z r a g s m zone W (by omega) z2 hzone)
    have HGo := hide (fun W (h : TapsAt W o L) => goesOn_any a g s m zone o cap L W h hlen m1 m2 (fun p hp => (chkP_right (h4 p hp)).2.2.2.1))
    clear h1 h2 h4 z1 z2 m1 m2 hzone HG
    generalize place f t z m zone = P at *
    have hgo : goes (lastT L) m = decide (0 ≤ lastT L ∧ lastT L ≤ m ∧ m < lastT L + 60) := rfl
    have hsp : spent k r rides = decide ((k = 1 ∧ 0 < rides) ∨ (k = 3 ∧ r ≤ rides)) := rfl
    have hc : ((P != 0) = true ∧ J = (3, P)) ∨ (P = 0 ∧ goes (lastT L) m = true ∧ J = (2, 0)) ∨ (P = 0 ∧ goes (lastT L) m = false ∧ spent k r rides = true ∧ J = (3, 10)) ∨ (P = 0 ∧ goes (lastT L) m = false ∧ spent k r rides = false ∧ J = (1, 0)) := by
      rw [hgo, hsp, ← hJ]
      by_cases hP : P = 0
      · by_cases c1 : 0 ≤ lastT L ∧ lastT L ≤ m ∧ m < lastT L + 60
        · simp [hP, c1]
        · by_cases c2 : (k = 1 ∧ 0 < rides) ∨ (k = 3 ∧ r ≤ rides)
          · simp only [hP, c1, c2]; simp
          · simp only [hP, c1, c2]; simp
      · simp [hP]
    clear hgo hsp hJ
    generalize goes (lastT L) m = G at *
    have HSp := hide (fun W => spent_any i k f t z r rides W)
    generalize spent k r rides = Sp at *
    rcases hc with ⟨h1, rfl⟩ | ⟨rfl, rfl, rfl⟩ | ⟨rfl, rfl, rfl, rfl⟩ | ⟨rfl, rfl, rfl, rfl⟩
    all_goals
      go_enter Try.func88, Try.ntmps88
      go_wp2_with fail
      refine (HX.out _ (HL.out.below ?_)).mono ?_
      · repeat (first | with_reducible exact Below.refl _ _ | with_reducible refine Below.alloc ?_ (by simp; try omega) _ | with_reducible refine Below.setCell ?_ (by simp; try omega) _)
      rintro e w1 ⟨rfl, hb1⟩
      have HB1 := hide (boxes_of _ _ _ _ _ _ _ _ _ _ _ _ _ _ _ _ hb1)
      clear hb1
      obtain ⟨⟨x0, x1, x2, x3, x4, x5⟩, ⟨y0, y1, y2, y3, y4⟩, -, -⟩ := HB1.out
      simp only [Nat.zero_add] at x0 x1 x2 x3 x4 x5 y0 y1 y2 y3 y4
      go_wp2_with fail
      refine (HS.out _).mono ?_
      rintro e w2 ⟨rfl, hb2⟩
      have HB2 := hide (HB1.out.on hb2)
      clear hb2 HB1 x0 x1 x2 x3 x4 x5 y0 y1 y2 y3 y4
      obtain ⟨⟨x0, x1, x2, x3, x4, x5⟩, ⟨y0, y1, y2, y3, y4⟩, -, -⟩ := HB2.out
      simp only [Nat.zero_add] at x0 x1 x2 x3 x4 x5 y0 y1 y2 y3 y4
      go_wp2_with fail
    · go_ret2
      exact ⟨rfl, HB2.out.2.2.2⟩
    all_goals
      refine (HGo.out _ (HL.out.below HB2.out.2.2.2)).mono ?_
      rintro e w3 ⟨rfl, hb3⟩
      have HB3 := hide (HB2.out.on hb3)
      clear hb3 HB2 x0 x1 x2 x3 x4 x5 y0 y1 y2 y3 y4
      obtain ⟨⟨x0, x1, x2, x3, x4, x5⟩, ⟨y0, y1, y2, y3, y4⟩, -, -⟩ := HB3.out
      simp only [Nat.zero_add] at x0 x1 x2 x3 x4 x5 y0 y1 y2 y3 y4
      go_wp2_with fail
    · go_ret2
      exact ⟨rfl, HB3.out.2.2.2⟩
    all_goals
      refine (HSp.out _).mono ?_
      rintro e w4 ⟨rfl, hb4⟩
      have HB4 := hide (HB3.out.on hb4)
      clear hb4 HB3 x0 x1 x2 x3 x4 x5 y0 y1 y2 y3 y4
      go_wp2_with fail
      go_ret2
      exact ⟨rfl, HB4.out.2.2.2⟩
  · have hE' : (E != 0) = true := by simpa using hE
    rw [if_pos hE] at hJ
    subst hJ
    clear hE HG
    go_enter Try.func88, Try.ntmps88
    go_wp2_with fail
    refine (HX.out _ (HL.out.below ?_)).mono ?_
    · repeat (first | with_reducible exact Below.refl _ _ | with_reducible refine Below.alloc ?_ (by simp; try omega) _ | with_reducible refine Below.setCell ?_ (by simp; try omega) _)
    rintro e w1 ⟨rfl, hb1⟩
    have HB1 := hide (boxes_of _ _ _ _ _ _ _ _ _ _ _ _ _ _ _ _ hb1)
    clear hb1
    go_wp2_with fail
    go_ret2
    exact ⟨rfl, HB1.out.2.2.2⟩

end Go.Proofs.Ytcakfmpckbmdeac
