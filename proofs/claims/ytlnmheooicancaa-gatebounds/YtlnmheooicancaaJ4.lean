/-
  'shut', 'spent', 'next' (package gate).
-/
import Derived.Test.YtlnmheooicancaaJ3
namespace Go.Proofs.Ytlnmheooicancaa
open Go.RowKit

/-- why a ticket is not let through, whatever the gate has let through -/
def shutG (D : List Int) (u z : Int) (x : TK) (m : Int) : Int := if hasI D x.i = true then 11 else if wi m x.f x.t = false then 8 else if u < m then 8 else if x.z / z % 2 = 0 then 9 else 0

set_option maxHeartbeats 3200000 in
theorem gateShut_any (i z s : Int) (oa : Option Addr) (P : List TP) (ca : Nat) (v : Int) (od : Option Addr) (D : List Int) (cd : Nat) (l u : Int) (ti k f t y r m : Int) (w : World) (hD : IntsAt w od D) (hlD : D.length ≤ 9223372036854775807) (hu : unfD v D ti = 0) (hy : 0 ≤ y) (hy2 : y ≤ 15) (hz : isZ z = true) :
    Calls Try.prog 17 #[gtV i z s oa P.length ca v od D.length cd l u, tk ti k f t y r, .int .i64 m] w fun e w' => e = .returned (.int .i64 (shutG D u z ⟨ti, k, f, t, y, r⟩ m)) ∧ Below w.heap.size w w' := by
  have HH := hide (fun W (h : IntsAt W od D) => has_any v ti D od cd W h hlD)
  rw [hu, decide_eq_true rfl, Bool.true_and] at HH
  have hand := and_zone y z hy hy2 hz
  have HD := hide hD
  generalize hE : shutG D u z ⟨ti, k, f, t, y, r⟩ m = E
  have hp : (hasI D ti = true ∧ E = 11) ∨ (hasI D ti = false ∧ wi m f t = false ∧ E = 8) ∨ (hasI D ti = false ∧ wi m f t = true ∧ u < m ∧ E = 8) ∨ (hasI D ti = false ∧ wi m f t = true ∧ ¬ u < m ∧ (bits BinOp.and IntKind.i64 y z == 0) = true ∧ E = 9) ∨ (hasI D ti = false ∧ wi m f t = true ∧ ¬ u < m ∧ (bits BinOp.and IntKind.i64 y z == 0) = false ∧ E = 0) := by
    rw [hand, ← hE, shutG]
    cases hasI D ti <;> cases wi m f t <;> by_cases h : u < m <;> by_cases h' : y / z % 2 = 0 <;> simp [h, h']
  clear hE hand hD hu hy hy2 hz
  generalize hasI D ti = X1 at *
  rcases hp with ⟨rfl, rfl⟩ | ⟨rfl, h2, rfl⟩ | ⟨rfl, h2, h3, rfl⟩ | ⟨rfl, h2, h3, h4, rfl⟩ | ⟨rfl, h2, h3, h4, rfl⟩
  all_goals
    go_enter Try.func17, Try.ntmps17
    go_wp2_with fail
    have HG1 := hide (((Blks.nil w).more (.cells #[.int .i64 i, .int .i64 z, .int .i64 s, .slice oa P.length ca, .int .i64 v, .slice od D.length cd, .int .i64 l, .int .i64 u] 48) (by simp)).more (.cells #[.int .i64 ti, .int .i64 k, .int .i64 f, .int .i64 t, .int .i64 y, .int .i64 r] 39) (by simp))
    refine (HH.out _ (HD.out.below HG1.out.2.2)).mono ?_
    rintro e w1 ⟨rfl, hb⟩
    have HG1w1 := hide (HG1.out.on hb)
    clear hb HG1
    have lG1_0 := HG1w1.out.lt 0 w.heap.size (by simp) rfl
    have cG1_0_0 := HG1w1.out.cell 0 0 w.heap.size _ _ _ rfl rfl rfl
    have cG1_0_1 := HG1w1.out.cell 0 1 w.heap.size _ _ _ rfl rfl rfl
    have cG1_0_2 := HG1w1.out.cell 0 2 w.heap.size _ _ _ rfl rfl rfl
    have cG1_0_3 := HG1w1.out.cell 0 3 w.heap.size _ _ _ rfl rfl rfl
    have cG1_0_4 := HG1w1.out.cell 0 4 w.heap.size _ _ _ rfl rfl rfl
    have cG1_0_5 := HG1w1.out.cell 0 5 w.heap.size _ _ _ rfl rfl rfl
    have cG1_0_6 := HG1w1.out.cell 0 6 w.heap.size _ _ _ rfl rfl rfl
    have cG1_0_7 := HG1w1.out.cell 0 7 w.heap.size _ _ _ rfl rfl rfl
    have lG1_1 := HG1w1.out.lt 1 (w.heap.size + 1) (by simp) rfl
    have cG1_1_0 := HG1w1.out.cell 1 0 (w.heap.size + 1) _ _ _ rfl rfl rfl
    have cG1_1_1 := HG1w1.out.cell 1 1 (w.heap.size + 1) _ _ _ rfl rfl rfl
    have cG1_1_2 := HG1w1.out.cell 1 2 (w.heap.size + 1) _ _ _ rfl rfl rfl
    have cG1_1_3 := HG1w1.out.cell 1 3 (w.heap.size + 1) _ _ _ rfl rfl rfl
    have cG1_1_4 := HG1w1.out.cell 1 4 (w.heap.size + 1) _ _ _ rfl rfl rfl
    have cG1_1_5 := HG1w1.out.cell 1 5 (w.heap.size + 1) _ _ _ rfl rfl rfl
    go_wp2_with (go_at_call 26; refine (within_any _ _ _ _).mono ?_; rintro e w' ⟨rfl, rfl⟩)
    go_ret
    exact ⟨rfl, HG1w1.out.2.2⟩

def hasA (P : List TP) (id : Int) : Bool := P.any fun x => x.a == id

theorem spent1_any (a g s m z id : Int) (B : Nat) (w : World) (hc : w.cell? ⟨B, 0, none⟩ = some (.int .i64 id)) :
    Calls Try.prog 35 #[tp a g s m z, .pointer (some ⟨B, 0, none⟩)] w fun e w' => e = .returned (.bool (a == id)) ∧ Below w.heap.size w w' := by
  have hlt : B < w.heap.size := World.block_lt_of_cell? w ⟨B, 0, none⟩ hc
  go_enter Try.func35, Try.ntmps35
  go_wp2_with fail
  go_ret
  exact ⟨rfl, (Below.refl _ _).alloc (Nat.le_refl _) _⟩

set_option maxHeartbeats 1600000 in
theorem indexS_any (id : Int) (B : Nat) (o : Option Addr) (cap : Nat) (L : List TP) (w : World) (hL : TapsAt w o L) (hlen : L.length ≤ 9223372036854775807) (hc : w.cell? ⟨B, 0, none⟩ = some (.int .i64 id)) :
    Calls Try.prog 45 #[.slice o L.length cap, .func (.func 35) #[] #[.pointer (some ⟨B, 0, none⟩)]] w fun e w' =>
      (∃ n : Int, e = .returned (.int .i64 n) ∧ decide (0 ≤ n) = hasA L id) ∧ Below w.heap.size w w' := by
  have HL := hide hL
  have HC := hide hc
  clear hL hc
  go_enter Try.func45, Try.ntmps45
  go_wp2_with fail
  go_loopw [8] (fun j wr => ∃ (q : Nat), q ≤ L.length ∧ j = .int .i64 q ∧ Hid (hasA (L.take q) id = false) ∧ Below w.heap.size w wr) (fun j _ => L.length - (intOf j).toNat)
  case atStart => exact ⟨0, Nat.zero_le _, rfl, by show _ = _; simp [hasA], Below.refl _ _⟩
  case round =>
    obtain ⟨q, hq, rfl, hF, hbr⟩ := hrel
    by_cases hgo : q < L.length
    · obtain ⟨x, hp⟩ : ∃ x, L[q]? = some x := ⟨L[q], by simp [hgo]⟩
      have HS : Hid (hasA (L.take (q + 1)) id = (x.a == id)) := by
        show _ = _
        have h0 := hF.out
        unfold hasA at h0 ⊢
        rw [List.take_add_one, hp, Option.toList_some, List.any_append, h0]
        simp
      obtain ⟨A, rfl, c0, c1, c2, c3, c4⟩ := (HL.out.below hbr) q x hp
      have HP := hide hp
      clear hp
      go_wp2_with fail
      refine (spent1_any _ _ _ _ _ id B _ (by rw [hbr.cell (World.block_lt_of_cell? w _ HC.out)]; exact HC.out)).mono ?_
      rintro e w3 ⟨rfl, hb3⟩
      have hbr3 := hbr.trans (hb3.mono hbr.size)
      clear hbr hb3
      cases hx : (x.a == id)
      · rw [hx] at HS
        clear hx
        go_wp2_with fail
        exact ⟨⟨q + 1, by omega, by simp, HS, hbr3⟩, by simp [intOf]; omega⟩
      · have HX := hide hx
        clear hx
        go_wp2_with fail
        go_ret
        refine ⟨⟨q, rfl, ?_⟩, hbr3⟩
        have hp := HP.out
        have : hasA L id = true := by
          unfold hasA
          rw [List.any_eq_true]
          exact ⟨x, List.mem_of_getElem? hp, HX.out⟩
        simp [this]
    · go_wp2_with fail
      go_ret
      refine ⟨⟨-1, rfl, ?_⟩, hbr⟩
      have h1 := hF.out
      rw [List.take_of_length_le (by omega)] at h1
      simp [h1]

theorem containsS_any (id : Int) (B : Nat) (o : Option Addr) (cap : Nat) (L : List TP) (w : World) (hL : TapsAt w o L) (hlen : L.length ≤ 9223372036854775807) (hc : w.cell? ⟨B, 0, none⟩ = some (.int .i64 id)) :
    Calls Try.prog 36 #[.slice o L.length cap, .func (.func 35) #[] #[.pointer (some ⟨B, 0, none⟩)]] w fun e w' =>
      e = .returned (.bool (hasA L id)) ∧ Below w.heap.size w w' := by
  have HI := hide (indexS_any id B o cap L w hL hlen hc)
  clear hL hc
  go_enter Try.func36, Try.ntmps36
  go_wp2_with fail
  refine HI.out.mono ?_
  rintro e w' ⟨⟨n, rfl, hn⟩, hb⟩
  have HN := hide hn
  clear hn
  go_wp2_with fail
  go_ret
  exact ⟨by rw [← HN.out]; rfl, hb⟩

/-- nothing is left -/
def spentG (P : List TP) (l : Int) (x : TK) : Bool := (l == 0) || ((x.k != 2) && hasA P x.i)

set_option maxHeartbeats 1600000 in
theorem gateSpent_any (i z s : Int) (oa : Option Addr) (P : List TP) (ca : Nat) (v : Int) (od : Option Addr) (D : List Int) (cd : Nat) (l u : Int) (ti k f t y r : Int) (w : World) (hP : TapsAt w oa P) (hlP : P.length ≤ 9223372036854775807) :
    Calls Try.prog 18 #[gtV i z s oa P.length ca v od D.length cd l u, tk ti k f t y r] w fun e w' => e = .returned (.bool (spentG P l ⟨ti, k, f, t, y, r⟩)) ∧ Below w.heap.size w w' := by
  have HC := hide (fun W B (h : TapsAt W oa P) (h' : W.cell? ⟨B, 0, none⟩ = some (.int .i64 ti)) => containsS_any ti B oa ca P W h hlP h')
  have HP := hide hP
  clear hP
  unfold spentG
  have hp : (l == 0) = true ∨ ((l == 0) = false ∧ (k != 2) = false) ∨ ((l == 0) = false ∧ (k != 2) = true) := by cases (l == 0) <;> cases (k != 2) <;> simp
  simp only []
  generalize hasA P ti = X at *
  rcases hp with h1 | ⟨h1, h2⟩ | ⟨h1, h2⟩
  · go_enter Try.func18, Try.ntmps18
    go_wp2_with fail
    have HG1 := hide (((Blks.nil w).more (.cells #[.int .i64 i, .int .i64 z, .int .i64 s, .slice oa P.length ca, .int .i64 v, .slice od D.length cd, .int .i64 l, .int .i64 u] 48) (by simp)).more (.cells #[.int .i64 ti, .int .i64 k, .int .i64 f, .int .i64 t, .int .i64 y, .int .i64 r] 39) (by simp))
    go_ret
    exact ⟨by simp [*], HG1.out.2.2⟩
  · go_enter Try.func18, Try.ntmps18
    go_wp2_with fail
    have HG1 := hide (((Blks.nil w).more (.cells #[.int .i64 i, .int .i64 z, .int .i64 s, .slice oa P.length ca, .int .i64 v, .slice od D.length cd, .int .i64 l, .int .i64 u] 48) (by simp)).more (.cells #[.int .i64 ti, .int .i64 k, .int .i64 f, .int .i64 t, .int .i64 y, .int .i64 r] 39) (by simp))
    go_ret
    exact ⟨by simp [*], HG1.out.2.2⟩
  · go_enter Try.func18, Try.ntmps18
    go_wp2_with fail
    have HG1 := hide (((Blks.nil w).more (.cells #[.int .i64 i, .int .i64 z, .int .i64 s, .slice oa P.length ca, .int .i64 v, .slice od D.length cd, .int .i64 l, .int .i64 u] 48) (by simp)).more (.cells #[.int .i64 ti, .int .i64 k, .int .i64 f, .int .i64 t, .int .i64 y, .int .i64 r] 39) (by simp))
    refine (HC.out _ _ (HP.out.below HG1.out.2.2) (HG1.out.cell 1 0 _ _ _ _ rfl rfl rfl)).mono ?_
    rintro e w1 ⟨rfl, hb⟩
    have HG1w1 := hide (HG1.out.on hb)
    clear hb HG1
    have lG1_0 := HG1w1.out.lt 0 w.heap.size (by simp) rfl
    have cG1_0_0 := HG1w1.out.cell 0 0 w.heap.size _ _ _ rfl rfl rfl
    have cG1_0_1 := HG1w1.out.cell 0 1 w.heap.size _ _ _ rfl rfl rfl
    have cG1_0_2 := HG1w1.out.cell 0 2 w.heap.size _ _ _ rfl rfl rfl
    have cG1_0_3 := HG1w1.out.cell 0 3 w.heap.size _ _ _ rfl rfl rfl
    have cG1_0_4 := HG1w1.out.cell 0 4 w.heap.size _ _ _ rfl rfl rfl
    have cG1_0_5 := HG1w1.out.cell 0 5 w.heap.size _ _ _ rfl rfl rfl
    have cG1_0_6 := HG1w1.out.cell 0 6 w.heap.size _ _ _ rfl rfl rfl
    have cG1_0_7 := HG1w1.out.cell 0 7 w.heap.size _ _ _ rfl rfl rfl
    have lG1_1 := HG1w1.out.lt 1 (w.heap.size + 1) (by simp) rfl
    have cG1_1_0 := HG1w1.out.cell 1 0 (w.heap.size + 1) _ _ _ rfl rfl rfl
    have cG1_1_1 := HG1w1.out.cell 1 1 (w.heap.size + 1) _ _ _ rfl rfl rfl
    have cG1_1_2 := HG1w1.out.cell 1 2 (w.heap.size + 1) _ _ _ rfl rfl rfl
    have cG1_1_3 := HG1w1.out.cell 1 3 (w.heap.size + 1) _ _ _ rfl rfl rfl
    have cG1_1_4 := HG1w1.out.cell 1 4 (w.heap.size + 1) _ _ _ rfl rfl rfl
    have cG1_1_5 := HG1w1.out.cell 1 5 (w.heap.size + 1) _ _ _ rfl rfl rfl
    go_wp2_with fail
    go_ret
    exact ⟨by simp [*], HG1w1.out.2.2⟩

/-- the gate's next tap -/
abbrev nextG (i z s : Int) (x : TK) (m : Int) : TP := ⟨x.i, i, s + 1, m, z⟩

set_option maxHeartbeats 1600000 in
theorem gateNext_any (i z s : Int) (oa : Option Addr) (P : List TP) (ca : Nat) (v : Int) (od : Option Addr) (D : List Int) (cd : Nat) (l u : Int) (ti k f t y r m : Int) (w : World) (hs : 0 ≤ s) (hs2 : s ≤ 99) :
    Calls Try.prog 20 #[gtV i z s oa P.length ca v od D.length cd l u, tk ti k f t y r, .int .i64 m] w fun e w' => e = .returned (tp ti i (s + 1) m z) ∧ Below w.heap.size w w' := by
  have hwr : IntKind.i64.wrap (s + 1) = s + 1 := by rw [IntKind.wrap_i64]; omega
  go_enter Try.func20, Try.ntmps20
  go_wp2_with fail
  refine bodyPost_ret (v := tp ti i (s + 1) m z) (by simp [results, Try.results20, go_sem]) rfl ⟨rfl, ?_⟩
  exact (((Below.refl _ _).alloc (Nat.le_refl _) _).alloc (by simp) _).alloc (by simp; omega) _
end Go.Proofs.Ytlnmheooicancaa
