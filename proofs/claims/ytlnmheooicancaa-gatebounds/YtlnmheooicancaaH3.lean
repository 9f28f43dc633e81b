/-
  As H2, where an operation may spoil what an earlier one left, and that it alone wanted: an append writes into the row that it takes.
-/
import Derived.Test.YtlnmheooicancaaH2
namespace Go.Proofs.Ytlnmheooicancaa
open Go.RowKit

section
variable {P : Program} {ops : Array Oper} {Q : Exit → Act → World → Prop} {S : World → Prop} {φ : Nat → Value → World → Prop}

/-- j waits for k, by some steps -/
def reachOk (ops : Array Oper) (n : Nat) (reach : Nat → Nat → Bool) : Bool :=
  (List.range n).all fun j => (List.range n).all fun k => !reach j k || match ops[j]? with
    | some o => o.after.any fun e => Region.binds .any e && (e.on == k || reach e.on k)
    | none => false

theorem reach_listed {reach : Nat → Nat → Bool} {n : Nat} {listed : Array Bool} (hre : reachOk ops n reach = true) (hlt : ∀ j o, j < n → ops[j]? = some o → ∀ e ∈ o.after, Region.binds .any e = true → e.on < j)
    (hdn : ∀ j o, j < n → listed.getD j false = true → ops[j]? = some o → ∀ e ∈ o.after, Region.binds .any e = true → listed.getD e.on false = true) :
    ∀ j, j < n → listed.getD j false = true → ∀ k, k < n → reach j k = true → listed.getD k false = true := by
  intro j
  induction j using Nat.strongRecOn with
  | ind j ih =>
    intro hj hl k hk hr
    unfold reachOk at hre
    simp only [List.all_eq_true, List.mem_range] at hre
    have h := hre j hj k hk
    rw [hr] at h
    simp only [Bool.not_true, Bool.false_or] at h
    cases ho : ops[j]? with
    | none => rw [ho] at h; cases h
    | some o =>
      rw [ho] at h
      simp only [Array.any_eq_true', Bool.and_eq_true, Bool.or_eq_true, beq_iff_eq] at h
      obtain ⟨e, he, hb, h⟩ := h
      have hle := hdn j o hj hl ho e he hb
      have hlt' := hlt j o hj ho e he hb
      rcases h with h | h
      · rw [← h]; exact hle
      · exact ih e.on hlt' (by omega) hle k hk h

theorem makersS (spoil reach : Nat → Nat → Bool) {n m : Nat} {tail : Array Bool} {a0 : Act} (hre : reachOk ops n reach = true) (hp : plainM ops n tail = true) (hsz : ops.size = n + tail.size) (hs : ∀ j, j < n → dstK ops j < a0.tmps.size)
    (hstep : ∀ k o, k < n → ops[k]? = some o → ∀ a w, S w → (∀ e ∈ o.after, Region.binds .any e = true → (∀ j, j < n → spoil j e.on = true → j = k ∨ reach j k = true) → φ e.on (a.eval (.tmp (dstK ops e.on))) w) → (∀ d, (∀ j, j < n → dstK ops j ≠ d) → a.eval (.tmp d) = a0.eval (.tmp d)) →
      ∀ K' : Act → World → Prop, (∀ v w', φ k v w' → S w' → (∀ j u, j < n → j ≠ k → spoil k j = false → reach j k = false → φ j u w → φ j u w') → K' (a.put o.dst v) w') → o.wp P a w K' Q)
    (hend : ∀ vals w, S w → (∀ k, k < n → (∀ j, j < n → spoil j k = false) → φ k (vals k) w) → wpAny P .any ops Q m (Array.replicate n true ++ tail) (puts ops n (Array.replicate n true ++ tail) vals a0) w) :
    ∀ (c : Nat) (listed : Array Bool) (vals : Nat → Value) (w : World), left n listed = c → listed.size = n + tail.size → (∀ k, n ≤ k → k < n + tail.size → listed.getD k true = tail.getD (k - n) true) → S w → (∀ j o, j < n → listed.getD j false = true → ops[j]? = some o → ∀ e ∈ o.after, Region.binds .any e = true → listed.getD e.on false = true) → (∀ k, k < n → listed.getD k false = true → (∀ j, j < n → listed.getD j false = true → spoil j k = false) → φ k (vals k) w) →
      wpAny P .any ops Q (m + c) listed (puts ops n listed vals a0) w := by
  simp only [plainM, Bool.and_eq_true, List.all_eq_true, List.mem_range, decide_eq_true_eq] at hp
  obtain ⟨⟨⟨_, hp1⟩, hp2⟩, hp3⟩ := hp
  have hd : ∀ j k, j < n → k < n → j ≠ k → dstK ops j ≠ dstK ops k := by
    intro j k hj hk hne
    have := hp2 k hk j hj
    simp only [Bool.or_eq_true, beq_iff_eq, bne_iff_ne] at this
    rcases this with h | h
    · exact absurd h hne
    · exact h
  have hk1' : ∀ j o, j < n → ops[j]? = some o → ∀ e ∈ o.after, Region.binds .any e = true → e.on < j := by
    intro j o hj ho e he hb
    have hk1 := hp1 j hj
    rw [ho] at hk1
    simp only [Bool.and_eq_true, Array.all_eq_true'] at hk1
    have := hk1.2 e he
    rw [hb] at this
    simpa using this
  intro c
  induction c with
  | zero =>
    intro listed vals w hc hls hhi hS hdn hv
    have hall := left_zero n listed hc
    have he : listed = Array.replicate n true ++ tail := by
      apply Array.ext
      · simp [hls]
      · intro k h1 h2
        rcases Nat.lt_or_ge k n with h | h
        · have := hall k h
          simp [Array.getD, h1] at this
          simp [h, this]
        · have hkt : k - n < tail.size := by omega
          have := hhi k h (by omega)
          simp [Array.getD, h1, hkt] at this
          simp [Array.getElem_append, show ¬ k < n by omega, this]
    rw [he]
    exact hend vals w hS (fun k hk hsp => hv k hk (hall k hk) (fun j hj _ => hsp j hj))
  | succ c ih =>
    intro listed vals w hc hls hhi hS hdn hv
    refine ⟨fun hr => ?_, fun i hi => ?_⟩
    · obtain ⟨k, hk, hkl, hkb⟩ := left_pos n listed (by omega)
      exfalso
      have : k ∈ Region.ready .any ops listed := by
        rw [mem_ready]
        have hk1 := hp1 k hk
        cases ho : ops[k]? with
        | none => rw [ho] at hk1; cases hk1
        | some o =>
          rw [ho] at hk1
          simp only [Bool.and_eq_true, Array.all_eq_true'] at hk1
          refine ⟨?_, o, rfl, fun e he hb => ?_⟩
          · have : k < listed.size := by omega
            simp [Array.getD, this] at hkl ⊢
            exact hkl
          · have := hk1.2 e he
            rw [hb] at this
            simp at this
            exact hkb e.on this
      rw [hr] at this
      cases this
    · obtain ⟨hil, o, ho, hall⟩ := mem_ready.1 hi
      have his : i < listed.size := by
        rcases Nat.lt_or_ge i listed.size with h | h
        · exact h
        · simp [Array.getD, show ¬ i < listed.size by omega] at hil
      have hil' : listed.getD i false = false := by simp [Array.getD, his] at hil ⊢; exact hil
      have hin : i < n := by
        rcases Nat.lt_or_ge i n with h | h
        · exact h
        · exfalso
          obtain ⟨k, hk, hkl, _⟩ := left_pos n listed (by omega)
          have h3 := hp3 i (by omega)
          rw [ho] at h3
          simp only [Bool.or_eq_true, decide_eq_true_eq, List.all_eq_true, List.mem_range] at h3
          rcases h3 with (h3 | h3) | h3
          · omega
          · have h5 := hhi i h (by omega)
            have hkt : i - n < tail.size := by omega
            rw [hil] at h5
            simp [Array.getD, hkt] at h3 h5
            rw [h3] at h5
            cases h5
          · have h4 := h3 k hk
            rw [Array.any_eq_true'] at h4
            obtain ⟨e, he, hb⟩ := h4
            simp only [Bool.and_eq_true, beq_iff_eq] at hb
            have := hall e he hb.1
            rw [hb.2, hkl] at this
            cases this
      have hk1 := hp1 i hin
      rw [ho] at hk1
      simp only [Bool.and_eq_true, Array.all_eq_true'] at hk1
      have hg : o.guard = none := by simpa using hk1.1.1
      have hdst : o.dst = some (dstK ops i) := by
        have h2 := hk1.1.2
        cases hdd : o.dst with
        | none => rw [hdd] at h2; cases h2
        | some d => simp [dstK, ho, hdd]
      unfold wpOp
      simp only [ho]
      rw [if_pos (by simp [Region.wanted, hg])]
      refine .inl (hstep i o hin ho _ w hS (fun e he hb hsp => ?_) (fun d hdn => puts_other n listed vals a0 d hdn) _ (fun v w' hv' hS' hb' => ?_))
      · have h1 := hall e he hb
        have h2 : e.on < i := by
          have := hk1.2 e he
          rw [hb] at this
          simpa using this
        rw [puts_at n listed vals a0 hd hs e.on (by omega) h1]
        refine hv e.on (by omega) h1 (fun j hj hjl => ?_)
        cases hsj : spoil j e.on
        · rfl
        · rcases hsp j hj hsj with rfl | hr
          · rw [hil'] at hjl
            cases hjl
          · rw [reach_listed hre hk1' hdn j hj hjl i hin hr] at hil'
            cases hil'
      · rw [hdst]
        have e := puts_set (ops := ops) n listed vals a0 i v his hil' hd
        rw [if_pos hin] at e
        rw [← e]
        have hcs := left_set n listed i his hin hil'
        refine ih _ _ w' (by omega) (by simp [hls]) (fun k hk hkm => ?_) hS' (fun j oj hj hjl hoj ed hed hbd => ?_) (fun k hk hkl hsp => ?_)
        · rw [getD_set_ne true (show i ≠ k by omega)]
          exact hhi k hk hkm
        · rw [getD_set' _ _ _ his] at hjl ⊢
          by_cases hei : ed.on = i
          · rw [if_pos hei]
          · rw [if_neg hei]
            by_cases hji : j = i
            · subst hji
              rw [ho] at hoj
              cases hoj
              exact hall ed hed hbd
            · rw [if_neg hji] at hjl
              exact hdn j oj hj hjl hoj ed hed hbd
        · rw [getD_set' _ _ _ his] at hkl
          by_cases hki : k = i
          · subst hki
            simp only [if_true]
            exact hv'
          · simp only [if_neg hki] at hkl ⊢
            have hik : spoil i k = false := hsp i hin (by rw [getD_set' _ _ _ his, if_pos rfl])
            refine hb' k _ hk hki hik (by
              cases hr : reach k i
              · rfl
              · rw [reach_listed hre hk1' hdn k hk hkl i hin hr] at hil'
                cases hil') (hv k hk hkl (fun j hj hjl => hsp j hj ?_))
            rw [getD_set' _ _ _ his]
            by_cases hji : j = i
            · rw [if_pos hji]
            · rw [if_neg hji]; exact hjl

/-- THE LAW, with operations that spoil what they take (an append in place): from the state in which none of the first n has come up -/
theorem wpAny_makersS (spoil reach : Nat → Nat → Bool) {a0 : Act} {w : World} {l : List Oper} {listed : Array Bool} (S : World → Prop) (φ : Nat → Value → World → Prop) (n m : Nat) (tail : Array Bool) (ds : List Nat) (hds : (List.range n).map (dstK l.toArray) = ds) (hls : listed = Array.replicate n false ++ tail) (hre : reachOk l.toArray n reach = true) (hp : plainM l.toArray n tail = true) (hsz : l.toArray.size = n + tail.size)
    (N : Nat) (hN : a0.tmps.size = N) (hs' : ((List.range n).all fun j => decide (dstK l.toArray j < N)) = true) (hS : S w)
    (hstep : ∀ k o, k < n → l.toArray[k]? = some o → ∀ a w, S w → (∀ e ∈ o.after, Region.binds .any e = true → (∀ j, j < n → spoil j e.on = true → j = k ∨ reach j k = true) → φ e.on (a.eval (.tmp (dstK l.toArray e.on))) w) → (∀ d, (∀ j, j < n → dstK l.toArray j ≠ d) → a.eval (.tmp d) = a0.eval (.tmp d)) →
      ∀ K' : Act → World → Prop, (∀ v w', φ k v w' → S w' → (∀ j u, j < n → j ≠ k → spoil k j = false → reach j k = false → φ j u w → φ j u w') → K' (a.put o.dst v) w') → o.wp P a w K' Q)
    (hend : ∀ vals w, S w → (∀ k, k < n → (∀ j, j < n → spoil j k = false) → φ k (vals k) w) → wpAny P .any l.toArray Q m (Array.replicate n true ++ tail) (putsD ds 0 vals a0) w) :
    wpAny P .any l.toArray Q (m + n) listed a0 w := by
  subst hls
  have hend' : ∀ vals w, S w → (∀ k, k < n → (∀ j, j < n → spoil j k = false) → φ k (vals k) w) → wpAny P .any l.toArray Q m (Array.replicate n true ++ tail) (puts l.toArray n (Array.replicate n true ++ tail) vals a0) w := by
    intro vals w h1 h2
    rw [puts_all n _ vals a0 (fun k hk => by
      have h1 : k < (Array.replicate n true ++ tail).size := by simp; omega
      simp only [Array.getD, h1, dif_pos]
      simp [hk]), hds]
    exact hend vals w h1 h2
  have hs : ∀ j, j < n → dstK l.toArray j < a0.tmps.size := by
    intro j hj
    have := List.all_eq_true.1 hs' j (List.mem_range.2 hj)
    rw [hN]
    simpa using this
  have h0 : ∀ k, k < n → (Array.replicate n false ++ tail).getD k false = false := by
    intro k hk
    have h1 : k < (Array.replicate n false ++ tail).size := by simp; omega
    simp only [Array.getD, h1, dif_pos]
    simp [hk]
  have hl : ∀ r, r ≤ n → left r (Array.replicate n false ++ tail) = r := by
    intro r hr
    induction r with
    | zero => rfl
    | succ r ih => rw [left_succ, ih (by omega), h0 r (by omega)]; simp
  have hpz : ∀ r, r ≤ n → puts l.toArray r (Array.replicate n false ++ tail) (fun _ => undef) a0 = a0 := by
    intro r hr
    induction r with
    | zero => rfl
    | succ r ih => rw [puts_succ, ih (by omega), h0 r (by omega)]; simp
  have := makersS spoil reach (P := P) (Q := Q) (S := S) (φ := φ) (a0 := a0) hre hp hsz hs hstep hend' n (Array.replicate n false ++ tail) (fun _ => undef) w (hl n (Nat.le_refl _)) (by simp) (fun k hk hkt => by
    have h1 : k < (Array.replicate n false ++ tail).size := by simp; omega
    have h2 : k - n < tail.size := by omega
    simp only [Array.getD, h1, h2, dif_pos]
    simp [Array.getElem_append, show ¬ k < n by omega]) hS (fun j _ hj hjl => by rw [h0 j hj] at hjl; cases hjl) (fun k hk hkl _ => by rw [h0 k hk] at hkl; cases hkl)
  rw [hpz n (Nat.le_refl _)] at this
  exact this
end
end Go.Proofs.Ytlnmheooicancaa
