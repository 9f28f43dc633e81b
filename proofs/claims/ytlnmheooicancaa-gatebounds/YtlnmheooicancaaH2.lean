/-
  A region that draws its order, whose operations (the first n of them) each leave a value with a property that no later one spoils: whatever the order, at their end all values have their properties.
-/
import Derived.OrdersHeld
import Derived.WalkKit
import Derived.Great.Frames
namespace Go.Proofs.Ytlnmheooicancaa
open Go.RowKit

section
variable {P : Program} {ops : Array Oper} {Q : Exit → Act → World → Prop} {S : World → Prop} {φ : Nat → Value → World → Prop}

def dstK (ops : Array Oper) (k : Nat) : Nat := ((ops[k]?).bind (·.dst)).getD 0

/-- the first n operations are plain: no guard, each has a slot of its own, each waits for earlier ones alone, and all later ones that have not come up wait for all of them -/
def plainM (ops : Array Oper) (n : Nat) (tail : Array Bool) : Bool :=
  decide (n ≤ ops.size) &&
  (List.range n).all (fun k => match ops[k]? with
    | some o => o.guard.isNone && o.dst.isSome && o.after.all (fun e => !Region.binds .any e || decide (e.on < k))
    | none => false) &&
  (List.range n).all (fun k => (List.range n).all fun j => j == k || dstK ops j != dstK ops k) &&
  (List.range ops.size).all (fun j => decide (j < n) || tail.getD (j - n) false || match ops[j]? with
    | some o => (List.range n).all fun k => o.after.any fun e => Region.binds .any e && e.on == k
    | none => true)

/-- the slots of those that have come up -/
def puts (ops : Array Oper) (n : Nat) (listed : Array Bool) (vals : Nat → Value) (a0 : Act) : Act :=
  (List.range n).foldl (fun a k => if listed.getD k false = true then a.put (some (dstK ops k)) (vals k) else a) a0

theorem puts_succ (n : Nat) (listed : Array Bool) (vals : Nat → Value) (a0 : Act) :
    puts ops (n + 1) listed vals a0 = if listed.getD n false = true then (puts ops n listed vals a0).put (some (dstK ops n)) (vals n) else puts ops n listed vals a0 := by
  simp [puts, List.range_succ, List.foldl_append]

theorem puts_size (n : Nat) (listed : Array Bool) (vals : Nat → Value) (a0 : Act) : (puts ops n listed vals a0).tmps.size = a0.tmps.size := by
  induction n with
  | zero => rfl
  | succ n ih =>
    rw [puts_succ]
    split
    · simp [Act.put, ih]
    · exact ih

theorem puts_other (n : Nat) (listed : Array Bool) (vals : Nat → Value) (a0 : Act) (d : Nat) (h : ∀ j, j < n → dstK ops j ≠ d) : (puts ops n listed vals a0).eval (.tmp d) = a0.eval (.tmp d) := by
  induction n with
  | zero => rfl
  | succ n ih =>
    rw [puts_succ]
    split
    · rw [Act.eval_put_ne _ _ _ _ (h n (by omega))]
      exact ih fun j hj => h j (by omega)
    · exact ih fun j hj => h j (by omega)

theorem puts_at (n : Nat) (listed : Array Bool) (vals : Nat → Value) (a0 : Act) (hd : ∀ j k, j < n → k < n → j ≠ k → dstK ops j ≠ dstK ops k) (hs : ∀ j, j < n → dstK ops j < a0.tmps.size)
    (j : Nat) (hj : j < n) (hl : listed.getD j false = true) : (puts ops n listed vals a0).eval (.tmp (dstK ops j)) = vals j := by
  induction n with
  | zero => omega
  | succ n ih =>
    rw [puts_succ]
    rcases Nat.lt_or_ge j n with h | h
    · have := ih (fun j k hj hk => hd j k (by omega) (by omega)) (fun j hj => hs j (by omega)) h
      split
      · rw [Act.eval_put_ne _ _ _ _ (hd n j (by omega) (by omega) (by omega))]
        exact this
      · exact this
    · obtain rfl : j = n := by omega
      rw [if_pos hl, Act.eval_put_same _ _ _ (by rw [puts_size]; exact hs j hj)]

theorem getD_set' (listed : Array Bool) (i k : Nat) (hi : i < listed.size) : (listed.setIfInBounds i true).getD k false = if k = i then true else listed.getD k false := by
  by_cases h : k = i
  · subst h
    simp [Array.getD, hi]
  · rw [if_neg h]
    simp only [Array.getD_eq_getD_getElem?]
    rw [Array.getElem?_setIfInBounds_ne (by omega)]

theorem puts_set (n : Nat) (listed : Array Bool) (vals : Nat → Value) (a0 : Act) (i : Nat) (v : Value) (hi : i < listed.size) (hl : listed.getD i false = false) (hd : ∀ j k, j < n → k < n → j ≠ k → dstK ops j ≠ dstK ops k) :
    puts ops n (listed.setIfInBounds i true) (fun k => if k = i then v else vals k) a0 = if i < n then (puts ops n listed vals a0).put (some (dstK ops i)) v else puts ops n listed vals a0 := by
  induction n with
  | zero => simp [puts]
  | succ n ih =>
    have ih := ih (fun j k hj hk => hd j k (by omega) (by omega))
    rw [puts_succ, puts_succ, ih, getD_set' _ _ _ hi]
    rcases Nat.lt_trichotomy i n with h | rfl | h
    · rw [if_pos (show i < n + 1 by omega), if_pos h, if_neg (show ¬ n = i by omega), if_neg (show ¬ n = i by omega)]
      split
      · rw [Act.put_comm _ _ _ (fun d e e' => hd i n (by omega) (by omega) (by omega) ((Option.some.inj e).trans (Option.some.inj e').symm))]
      · rfl
    · rw [if_pos (show i < i + 1 by omega), if_neg (Nat.lt_irrefl i), if_pos rfl, if_pos rfl, if_pos rfl, hl]
      simp
    · rw [if_neg (show ¬ i < n + 1 by omega), if_neg (show ¬ i < n by omega), if_neg (show ¬ n = i by omega), if_neg (show ¬ n = i by omega)]

/-- how many of the first n have not come up -/
def left (n : Nat) (listed : Array Bool) : Nat := ((List.range n).filter fun k => listed.getD k false == false).length

theorem left_succ (n : Nat) (listed : Array Bool) : left (n + 1) listed = left n listed + if listed.getD n false = true then 0 else 1 := by
  unfold left
  rw [List.range_succ, List.filter_append, List.length_append]
  congr 1
  rw [List.filter_cons, List.filter_nil]
  cases listed.getD n false <;> rfl

theorem left_set (n : Nat) (listed : Array Bool) (i : Nat) (hi : i < listed.size) (hin : i < n) (hl : listed.getD i false = false) : left n listed = left n (listed.setIfInBounds i true) + 1 := by
  induction n with
  | zero => omega
  | succ n ih =>
    rw [left_succ, left_succ, getD_set' _ _ _ hi]
    rcases Nat.lt_or_ge i n with h | h
    · rw [ih h, if_neg (show ¬ n = i by omega)]
      omega
    · obtain rfl : i = n := by omega
      rw [if_pos rfl, hl]
      have : ∀ m, m ≤ i → left m (listed.setIfInBounds i true) = left m listed := by
        intro m hm
        induction m with
        | zero => rfl
        | succ m ihm =>
          rw [left_succ, left_succ, ihm (by omega), getD_set' _ _ _ hi, if_neg (show ¬ m = i by omega)]
      rw [this i (Nat.le_refl _)]
      simp

theorem left_zero (n : Nat) (listed : Array Bool) (h : left n listed = 0) : ∀ k, k < n → listed.getD k false = true := by
  induction n with
  | zero => intro k hk; omega
  | succ n ih =>
    rw [left_succ] at h
    intro k hk
    rcases Nat.lt_or_ge k n with h' | h'
    · exact ih (by omega) k h'
    · obtain rfl : k = n := by omega
      cases hc : listed.getD k false
      · rw [hc] at h; simp at h
      · rfl

theorem left_pos (n : Nat) (listed : Array Bool) (h : 0 < left n listed) : ∃ k, k < n ∧ listed.getD k false = false ∧ ∀ j, j < k → listed.getD j false = true := by
  induction n with
  | zero => simp [left] at h
  | succ n ih =>
    rcases Nat.eq_zero_or_pos (left n listed) with h0 | h0
    · rw [left_succ, h0] at h
      refine ⟨n, by omega, ?_, left_zero n listed h0⟩
      cases hc : listed.getD n false
      · rfl
      · rw [hc] at h; simp at h
    · obtain ⟨k, h1, h2⟩ := ih h0
      exact ⟨k, by omega, h2⟩

theorem makers {n m : Nat} {tail : Array Bool} {a0 : Act} (hp : plainM ops n tail = true) (hsz : ops.size = n + tail.size) (hs : ∀ j, j < n → dstK ops j < a0.tmps.size)
    (hφ : ∀ k v w w', φ k v w → Below w.heap.size w w' → φ k v w')
    (hstep : ∀ k o, k < n → ops[k]? = some o → ∀ a w, S w → (∀ e ∈ o.after, Region.binds .any e = true → φ e.on (a.eval (.tmp (dstK ops e.on))) w) → (∀ d, (∀ j, j < n → dstK ops j ≠ d) → a.eval (.tmp d) = a0.eval (.tmp d)) →
      ∀ K' : Act → World → Prop, (∀ v w', φ k v w' → S w' → Below w.heap.size w w' → K' (a.put o.dst v) w') → o.wp P a w K' Q)
    (hend : ∀ vals w, S w → (∀ k, k < n → φ k (vals k) w) → wpAny P .any ops Q m (Array.replicate n true ++ tail) (puts ops n (Array.replicate n true ++ tail) vals a0) w) :
    ∀ (c : Nat) (listed : Array Bool) (vals : Nat → Value) (w : World), left n listed = c → listed.size = n + tail.size → (∀ k, n ≤ k → k < n + tail.size → listed.getD k true = tail.getD (k - n) true) → S w → (∀ k, k < n → listed.getD k false = true → φ k (vals k) w) →
      wpAny P .any ops Q (m + c) listed (puts ops n listed vals a0) w := by
  simp only [plainM, Bool.and_eq_true, List.all_eq_true, List.mem_range, decide_eq_true_eq] at hp
  obtain ⟨⟨⟨_, hp1⟩, hp2⟩, hp3⟩ := hp
  have hd : ∀ j k, j < n → k < n → j ≠ k → dstK ops j ≠ dstK ops k := by
    intro j k hj hk hne
    have := hp2 k hk j hj
    simp only [Bool.or_eq_true, beq_iff_eq, bne_iff_ne] at this
    rcases this with h | h
    · exact absurd h hne
    · exact h
  intro c
  induction c with
  | zero =>
    intro listed vals w hc hls hhi hS hv
    have hall := left_zero n listed hc
    have he : listed = Array.replicate n true ++ tail := by
      apply Array.ext
      · simp [hls]
      · intro k h1 h2
        rcases Nat.lt_or_ge k n with h | h
        · have := hall k h
          simp [Array.getD, h1] at this
          simp [h, this]
        · have hkt : k - n < tail.size := by omega
          have := hhi k h (by omega)
          simp [Array.getD, h1, hkt] at this
          simp [Array.getElem_append, show ¬ k < n by omega, this]
    rw [he]
    exact hend vals w hS (fun k hk => hv k hk (hall k hk))
  | succ c ih =>
    intro listed vals w hc hls hhi hS hv
    refine ⟨fun hr => ?_, fun i hi => ?_⟩
    · obtain ⟨k, hk, hkl, hkb⟩ := left_pos n listed (by omega)
      exfalso
      have : k ∈ Region.ready .any ops listed := by
        rw [mem_ready]
        have hk1 := hp1 k hk
        cases ho : ops[k]? with
        | none => rw [ho] at hk1; cases hk1
        | some o =>
          rw [ho] at hk1
          simp only [Bool.and_eq_true, Array.all_eq_true'] at hk1
          refine ⟨?_, o, rfl, fun e he hb => ?_⟩
          · have : k < listed.size := by omega
            simp [Array.getD, this] at hkl ⊢
            exact hkl
          · have := hk1.2 e he
            rw [hb] at this
            simp at this
            exact hkb e.on this
      rw [hr] at this
      cases this
    · obtain ⟨hil, o, ho, hall⟩ := mem_ready.1 hi
      have his : i < listed.size := by
        rcases Nat.lt_or_ge i listed.size with h | h
        · exact h
        · simp [Array.getD, show ¬ i < listed.size by omega] at hil
      have hil' : listed.getD i false = false := by simp [Array.getD, his] at hil ⊢; exact hil
      have hin : i < n := by
        rcases Nat.lt_or_ge i n with h | h
        · exact h
        · exfalso
          obtain ⟨k, hk, hkl, _⟩ := left_pos n listed (by omega)
          have h3 := hp3 i (by omega)
          rw [ho] at h3
          simp only [Bool.or_eq_true, decide_eq_true_eq, List.all_eq_true, List.mem_range] at h3
          rcases h3 with (h3 | h3) | h3
          · omega
          · have h5 := hhi i h (by omega)
            have hkt : i - n < tail.size := by omega
            rw [hil] at h5
            simp [Array.getD, hkt] at h3 h5
            rw [h3] at h5
            cases h5
          · have h4 := h3 k hk
            rw [Array.any_eq_true'] at h4
            obtain ⟨e, he, hb⟩ := h4
            simp only [Bool.and_eq_true, beq_iff_eq] at hb
            have := hall e he hb.1
            rw [hb.2, hkl] at this
            cases this
      have hk1 := hp1 i hin
      rw [ho] at hk1
      simp only [Bool.and_eq_true, Array.all_eq_true'] at hk1
      have hg : o.guard = none := by simpa using hk1.1.1
      have hdst : o.dst = some (dstK ops i) := by
        have h2 := hk1.1.2
        cases hdd : o.dst with
        | none => rw [hdd] at h2; cases h2
        | some d => simp [dstK, ho, hdd]
      unfold wpOp
      simp only [ho]
      rw [if_pos (by simp [Region.wanted, hg])]
      refine .inl (hstep i o hin ho _ w hS (fun e he hb => ?_) (fun d hdn => puts_other n listed vals a0 d hdn) _ (fun v w' hv' hS' hb' => ?_))
      · have h1 := hall e he hb
        have h2 : e.on < i := by
          have := hk1.2 e he
          rw [hb] at this
          simpa using this
        rw [puts_at n listed vals a0 hd hs e.on (by omega) h1]
        exact hv e.on (by omega) h1
      · rw [hdst]
        have e := puts_set (ops := ops) n listed vals a0 i v his hil' hd
        rw [if_pos hin] at e
        rw [← e]
        have hcs := left_set n listed i his hin hil'
        refine ih _ _ w' (by omega) (by simp [hls]) (fun k hk hkm => ?_) hS' (fun k hk hkl => ?_)
        · rw [getD_set_ne true (show i ≠ k by omega)]
          exact hhi k hk hkm
        · rw [getD_set' _ _ _ his] at hkl
          by_cases hki : k = i
          · subst hki
            simp only [if_true]
            exact hv'
          · simp only [if_neg hki] at hkl ⊢
            exact hφ k _ w w' (hv k hk hkl) hb'

/-- the same, by a list of the slots -/
def putsD : List Nat → Nat → (Nat → Value) → Act → Act
  | [], _, _, a => a
  | d :: ds, k, vals, a => putsD ds (k + 1) vals (a.put (some d) (vals k))

theorem putsD_snoc (ds : List Nat) (d : Nat) (k : Nat) (vals : Nat → Value) (a : Act) : putsD (ds ++ [d]) k vals a = (putsD ds k vals a).put (some d) (vals (k + ds.length)) := by
  induction ds generalizing k a with
  | nil => rfl
  | cons x ds ih =>
    rw [List.cons_append, putsD, putsD, ih, List.length_cons]
    congr 2
    omega

theorem puts_all (n : Nat) (listed : Array Bool) (vals : Nat → Value) (a0 : Act) (h : ∀ k, k < n → listed.getD k false = true) : puts ops n listed vals a0 = putsD ((List.range n).map (dstK ops)) 0 vals a0 := by
  induction n with
  | zero => rfl
  | succ n ih =>
    rw [puts_succ, if_pos (h n (by omega)), ih (fun k hk => h k (by omega)), List.range_succ, List.map_append, List.map_singleton, putsD_snoc]
    simp

theorem ev_of {a : Act} {d : Nat} {v : Value} (h : a.eval (.tmp d) = v) : a.tmps[d]?.getD undef = v := by
  simpa [Act.eval] using h

/-- one operation alone may come up -/
theorem one_ready {i : Nat} {o : Oper} {fuel : Nat} {listed : Array Bool} {a : Act} {w : World} (hr : Region.ready .any ops listed = [i]) (ho : ops[i]? = some o) (hg : o.guard = none)
    (h : ∀ K' : Act → World → Prop, (∀ a w, wpAny P .any ops Q fuel (listed.setIfInBounds i true) a w → K' a w) → o.wp P a w K' Q) : wpAny P .any ops Q (fuel + 1) listed a w := by
  refine wpAny_all hr (by simp) (fun j hj => ?_)
  obtain rfl : j = i := by simpa using hj
  unfold wpOp
  simp only [ho]
  rw [if_pos (by simp [Region.wanted, hg])]
  exact .inl (h _ (fun _ _ h => h))

/-- THE LAW: from the state in which none of the first n has come up -/
theorem wpAny_makers {a0 : Act} {w : World} {l : List Oper} {listed : Array Bool} (S : World → Prop) (φ : Nat → Value → World → Prop) (n m : Nat) (tail : Array Bool) (ds : List Nat) (hds : (List.range n).map (dstK l.toArray) = ds) (hls : listed = Array.replicate n false ++ tail) (hp : plainM l.toArray n tail = true) (hsz : l.toArray.size = n + tail.size)
    (N : Nat) (hN : a0.tmps.size = N) (hs' : ((List.range n).all fun j => decide (dstK l.toArray j < N)) = true) (hφ : ∀ k v w w', φ k v w → Below w.heap.size w w' → φ k v w') (hS : S w)
    (hstep : ∀ k o, k < n → l.toArray[k]? = some o → ∀ a w, S w → (∀ e ∈ o.after, Region.binds .any e = true → φ e.on (a.eval (.tmp (dstK l.toArray e.on))) w) → (∀ d, (∀ j, j < n → dstK l.toArray j ≠ d) → a.eval (.tmp d) = a0.eval (.tmp d)) →
      ∀ K' : Act → World → Prop, (∀ v w', φ k v w' → S w' → Below w.heap.size w w' → K' (a.put o.dst v) w') → o.wp P a w K' Q)
    (hend : ∀ vals w, S w → (∀ k, k < n → φ k (vals k) w) → wpAny P .any l.toArray Q m (Array.replicate n true ++ tail) (putsD ds 0 vals a0) w) :
    wpAny P .any l.toArray Q (m + n) listed a0 w := by
  subst hls
  have hend' : ∀ vals w, S w → (∀ k, k < n → φ k (vals k) w) → wpAny P .any l.toArray Q m (Array.replicate n true ++ tail) (puts l.toArray n (Array.replicate n true ++ tail) vals a0) w := by
    intro vals w h1 h2
    rw [puts_all n _ vals a0 (fun k hk => by
      have h1 : k < (Array.replicate n true ++ tail).size := by simp; omega
      simp only [Array.getD, h1, dif_pos]
      simp [hk]), hds]
    exact hend vals w h1 h2
  have hs : ∀ j, j < n → dstK l.toArray j < a0.tmps.size := by
    intro j hj
    have := List.all_eq_true.1 hs' j (List.mem_range.2 hj)
    rw [hN]
    simpa using this
  have h0 : ∀ k, k < n → (Array.replicate n false ++ tail).getD k false = false := by
    intro k hk
    have h1 : k < (Array.replicate n false ++ tail).size := by simp; omega
    simp only [Array.getD, h1, dif_pos]
    simp [hk]
  have hl : ∀ r, r ≤ n → left r (Array.replicate n false ++ tail) = r := by
    intro r hr
    induction r with
    | zero => rfl
    | succ r ih => rw [left_succ, ih (by omega), h0 r (by omega)]; simp
  have hpz : ∀ r, r ≤ n → puts l.toArray r (Array.replicate n false ++ tail) (fun _ => undef) a0 = a0 := by
    intro r hr
    induction r with
    | zero => rfl
    | succ r ih => rw [puts_succ, ih (by omega), h0 r (by omega)]; simp
  have := makers (P := P) (Q := Q) (S := S) (φ := φ) (a0 := a0) hp hsz hs hφ hstep hend' n (Array.replicate n false ++ tail) (fun _ => undef) w (hl n (Nat.le_refl _)) (by simp) (fun k hk hkt => by
    have h1 : k < (Array.replicate n false ++ tail).size := by simp; omega
    have h2 : k - n < tail.size := by omega
    simp only [Array.getD, h1, h2, dif_pos]
    simp [Array.getElem_append, show ¬ k < n by omega]) hS (fun k hk hkl => by rw [h0 k hk] at hkl; cases hkl)
  rw [hpz n (Nat.le_refl _)] at this
  exact this
end
end Go.Proofs.Ytlnmheooicancaa
