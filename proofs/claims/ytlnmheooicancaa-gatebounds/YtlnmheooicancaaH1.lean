/-
  A region that draws its order and makes memory: the operations that read what the region leaves alone are taken first; then come the makers, in whatever order they may.
-/
import Derived.OrdersHeld
import Derived.WalkKit
namespace Go.Proofs.Ytlnmheooicancaa

section
variable {P : Program} {ops : Array Oper} {Q : Exit → Act → World → Prop} {S : World → Prop}

/-- may these be taken first, one by one? -/
def takesI (ops : Array Oper) : List Nat → Array Bool → Bool
  | [], _ => true
  | i :: l, listed => Region.free .any ops listed i && (Region.ready .any ops listed).contains i && takesI ops l (listed.setIfInBounds i true)

def listedI : List Nat → Array Bool → Array Bool
  | [], l => l
  | i :: l, listed => listedI l (listed.setIfInBounds i true)

/-- each yields its value in every world that meets S -/
def wpPureH (P : Program) (ops : Array Oper) (S : World → Prop) (K : Act → Prop) : List Nat → Act → Prop
  | [], a => K a
  | i :: rest, a => ∃ o v, ops[i]? = some o ∧ YieldsIf P ops S o v a ∧ wpPureH P ops S K rest (a.put o.dst v)

theorem wpPureH_nil {K : Act → Prop} {a : Act} (h : K a) : wpPureH P ops S K [] a := h

theorem wpPureH_step {K : Act → Prop} {i : Nat} {o : Oper} {rest : List Nat} {a : Act} (v : Value) (ho : ops[i]? = some o) (hg : o.guard = none)
    (h : ∀ w, S w → (execOp a.eval o).run P w = .ok (.value v) w) (h2 : wpPureH P ops S K rest (a.put o.dst v)) : wpPureH P ops S K (i :: rest) a :=
  ⟨o, v, ho, .inl ⟨by simp [Region.wanted, hg], h⟩, h2⟩

theorem takesH (hs : Region.noSelect ops = true) (hQ : ∀ c d v a w, Q (.panic c) (Act.put a d v) w → Q (.panic c) a w) {fuel : Nat} {w : World} (hS : S w) :
    ∀ (l : List Nat) (listed : Array Bool) (a : Act), takesI ops l listed = true →
      wpPureH P ops S (fun a' => wpAnyH P .any ops Q S fuel (listedI l listed) a' w) l a → wpAnyH P .any ops Q S (fuel + l.length) listed a w
  | [], listed, a, _, h => h
  | i :: l, listed, a, hk, h => by
    obtain ⟨o, v, h0, hy, hrest⟩ := h
    simp only [takesI, Bool.and_eq_true] at hk
    exact wpAnyH_take (i := i) (oi := o) (v := v) (fuel := fuel + l.length) h0 hs hk.1.1 hk.1.2 (fun c a w => hQ c o.dst v a w) hy hS (takesH hs hQ hS l (listed.setIfInBounds i true) (a.put o.dst v) hk.2 hrest)

/-- the beginning: idx are taken first -/
theorem wp_region_reads {id : Nat} {a : Act} {w : World} {l : List Oper} (S : World → Prop) (idx : List Nat) (m : Nat) (hn : l.length = m + idx.length) (hm : P.follows .mixedOrders = true) (hs : Region.noSelect l.toArray = true)
    (hk : takesI l.toArray idx (Array.replicate (m + idx.length) false) = true) (hQ : ∀ c d v a w, Q (.panic c) (Act.put a d v) w → Q (.panic c) a w) (hS : S w.drew)
    (h : wpPureH P l.toArray S (fun a' => wpAnyH P .any l.toArray Q S m (listedI idx (Array.replicate (m + idx.length) false)) a' w.drew) idx a) : (Code.region id l.toArray true).wp P Q a w := by
  refine wp_region_held hm (S := S) ?_
  have := takesH (P := P) (ops := l.toArray) (Q := Q) (fuel := m) (w := w.drew) hs hQ hS idx (Array.replicate (m + idx.length) false) a hk h
  simpa [hn] using this

/-- one maker alone may come up -/
theorem one_readyH {i : Nat} {o : Oper} {fuel : Nat} {listed : Array Bool} {a : Act} {w : World} (hr : Region.ready .any ops listed = [i]) (ho : ops[i]? = some o) (hg : o.guard = none)
    (h : ∀ K' : Act → World → Prop, (∀ a w, S w → wpAnyH P .any ops Q S fuel (listed.setIfInBounds i true) a w → K' a w) → o.wp P a w K' Q) : wpAnyH P .any ops Q S (fuel + 1) listed a w := by
  refine wpAnyH_all hr (by simp) (fun j hj => ?_)
  obtain rfl : j = i := by simpa using hj
  unfold wpOp
  simp only [ho]
  rw [if_pos (by simp [Region.wanted, hg])]
  exact .inl (h _ (fun _ _ h1 h2 => ⟨h1, h2⟩))

/-- two may come up -/
theorem two_readyH {i j : Nat} {o p : Oper} {fuel : Nat} {listed : Array Bool} {a : Act} {w : World} (hr : Region.ready .any ops listed = [i, j]) (ho : ops[i]? = some o) (hg : o.guard = none) (hp : ops[j]? = some p) (hg' : p.guard = none)
    (h : ∀ K' : Act → World → Prop, (∀ a w, S w → wpAnyH P .any ops Q S fuel (listed.setIfInBounds i true) a w → K' a w) → o.wp P a w K' Q)
    (h' : ∀ K' : Act → World → Prop, (∀ a w, S w → wpAnyH P .any ops Q S fuel (listed.setIfInBounds j true) a w → K' a w) → p.wp P a w K' Q) : wpAnyH P .any ops Q S (fuel + 1) listed a w := by
  refine wpAnyH_all hr (by simp) (fun q hq => ?_)
  have hq' : q = i ∨ q = j := by simpa using hq
  rcases hq' with rfl | rfl
  · unfold wpOp
    simp only [ho]
    rw [if_pos (by simp [Region.wanted, hg])]
    exact .inl (h _ (fun _ _ h1 h2 => ⟨h1, h2⟩))
  · unfold wpOp
    simp only [hp]
    rw [if_pos (by simp [Region.wanted, hg'])]
    exact .inl (h' _ (fun _ _ h1 h2 => ⟨h1, h2⟩))

/-- three may come up -/
theorem three_readyH {i j k : Nat} {o p q : Oper} {fuel : Nat} {listed : Array Bool} {a : Act} {w : World} (hr : Region.ready .any ops listed = [i, j, k]) (ho : ops[i]? = some o) (hg : o.guard = none) (hp : ops[j]? = some p) (hg' : p.guard = none)
    (hq : ops[k]? = some q) (hg'' : q.guard = none)
    (h : ∀ K' : Act → World → Prop, (∀ a w, S w → wpAnyH P .any ops Q S fuel (listed.setIfInBounds i true) a w → K' a w) → o.wp P a w K' Q)
    (h' : ∀ K' : Act → World → Prop, (∀ a w, S w → wpAnyH P .any ops Q S fuel (listed.setIfInBounds j true) a w → K' a w) → p.wp P a w K' Q)
    (h'' : ∀ K' : Act → World → Prop, (∀ a w, S w → wpAnyH P .any ops Q S fuel (listed.setIfInBounds k true) a w → K' a w) → q.wp P a w K' Q) : wpAnyH P .any ops Q S (fuel + 1) listed a w := by
  refine wpAnyH_all hr (by simp) (fun n hn => ?_)
  have hn' : n = i ∨ n = j ∨ n = k := by simpa using hn
  rcases hn' with rfl | rfl | rfl
  · unfold wpOp
    simp only [ho]
    rw [if_pos (by simp [Region.wanted, hg])]
    exact .inl (h _ (fun _ _ h1 h2 => ⟨h1, h2⟩))
  · unfold wpOp
    simp only [hp]
    rw [if_pos (by simp [Region.wanted, hg'])]
    exact .inl (h' _ (fun _ _ h1 h2 => ⟨h1, h2⟩))
  · unfold wpOp
    simp only [hq]
    rw [if_pos (by simp [Region.wanted, hg''])]
    exact .inl (h'' _ (fun _ _ h1 h2 => ⟨h1, h2⟩))
end
end Go.Proofs.Ytlnmheooicancaa
