/-
  Texts joined: DK1, DK2, DK4, DK3, DK5, DK6, DK7, DK8, DK10, DK9, Q1, N9, N2, N11, DK11, DK12.
-/
import Derived.Lib.QuietBelow
import Derived.BigQuiet
import Derived.Deep.DeepAppendRoom
import Derived.Test.YtgidebfgcbkkkaaGreatPk5
set_option maxHeartbeats 12800000
set_option maxRecDepth 100000
namespace Go.Proofs.YtgidebfgcbkkkaaGreat
section
open Go.RowKit
structure SS where
 T : List TK
 P : List TP
 V : List Int
 dv : Int
 D : List Int
 L : List GP
 W : List VW
def SS.chk (s : SS) : Int := chkPS s.T s.P s.V s.dv s.D s.L s.W
structure AC where
 k : Int
 i : Int
 o : Int
 m : Int
 t : TK
def namedA (a : AC) : AC :=
 if a.k = 1 then ⟨a.k, 0, 0, 0, a.t⟩ else if a.k = 2 then ⟨a.k, a.i, a.o, a.m, tk0⟩ else if a.k = 3 then ⟨a.k, a.i, 0, 0, tk0⟩ else if a.k = 4 then ⟨a.k, 0, a.o, a.m, tk0⟩ else ⟨a.k, 0, a.o, 0, tk0⟩
def eqA (a b : AC) : Bool := a.k == b.k && a.i == b.i && a.o == b.o && a.m == b.m && a.t.i == b.t.i && a.t.k == b.t.k && a.t.f == b.t.f && a.t.t == b.t.t && a.t.z == b.t.z && a.t.r == b.t.r
def unfA (s : SS) (a : AC) : Int := if s.chk = 0 then (if wi a.k 1 7 = false then 7 else if eqA a (namedA a) = true then 0 else 1) else s.chk
def doE (s : SS) (a : AC) : Int :=
 if a.k = 1 then sellK s.T s.P s.V s.W a.t
 else if a.k = 2 then (tapR s.T s.P s.V s.dv s.D s.L s.W a.i a.o a.m).2
 else if a.k = 3 then (if jE s.W = true then addE s.dv s.D a.i else 4)
 else if a.k = 4 then xZ s.T s.P s.V s.dv s.D s.L s.W a.o a.m
 else if a.k = 7 then winE s.W a.o
 else qO s.W a.o 2
def doN (s : SS) (a : AC) : Int :=
 if a.k = 2 then (tapR s.T s.P s.V s.dv s.D s.L s.W a.i a.o a.m).1
 else if a.k = 4 then ((zS s.T s.P s.V s.L a.o (xZ s.T s.P s.V s.dv s.D s.L s.W a.o a.m)).length : Int)
 else if a.k = 7 then (if winB s.W a.o = true then 1 else 0)
 else 0
def doS (s : SS) (a : AC) : SS :=
  if a.k = 1 then { s with T := qI s.T a.t }
  else if a.k = 2 then { s with P := pTap s.W (gAt s.L a.o) s.P a.i a.o a.m, V := vTap s.W (gAt s.L a.o) s.V (tapR s.T s.P s.V s.dv s.D s.L s.W a.i a.o a.m).1, L := s.L.set a.o.toNat (gTap s.W (gAt s.L a.o) (tAt s.T a.i) a.m) }
  else if a.k = 3 then { s with dv := s.dv + 1, D := addI s.D a.i }
  else if a.k = 4 then
    { s with T := xV s.T s.P s.V (gAt s.L a.o).A, P := xR s.T s.P s.V (gAt s.L a.o).A, V := xY s.T s.P s.V (gAt s.L a.o).A, dv := (yC (zS s.T s.P s.V s.L a.o 0) s.dv s.D).1, D := (yC (zS s.T s.P s.V s.L a.o 0) s.dv s.D).2,
             L := s.L.set a.o.toNat (gSync (gAt s.L a.o) (yC (zS s.T s.P s.V s.L a.o 0) s.dv s.D).1 (yC (zS s.T s.P s.V s.L a.o 0) s.dv s.D).2 a.m) }
  else if a.k = 7 then { s with W := winR s.W a.o }
  else { s with W := setR s.W a.o (a.k == 5) }
def liftG (L : List GP) : List GT := L.map fun g => ⟨g.i, g.z, g.s, none, g.A, 0, g.v, none, g.D, 0, g.l, g.u⟩
theorem liftG_p (L : List GP) : (liftG L).map GT.p = L := by
 unfold liftG
 rw [List.map_map]
 exact List.map_id' L
theorem chk_lift (s : SS) : yP s.T s.P s.V s.dv s.D (liftG s.L) s.W = s.chk := by rw [chkS_p, liftG_p]; rfl
theorem chkPS_right {T : List TK} {P : List TP} {V : List Int} {dv : Int} {D : List Int} {L : List GP} {W : List VW} (h : chkPS T P V dv D L W = 0) : xC T P V = 0 ∧ yZ dv D = 0 ∧ L.length = 3 ∧ (∀ q g, L[q]? = some g → jW dv P q g = 0) ∧ yL W = 0 := by
 have h' : yP T P V dv D (liftG L) W = 0 := by rw [chkS_p, liftG_p]; exact h
 obtain ⟨h1, h2, h3, h4, h5, -⟩ := yM h'
 refine ⟨h1, h2, by simpa [liftG] using h3, fun q g hg => ?_, h5⟩
 have hq : (liftG L)[q]? = some ⟨g.i, g.z, g.s, none, g.A, 0, g.v, none, g.D, 0, g.l, g.u⟩ := by
  unfold liftG
  rw [List.getElem?_map, hg]
  rfl
 exact h4 q _ hq
theorem gatePE_right {dv : Int} {P : List TP} {n : Nat} {g : GP} (h : jW dv P n g = 0) : xH g.i g.z g.s g.A g.v g.D g.l g.u = 0 ∧ g.i = n ∧ ¬ dv < g.v ∧ P.any (twiG g.i g.s g.A) = false :=
 qH (g := ⟨g.i, g.z, g.s, none, g.A, 0, g.v, none, g.D, 0, g.l, g.u⟩) h
theorem winR_chk {W : List VW} {who : Int} (h : winE W who = 0) : yL (winR W who) = 0 := by
 rw [winR, if_pos h, winL]
 unfold winE at h
 split at h
 ·rename_i hu
  split at h
  ·cases h
  ·rename_i hn
   by_cases hw : winsW W who = true
   ·rw [if_pos hw]
    have hw' := hw
    unfold winsW at hw'
    simp only [Bool.and_eq_true] at hw'
    exact (win_leads hu (by first | exact hw'.1 | exact hw'.2) (by first | exact hw'.1 | exact hw'.2) (fun e => hn ⟨hw, e⟩)).1
   ·rw [if_neg hw]
    exact (unfW_right hu).1
 ·rename_i hu
  exact absurd h hu
theorem doS_chk {s : SS} {a : AC} (hc : s.chk = 0) (h : doE s a = 0) : (doS s a).chk = 0 := by
 obtain ⟨hL, hD, h3, hG, hW⟩ := chkPS_right (show chkPS s.T s.P s.V s.dv s.D s.L s.W = 0 from hc)
 have hcl : yP s.T s.P s.V s.dv s.D (liftG s.L) s.W = 0 := by rw [chk_lift]; exact hc
 unfold doE at h
 unfold doS
 split at h
 ·rename_i h1
  rw [if_pos h1]
  unfold sellK at h
  split at h
  ·exact chkPS_of (sell_chk h) hD h3 hG hW
  ·cases h
 ·rename_i h1
  rw [if_neg h1]
  split at h
  ·rename_i h2
   rw [if_pos h2]
   have ht : (tapS s.T s.P s.V s.dv s.D (liftG s.L) s.W a.i a.o a.m).2 = 0 := by rw [tapS, if_pos hcl, liftG_p]; exact h
   have := tap_chk ht
   rw [tapS, if_pos hcl, liftG_p] at this
   exact this
  ·rename_i h2
   rw [if_neg h2]
   split at h
   ·rename_i h4
    rw [if_pos h4]
    split at h
    ·refine chkPS_of hL (chkD_addI h) h3 (fun q g hg => ?_) hW
     obtain ⟨g1, g2, g3, g4⟩ := gatePE_right (hG q g hg)
     rw [jW, if_pos g1, if_pos ⟨g2, by show ¬ s.dv + 1 < g.v; omega⟩, g4]
     rfl
    ·cases h
   ·rename_i h4
    rw [if_neg h4]
    split at h
    ·rename_i h5
     rw [if_pos h5]
     have hs : syncS s.T s.P s.V s.dv s.D (liftG s.L) s.W a.o a.m = 0 := by rw [syncS, if_pos hcl, liftG_p]; exact h
     obtain ⟨-, q, g, hq, -, hg, -, hm, hI⟩ := sync_right hs
     have hga : gAt s.L a.o = g.p := by
      have := gAt_of hg
      rw [liftG_p] at this
      rw [hq]
      exact this
     have := sync_chk hcl hg hm hI
     rw [liftG_p] at this
     rw [hga, zS, if_pos rfl, hga, hq, Int.toNat_natCast]
     exact this
    ·rename_i h5
     rw [if_neg h5]
     split at h
     ·rename_i h6
      rw [if_pos h6]
      exact chkPS_of hL hD h3 hG (winR_chk h)
     ·rename_i h6
      rw [if_neg h6]
      refine chkPS_of hL hD h3 hG ?_
      show yL (setR s.W a.o (a.k == 5)) = 0
      rw [setR, if_pos h]
      exact setL_right h
theorem doS_den {s : SS} {a : AC} (id : Int) (h : xQ s.D id = true) : xQ (doS s a).D id = true := by
 unfold doS
 split
 ·exact h
 ·split
  ·exact h
  ·split
   ·show xQ (addI s.D a.i) id = true
    rw [hasI_addI, h]
    rfl
   ·split
    ·exact denA_has _ _ _ _ h
    ·split <;> exact h
theorem doS_tik {s : SS} {a : AC} (h : doE s a = 0) {x : TK} (hx : x ∈ s.T) : x ∈ (doS s a).T := by
 unfold doE at h
 unfold doS
 split
 ·exact soldT_mem.2 (Or.inl hx)
 ·rename_i h1
  rw [if_neg h1] at h
  split
  ·exact hx
  ·rename_i h2
   rw [if_neg h2] at h
   split
   ·exact hx
   ·rename_i h3
    rw [if_neg h3] at h
    split
    ·rename_i h4
     rw [if_pos h4] at h
     unfold xZ at h
     split at h
     ·cases h
     ·unfold syncK at h
      split at h
      ·split at h
       ·show x ∈ xV s.T s.P s.V (gAt s.L a.o).A
        rw [(into_right h).2.2.2.2.1]
        exact hx
       ·rename_i hs
        exact absurd h hs
      ·cases h
    ·split <;> exact hx
theorem idxT_mem {T : List TK} {x : TK} (h : x ∈ T) : ¬ qM T x.i < 0 := by
 unfold qM
 cases hf : T.findIdx? (fun p => p.i == x.i) with
 | none =>
  rw [List.findIdx?_eq_none_iff] at hf
  have := hf x h
  simp at this
 | some n =>
  simp
def actE (s : SS) (a : AC) : Int := if unfA s a = 0 then doE s a else unfA s a
def actN (s : SS) (a : AC) : Int := if unfA s a = 0 then doN s a else 0
def runS : SS → List AC → SS
 | s, [] => s
 | s, a :: l => runS (if actE s a = 0 then doS s a else s) l
def runE : SS → List AC → List Int
 | _, [] => []
 | s, a :: l => actE s a :: runE (if actE s a = 0 then doS s a else s) l
theorem actE_chk {s : SS} {a : AC} (hc : s.chk = 0) (h : actE s a = 0) : (doS s a).chk = 0 := by
 unfold actE at h
 split at h
 ·exact doS_chk hc h
 ·rename_i hn
  exact absurd h hn
theorem actE_doE {s : SS} {a : AC} (h : actE s a = 0) : doE s a = 0 := by
 unfold actE at h
 split at h
 ·exact h
 ·rename_i hn
  exact absurd h hn
theorem runS_chk : ∀ (l : List AC) (s : SS), s.chk = 0 → (runS s l).chk = 0
 | [], _, h => h
 | a :: l, s, h => by
  rw [runS]
  split
  ·rename_i h0
   exact runS_chk l _ (actE_chk h h0)
  ·exact runS_chk l s h
theorem runE_len : ∀ (l : List AC) (s : SS), (runE s l).length = l.length
 | [], _ => rfl
 | a :: l, s => by rw [runE, List.length_cons, List.length_cons, runE_len l]
theorem runS_snoc : ∀ (l : List AC) (s : SS) (a : AC), runS s (l ++ [a]) = if actE (runS s l) a = 0 then doS (runS s l) a else runS s l
 | [], s, a => rfl
 | b :: l, s, a => by rw [List.cons_append, runS, runS, runS_snoc l]
theorem runE_snoc : ∀ (l : List AC) (s : SS) (a : AC), runE s (l ++ [a]) = runE s l ++ [actE (runS s l) a]
 | [], s, a => rfl
 | b :: l, s, a => by rw [List.cons_append, runE, runE, runS, runE_snoc l]; rfl
end
section
open Go.RowKit
theorem cellNe {w : World} {p a : Addr} {x u : Value} (h : w.cell? a = some x) (hn : p.block ≠ a.block) : (w.setCell p u).cell? a = some x := by
 rw [World.cell?_of_block (w := w) (heap_setCell_other w p a.block u (fun e => hn e.symm))]
 exact h
def LtK (K : Nat) (o1 o2 o3 od og ov : Option Addr) (T : List TK) (P : List TP) (V D : List Int) (G : List GT) (W : List VW) : Prop :=
 Off o1 T K ∧ Off o2 P K ∧ Off o3 V K ∧ Off od D K ∧ Off og G K ∧ Off ov W K ∧ ∀ g ∈ G, Off g.oa g.A K ∧ Off g.od g.D K
theorem xA.setO {w : World} {o : Option Addr} {L : List GT} (h : xA w o L) {p : Addr} (ho : Off o L p.block) (hg : ∀ g ∈ L, Off g.oa g.A p.block ∧ Off g.od g.D p.block) (u : Value) : xA (w.setCell p u) o L := by
 intro i g hi
 obtain ⟨b, hb, h8, h1, h2⟩ := h i g hi
 have hne : p.block ≠ (b.add (i * 8)).block := by
  rw [yY]
  exact fun e => ho b hb (by intro h0; rw [h0] at hi; simp at hi) e.symm
 have hm := hg g (List.mem_of_getElem? hi)
 exact ⟨b, hb, ⟨cellNe h8.c0 hne, cellNe h8.c1 hne, cellNe h8.c2 hne, cellNe h8.c3 hne, cellNe h8.c4 hne, cellNe h8.c5 hne, cellNe h8.c6 hne, cellNe h8.c7 hne⟩, h1.setO hm.1 u, h2.setO hm.2 u⟩
theorem zZ.setO {w : World} {o : Option Addr} {L : List VW} (h : zZ w o L) {p : Addr} (ho : Off o L p.block) (u : Value) : zZ (w.setCell p u) o L := by
 intro i x hi
 obtain ⟨b, hb, a0, a1, a2⟩ := h i x hi
 have hne : p.block ≠ (b.add (i * 3)).block := by
  rw [yY]
  exact fun e => ho b hb (by intro h0; rw [h0] at hi; simp at hi) e.symm
 exact ⟨b, hb, cellNe a0 hne, cellNe a1 hne, cellNe a2 hne⟩
theorem zH.setO {w : World} {o : Option Addr} {L : List Int} (h : zH w o L) {p : Addr} (ho : Off o L p.block) (u : Value) : zH (w.setCell p u) o L := by
 intro i x hi
 obtain ⟨b, hb, a0⟩ := h i x hi
 have hne : p.block ≠ (b.add i).block := by
  rw [yY]
  exact fun e => ho b hb (by intro h0; rw [h0] at hi; simp at hi) e.symm
 exact ⟨b, hb, cellNe a0 hne⟩
section
variable {w : World} {o1 o2 o3 od og ov : Option Addr} {c1 c2 c3 cd cg cv : Nat} {T : List TK} {P : List TP} {V D : List Int} {G : List GT} {W : List VW}
theorem StW.setO (h : StW w o1 o2 o3 c1 c2 c3 T P V od cd D og cg G ov cv W) {p : Addr} (hk : LtK p.block o1 o2 o3 od og ov T P V D G W) (u : Value) : StW (w.setCell p u) o1 o2 o3 c1 c2 c3 T P V od cd D og cg G ov cv W := by
 obtain ⟨k1, k2, k3, k4, k5, k6, k7⟩ := hk
 obtain ⟨q1, q2, q3⟩ := h.led.parts3
 exact ⟨xW.of (q1.setO k1 u) (q2.setO k2 u) (q3.setO k3 u), h.lok, ⟨h.den.1.setO k4 u, h.den.2⟩, h.gts.setO k5 k7 u, h.gok, h.gle, h.gno, h.gln, h.vws.setO k6 u, h.vle, h.vno, h.vln⟩
theorem gatesAt_lt {o : Option Addr} {L : List GT} (h : xA w o L) : ∀ A, o = some A → L ≠ [] → A.block < w.heap.size := by
 intro A hA hne
 cases L with
 | nil => exact absurd rfl hne
 | cons g L =>
  obtain ⟨b, hb, h8, -⟩ := h 0 g rfl
  rw [hA] at hb
  cases hb
  have := World.block_lt_of_cell? w _ h8.c0
  rwa [yY] at this
theorem vwsAt_lt {o : Option Addr} {L : List VW} (h : zZ w o L) : ∀ A, o = some A → L ≠ [] → A.block < w.heap.size := by
 intro A hA hne
 cases L with
 | nil => exact absurd rfl hne
 | cons g L =>
  obtain ⟨b, hb, c0, -⟩ := h 0 g rfl
  rw [hA] at hb
  cases hb
  have := World.block_lt_of_cell? w _ c0
  rwa [yY] at this
theorem intsAt_lt {o : Option Addr} {L : List Int} (h : zH w o L) : ∀ A, o = some A → L ≠ [] → A.block < w.heap.size := by
 intro A hA hne
 cases L with
 | nil => exact absurd rfl hne
 | cons g L =>
  obtain ⟨b, hb, c0⟩ := h 0 g rfl
  rw [hA] at hb
  cases hb
  have := World.block_lt_of_cell? w _ c0
  rwa [yY] at this
theorem StW.ltk (h : StW w o1 o2 o3 c1 c2 c3 T P V od cd D og cg G ov cv W) {K : Nat} (hK : w.heap.size ≤ K) : LtK K o1 o2 o3 od og ov T P V D G W := by
 obtain ⟨q1, q2, q3⟩ := h.led.parts3
 refine ⟨jA (tiksV_lt q1) hK, jA (tapsV_lt q2) hK, jA (intsV_lt q3) hK, jA (intsAt_lt h.den.1) hK, jA (gatesAt_lt h.gts) hK, jA (vwsAt_lt h.vws) hK, fun g hg => ?_⟩
 obtain ⟨i, hi⟩ := List.getElem?_of_mem hg
 obtain ⟨b, -, -, h1, h2⟩ := h.gts i g hi
 exact ⟨jA (tapsV_lt h1) hK, jA (intsV_lt h2) hK⟩
def FrS (B : Nat) (o1 o2 o3 od og ov : Option Addr) (c1 c2 c3 cd cg cv : Nat) (T : List TK) (P : List TP) (V D : List Int) (G : List GT) (W : List VW) : Prop :=
 zK B (.slice o1 T.length c1) ∧ zK B (.slice o2 P.length c2) ∧ zK B (.slice o3 V.length c3) ∧ zK B (.slice od D.length cd) ∧ zK B (.slice og G.length cg) ∧ zK B (.slice ov W.length cv) ∧ ∀ g ∈ G, zK B (.slice g.oa g.A.length g.ca) ∧ zK B (.slice g.od g.D.length g.cd)
theorem FrS.mono {B C : Nat} (h : FrS B o1 o2 o3 od og ov c1 c2 c3 cd cg cv T P V D G W) (hC : C ≤ B) : FrS C o1 o2 o3 od og ov c1 c2 c3 cd cg cv T P V D G W := by
 obtain ⟨f1, f2, f3, f4, f5, f6, f7⟩ := h
 exact ⟨f1.mono hC, f2.mono hC, f3.mono hC, f4.mono hC, f5.mono hC, f6.mono hC, fun g hg => ⟨(f7 g hg).1.mono hC, (f7 g hg).2.mono hC⟩⟩
theorem FrS.ltk {B K : Nat} (h : FrS B o1 o2 o3 od og ov c1 c2 c3 cd cg cv T P V D G W) (hK : K < B) : LtK K o1 o2 o3 od og ov T P V D G W := by
 obtain ⟨f1, f2, f3, f4, f5, f6, f7⟩ := h
 exact ⟨zQ f1 hK, zQ f2 hK, zQ f3 hK, zQ f4 hK, zQ f5 hK, zQ f6 hK, fun g hg => ⟨zQ (f7 g hg).1 hK, zQ (f7 g hg).2 hK⟩⟩
end
theorem StF.stw {w : World} {base Q cq : Nat} {T : List TK} {P : List TP} {V : List Int} {D : List Int} {G : List GT} {W : List VW} {x1 x2 x3 x4 x5 : Option Addr} {y1 y2 y3 y4 y5 : Nat}
  (h : StF w base Q cq T P V D G W (.slice x1 T.length y1) (.slice x2 P.length y2) (.slice x3 V.length y3) (.slice x4 D.length y4) (.slice x5 W.length y5)) (hl : LnS T P V D G W) :
  StW w x1 x2 x3 y1 y2 y3 T P V x4 y4 D (some ⟨Q, 0, none⟩) cq G x5 y5 W ∧ FrS base x1 x2 x3 x4 (some ⟨Q, 0, none⟩) x5 y1 y2 y3 y4 cq y5 T P V D G W := by
 have hq := qQ h.row
 obtain ⟨o, c, e1, e2, -⟩ := xM h.row
 simp only [Value.slice.injEq, true_and] at e1
 obtain ⟨-, rfl⟩ := e1
 have hg := gatesAt_own h.row (fun g hg => ⟨(h.gls g hg).1.1, (h.gls g hg).2.1⟩)
 have hB : base ≤ Q + 1 := by omega
 refine ⟨⟨xW.of h.tik.1 h.tap.1 h.ver.1, hl.1, ⟨h.den.1.eqs.2.1, hl.2.1, h.den.1.eqs.2.2⟩, hg, hl.2.2.1, e2, (fun h => by cases h), hl.2.2.2.1, h.vws.1.eqs.2.1, h.vws.1.eqs.2.2.1, h.vws.1.eqs.2.2.2, hl.2.2.2.2⟩,
  h.tik.2.mono hB, h.tap.2.mono hB, h.ver.2.mono hB, h.den.2.mono hB, fun k hk => ?_, h.vws.2.mono hB, fun g hg => ⟨(h.gls g hg).1.2.mono hB, (h.gls g hg).2.2.mono hB⟩⟩
 simp only [Value.ownBlock, Option.some.injEq] at hk
 omega
end
section
open Go.RowKit
abbrev acV (a : AC) : Value := .agg #[.int .i64 a.k, .int .i64 a.i, .int .i64 a.o, .int .i64 a.m, .int .i64 a.t.i, .int .i64 a.t.k, .int .i64 a.t.f, .int .i64 a.t.t, .int .i64 a.t.z, .int .i64 a.t.r]
theorem StW.setD {w : World} {o1 o2 o3 od og ov od' : Option Addr} {c1 c2 c3 cd cg cv cd' : Nat} {T : List TK} {P : List TP} {V D D' : List Int} {G : List GT} {W : List VW} (h : StW w o1 o2 o3 c1 c2 c3 T P V od cd D og cg G ov cv W) (hd : zP w (.slice od' D'.length cd') D') (hl : D'.length ≤ 9223372036854775807) : StW w o1 o2 o3 c1 c2 c3 T P V od' cd' D' og cg G ov cv W :=
 ⟨h.led, h.lok, ⟨hd.eqs.2.1, hl, hd.eqs.2.2⟩, h.gts, h.gok, h.gle, h.gno, h.gln, h.vws, h.vle, h.vno, h.vln⟩
theorem StW.vw {w : World} {o1 o2 o3 od og ov ov' : Option Addr} {c1 c2 c3 cd cg cv cv' : Nat} {T : List TK} {P : List TP} {V D : List Int} {G : List GT} {W W' : List VW} (h : StW w o1 o2 o3 c1 c2 c3 T P V od cd D og cg G ov cv W) (hd : qK w (.slice ov' W'.length cv') W') (hl : W'.length ≤ 9223372036854775807) : StW w o1 o2 o3 c1 c2 c3 T P V od cd D og cg G ov' cv' W' :=
 ⟨h.led, h.lok, h.den, h.gts, h.gok, h.gle, h.gno, h.gln, hd.ats, hd.eqs.2.2.1, hd.eqs.2.2.2, hl⟩
theorem Kq.setK {a w : World} {K : Nat} (h : Kq (fun k => k = K) a w) (j : Nat) (u : Value) : Kq (fun k => k = K) a (w.setCell ⟨K, j, none⟩ u) := Kq.setCell (S := fun k => k = K) h (p := ⟨K, j, none⟩) rfl u
theorem Kq.setX {a w : World} {K : Nat} {X : Nat → Prop} (h : Kq X a w) (j : Nat) (u : Value) : Kq (fun k => k = K ∨ X k) a (w.setCell ⟨K, j, none⟩ u) := Kq.setCell (S := fun k => k = K ∨ X k) (h.mono (fun _ _ h => Or.inr h)) (p := ⟨K, j, none⟩) (Or.inl rfl) u
theorem LtK.den {K : Nat} {o1 o2 o3 od og ov od' : Option Addr} {T : List TK} {P : List TP} {V D D' : List Int} {G : List GT} {W : List VW} (h : LtK K o1 o2 o3 od og ov T P V D G W) (hd : Off od' D' K) : LtK K o1 o2 o3 od' og ov T P V D' G W := ⟨h.1, h.2.1, h.2.2.1, hd, h.2.2.2.2⟩
theorem LtK.vw {K : Nat} {o1 o2 o3 od og ov ov' : Option Addr} {T : List TK} {P : List TP} {V D : List Int} {G : List GT} {W W' : List VW} (h : LtK K o1 o2 o3 od og ov T P V D G W) (hd : Off ov' W' K) : LtK K o1 o2 o3 od og ov' T P V D G W' := ⟨h.1, h.2.1, h.2.2.1, h.2.2.2.1, h.2.2.2.2.1, hd, h.2.2.2.2.2.2⟩
theorem deskDeny_any (K : Nat) (T : List TK) (P : List TP) (V : List Int) (dv : Int) (D : List Int) (G : List GT) (W : List VW) (o1 o2 o3 od og ov : Option Addr) (c1 c2 c3 cd cg cv : Nat) (id : Int) (w : World) (hK : w.heap[K]? = some (.cells #[.slice o1 T.length c1, .slice o2 P.length c2, .slice o3 V.length c3, .int .i64 dv, .slice od D.length cd, .slice og G.length cg, .slice ov W.length cv] 72)) (hs : StW w o1 o2 o3 c1 c2 c3 T P V od cd D og cg G ov cv W) (hk : LtK K o1 o2 o3 od og ov T P V D G W) :
  Calls Tryz.prog 77 #[.pointer (some ⟨K, 0, none⟩), .int .i64 id] w fun e w' => (∃ E, E = (if jE W = true then addE dv D id else 4) ∧ e = .returned (.int .i64 E) ∧ (E = 0 → ∃ x y, w'.heap[K]? = some (.cells #[.slice o1 T.length c1, .slice o2 P.length c2, .slice o3 V.length c3, .int .i64 (dv + 1), .slice x (addI D id).length y, .slice og G.length cg, .slice ov W.length cv] 72) ∧ StW w' o1 o2 o3 c1 c2 c3 T P V x y (addI D id) og cg G ov cv W ∧ zK w.heap.size (.slice x (addI D id).length y))) ∧ Kq (fun k => k = K) w w' := by
 have OK0 := zA hK
 have HS := zA hs
 have HK := zA hk
 have lK0 : K < w.heap.size := (Array.getElem?_eq_some_iff.1 hK).1
 clear hK hs hk
 have H1 := zA (fun X (h : StW X o1 o2 o3 c1 c2 c3 T P V od cd D og cg G ov cv W) => now_any ov cv W X h.vws h.vln)
 have H2 := zA (fun X (h : StW X o1 o2 o3 c1 c2 c3 T P V od cd D og cg G ov cv W) => addF_any dv id D od cd X h.den.1 h.den.2.1 h.den.2.2.1 h.den.2.2.2)
 obtain ⟨E, hE⟩ : ∃ E, E = (if jE W = true then addE dv D id else 4) := ⟨_, rfl⟩
 rw [← hE]
 have HE := zA hE
 clear hE
 obtain ⟨cK0, cK1, cK2, cK3, cK4, cK5, cK6⟩ := zY OK0.out
 go_enter Tryz.func77, Tryz.ntmps77
 go_wp2_with fail
 refine (H1.out _ HS.out).mono ?_
 rintro e w1 ⟨rfl, hb⟩
 have Bww1 := zA hb
 have OKw1 := atR OK0 hb
 have zww1 := Bww1.out.size
 have lKw1 := ltR OKw1
 clear hb OK0
 clear cK0 cK1 cK2 cK3 cK4 cK5 cK6
 have cK0 : w1.cell? ⟨K, 0, none⟩ = some (.slice o1 T.length c1) := by rw [cell_of_row _ _ 0 _ _ _ OKw1.out]; rfl
 have fK0 : w1.frozen? ⟨K, 0, none⟩ = false := frozen_of_row _ _ 0 _ _ OKw1.out
 have cK1 : w1.cell? ⟨K, 1, none⟩ = some (.slice o2 P.length c2) := by rw [cell_of_row _ _ 1 _ _ _ OKw1.out]; rfl
 have fK1 : w1.frozen? ⟨K, 1, none⟩ = false := frozen_of_row _ _ 1 _ _ OKw1.out
 have cK2 : w1.cell? ⟨K, 2, none⟩ = some (.slice o3 V.length c3) := by rw [cell_of_row _ _ 2 _ _ _ OKw1.out]; rfl
 have fK2 : w1.frozen? ⟨K, 2, none⟩ = false := frozen_of_row _ _ 2 _ _ OKw1.out
 have cK3 : w1.cell? ⟨K, 3, none⟩ = some (.int .i64 dv) := by rw [cell_of_row _ _ 3 _ _ _ OKw1.out]; rfl
 have fK3 : w1.frozen? ⟨K, 3, none⟩ = false := frozen_of_row _ _ 3 _ _ OKw1.out
 have cK4 : w1.cell? ⟨K, 4, none⟩ = some (.slice od D.length cd) := by rw [cell_of_row _ _ 4 _ _ _ OKw1.out]; rfl
 have fK4 : w1.frozen? ⟨K, 4, none⟩ = false := frozen_of_row _ _ 4 _ _ OKw1.out
 have cK5 : w1.cell? ⟨K, 5, none⟩ = some (.slice og G.length cg) := by rw [cell_of_row _ _ 5 _ _ _ OKw1.out]; rfl
 have fK5 : w1.frozen? ⟨K, 5, none⟩ = false := frozen_of_row _ _ 5 _ _ OKw1.out
 have cK6 : w1.cell? ⟨K, 6, none⟩ = some (.slice ov W.length cv) := by rw [cell_of_row _ _ 6 _ _ _ OKw1.out]; rfl
 have fK6 : w1.frozen? ⟨K, 6, none⟩ = false := frozen_of_row _ _ 6 _ _ OKw1.out
 rcases hn : jE W with _ | _
 ·have hE4 : E = 4 := by rw [HE.out, hn]; rfl
  subst hE4
  clear hn
  go_wp2_with fail
  go_ret
  exact ⟨⟨4, rfl, rfl, fun h => by cases h⟩, .ofBelow Bww1.out⟩
 ·have hE4 : E = addE dv D id := by rw [HE.out, hn]; rfl
  clear hn HE
  rw [← hE4] at H2
  have HA := zA hE4
  clear hE4
  obtain ⟨DV, hDV⟩ : ∃ v, v = (if E = 0 then dv + 1 else 0) := ⟨_, rfl⟩
  obtain ⟨DL, hDL⟩ : ∃ l, l = (if E = 0 then addI D id else []) := ⟨_, rfl⟩
  rw [← hDV, ← hDL] at H2
  have HDV := zA hDV
  have HDL := zA hDL
  clear hDV hDL
  go_wp2_with fail
  refine (H2.out _ (HS.out.below Bww1.out)).mono ?_
  rintro e w2 ⟨⟨u, rfl, xv, rfl, hi, hf⟩, hb⟩
  have Bww2 := trR Bww1 hb
  have Bw1w2 := zA hb
  have OKw2 := atR OKw1 hb
  have zww2 := Bww2.out.size
  have zw1w2 := Bw1w2.out.size
  have lKw2 := ltR OKw2
  clear hb Bww1 OKw1
  obtain ⟨x, y, rfl, hi1, hi2⟩ := hi
  have HI := zA (show zP w2 (.slice x DL.length y) DL from ⟨x, y, rfl, hi1, hi2⟩)
  have HF := zA hf
  clear hi1 hi2 hf
  clear cK0 cK1 cK2 cK3 cK4 cK5 cK6 fK0 fK1 fK2 fK3 fK4 fK5 fK6
  go_upto_region 5 with fail
  have hb := (Below.refl w2.heap.size w2).alloc (Nat.le_refl _) (.cells #[.int .i64 DV, .slice x DL.length y] 28)
  have Odw3 := zA (heap_alloc_new w2 (.cells #[.int .i64 DV, .slice x DL.length y] 28))
  have Bww3 := trR Bww2 hb
  have Bw1w3 := trR Bw1w2 hb
  have Bw2w3 := zA hb
  have OKw3 := atR OKw2 hb
  clear hb Bww2 Bw1w2 OKw2
  generalize (w2.alloc (.cells #[.int .i64 DV, .slice x DL.length y] 28)) = w3 at *
  have zww3 := Bww3.out.size
  have zw1w3 := Bw1w3.out.size
  have zw2w3 := Bw2w3.out.size
  have lKw3 := ltR OKw3
  have ldw3 := ltR Odw3
  have cK0 : w3.cell? ⟨K, 0, none⟩ = some (.slice o1 T.length c1) := by rw [cell_of_row _ _ 0 _ _ _ OKw3.out]; rfl
  have fK0 : w3.frozen? ⟨K, 0, none⟩ = false := frozen_of_row _ _ 0 _ _ OKw3.out
  have cK1 : w3.cell? ⟨K, 1, none⟩ = some (.slice o2 P.length c2) := by rw [cell_of_row _ _ 1 _ _ _ OKw3.out]; rfl
  have fK1 : w3.frozen? ⟨K, 1, none⟩ = false := frozen_of_row _ _ 1 _ _ OKw3.out
  have cK2 : w3.cell? ⟨K, 2, none⟩ = some (.slice o3 V.length c3) := by rw [cell_of_row _ _ 2 _ _ _ OKw3.out]; rfl
  have fK2 : w3.frozen? ⟨K, 2, none⟩ = false := frozen_of_row _ _ 2 _ _ OKw3.out
  have cK3 : w3.cell? ⟨K, 3, none⟩ = some (.int .i64 dv) := by rw [cell_of_row _ _ 3 _ _ _ OKw3.out]; rfl
  have fK3 : w3.frozen? ⟨K, 3, none⟩ = false := frozen_of_row _ _ 3 _ _ OKw3.out
  have cK4 : w3.cell? ⟨K, 4, none⟩ = some (.slice od D.length cd) := by rw [cell_of_row _ _ 4 _ _ _ OKw3.out]; rfl
  have fK4 : w3.frozen? ⟨K, 4, none⟩ = false := frozen_of_row _ _ 4 _ _ OKw3.out
  have cK5 : w3.cell? ⟨K, 5, none⟩ = some (.slice og G.length cg) := by rw [cell_of_row _ _ 5 _ _ _ OKw3.out]; rfl
  have fK5 : w3.frozen? ⟨K, 5, none⟩ = false := frozen_of_row _ _ 5 _ _ OKw3.out
  have cK6 : w3.cell? ⟨K, 6, none⟩ = some (.slice ov W.length cv) := by rw [cell_of_row _ _ 6 _ _ _ OKw3.out]; rfl
  have fK6 : w3.frozen? ⟨K, 6, none⟩ = false := frozen_of_row _ _ 6 _ _ OKw3.out
  have cd0 : w3.cell? ⟨w2.heap.size, 0, none⟩ = some (.int .i64 DV) := by rw [cell_of_row _ _ 0 _ _ _ Odw3.out]; rfl
  have cd1 : w3.cell? ⟨w2.heap.size, 1, none⟩ = some (.slice x DL.length y) := by rw [cell_of_row _ _ 1 _ _ _ Odw3.out]; rfl
  go_wp2_with fail
  clear cK0 cK1 cK2 cK3 cK4 cK5 cK6 fK0 fK1 fK2 fK3 fK4 fK5 fK6
  clear cd0 cd1
  go_ret
  refine ⟨⟨E, rfl, rfl, fun h0 => ?_⟩, ((Kq.ofBelow Bww3.out).setK 3 _).setK 4 _⟩
  have e1 : DV = dv + 1 := by rw [HDV.out, if_pos h0]
  have e2 : DL = addI D id := by rw [HDL.out, if_pos h0]
  subst e1
  rw [← e2]
  have hoff : Off x DL K := zQ HF.out (by omega)
  have hk := HK.out.den (od' := x) (D' := DL) hoff
  have hlen : DL.length ≤ 9223372036854775807 := by
   rw [e2, addI_len]
   have := (yE (addE_right (HA.out ▸ h0)).1).2.2.1
   omega
  have hst := ((HS.out.below Bww3.out).setD (HI.out.below Bw2w3.out) hlen)
  refine ⟨x, y, heap_setCell_same _ K 4 _ _ _ (heap_setCell_same _ K 3 _ _ _ OKw3.out), (hst.setO (p := ⟨K, 3, none⟩) hk _).setO (p := ⟨K, 4, none⟩) hk _, HF.out.mono zww1⟩
theorem setViews_any (fn : Nat) (caps : Array Value) (hent : ∀ (args : Array Value) (W : World), (callFunc fn args).run Tryz.prog W = .ok (.enter fn args) W) (X : Nat → Prop) (K : Nat) (T : List TK) (P : List TP) (V : List Int) (dv : Int) (D : List Int) (G : List GT) (W : List VW) (o1 o2 o3 od og ov : Option Addr) (c1 c2 c3 cd cg cv : Nat) (w : World) (hK : w.heap[K]? = some (.cells #[.slice o1 T.length c1, .slice o2 P.length c2, .slice o3 V.length c3, .int .i64 dv, .slice od D.length cd, .slice og G.length cg, .slice ov W.length cv] 72)) (hk : LtK K o1 o2 o3 od og ov T P V D G W)
  (Qp : Int → List VW → World → Prop) (hQ : ∀ E W' w2 u, Qp E W' w2 → Qp E W' (w2.setCell ⟨K, 6, none⟩ u))
  (hdo : Calls Tryz.prog fn (#[.slice ov W.length cv] ++ caps) w fun e w2 => ∃ o' n c' E W', e = .returned (.tuple #[.slice o' n c', .int .i64 E]) ∧ qK w2 (.slice o' n c') W' ∧ zK w.heap.size (.slice o' n c') ∧ w2.heap[K]? = some (.cells #[.slice o1 T.length c1, .slice o2 P.length c2, .slice o3 V.length c3, .int .i64 dv, .slice od D.length cd, .slice og G.length cg, .slice ov W.length cv] 72) ∧ StW w2 o1 o2 o3 c1 c2 c3 T P V od cd D og cg G ov cv W ∧ W'.length ≤ 100 ∧ Qp E W' w2 ∧ Kq X w w2) :
  Calls Tryz.prog 79 #[.pointer (some ⟨K, 0, none⟩), .func (.func fn) #[] caps] w fun e w' => (∃ E W' o' c', e = .returned (.int .i64 E) ∧ w'.heap[K]? = some (.cells #[.slice o1 T.length c1, .slice o2 P.length c2, .slice o3 V.length c3, .int .i64 dv, .slice od D.length cd, .slice og G.length cg, .slice o' W'.length c'] 72) ∧ StW w' o1 o2 o3 c1 c2 c3 T P V od cd D og cg G o' c' W' ∧ zK w.heap.size (.slice o' W'.length c') ∧ Qp E W' w') ∧ Kq (fun k => k = K ∨ X k) w w' := by
 have OK0 := zA hK
 have HK := zA hk
 have HD := zA hdo
 have HQ := zA hQ
 have lK0 : K < w.heap.size := (Array.getElem?_eq_some_iff.1 hK).1
 clear hK hk hdo hQ
 obtain ⟨cK0, cK1, cK2, cK3, cK4, cK5, cK6⟩ := zY OK0.out
 go_enter Tryz.func79, Tryz.ntmps79
 go_wp2_with fail
 refine HD.out.mono ?_
 rintro e w2 ⟨o', n, c', E, W', rfl, hv, hf, hK2, hs2, hl, hq, hb⟩
 obtain ⟨rfl, -⟩ := hv.eqs
 have HV := zA hv
 have HF := zA hf
 have OK2 := zA hK2
 have HS2 := zA hs2
 have HQ2 := zA hq
 have HKq := zA hb
 have HL := zA hl
 clear hv hf hK2 hs2 hq hb hl
 clear cK0 cK1 cK2 cK3 cK4 cK5 cK6
 have cK0 : w2.cell? ⟨K, 0, none⟩ = some (.slice o1 T.length c1) := by rw [cell_of_row _ _ 0 _ _ _ OK2.out]; rfl
 have fK0 : w2.frozen? ⟨K, 0, none⟩ = false := frozen_of_row _ _ 0 _ _ OK2.out
 have cK1 : w2.cell? ⟨K, 1, none⟩ = some (.slice o2 P.length c2) := by rw [cell_of_row _ _ 1 _ _ _ OK2.out]; rfl
 have fK1 : w2.frozen? ⟨K, 1, none⟩ = false := frozen_of_row _ _ 1 _ _ OK2.out
 have cK2 : w2.cell? ⟨K, 2, none⟩ = some (.slice o3 V.length c3) := by rw [cell_of_row _ _ 2 _ _ _ OK2.out]; rfl
 have fK2 : w2.frozen? ⟨K, 2, none⟩ = false := frozen_of_row _ _ 2 _ _ OK2.out
 have cK3 : w2.cell? ⟨K, 3, none⟩ = some (.int .i64 dv) := by rw [cell_of_row _ _ 3 _ _ _ OK2.out]; rfl
 have fK3 : w2.frozen? ⟨K, 3, none⟩ = false := frozen_of_row _ _ 3 _ _ OK2.out
 have cK4 : w2.cell? ⟨K, 4, none⟩ = some (.slice od D.length cd) := by rw [cell_of_row _ _ 4 _ _ _ OK2.out]; rfl
 have fK4 : w2.frozen? ⟨K, 4, none⟩ = false := frozen_of_row _ _ 4 _ _ OK2.out
 have cK5 : w2.cell? ⟨K, 5, none⟩ = some (.slice og G.length cg) := by rw [cell_of_row _ _ 5 _ _ _ OK2.out]; rfl
 have fK5 : w2.frozen? ⟨K, 5, none⟩ = false := frozen_of_row _ _ 5 _ _ OK2.out
 have cK6 : w2.cell? ⟨K, 6, none⟩ = some (.slice ov W.length cv) := by rw [cell_of_row _ _ 6 _ _ _ OK2.out]; rfl
 have fK6 : w2.frozen? ⟨K, 6, none⟩ = false := frozen_of_row _ _ 6 _ _ OK2.out
 go_wp2_with fail
 go_ret
 have hoff : Off o' W' K := zQ HF.out (by omega)
 have hk := HK.out.vw (ov' := o') (W' := W') hoff
 have hst := (HS2.out.vw HV.out (by have := HL.out; omega)).setO (p := ⟨K, 6, none⟩) hk (.slice o' W'.length c')
 exact ⟨⟨E, W', o', c', rfl, heap_setCell_same _ K 6 _ _ _ OK2.out, hst, HF.out, HQ.out E W' w2 _ HQ2.out⟩, HKq.out.setX 6 _⟩
theorem named_any (a : AC) (w : World) :
  Calls Tryz.prog 71 #[acV a] w fun e w' => e = .returned (acV (namedA a)) ∧ Below w.heap.size w w' := by
 unfold namedA
 by_cases h1 : a.k = 1
 ·rw [if_pos h1]
  have b1 : (a.k == 1) = true := by simpa using h1
  clear h1
  go_enter Tryz.func71, Tryz.ntmps71
  go_wp2_with fail
  refine bodyPost_ret (v := acV ⟨a.k, 0, 0, 0, a.t⟩) (by simp [results, Tryz.results71, go_sem, *]) rfl ⟨rfl, ?_⟩
  repeat (first | with_reducible exact Below.refl _ _ | with_reducible refine Below.alloc ?_ (by simp; try omega) _)
 rw [if_neg h1]
 have b1 : (a.k == 1) = false := by simpa using h1
 clear h1
 by_cases h2 : a.k = 2
 ·rw [if_pos h2]
  have b2 : (a.k == 2) = true := by simpa using h2
  clear h2
  go_enter Tryz.func71, Tryz.ntmps71
  go_wp2_with fail
  refine bodyPost_ret (v := acV ⟨a.k, a.i, a.o, a.m, tk0⟩) (by simp [results, Tryz.results71, go_sem, tk0, *]) rfl ⟨rfl, ?_⟩
  repeat (first | with_reducible exact Below.refl _ _ | with_reducible refine Below.alloc ?_ (by simp; try omega) _)
 rw [if_neg h2]
 have b2 : (a.k == 2) = false := by simpa using h2
 clear h2
 by_cases h3 : a.k = 3
 ·rw [if_pos h3]
  have b3 : (a.k == 3) = true := by simpa using h3
  clear h3
  go_enter Tryz.func71, Tryz.ntmps71
  go_wp2_with fail
  refine bodyPost_ret (v := acV ⟨a.k, a.i, 0, 0, tk0⟩) (by simp [results, Tryz.results71, go_sem, tk0, *]) rfl ⟨rfl, ?_⟩
  repeat (first | with_reducible exact Below.refl _ _ | with_reducible refine Below.alloc ?_ (by simp; try omega) _)
 rw [if_neg h3]
 have b3 : (a.k == 3) = false := by simpa using h3
 clear h3
 by_cases h4 : a.k = 4
 ·rw [if_pos h4]
  have b4 : (a.k == 4) = true := by simpa using h4
  clear h4
  go_enter Tryz.func71, Tryz.ntmps71
  go_wp2_with fail
  refine bodyPost_ret (v := acV ⟨a.k, 0, a.o, a.m, tk0⟩) (by simp [results, Tryz.results71, go_sem, tk0, *]) rfl ⟨rfl, ?_⟩
  repeat (first | with_reducible exact Below.refl _ _ | with_reducible refine Below.alloc ?_ (by simp; try omega) _)
 rw [if_neg h4]
 have b4 : (a.k == 4) = false := by simpa using h4
 clear h4
 go_enter Tryz.func71, Tryz.ntmps71
 go_wp2_with fail
 refine bodyPost_ret (v := acV ⟨a.k, 0, a.o, 0, tk0⟩) (by simp [results, Tryz.results71, go_sem, tk0, *]) rfl ⟨rfl, ?_⟩
 repeat (first | with_reducible exact Below.refl _ _ | with_reducible refine Below.alloc ?_ (by simp; try omega) _)
theorem deskUnfit_any (T : List TK) (P : List TP) (V : List Int) (dv : Int) (D : List Int) (G : List GT) (W : List VW) (o1 o2 o3 od og ov : Option Addr) (c1 c2 c3 cd cg cv : Nat) (a : AC) (w : World) (hs : StW w o1 o2 o3 c1 c2 c3 T P V od cd D og cg G ov cv W) :
  Calls Tryz.prog 29 #[stV o1 o2 o3 T.length c1 P.length c2 V.length c3 dv od D.length cd og G.length cg ov W.length cv, acV a] w fun e w' => e = .returned (.int .i64 (if yP T P V dv D G W = 0 then (if wi a.k 1 7 = false then 7 else if eqA a (namedA a) = true then 0 else 1) else yP T P V dv D G W)) ∧ Below w.heap.size w w' := by
 have HB := zA (((zL.nil w).more (.cells #[.slice o1 T.length c1, .slice o2 P.length c2, .slice o3 V.length c3, .int .i64 dv, .slice od D.length cd, .slice og G.length cg, .slice ov W.length cv] 32) (by simp)).more (.cells #[.int .i64 a.k, .int .i64 a.i, .int .i64 a.o, .int .i64 a.m, .int .i64 a.t.i, .int .i64 a.t.k, .int .i64 a.t.f, .int .i64 a.t.t, .int .i64 a.t.z, .int .i64 a.t.r] 36) (by simp))
 have Hw := zA HB.out.2.2
 have OS0 := zA (show _ = _ from HB.out.1 0 _ rfl)
 rw [Nat.add_zero] at OS0
 have OA0 := zA (show _ = _ from HB.out.1 1 _ rfl)
 obtain ⟨EC, hEC⟩ : ∃ EC, EC = yP T P V dv D G W := ⟨_, rfl⟩
 obtain ⟨E, hE⟩ : ∃ E, E = (if yP T P V dv D G W = 0 then (if wi a.k 1 7 = false then 7 else if eqA a (namedA a) = true then 0 else 1) else yP T P V dv D G W) := ⟨_, rfl⟩
 rw [← hE]
 rw [← hEC] at hE
 obtain ⟨n, hn⟩ : ∃ n, n = namedA a := ⟨_, rfl⟩
 rw [← hn] at hE
 have F1 : Hid (EC ≠ 0 → E = EC) := zA (fun h => by rw [hE, if_neg h])
 have F2 : Hid (EC = 0 → wi a.k 1 7 = false → E = 7) := zA (fun h h2 => by rw [hE, if_pos h, if_pos h2])
 have F3 : Hid (EC = 0 → wi a.k 1 7 = true → eqA a n = true → E = 0) := zA (fun h h2 h3 => by rw [hE, if_pos h, if_neg (by rw [h2]; decide), if_pos h3])
 have F4 : Hid (EC = 0 → wi a.k 1 7 = true → eqA a n = false → E = 1) := zA (fun h h2 h3 => by rw [hE, if_pos h, if_neg (by rw [h2]; decide), if_neg (by rw [h3]; decide)])
 have HN := zA (fun X => named_any a X)
 rw [← hn] at HN
 clear hE hn
 have HEC := zA hEC
 clear hEC
 have HS := zA hs
 clear hs
 have HE1 := zA (fun X (h : StW X o1 o2 o3 c1 c2 c3 T P V od cd D og cg G ov cv W) => qB T P V dv D G W o1 o2 o3 od og ov c1 c2 c3 cd cg cv X h.led h.lok h.den.1 h.den.2.1 h.gts h.gok h.vws h.vln)
 rw [← HEC.out] at HE1
 clear HEC
 go_enter Tryz.func29, Tryz.ntmps29
 obtain ⟨cS0, cS1, cS2, cS3, cS4, cS5, cS6⟩ := zY OS0.out
 go_wp2_with fail
 generalize ((w.alloc (.cells #[.slice o1 T.length c1, .slice o2 P.length c2, .slice o3 V.length c3, .int .i64 dv, .slice od D.length cd, .slice og G.length cg, .slice ov W.length cv] 32)).alloc (.cells #[.int .i64 a.k, .int .i64 a.i, .int .i64 a.o, .int .i64 a.m, .int .i64 a.t.i, .int .i64 a.t.k, .int .i64 a.t.f, .int .i64 a.t.t, .int .i64 a.t.z, .int .i64 a.t.r] 36)) = w0 at *
 clear HB
 refine (HE1.out _ (HS.out.below Hw.out)).mono ?_
 rintro e w1 ⟨rfl, hb⟩
 have Bww1 := trR Hw hb
 have OSw1 := atR OS0 hb
 have OAw1 := atR OA0 hb
 have zww1 := Bww1.out.size
 have lSw1 := ltR OSw1
 have lAw1 : w.heap.size + 1 < w1.heap.size := (Array.getElem?_eq_some_iff.1 OAw1.out).1
 clear hb Hw OS0 OA0
 clear cS0 cS1 cS2 cS3 cS4 cS5 cS6
 obtain ⟨cA0, cA1, cA2, cA3, cA4, cA5, cA6, cA7, cA8, cA9⟩ := qV OAw1.out
 clear HE1
 rcases hE : (EC != 0) with _ | _
 ·have h0 : EC = 0 := by simpa using hE
  have H0 := zA h0
  subst h0
  have F2' := zA (F2.out rfl)
  have F3' := zA (F3.out rfl)
  have F4' := zA (F4.out rfl)
  clear hE F1 F2 F3 F4
  go_wp2_with (go_at_call 70; refine (yD _ _ _ _).mono ?_; rintro e w' ⟨rfl, hw⟩; obtain rfl := hw.symm; clear hw; rcases hW : wi a.k 1 7 with _ | _)
  ·have HE7 := zA (F2'.out hW)
   clear F2' F3' F4' hW
   go_wp2_with fail
   go_ret
   exact ⟨by rw [HE7.out]; rfl, Bww1.out⟩
  ·have G3 := zA (F3'.out hW)
   have G4 := zA (F4'.out hW)
   clear F2' F3' F4' hW
   have hd : eqA a n = true ∨ (¬ a.k = n.k ∧ eqA a n = false) ∨ (a.k = n.k ∧ ¬ a.i = n.i ∧ eqA a n = false) ∨ (a.k = n.k ∧ a.i = n.i ∧ ¬ a.o = n.o ∧ eqA a n = false) ∨ (a.k = n.k ∧ a.i = n.i ∧ a.o = n.o ∧ ¬ a.m = n.m ∧ eqA a n = false) ∨ (a.k = n.k ∧ a.i = n.i ∧ a.o = n.o ∧ a.m = n.m ∧ ¬ a.t.i = n.t.i ∧ eqA a n = false) ∨ (a.k = n.k ∧ a.i = n.i ∧ a.o = n.o ∧ a.m = n.m ∧ a.t.i = n.t.i ∧ ¬ a.t.k = n.t.k ∧ eqA a n = false) ∨ (a.k = n.k ∧ a.i = n.i ∧ a.o = n.o ∧ a.m = n.m ∧ a.t.i = n.t.i ∧ a.t.k = n.t.k ∧ ¬ a.t.f = n.t.f ∧ eqA a n = false) ∨ (a.k = n.k ∧ a.i = n.i ∧ a.o = n.o ∧ a.m = n.m ∧ a.t.i = n.t.i ∧ a.t.k = n.t.k ∧ a.t.f = n.t.f ∧ ¬ a.t.t = n.t.t ∧ eqA a n = false) ∨ (a.k = n.k ∧ a.i = n.i ∧ a.o = n.o ∧ a.m = n.m ∧ a.t.i = n.t.i ∧ a.t.k = n.t.k ∧ a.t.f = n.t.f ∧ a.t.t = n.t.t ∧ ¬ a.t.z = n.t.z ∧ eqA a n = false) ∨ (a.k = n.k ∧ a.i = n.i ∧ a.o = n.o ∧ a.m = n.m ∧ a.t.i = n.t.i ∧ a.t.k = n.t.k ∧ a.t.f = n.t.f ∧ a.t.t = n.t.t ∧ a.t.z = n.t.z ∧ ¬ a.t.r = n.t.r ∧ eqA a n = false) := by
    unfold eqA
    by_cases g0 : a.k = n.k
    rotate_left
    ·simp [g0]
    by_cases g1 : a.i = n.i
    rotate_left
    ·simp [g1, g0]
    by_cases g2 : a.o = n.o
    rotate_left
    ·simp [g2, g0, g1]
    by_cases g3 : a.m = n.m
    rotate_left
    ·simp [g3, g0, g1, g2]
    by_cases g4 : a.t.i = n.t.i
    rotate_left
    ·simp [g4, g0, g1, g2, g3]
    by_cases g5 : a.t.k = n.t.k
    rotate_left
    ·simp [g5, g0, g1, g2, g3, g4]
    by_cases g6 : a.t.f = n.t.f
    rotate_left
    ·simp [g6, g0, g1, g2, g3, g4, g5]
    by_cases g7 : a.t.t = n.t.t
    rotate_left
    ·simp [g7, g0, g1, g2, g3, g4, g5, g6]
    by_cases g8 : a.t.z = n.t.z
    rotate_left
    ·simp [g8, g0, g1, g2, g3, g4, g5, g6, g7]
    by_cases g9 : a.t.r = n.t.r
    rotate_left
    ·simp [g9, g0, g1, g2, g3, g4, g5, g6, g7, g8]
    ·simp [g0, g1, g2, g3, g4, g5, g6, g7, g8, g9]
   go_upto_region 6 with fail
   refine zJ (fun w' => w'.heap[w.heap.size + 1]? = some (.cells #[.int .i64 a.k, .int .i64 a.i, .int .i64 a.o, .int .i64 a.m, .int .i64 a.t.i, .int .i64 a.t.k, .int .i64 a.t.f, .int .i64 a.t.t, .int .i64 a.t.z, .int .i64 a.t.r] 36)) [0, 1] 3 (by rfl) (by kernel_rfl) (by kernel_rfl) (by kernel_rfl) (fun c d v a w h => by cases d <;> exact h) ?_ ?_
   ·exact zC OAw1.out (Below.refl _ _).drew
   refine zB (acV a) rfl rfl (fun w' hS => ?_) ?_
   ·have u0 : w'.cell? ⟨w.heap.size + 1, 0, none⟩ = some (.int .i64 a.k) := (cell_of_row _ _ 0 _ _ _ hS).trans rfl
    have u1 : w'.cell? ⟨w.heap.size + 1, 1, none⟩ = some (.int .i64 a.i) := (cell_of_row _ _ 1 _ _ _ hS).trans rfl
    have u2 : w'.cell? ⟨w.heap.size + 1, 2, none⟩ = some (.int .i64 a.o) := (cell_of_row _ _ 2 _ _ _ hS).trans rfl
    have u3 : w'.cell? ⟨w.heap.size + 1, 3, none⟩ = some (.int .i64 a.m) := (cell_of_row _ _ 3 _ _ _ hS).trans rfl
    have u4 : w'.cell? ⟨w.heap.size + 1, 4, none⟩ = some (.int .i64 a.t.i) := (cell_of_row _ _ 4 _ _ _ hS).trans rfl
    have u5 : w'.cell? ⟨w.heap.size + 1, 5, none⟩ = some (.int .i64 a.t.k) := (cell_of_row _ _ 5 _ _ _ hS).trans rfl
    have u6 : w'.cell? ⟨w.heap.size + 1, 6, none⟩ = some (.int .i64 a.t.f) := (cell_of_row _ _ 6 _ _ _ hS).trans rfl
    have u7 : w'.cell? ⟨w.heap.size + 1, 7, none⟩ = some (.int .i64 a.t.t) := (cell_of_row _ _ 7 _ _ _ hS).trans rfl
    have u8 : w'.cell? ⟨w.heap.size + 1, 8, none⟩ = some (.int .i64 a.t.z) := (cell_of_row _ _ 8 _ _ _ hS).trans rfl
    have u9 : w'.cell? ⟨w.heap.size + 1, 9, none⟩ = some (.int .i64 a.t.r) := (cell_of_row _ _ 9 _ _ _ hS).trans rfl
    go_simp
   refine zB (acV a) rfl rfl (fun w' hS => ?_) ?_
   ·have u0 : w'.cell? ⟨w.heap.size + 1, 0, none⟩ = some (.int .i64 a.k) := (cell_of_row _ _ 0 _ _ _ hS).trans rfl
    have u1 : w'.cell? ⟨w.heap.size + 1, 1, none⟩ = some (.int .i64 a.i) := (cell_of_row _ _ 1 _ _ _ hS).trans rfl
    have u2 : w'.cell? ⟨w.heap.size + 1, 2, none⟩ = some (.int .i64 a.o) := (cell_of_row _ _ 2 _ _ _ hS).trans rfl
    have u3 : w'.cell? ⟨w.heap.size + 1, 3, none⟩ = some (.int .i64 a.m) := (cell_of_row _ _ 3 _ _ _ hS).trans rfl
    have u4 : w'.cell? ⟨w.heap.size + 1, 4, none⟩ = some (.int .i64 a.t.i) := (cell_of_row _ _ 4 _ _ _ hS).trans rfl
    have u5 : w'.cell? ⟨w.heap.size + 1, 5, none⟩ = some (.int .i64 a.t.k) := (cell_of_row _ _ 5 _ _ _ hS).trans rfl
    have u6 : w'.cell? ⟨w.heap.size + 1, 6, none⟩ = some (.int .i64 a.t.f) := (cell_of_row _ _ 6 _ _ _ hS).trans rfl
    have u7 : w'.cell? ⟨w.heap.size + 1, 7, none⟩ = some (.int .i64 a.t.t) := (cell_of_row _ _ 7 _ _ _ hS).trans rfl
    have u8 : w'.cell? ⟨w.heap.size + 1, 8, none⟩ = some (.int .i64 a.t.z) := (cell_of_row _ _ 8 _ _ _ hS).trans rfl
    have u9 : w'.cell? ⟨w.heap.size + 1, 9, none⟩ = some (.int .i64 a.t.r) := (cell_of_row _ _ 9 _ _ _ hS).trans rfl
    go_simp
   refine zE ?_
   have HAd := zA (zC OAw1.out (Below.refl _ _).drew)
   have HWd := zA (Bww1.out.trans ((Below.refl w1.heap.size w1).drew.mono Bww1.out.size))
   clear cA0 cA1 cA2 cA3 cA4 cA5 cA6 cA7 cA8 cA9
   clear OAw1 Bww1
   generalize (World.drew _) = wd at *
   refine oR 2 rfl rfl fun J hJ => ?_
   go_simp
   refine (HN.out _).mono ?_
   rintro e w2 ⟨rfl, hb⟩
   have HA2 := atR HAd hb
   have HW2 := trR HWd hb
   refine hJ _ _ HA2.out ?_
   clear hJ J hb HN HAd HWd
   rcases hd with hq | ⟨g0, hq⟩ | ⟨g0, g1, hq⟩ | ⟨g0, g1, g2, hq⟩ | ⟨g0, g1, g2, g3, hq⟩ | ⟨g0, g1, g2, g3, g4, hq⟩ | ⟨g0, g1, g2, g3, g4, g5, hq⟩ | ⟨g0, g1, g2, g3, g4, g5, g6, hq⟩ | ⟨g0, g1, g2, g3, g4, g5, g6, g7, hq⟩ | ⟨g0, g1, g2, g3, g4, g5, g6, g7, g8, hq⟩ | ⟨g0, g1, g2, g3, g4, g5, g6, g7, g8, g9, hq⟩
   ·have HEE := zA (G3.out hq)
    clear G3 G4
    unfold eqA at hq
    simp only [Bool.and_eq_true, beq_iff_eq] at hq
    obtain ⟨⟨⟨⟨⟨⟨⟨⟨⟨g0, g1⟩, g2⟩, g3⟩, g4⟩, g5⟩, g6⟩, g7⟩, g8⟩, g9⟩ := hq
    refine oR 3 rfl rfl fun J hJ => ?_
    go_simp
    refine hJ _ _ HA2.out ?_
    clear hJ J
    refine oR 4 rfl rfl fun J hJ => ?_
    go_simp
    refine hJ _ _ HA2.out ?_
    clear hJ J
    refine wpAnyH_done (by kernel_rfl) ?_ _
    go_wp2_with fail
    go_ret
    exact ⟨by rw [HEE.out]; rfl, HW2.out⟩
   all_goals
    have HEE := zA (G4.out hq)
    clear G3 G4 hq
    refine oR 3 rfl rfl fun J hJ => ?_
    go_simp
    refine hJ _ _ HA2.out ?_
    clear hJ J
    refine oR 4 rfl rfl fun J hJ => ?_
    go_simp
    refine hJ _ _ HA2.out ?_
    clear hJ J
    refine wpAnyH_done (by kernel_rfl) ?_ _
    go_wp2_with fail
    go_ret
    exact ⟨by rw [HEE.out]; rfl, HW2.out⟩
 ·have HEE := zA (F1.out (by simpa using hE))
  clear F1 F2 F3 F4
  go_wp2_with fail
  go_ret
  exact ⟨by rw [HEE.out]; rfl, Bww1.out⟩
def StQ (w : World) (B : Nat) (x1 x2 x3 : Option Addr) (n1 y1 n2 y2 n3 y3 : Nat) (xv : Int) (x4 : Option Addr) (n4 y4 : Nat) (x5 : Option Addr) (n5 y5 : Nat) (x6 : Option Addr) (n6 y6 : Nat) (s : SS) : Prop :=
 n1 = s.T.length ∧ n2 = s.P.length ∧ n3 = s.V.length ∧ xv = s.dv ∧ n4 = s.D.length ∧ n6 = s.W.length ∧ ∃ G : List GT, n5 = G.length ∧ G.map GT.p = s.L ∧ StW w x1 x2 x3 y1 y2 y3 s.T s.P s.V x4 y4 s.D x5 y5 G x6 y6 s.W ∧ FrS B x1 x2 x3 x4 x5 x6 y1 y2 y3 y4 y5 y6 s.T s.P s.V s.D G s.W
theorem StQ.of {w : World} {B : Nat} {v : Value} {s : SS} {G : List GT} (h : StR w B v s.T s.P s.V s.dv s.D G s.W) (hm : G.map GT.p = s.L) : ∃ x1 x2 x3 n1 y1 n2 y2 n3 y3 xv x4 n4 y4 x5 n5 y5 x6 n6 y6, v = stV x1 x2 x3 n1 y1 n2 y2 n3 y3 xv x4 n4 y4 x5 n5 y5 x6 n6 y6 ∧ StQ w B x1 x2 x3 n1 y1 n2 y2 n3 y3 xv x4 n4 y4 x5 n5 y5 x6 n6 y6 s := by
 obtain ⟨o1, c1, o2, c2, o3, c3, od, cd, og, cg, ov, cv, e, hs, hf⟩ := h.of
 exact ⟨_, _, _, _, _, _, _, _, _, _, _, _, _, _, _, _, _, _, _, e, rfl, rfl, rfl, rfl, rfl, rfl, G, rfl, hm, hs, hf⟩
theorem StQ.below {w w' : World} {B : Nat} {x1 x2 x3 : Option Addr} {n1 y1 n2 y2 n3 y3 : Nat} {xv : Int} {x4 : Option Addr} {n4 y4 : Nat} {x5 : Option Addr} {n5 y5 : Nat} {x6 : Option Addr} {n6 y6 : Nat} {s : SS} (h : StQ w B x1 x2 x3 n1 y1 n2 y2 n3 y3 xv x4 n4 y4 x5 n5 y5 x6 n6 y6 s) (hb : Below w.heap.size w w') : StQ w' B x1 x2 x3 n1 y1 n2 y2 n3 y3 xv x4 n4 y4 x5 n5 y5 x6 n6 y6 s := by
 obtain ⟨h1, h2, h3, h4, h5, h6, G, h7, h8, h9, h10⟩ := h
 exact ⟨h1, h2, h3, h4, h5, h6, G, h7, h8, h9.below hb, h10⟩
theorem StQ.mono {w : World} {B C : Nat} {x1 x2 x3 : Option Addr} {n1 y1 n2 y2 n3 y3 : Nat} {xv : Int} {x4 : Option Addr} {n4 y4 : Nat} {x5 : Option Addr} {n5 y5 : Nat} {x6 : Option Addr} {n6 y6 : Nat} {s : SS} (h : StQ w B x1 x2 x3 n1 y1 n2 y2 n3 y3 xv x4 n4 y4 x5 n5 y5 x6 n6 y6 s) (hC : C ≤ B) : StQ w C x1 x2 x3 n1 y1 n2 y2 n3 y3 xv x4 n4 y4 x5 n5 y5 x6 n6 y6 s := by
 obtain ⟨h1, h2, h3, h4, h5, h6, G, h7, h8, h9, h10⟩ := h
 exact ⟨h1, h2, h3, h4, h5, h6, G, h7, h8, h9, h10.mono hC⟩
theorem StQ.set {w : World} {B : Nat} {x1 x2 x3 : Option Addr} {n1 y1 n2 y2 n3 y3 : Nat} {xv : Int} {x4 : Option Addr} {n4 y4 : Nat} {x5 : Option Addr} {n5 y5 : Nat} {x6 : Option Addr} {n6 y6 : Nat} {s : SS} (h : StQ w B x1 x2 x3 n1 y1 n2 y2 n3 y3 xv x4 n4 y4 x5 n5 y5 x6 n6 y6 s) {p : Addr} (hp : p.block < B) (u : Value) : StQ (w.setCell p u) B x1 x2 x3 n1 y1 n2 y2 n3 y3 xv x4 n4 y4 x5 n5 y5 x6 n6 y6 s := by
 obtain ⟨h1, h2, h3, h4, h5, h6, G, h7, h8, h9, h10⟩ := h
 exact ⟨h1, h2, h3, h4, h5, h6, G, h7, h8, h9.setO (h10.ltk hp) u, h10⟩
def StB (w : World) (B K : Nat) (s : SS) : Prop := ∃ x1 x2 x3 n1 y1 n2 y2 n3 y3 xv x4 n4 y4 x5 n5 y5 x6 n6 y6, w.heap[K]? = some (.cells #[.slice x1 n1 y1, .slice x2 n2 y2, .slice x3 n3 y3, .int .i64 xv, .slice x4 n4 y4, .slice x5 n5 y5, .slice x6 n6 y6] 72) ∧ StQ w B x1 x2 x3 n1 y1 n2 y2 n3 y3 xv x4 n4 y4 x5 n5 y5 x6 n6 y6 s
theorem sellTwo (T : List TK) (P : List TP) (V : List Int) (dv : Int) (D : List Int) (G : List GT) (W : List VW) (o1 o2 o3 od og ov : Option Addr) (c1 c2 c3 cd cg cv : Nat) (t : TK) (w : World) (hs : StW w o1 o2 o3 c1 c2 c3 T P V od cd D og cg G ov cv W) (hc : yP T P V dv D G W = 0) :
  Calls Tryz.prog 49 #[stV o1 o2 o3 T.length c1 P.length c2 V.length c3 dv od D.length cd og G.length cg ov W.length cv, tk t.i t.k t.f t.t t.z t.r] w fun e w' => (∃ x1 x2 x3 n1 y1 n2 y2 n3 y3 xv x4 n4 y4 x5 n5 y5 x6 n6 y6, e = .returned (.tuple #[stV x1 x2 x3 n1 y1 n2 y2 n3 y3 xv x4 n4 y4 x5 n5 y5 x6 n6 y6, .int .i64 (sellK T P V W t)]) ∧ (sellK T P V W t = 0 → StQ w' w.heap.size x1 x2 x3 n1 y1 n2 y2 n3 y3 xv x4 n4 y4 x5 n5 y5 x6 n6 y6 ⟨qI T t, P, V, dv, D, G.map GT.p, W⟩)) ∧ Below w.heap.size w w' := by
 refine (stationSell_any T P V dv D G W o1 o2 o3 od og ov c1 c2 c3 cd cg cv t.i t.k t.f t.t t.z t.r w hs).mono ?_
 rintro e w' ⟨⟨v, rfl, h1, h2⟩, hb⟩
 refine ⟨?_, hb⟩
 have hE : sellS T P V dv D G W ⟨t.i, t.k, t.f, t.t, t.z, t.r⟩ = sellK T P V W t := by rw [sellS, if_pos hc]
 rw [hE] at h1 h2 ⊢
 by_cases h0 : sellK T P V W t = 0
 ·obtain ⟨G', hm, hr⟩ := h2 h0
  obtain ⟨x1, x2, x3, n1, y1, n2, y2, n3, y3, xv, x4, n4, y4, x5, n5, y5, x6, n6, y6, rfl, hq⟩ := StQ.of (s := ⟨qI T t, P, V, dv, D, G.map GT.p, W⟩) hr hm
  exact ⟨x1, x2, x3, n1, y1, n2, y2, n3, y3, xv, x4, n4, y4, x5, n5, y5, x6, n6, y6, rfl, fun _ => hq⟩
 ·exact ⟨_, _, _, _, _, _, _, _, _, _, _, _, _, _, _, _, _, _, _, by rw [h1 h0], fun h => absurd h h0⟩
theorem tapTwo (T : List TK) (P : List TP) (V : List Int) (dv : Int) (D : List Int) (G : List GT) (W : List VW) (o1 o2 o3 od og ov : Option Addr) (c1 c2 c3 cd cg cv : Nat) (id n m : Int) (w : World) (hs : StW w o1 o2 o3 c1 c2 c3 T P V od cd D og cg G ov cv W) (hc : yP T P V dv D G W = 0) :
  Calls Tryz.prog 47 #[stV o1 o2 o3 T.length c1 P.length c2 V.length c3 dv od D.length cd og G.length cg ov W.length cv, .int .i64 id, .int .i64 n, .int .i64 m] w fun e w' => (∃ x1 x2 x3 n1 y1 n2 y2 n3 y3 xv x4 n4 y4 x5 n5 y5 x6 n6 y6, e = .returned (.tuple #[stV x1 x2 x3 n1 y1 n2 y2 n3 y3 xv x4 n4 y4 x5 n5 y5 x6 n6 y6, .int .i64 (tapR T P V dv D (G.map GT.p) W id n m).1, .int .i64 (tapR T P V dv D (G.map GT.p) W id n m).2]) ∧
   ((tapR T P V dv D (G.map GT.p) W id n m).2 = 0 → StQ w' w.heap.size x1 x2 x3 n1 y1 n2 y2 n3 y3 xv x4 n4 y4 x5 n5 y5 x6 n6 y6 ⟨T, pTap W (gAt (G.map GT.p) n) P id n m, vTap W (gAt (G.map GT.p) n) V (tapR T P V dv D (G.map GT.p) W id n m).1, dv, D, (G.map GT.p).set n.toNat (gTap W (gAt (G.map GT.p) n) (tAt T id) m), W⟩)) ∧ Below w.heap.size w w' := by
 refine (jX T P V dv D G W o1 o2 o3 od og ov c1 c2 c3 cd cg cv id n m w hs).mono ?_
 rintro e w' ⟨⟨v, R, hR, rfl, h1, h2⟩, hb⟩
 refine ⟨?_, hb⟩
 have hE : R = tapR T P V dv D (G.map GT.p) W id n m := by rw [hR, tapS, if_pos hc]
 subst hE
 by_cases h0 : (tapR T P V dv D (G.map GT.p) W id n m).2 = 0
 ·obtain ⟨G', hm, hr⟩ := h2 h0
  obtain ⟨x1, x2, x3, n1, y1, n2, y2, n3, y3, xv, x4, n4, y4, x5, n5, y5, x6, n6, y6, rfl, hq⟩ := StQ.of (s := ⟨T, pTap W (gAt (G.map GT.p) n) P id n m, vTap W (gAt (G.map GT.p) n) V (tapR T P V dv D (G.map GT.p) W id n m).1, dv, D, (G.map GT.p).set n.toNat (gTap W (gAt (G.map GT.p) n) (tAt T id) m), W⟩) hr hm
  exact ⟨x1, x2, x3, n1, y1, n2, y2, n3, y3, xv, x4, n4, y4, x5, n5, y5, x6, n6, y6, rfl, fun _ => hq⟩
 ·exact ⟨_, _, _, _, _, _, _, _, _, _, _, _, _, _, _, _, _, _, _, by rw [h1 h0], fun h => absurd h h0⟩
theorem syncTwo (T : List TK) (P : List TP) (V : List Int) (dv : Int) (D : List Int) (G : List GT) (W : List VW) (o1 o2 o3 od og ov : Option Addr) (c1 c2 c3 cd cg cv : Nat) (n m : Int) (w : World) (hs : StW w o1 o2 o3 c1 c2 c3 T P V od cd D og cg G ov cv W) (hc : yP T P V dv D G W = 0) :
  Calls Tryz.prog 23 #[stV o1 o2 o3 T.length c1 P.length c2 V.length c3 dv od D.length cd og G.length cg ov W.length cv, .int .i64 n, .int .i64 m] w fun e w' => (∃ x1 x2 x3 n1 y1 n2 y2 n3 y3 xv x4 n4 y4 x5 n5 y5 x6 n6 y6 o c, e = .returned (.tuple #[stV x1 x2 x3 n1 y1 n2 y2 n3 y3 xv x4 n4 y4 x5 n5 y5 x6 n6 y6, .slice o (zS T P V (G.map GT.p) n (xZ T P V dv D (G.map GT.p) W n m)).length c, .int .i64 (xZ T P V dv D (G.map GT.p) W n m)]) ∧
   (xZ T P V dv D (G.map GT.p) W n m = 0 → StQ w' w.heap.size x1 x2 x3 n1 y1 n2 y2 n3 y3 xv x4 n4 y4 x5 n5 y5 x6 n6 y6 ⟨xV T P V (gAt (G.map GT.p) n).A, xR T P V (gAt (G.map GT.p) n).A, xY T P V (gAt (G.map GT.p) n).A, (yC (zS T P V (G.map GT.p) n 0) dv D).1, (yC (zS T P V (G.map GT.p) n 0) dv D).2, (G.map GT.p).set n.toNat (gSync (gAt (G.map GT.p) n) (yC (zS T P V (G.map GT.p) n 0) dv D).1 (yC (zS T P V (G.map GT.p) n 0) dv D).2 m), W⟩)) ∧ Below w.heap.size w w' := by
 refine (stationSync_any T P V dv D G W o1 o2 o3 od og ov c1 c2 c3 cd cg cv n m w hs).mono ?_
 rintro e w' ⟨⟨v, E, M, o, c, hE, hM, rfl, -, h1, h2⟩, hb⟩
 refine ⟨?_, hb⟩
 rw [syncS, if_pos hc] at hE
 subst hE
 rw [if_pos hc] at hM
 subst hM
 by_cases h0 : xZ T P V dv D (G.map GT.p) W n m = 0
 ·obtain ⟨G', hm, hr⟩ := h2 h0
  obtain ⟨x1, x2, x3, n1, y1, n2, y2, n3, y3, xv, x4, n4, y4, x5, n5, y5, x6, n6, y6, rfl, hq⟩ := StQ.of (s := ⟨xV T P V (gAt (G.map GT.p) n).A, xR T P V (gAt (G.map GT.p) n).A, xY T P V (gAt (G.map GT.p) n).A, (yC (zS T P V (G.map GT.p) n 0) dv D).1, (yC (zS T P V (G.map GT.p) n 0) dv D).2, (G.map GT.p).set n.toNat (gSync (gAt (G.map GT.p) n) (yC (zS T P V (G.map GT.p) n 0) dv D).1 (yC (zS T P V (G.map GT.p) n 0) dv D).2 m), W⟩) hr hm
  exact ⟨x1, x2, x3, n1, y1, n2, y2, n3, y3, xv, x4, n4, y4, x5, n5, y5, x6, n6, y6, o, c, rfl, fun _ => hq⟩
 ·exact ⟨_, _, _, _, _, _, _, _, _, _, _, _, _, _, _, _, _, _, _, o, c, by rw [h1 h0], fun h => absurd h h0⟩
theorem doerSync_any (K : Nat) (T : List TK) (P : List TP) (V : List Int) (dv : Int) (D : List Int) (G : List GT) (W : List VW) (o1 o2 o3 od og ov : Option Addr) (c1 c2 c3 cd cg cv : Nat) (n m : Int) (w : World) (hK : w.heap[K]? = some (.cells #[.slice o1 T.length c1, .slice o2 P.length c2, .slice o3 V.length c3, .int .i64 dv, .slice od D.length cd, .slice og G.length cg, .slice ov W.length cv] 72)) (hs : StW w o1 o2 o3 c1 c2 c3 T P V od cd D og cg G ov cv W) (hc : yP T P V dv D G W = 0) :
  Calls Tryz.prog 78 #[.pointer (some ⟨K, 0, none⟩), .int .i64 n, .int .i64 m] w fun e w' => (e = .returned (.tuple #[.int .i64 ((zS T P V (G.map GT.p) n (xZ T P V dv D (G.map GT.p) W n m)).length : Nat), .int .i64 (xZ T P V dv D (G.map GT.p) W n m)]) ∧ (xZ T P V dv D (G.map GT.p) W n m = 0 → StB w' w.heap.size K ⟨xV T P V (gAt (G.map GT.p) n).A, xR T P V (gAt (G.map GT.p) n).A, xY T P V (gAt (G.map GT.p) n).A, (yC (zS T P V (G.map GT.p) n 0) dv D).1, (yC (zS T P V (G.map GT.p) n 0) dv D).2, (G.map GT.p).set n.toNat (gSync (gAt (G.map GT.p) n) (yC (zS T P V (G.map GT.p) n 0) dv D).1 (yC (zS T P V (G.map GT.p) n 0) dv D).2 m), W⟩)) ∧ Kq (fun k => k = K) w w' := by
 have OK0 := zA hK
 have HS := zA hs
 have lK0 : K < w.heap.size := (Array.getElem?_eq_some_iff.1 hK).1
 clear hK hs
 have H1 := zA (fun X (h : StW X o1 o2 o3 c1 c2 c3 T P V od cd D og cg G ov cv W) => syncTwo T P V dv D G W o1 o2 o3 od og ov c1 c2 c3 cd cg cv n m X h hc)
 clear hc
 generalize (⟨xV T P V (gAt (G.map GT.p) n).A, xR T P V (gAt (G.map GT.p) n).A, xY T P V (gAt (G.map GT.p) n).A, (yC (zS T P V (G.map GT.p) n 0) dv D).1, (yC (zS T P V (G.map GT.p) n 0) dv D).2, (G.map GT.p).set n.toNat (gSync (gAt (G.map GT.p) n) (yC (zS T P V (G.map GT.p) n 0) dv D).1 (yC (zS T P V (G.map GT.p) n 0) dv D).2 m), W⟩ : SS) = S2 at *
 generalize zS T P V (G.map GT.p) n (xZ T P V dv D (G.map GT.p) W n m) = M at *
 generalize xZ T P V dv D (G.map GT.p) W n m = E at *
 obtain ⟨cK0, cK1, cK2, cK3, cK4, cK5, cK6⟩ := zY OK0.out
 go_enter Tryz.func78, Tryz.ntmps78
 go_wp2_with fail
 refine (H1.out _ HS.out).mono ?_
 rintro e w1 ⟨⟨x1, x2, x3, n1, y1, n2, y2, n3, y3, xv, x4, n4, y4, x5, n5, y5, x6, n6, y6, o, c, rfl, hq⟩, hb⟩
 have Bww1 := zA hb
 have OKw1 := atR OK0 hb
 have zww1 := Bww1.out.size
 have lKw1 := ltR OKw1
 clear hb OK0
 clear cK0 cK1 cK2 cK3 cK4 cK5 cK6
 have cK0 : w1.cell? ⟨K, 0, none⟩ = some (.slice o1 T.length c1) := by rw [cell_of_row _ _ 0 _ _ _ OKw1.out]; rfl
 have fK0 : w1.frozen? ⟨K, 0, none⟩ = false := frozen_of_row _ _ 0 _ _ OKw1.out
 have cK1 : w1.cell? ⟨K, 1, none⟩ = some (.slice o2 P.length c2) := by rw [cell_of_row _ _ 1 _ _ _ OKw1.out]; rfl
 have fK1 : w1.frozen? ⟨K, 1, none⟩ = false := frozen_of_row _ _ 1 _ _ OKw1.out
 have cK2 : w1.cell? ⟨K, 2, none⟩ = some (.slice o3 V.length c3) := by rw [cell_of_row _ _ 2 _ _ _ OKw1.out]; rfl
 have fK2 : w1.frozen? ⟨K, 2, none⟩ = false := frozen_of_row _ _ 2 _ _ OKw1.out
 have cK3 : w1.cell? ⟨K, 3, none⟩ = some (.int .i64 dv) := by rw [cell_of_row _ _ 3 _ _ _ OKw1.out]; rfl
 have fK3 : w1.frozen? ⟨K, 3, none⟩ = false := frozen_of_row _ _ 3 _ _ OKw1.out
 have cK4 : w1.cell? ⟨K, 4, none⟩ = some (.slice od D.length cd) := by rw [cell_of_row _ _ 4 _ _ _ OKw1.out]; rfl
 have fK4 : w1.frozen? ⟨K, 4, none⟩ = false := frozen_of_row _ _ 4 _ _ OKw1.out
 have cK5 : w1.cell? ⟨K, 5, none⟩ = some (.slice og G.length cg) := by rw [cell_of_row _ _ 5 _ _ _ OKw1.out]; rfl
 have fK5 : w1.frozen? ⟨K, 5, none⟩ = false := frozen_of_row _ _ 5 _ _ OKw1.out
 have cK6 : w1.cell? ⟨K, 6, none⟩ = some (.slice ov W.length cv) := by rw [cell_of_row _ _ 6 _ _ _ OKw1.out]; rfl
 have fK6 : w1.frozen? ⟨K, 6, none⟩ = false := frozen_of_row _ _ 6 _ _ OKw1.out
 have HQ := zA hq
 clear hq
 go_upto_region 2 with fail
 clear cK0 cK1 cK2 cK3 cK4 cK5 cK6 fK0 fK1 fK2 fK3 fK4 fK5 fK6
 have hb := (Below.refl w1.heap.size w1).alloc (Nat.le_refl _) (.cells #[.slice x1 n1 y1, .slice x2 n2 y2, .slice x3 n3 y3, .int .i64 xv, .slice x4 n4 y4, .slice x5 n5 y5, .slice x6 n6 y6] 32)
 have Odw2 := zA (heap_alloc_new w1 (.cells #[.slice x1 n1 y1, .slice x2 n2 y2, .slice x3 n3 y3, .int .i64 xv, .slice x4 n4 y4, .slice x5 n5 y5, .slice x6 n6 y6] 32))
 have Bww2 := trR Bww1 hb
 have Bw1w2 := zA hb
 have OKw2 := atR OKw1 hb
 clear hb Bww1 OKw1
 generalize (w1.alloc (.cells #[.slice x1 n1 y1, .slice x2 n2 y2, .slice x3 n3 y3, .int .i64 xv, .slice x4 n4 y4, .slice x5 n5 y5, .slice x6 n6 y6] 32)) = w2 at *
 have zww2 := Bww2.out.size
 have zw1w2 := Bw1w2.out.size
 have lKw2 := ltR OKw2
 have ldw2 := ltR Odw2
 have cK0 : w2.cell? ⟨K, 0, none⟩ = some (.slice o1 T.length c1) := by rw [cell_of_row _ _ 0 _ _ _ OKw2.out]; rfl
 have fK0 : w2.frozen? ⟨K, 0, none⟩ = false := frozen_of_row _ _ 0 _ _ OKw2.out
 have cK1 : w2.cell? ⟨K, 1, none⟩ = some (.slice o2 P.length c2) := by rw [cell_of_row _ _ 1 _ _ _ OKw2.out]; rfl
 have fK1 : w2.frozen? ⟨K, 1, none⟩ = false := frozen_of_row _ _ 1 _ _ OKw2.out
 have cK2 : w2.cell? ⟨K, 2, none⟩ = some (.slice o3 V.length c3) := by rw [cell_of_row _ _ 2 _ _ _ OKw2.out]; rfl
 have fK2 : w2.frozen? ⟨K, 2, none⟩ = false := frozen_of_row _ _ 2 _ _ OKw2.out
 have cK3 : w2.cell? ⟨K, 3, none⟩ = some (.int .i64 dv) := by rw [cell_of_row _ _ 3 _ _ _ OKw2.out]; rfl
 have fK3 : w2.frozen? ⟨K, 3, none⟩ = false := frozen_of_row _ _ 3 _ _ OKw2.out
 have cK4 : w2.cell? ⟨K, 4, none⟩ = some (.slice od D.length cd) := by rw [cell_of_row _ _ 4 _ _ _ OKw2.out]; rfl
 have fK4 : w2.frozen? ⟨K, 4, none⟩ = false := frozen_of_row _ _ 4 _ _ OKw2.out
 have cK5 : w2.cell? ⟨K, 5, none⟩ = some (.slice og G.length cg) := by rw [cell_of_row _ _ 5 _ _ _ OKw2.out]; rfl
 have fK5 : w2.frozen? ⟨K, 5, none⟩ = false := frozen_of_row _ _ 5 _ _ OKw2.out
 have cK6 : w2.cell? ⟨K, 6, none⟩ = some (.slice ov W.length cv) := by rw [cell_of_row _ _ 6 _ _ _ OKw2.out]; rfl
 have fK6 : w2.frozen? ⟨K, 6, none⟩ = false := frozen_of_row _ _ 6 _ _ OKw2.out
 obtain ⟨cd0, cd1, cd2, cd3, cd4, cd5, cd6⟩ := zY Odw2.out
 go_wp2_with fail
 clear cK0 cK1 cK2 cK3 cK4 cK5 cK6 fK0 fK1 fK2 fK3 fK4 fK5 fK6
 clear cd0 cd1 cd2 cd3 cd4 cd5 cd6
 go_ret2
 exact ⟨⟨rfl, fun h0 => ⟨x1, x2, x3, n1, y1, n2, y2, n3, y3, xv, x4, n4, y4, x5, n5, y5, x6, n6, y6, (heap_setCell_same _ K 6 _ _ (.slice x6 n6 y6) (heap_setCell_same _ K 5 _ _ (.slice x5 n5 y5) (heap_setCell_same _ K 4 _ _ (.slice x4 n4 y4) (heap_setCell_same _ K 3 _ _ (.int .i64 xv) (heap_setCell_same _ K 2 _ _ (.slice x3 n3 y3) (heap_setCell_same _ K 1 _ _ (.slice x2 n2 y2) (heap_setCell_same _ K 0 _ _ (.slice x1 n1 y1) OKw2.out))))))), (((((((((HQ.out h0).below Bw1w2.out).set (p := ⟨K, 0, none⟩) lK0 _).set (p := ⟨K, 1, none⟩) lK0 _).set (p := ⟨K, 2, none⟩) lK0 _).set (p := ⟨K, 3, none⟩) lK0 _).set (p := ⟨K, 4, none⟩) lK0 _).set (p := ⟨K, 5, none⟩) lK0 _).set (p := ⟨K, 6, none⟩) lK0 _)⟩⟩, ((((((((Kq.ofBelow (S := fun k => k = K) Bww2.out).setK 0 _).setK 1 _).setK 2 _).setK 3 _).setK 4 _).setK 5 _).setK 6 _)⟩
theorem winC_any (ov : Option Addr) (cv : Nat) (W : List VW) (who : Int) (q b : Nat) (w : World) (hv : zZ w ov W) (hl : W.length ≤ 9223372036854775807) (hq : w.heap[q]? = some (.cells #[.int .i64 who] 3)) (hb : w.heap[b]? = some (.cells #[.int .i64 0] 3)) :
  Calls Tryz.prog 116 #[.slice ov W.length cv, .pointer (some ⟨q, 0, none⟩), .pointer (some ⟨b, 0, none⟩)] w fun e w' => (∃ o' n c', e = .returned (.tuple #[.slice o' n c', .int .i64 (winE W who)]) ∧ qK w' (.slice o' n c') (winR W who) ∧ zK w.heap.size (.slice o' n c') ∧ w'.heap[b]? = some (.cells #[.int .i64 (if winB W who = true then 1 else 0)] 3)) ∧ Kq (fun k => k = b) w w' := by
 have HV := zA hv
 have H1 := zA (fun X (h : zZ X ov W) => win_any ov cv W who X h hl)
 have hlt : b < w.heap.size := (Array.getElem?_eq_some_iff.1 hb).1
 have hlt2 : q < w.heap.size := (Array.getElem?_eq_some_iff.1 hq).1
 have c0 : w.cell? ⟨q, 0, none⟩ = some (.int .i64 who) := (cell_of_row _ _ 0 _ _ _ hq).trans rfl
 have HB := zA hb
 clear hv hb hq
 obtain ⟨NW, hNW⟩ : ∃ n : Int, n = (if winB W who = true then 1 else 0) := ⟨_, rfl⟩
 rw [← hNW]
 generalize hR : winB W who = R at *
 go_enter Tryz.func116, Tryz.ntmps116
 go_wp2_with fail
 refine (H1.out _ HV.out).mono ?_
 rintro e w1 ⟨⟨o', n, c', rfl, hvv, hf⟩, hbb⟩
 have HV1 := zA hvv
 have HF := zA hf
 have HBB := zA hbb
 have HB1 := zA (zC HB.out hbb)
 clear hvv hf hbb HB c0
 have d0 : w1.cell? ⟨b, 0, none⟩ = some (.int .i64 0) := (cell_of_row _ _ 0 _ _ _ HB1.out).trans rfl
 have e0 : w1.frozen? ⟨b, 0, none⟩ = false := frozen_of_row _ _ 0 _ _ HB1.out
 clear hlt2
 cases R
 ·obtain rfl : NW = 0 := by simpa using hNW
  clear hNW hR
  go_wp2_with fail
  go_ret2
  exact ⟨⟨o', n, c', rfl, HV1.out, HF.out, HB1.out⟩, .ofBelow HBB.out⟩
 ·obtain rfl : NW = 1 := by simpa using hNW
  clear hNW hR
  go_wp2_with fail
  go_ret2
  exact ⟨⟨o', n, c', rfl, HV1.out.setO (p := ⟨b, 0, none⟩) (zQ (by obtain ⟨rfl, -⟩ := HV1.out.eqs; exact HF.out) hlt) _, HF.out, heap_setCell_same _ b 0 _ _ _ HB1.out⟩, Kq.setK (Kq.ofBelow HBB.out) 0 _⟩
theorem enterWinC (args : Array Value) (W : World) : (callFunc 116 args).run Tryz.prog W = .ok (.enter 116 args) W := enters_of Tryz.func116 (by kernel_rfl) rfl args W
theorem enterDoC (args : Array Value) (W : World) : (callFunc 80 args).run Tryz.prog W = .ok (.enter 80 args) W := enters_of Tryz.func80 (by kernel_rfl) rfl args W
theorem winR_len {W : List VW} (who : Int) (h : W.length ≤ 100) : (winR W who).length ≤ 100 := by
 unfold winR winL yW
 split
 ·split
  ·simpa using h
  ·exact h
 ·simp
theorem setR_len {W : List VW} (who : Int) (b : Bool) (h : W.length ≤ 100) : (setR W who b).length ≤ 100 := by
 unfold setR setL
 split
 ·simpa using h
 ·simp
theorem Kq.back {X Y : Nat → Prop} {a b c : World} (hb : Below a.heap.size a b) (h : Kq X b c) (hX : ∀ k, k < a.heap.size → X k → Y k) : Kq Y a c :=
 ⟨h.os.trans hb.os, h.tape.trans hb.tape, h.output.trans hb.output, Nat.le_trans hb.size h.size, fun k hk hs => (h.block k (Nat.lt_of_lt_of_le hk hb.size) (fun hx => hs (hX k hk hx))).trans (hb.block k hk)⟩
theorem StW.kq {S : Nat → Prop} {w w' : World} {o1 o2 o3 od og ov : Option Addr} {c1 c2 c3 cd cg cv : Nat} {T : List TK} {P : List TP} {V D : List Int} {G : List GT} {W : List VW} (h : StW w o1 o2 o3 c1 c2 c3 T P V od cd D og cg G ov cv W) (hk : Kq S w w') (ho : ∀ b, S b → LtK b o1 o2 o3 od og ov T P V D G W) : StW w' o1 o2 o3 c1 c2 c3 T P V od cd D og cg G ov cv W := by
 obtain ⟨q1, q2, q3⟩ := h.led.parts3
 obtain ⟨-, t1, t2, t3⟩ := q1.eqs
 obtain ⟨-, v1, v2, v3⟩ := q3.eqs
 have ne : ∀ {α : Type} {o : Option Addr} {L : List α} (_ : ∀ b, S b → Off o L b) {b : Addr} {i : Nat} {x : α} (n : Nat), o = some b → L[i]? = some x → ¬ S (b.add n).block := fun {α o L} hh {b i x} n hb hi hS => by
  rw [yY] at hS
  exact hh _ hS b hb (by intro h0; rw [h0] at hi; simp at hi) rfl
 refine ⟨xW.of ⟨o1, c1, rfl, fun i x hi => ?_, t2, t3⟩ (q2.kq hk (fun b hb => (ho b hb).2.1)) ⟨o3, c3, rfl, fun i x hi => ?_, v2, v3⟩, h.lok, ⟨fun i x hi => ?_, h.den.2⟩, fun i g hi => ?_, h.gok, h.gle, h.gno, h.gln, fun i x hi => ?_, h.vle, h.vno, h.vln⟩
 ·obtain ⟨b, hb, a0, a1, a2, a3, a4, a5⟩ := t1 i x hi
  have hn := ne (fun b hb => (ho b hb).1) (i * 6) hb hi
  exact ⟨b, hb, hk.cell a0 hn, hk.cell a1 hn, hk.cell a2 hn, hk.cell a3 hn, hk.cell a4 hn, hk.cell a5 hn⟩
 ·obtain ⟨b, hb, a0⟩ := v1 i x hi
  exact ⟨b, hb, hk.cell a0 (ne (fun b hb => (ho b hb).2.2.1) i hb hi)⟩
 ·obtain ⟨b, hb, a0⟩ := h.den.1 i x hi
  exact ⟨b, hb, hk.cell a0 (ne (fun b hb => (ho b hb).2.2.2.1) i hb hi)⟩
 ·obtain ⟨b, hb, h8, h1, h2⟩ := h.gts i g hi
  have hn := ne (fun b hb => (ho b hb).2.2.2.2.1) (i * 8) hb hi
  have hm := fun b hb => (ho b hb).2.2.2.2.2.2 g (List.mem_of_getElem? hi)
  refine ⟨b, hb, ⟨hk.cell h8.c0 hn, hk.cell h8.c1 hn, hk.cell h8.c2 hn, hk.cell h8.c3 hn, hk.cell h8.c4 hn, hk.cell h8.c5 hn, hk.cell h8.c6 hn, hk.cell h8.c7 hn⟩, h1.kq hk (fun b hb => (hm b hb).1), ?_⟩
  obtain ⟨-, r1, r2, r3⟩ := h2.eqs
  refine ⟨g.od, g.cd, rfl, fun i x hi => ?_, r2, r3⟩
  obtain ⟨b, hb, a0⟩ := r1 i x hi
  exact ⟨b, hb, hk.cell a0 (ne (fun b hb => (hm b hb).2) i hb hi)⟩
 ·obtain ⟨b, hb, a0, a1, a2⟩ := h.vws i x hi
  have hn := ne (fun b hb => (ho b hb).2.2.2.2.2.1) (i * 3) hb hi
  exact ⟨b, hb, hk.cell a0 hn, hk.cell a1 hn, hk.cell a2 hn⟩
theorem setC_any (ov : Option Addr) (cv : Nat) (W : List VW) (a : AC) (b : Nat) (w : World) (hv : zZ w ov W) (hl : W.length ≤ 9223372036854775807) (hb : w.heap[b]? = some (.cells #[.int .i64 a.k, .int .i64 a.i, .int .i64 a.o, .int .i64 a.m, .int .i64 a.t.i, .int .i64 a.t.k, .int .i64 a.t.f, .int .i64 a.t.t, .int .i64 a.t.z, .int .i64 a.t.r] 36)) :
  Calls Tryz.prog 80 #[.slice ov W.length cv, .pointer (some ⟨b, 0, none⟩)] w fun e w' => (∃ o' n c', e = .returned (.tuple #[.slice o' n c', .int .i64 (qO W a.o 2)]) ∧ qK w' (.slice o' n c') (setR W a.o (a.k == 5)) ∧ zK w.heap.size (.slice o' n c')) ∧ Below w.heap.size w w' := by
 have HV := zA hv
 have H1 := zA (fun X u (h : zZ X ov W) => set_any ov cv W a.o u X h hl)
 have OA0 := zA hb
 have hlt : b < w.heap.size := (Array.getElem?_eq_some_iff.1 hb).1
 clear hv hb
 obtain ⟨cA0, cA1, cA2, cA3, cA4, cA5, cA6, cA7, cA8, cA9⟩ := qV OA0.out
 go_enter Tryz.func80, Tryz.ntmps80
 go_wp2_with fail
 refine (H1.out _ _ HV.out).mono ?_
 rintro e w1 ⟨⟨o', n, c', rfl, hvv, hf⟩, hbb⟩
 have HV1 := zA hvv
 have HF := zA hf
 have HBB := zA hbb
 clear hvv hf hbb
 go_wp2_with fail
 go_ret2
 exact ⟨⟨o', n, c', rfl, HV1.out, HF.out⟩, HBB.out⟩
theorem doerWin_any (K : Nat) (T : List TK) (P : List TP) (V : List Int) (dv : Int) (D : List Int) (G : List GT) (W : List VW) (o1 o2 o3 od og ov : Option Addr) (c1 c2 c3 cd cg cv : Nat) (who : Int) (w : World) (hK : w.heap[K]? = some (.cells #[.slice o1 T.length c1, .slice o2 P.length c2, .slice o3 V.length c3, .int .i64 dv, .slice od D.length cd, .slice og G.length cg, .slice ov W.length cv] 72)) (hs : StW w o1 o2 o3 c1 c2 c3 T P V od cd D og cg G ov cv W) (hk : LtK K o1 o2 o3 od og ov T P V D G W) (hW : W.length ≤ 100) :
  Calls Tryz.prog 81 #[.pointer (some ⟨K, 0, none⟩), .int .i64 who] w fun e w' => (e = .returned (.tuple #[.int .i64 (if winB W who = true then 1 else 0), .int .i64 (winE W who)]) ∧ ∃ o' c', w'.heap[K]? = some (.cells #[.slice o1 T.length c1, .slice o2 P.length c2, .slice o3 V.length c3, .int .i64 dv, .slice od D.length cd, .slice og G.length cg, .slice o' (winR W who).length c'] 72) ∧ StW w' o1 o2 o3 c1 c2 c3 T P V od cd D og cg G o' c' (winR W who) ∧ zK w.heap.size (.slice o' (winR W who).length c')) ∧ Kq (fun k => k = K) w w' := by
 have HB := zA (((zL.nil w).more (.cells #[.int .i64 who] 3) (by simp)).more (.cells #[.int .i64 0] 3) (by simp))
 have lK0 : K < w.heap.size := (Array.getElem?_eq_some_iff.1 hK).1
 have hx := hs.ltk (K := w.heap.size + 1) (by omega)
 have HSV := zA (fun X (h1 : X.heap[K]? = some (.cells #[.slice o1 T.length c1, .slice o2 P.length c2, .slice o3 V.length c3, .int .i64 dv, .slice od D.length cd, .slice og G.length cg, .slice ov W.length cv] 72)) (h2 : StW X o1 o2 o3 c1 c2 c3 T P V od cd D og cg G ov cv W) (h3 : X.heap[w.heap.size]? = some (.cells #[.int .i64 who] 3)) (h4 : X.heap[w.heap.size + 1]? = some (.cells #[.int .i64 0] 3)) => setViews_any 116 #[.pointer (some ⟨w.heap.size, 0, none⟩), .pointer (some ⟨w.heap.size + 1, 0, none⟩)] enterWinC (fun k => k = w.heap.size + 1) K T P V dv D G W o1 o2 o3 od og ov c1 c2 c3 cd cg cv X h1 hk
   (fun E W' w2 => E = winE W who ∧ W' = winR W who ∧ w2.heap[w.heap.size + 1]? = some (.cells #[.int .i64 (if winB W who = true then 1 else 0)] 3)) (fun E W' w2 u h => ⟨h.1, h.2.1, by rw [heap_setCell_other w2 _ _ _ (by show w.heap.size + 1 ≠ K; omega)]; exact h.2.2⟩)
   ((winC_any ov cv W who w.heap.size (w.heap.size + 1) X h2.vws h2.vln h3 h4).mono (fun e w2 h => by
    obtain ⟨⟨o', n, c', he, hv, hf, hw⟩, hq⟩ := h
    have hKn : ¬ K = w.heap.size + 1 := by omega
    refine ⟨o', n, c', winE W who, winR W who, he, hv, hf, hq.obj h1 hKn, ?_, winR_len who hW, ⟨rfl, rfl, hw⟩, hq⟩
    exact h2.kq hq (fun k hk' => by rw [hk']; exact hx))))
 have OK0 := zA hK
 have HS := zA hs
 clear hK hs
 obtain ⟨NW, hNW⟩ : ∃ n : Int, n = (if winB W who = true then 1 else 0) := ⟨_, rfl⟩
 rw [← hNW] at HSV ⊢
 clear hNW
 go_enter Tryz.func81, Tryz.ntmps81
 go_wp2_with fail
 refine (HSV.out _ (zC OK0.out HB.out.2.2) (HS.out.below HB.out.2.2) (HB.out.1 0 _ rfl) (HB.out.1 1 _ rfl)).mono ?_
 rintro e w2 ⟨⟨E, W', o', c', rfl, h1, h2, h3, rfl, rfl, h6⟩, hq⟩
 have H1 := zA h1
 have H2 := zA h2
 have H3 := zA h3
 have HQ := zA hq
 have d0 : w2.cell? ⟨w.heap.size + 1, 0, none⟩ = some (.int .i64 NW) := (cell_of_row _ _ 0 _ _ _ h6).trans rfl
 clear h1 h2 h3 h6 hq HSV
 go_wp2_with fail
 go_ret2
 refine ⟨⟨rfl, o', c', H1.out, H2.out, H3.out.mono (by have := HB.out.2.2.size; exact this)⟩, ?_⟩
 have hb := HB.out.2.2
 refine Kq.back hb HQ.out (fun k hk h => ?_)
 rcases h with h | h
 ·exact h
 ·omega
theorem FrS.den {B : Nat} {o1 o2 o3 od og ov od' : Option Addr} {c1 c2 c3 cd cg cv cd' : Nat} {T : List TK} {P : List TP} {V D D' : List Int} {G : List GT} {W : List VW} (h : FrS B o1 o2 o3 od og ov c1 c2 c3 cd cg cv T P V D G W) (hd : zK B (.slice od' D'.length cd')) : FrS B o1 o2 o3 od' og ov c1 c2 c3 cd' cg cv T P V D' G W := ⟨h.1, h.2.1, h.2.2.1, hd, h.2.2.2.2⟩
theorem FrS.vw {B : Nat} {o1 o2 o3 od og ov ov' : Option Addr} {c1 c2 c3 cd cg cv cv' : Nat} {T : List TK} {P : List TP} {V D : List Int} {G : List GT} {W W' : List VW} (h : FrS B o1 o2 o3 od og ov c1 c2 c3 cd cg cv T P V D G W) (hd : zK B (.slice ov' W'.length cv')) : FrS B o1 o2 o3 od og ov' c1 c2 c3 cd cg cv' T P V D G W' := ⟨h.1, h.2.1, h.2.2.1, h.2.2.2.1, h.2.2.2.2.1, hd, h.2.2.2.2.2.2⟩
theorem StB.mono {w : World} {B C K : Nat} {s : SS} (h : StB w B K s) (hC : C ≤ B) : StB w C K s := by
 obtain ⟨x1, x2, x3, n1, y1, n2, y2, n3, y3, xv, x4, n4, y4, x5, n5, y5, x6, n6, y6, h1, h2⟩ := h
 exact ⟨x1, x2, x3, n1, y1, n2, y2, n3, y3, xv, x4, n4, y4, x5, n5, y5, x6, n6, y6, h1, h2.mono hC⟩
theorem StB.store {w : World} {B K : Nat} {x1 x2 x3 : Option Addr} {n1 y1 n2 y2 n3 y3 : Nat} {xv : Int} {x4 : Option Addr} {n4 y4 : Nat} {x5 : Option Addr} {n5 y5 : Nat} {x6 : Option Addr} {n6 y6 : Nat} {s : SS} {z0 z1 z2 z3 z4 z5 z6 : Value} (hK : w.heap[K]? = some (.cells #[z0, z1, z2, z3, z4, z5, z6] 72 (0, 0))) (h : StQ w B x1 x2 x3 n1 y1 n2 y2 n3 y3 xv x4 n4 y4 x5 n5 y5 x6 n6 y6 s) (hB : K < B) : StB (((((((w.setCell ⟨K, 0, none⟩ (.slice x1 n1 y1)).setCell ⟨K, 1, none⟩ (.slice x2 n2 y2)).setCell ⟨K, 2, none⟩ (.slice x3 n3 y3)).setCell ⟨K, 3, none⟩ (.int .i64 xv)).setCell ⟨K, 4, none⟩ (.slice x4 n4 y4)).setCell ⟨K, 5, none⟩ (.slice x5 n5 y5)).setCell ⟨K, 6, none⟩ (.slice x6 n6 y6)) B K s :=
 ⟨x1, x2, x3, n1, y1, n2, y2, n3, y3, xv, x4, n4, y4, x5, n5, y5, x6, n6, y6, (heap_setCell_same _ K 6 _ _ _ (heap_setCell_same _ K 5 _ _ _ (heap_setCell_same _ K 4 _ _ _ (heap_setCell_same _ K 3 _ _ _ (heap_setCell_same _ K 2 _ _ _ (heap_setCell_same _ K 1 _ _ _ (heap_setCell_same w K 0 _ _ _ hK))))))), ((((((h.set (p := ⟨K, 0, none⟩) hB _).set (p := ⟨K, 1, none⟩) hB _).set (p := ⟨K, 2, none⟩) hB _).set (p := ⟨K, 3, none⟩) hB _).set (p := ⟨K, 4, none⟩) hB _).set (p := ⟨K, 5, none⟩) hB _).set (p := ⟨K, 6, none⟩) hB _⟩
theorem StW.store {w : World} {o1 o2 o3 od og ov : Option Addr} {c1 c2 c3 cd cg cv : Nat} {T : List TK} {P : List TP} {V D : List Int} {G : List GT} {W : List VW} (h : StW w o1 o2 o3 c1 c2 c3 T P V od cd D og cg G ov cv W) {K : Nat} (hk : LtK K o1 o2 o3 od og ov T P V D G W) (x1 x2 x3 : Option Addr) (n1 y1 n2 y2 n3 y3 : Nat) (xv : Int) (x4 : Option Addr) (n4 y4 : Nat) (x5 : Option Addr) (n5 y5 : Nat) (x6 : Option Addr) (n6 y6 : Nat) : StW (((((((w.setCell ⟨K, 0, none⟩ (.slice x1 n1 y1)).setCell ⟨K, 1, none⟩ (.slice x2 n2 y2)).setCell ⟨K, 2, none⟩ (.slice x3 n3 y3)).setCell ⟨K, 3, none⟩ (.int .i64 xv)).setCell ⟨K, 4, none⟩ (.slice x4 n4 y4)).setCell ⟨K, 5, none⟩ (.slice x5 n5 y5)).setCell ⟨K, 6, none⟩ (.slice x6 n6 y6)) o1 o2 o3 c1 c2 c3 T P V od cd D og cg G ov cv W :=
 ((((((h.setO (p := ⟨K, 0, none⟩) hk _).setO (p := ⟨K, 1, none⟩) hk _).setO (p := ⟨K, 2, none⟩) hk _).setO (p := ⟨K, 3, none⟩) hk _).setO (p := ⟨K, 4, none⟩) hk _).setO (p := ⟨K, 5, none⟩) hk _).setO (p := ⟨K, 6, none⟩) hk _
theorem Kq.store {a w : World} {K : Nat} (h : Kq (fun k => k = K) a w) (x1 x2 x3 : Option Addr) (n1 y1 n2 y2 n3 y3 : Nat) (xv : Int) (x4 : Option Addr) (n4 y4 : Nat) (x5 : Option Addr) (n5 y5 : Nat) (x6 : Option Addr) (n6 y6 : Nat) : Kq (fun k => k = K) a (((((((w.setCell ⟨K, 0, none⟩ (.slice x1 n1 y1)).setCell ⟨K, 1, none⟩ (.slice x2 n2 y2)).setCell ⟨K, 2, none⟩ (.slice x3 n3 y3)).setCell ⟨K, 3, none⟩ (.int .i64 xv)).setCell ⟨K, 4, none⟩ (.slice x4 n4 y4)).setCell ⟨K, 5, none⟩ (.slice x5 n5 y5)).setCell ⟨K, 6, none⟩ (.slice x6 n6 y6)) :=
 ((((((h.setK 0 _).setK 1 _).setK 2 _).setK 3 _).setK 4 _).setK 5 _).setK 6 _
theorem heap_store {w : World} {K q : Nat} {oo : Obj} (h : w.heap[q]? = some oo) (hn : K ≠ q) (x1 x2 x3 : Option Addr) (n1 y1 n2 y2 n3 y3 : Nat) (xv : Int) (x4 : Option Addr) (n4 y4 : Nat) (x5 : Option Addr) (n5 y5 : Nat) (x6 : Option Addr) (n6 y6 : Nat) : (((((((w.setCell ⟨K, 0, none⟩ (.slice x1 n1 y1)).setCell ⟨K, 1, none⟩ (.slice x2 n2 y2)).setCell ⟨K, 2, none⟩ (.slice x3 n3 y3)).setCell ⟨K, 3, none⟩ (.int .i64 xv)).setCell ⟨K, 4, none⟩ (.slice x4 n4 y4)).setCell ⟨K, 5, none⟩ (.slice x5 n5 y5)).setCell ⟨K, 6, none⟩ (.slice x6 n6 y6)).heap[q]? = some oo :=
 zD (zD (zD (zD (zD (zD (zD h (p := ⟨K, 0, none⟩) hn _) (p := ⟨K, 1, none⟩) hn _) (p := ⟨K, 2, none⟩) hn _) (p := ⟨K, 3, none⟩) hn _) (p := ⟨K, 4, none⟩) hn _) (p := ⟨K, 5, none⟩) hn _) (p := ⟨K, 6, none⟩) hn _
theorem do1_any (K B : Nat) (T : List TK) (P : List TP) (V : List Int) (dv : Int) (D : List Int) (G : List GT) (W : List VW) (o1 o2 o3 od og ov : Option Addr) (c1 c2 c3 cd cg cv : Nat) (a : AC) (w : World) (hK : w.heap[K]? = some (.cells #[.slice o1 T.length c1, .slice o2 P.length c2, .slice o3 V.length c3, .int .i64 dv, .slice od D.length cd, .slice og G.length cg, .slice ov W.length cv] 72)) (hs : StW w o1 o2 o3 c1 c2 c3 T P V od cd D og cg G ov cv W) (hf : FrS B o1 o2 o3 od og ov c1 c2 c3 cd cg cv T P V D G W) (hB : B ≤ K) (hk : LtK K o1 o2 o3 od og ov T P V D G W) (hc : yP T P V dv D G W = 0) (hh : a.k = 1) :
  Calls Tryz.prog 31 #[.pointer (some ⟨K, 0, none⟩), acV a] w fun e w' => (e = .returned (.tuple #[.int .i64 (doN ⟨T, P, V, dv, D, G.map GT.p, W⟩ a), .int .i64 (doE ⟨T, P, V, dv, D, G.map GT.p, W⟩ a)]) ∧ (doE ⟨T, P, V, dv, D, G.map GT.p, W⟩ a = 0 → StB w' B K (doS ⟨T, P, V, dv, D, G.map GT.p, W⟩ a))) ∧ Kq (fun k => k = K) w w' := by
 have hE : doE ⟨T, P, V, dv, D, G.map GT.p, W⟩ a = sellK T P V W a.t := by
  unfold doE
  rw [if_pos (by omega)]
 have hN : doN ⟨T, P, V, dv, D, G.map GT.p, W⟩ a = 0 := by
  unfold doN
  rw [if_neg (by omega), if_neg (by omega), if_neg (by omega)]
 have hS : doS ⟨T, P, V, dv, D, G.map GT.p, W⟩ a = ⟨qI T a.t, P, V, dv, D, G.map GT.p, W⟩ := by
  unfold doS
  rw [if_pos (by omega)]
 rw [hE, hN, hS]
 clear hE hN hS
 have b1 : (a.k == 1) = true := by rw [hh]; rfl
 have b2 : (a.k == 2) = false := by rw [hh]; rfl
 have b3 : (a.k == 3) = false := by rw [hh]; rfl
 have b4 : (a.k == 4) = false := by rw [hh]; rfl
 have b5 : (a.k == 5) = false := by rw [hh]; rfl
 have b6 : (a.k == 6) = false := by rw [hh]; rfl
 have b7 : (a.k == 7) = false := by rw [hh]; rfl
 clear hh
 have HB := zA ((zL.nil w).more (.cells #[.int .i64 a.k, .int .i64 a.i, .int .i64 a.o, .int .i64 a.m, .int .i64 a.t.i, .int .i64 a.t.k, .int .i64 a.t.f, .int .i64 a.t.t, .int .i64 a.t.z, .int .i64 a.t.r] 36) (by simp))
 have Hw := zA HB.out.2.2
 have OA0 := zA (show _ = _ from HB.out.1 0 _ rfl)
 rw [Nat.add_zero] at OA0
 have lKw : K < w.heap.size := (Array.getElem?_eq_some_iff.1 hK).1
 have OK0 := zA (zC hK HB.out.2.2)
 have HS := zA (hs.below HB.out.2.2)
 have HS0 := zA hs
 have HK := zA hk
 have HF := zA hf
 have HC := zA hc
 clear hK hs hk hf hc HB
 have hz0 : w.heap.size < (w.alloc (.cells #[.int .i64 a.k, .int .i64 a.i, .int .i64 a.o, .int .i64 a.m, .int .i64 a.t.i, .int .i64 a.t.k, .int .i64 a.t.f, .int .i64 a.t.t, .int .i64 a.t.z, .int .i64 a.t.r] 36)).heap.size := by simp
 have H1 := zA (fun X (h : StW X o1 o2 o3 c1 c2 c3 T P V od cd D og cg G ov cv W) => sellTwo T P V dv D G W o1 o2 o3 od og ov c1 c2 c3 cd cg cv a.t X h HC.out)
 generalize sellK T P V W a.t = E at *
 clear HC
 obtain ⟨cA0, cA1, cA2, cA3, cA4, cA5, cA6, cA7, cA8, cA9⟩ := qV OA0.out
 go_enter Tryz.func31, Tryz.ntmps31
 go_upto_region 3 with fail
 generalize (w.alloc (.cells #[.int .i64 a.k, .int .i64 a.i, .int .i64 a.o, .int .i64 a.m, .int .i64 a.t.i, .int .i64 a.t.k, .int .i64 a.t.f, .int .i64 a.t.t, .int .i64 a.t.z, .int .i64 a.t.r] 36)) = w0 at *
 clear cA0 cA1 cA2 cA3 cA4 cA5 cA6 cA7 cA8 cA9
 refine zJ (fun w' => StW w' o1 o2 o3 c1 c2 c3 T P V od cd D og cg G ov cv W ∧ w'.heap[w.heap.size]? = some (.cells #[.int .i64 a.k, .int .i64 a.i, .int .i64 a.o, .int .i64 a.m, .int .i64 a.t.i, .int .i64 a.t.k, .int .i64 a.t.f, .int .i64 a.t.t, .int .i64 a.t.z, .int .i64 a.t.r] 36)) [0, 1, 2, 3, 5, 6] 9 (by rfl) (by kernel_rfl) (by kernel_rfl) (by kernel_rfl) (fun c d v a w h => by cases d <;> exact h) ?_ ?_
 ·exact ⟨HS.out.below (Below.refl _ _).drew, zC OA0.out (Below.refl _ _).drew⟩
 refine zB (.pointer (some ⟨K, 0, none⟩)) rfl rfl (fun w' hS => ?_) ?_
 ·go_simp
 refine zB (.pointer (some ⟨K, 0, none⟩)) rfl rfl (fun w' hS => ?_) ?_
 ·go_simp
 refine zB (.pointer (some ⟨K, 0, none⟩)) rfl rfl (fun w' hS => ?_) ?_
 ·go_simp
 refine zB (.pointer (some ⟨K, 0, none⟩)) rfl rfl (fun w' hS => ?_) ?_
 ·go_simp
 refine zB (.pointer (some ⟨w.heap.size, 4, none⟩)) rfl rfl (fun w' hS => ?_) ?_
 ·go_simp
 refine zB (tk a.t.i a.t.k a.t.f a.t.t a.t.z a.t.r) rfl rfl (fun w' hS => ?_) ?_
 ·have u4 : w'.cell? ⟨w.heap.size, 4, none⟩ = some (.int .i64 a.t.i) := (cell_of_row _ _ 4 _ _ _ hS.2).trans rfl
  have u5 : w'.cell? ⟨w.heap.size, 5, none⟩ = some (.int .i64 a.t.k) := (cell_of_row _ _ 5 _ _ _ hS.2).trans rfl
  have u6 : w'.cell? ⟨w.heap.size, 6, none⟩ = some (.int .i64 a.t.f) := (cell_of_row _ _ 6 _ _ _ hS.2).trans rfl
  have u7 : w'.cell? ⟨w.heap.size, 7, none⟩ = some (.int .i64 a.t.t) := (cell_of_row _ _ 7 _ _ _ hS.2).trans rfl
  have u8 : w'.cell? ⟨w.heap.size, 8, none⟩ = some (.int .i64 a.t.z) := (cell_of_row _ _ 8 _ _ _ hS.2).trans rfl
  have u9 : w'.cell? ⟨w.heap.size, 9, none⟩ = some (.int .i64 a.t.r) := (cell_of_row _ _ 9 _ _ _ hS.2).trans rfl
  go_simp
 refine zE ?_
 have HSd := zA (HS.out.below (Below.refl _ _).drew)
 have OAd := zA (zC OA0.out (Below.refl _ _).drew)
 have OKd := zA (zC OK0.out (Below.refl _ _).drew)
 have Hd := zA (Hw.out.trans ((Below.refl w0.heap.size w0).drew.mono Hw.out.size))
 have hzd : w.heap.size < w0.drew.heap.size := hz0
 clear HS OA0 OK0 Hw
 generalize (World.drew _) = wd at *
 obtain ⟨cK0, cK1, cK2, cK3, cK4, cK5, cK6⟩ := zY OKd.out
 refine oR 4 rfl rfl fun J hJ => ?_
 go_simp
 refine hJ _ _ ⟨HSd.out, OAd.out⟩ ?_
 clear hJ J
 refine oR 7 rfl rfl fun J hJ => ?_
 go_simp
 clear cK0 cK1 cK2 cK3 cK4 cK5 cK6
 refine (H1.out _ HSd.out).mono ?_
 rintro e w2 ⟨⟨x1, x2, x3, n1, y1, n2, y2, n3, y3, xv, x4, n4, y4, x5, n5, y5, x6, n6, y6, rfl, hq⟩, hb⟩
 have Bww2 := trR Hd hb
 have OKw2 := atR OKd hb
 have OAw2 := atR OAd hb
 have zww2 := Bww2.out.size
 have lKw2 := ltR OKw2
 have lAw2 := ltR OAw2
 clear hb Hd OKd OAd
 have HQ := zA hq
 clear hq
 have cK0 : w2.cell? ⟨K, 0, none⟩ = some (.slice o1 T.length c1) := by rw [cell_of_row _ _ 0 _ _ _ OKw2.out]; rfl
 have fK0 : w2.frozen? ⟨K, 0, none⟩ = false := frozen_of_row _ _ 0 _ _ OKw2.out
 have cK1 : w2.cell? ⟨K, 1, none⟩ = some (.slice o2 P.length c2) := by rw [cell_of_row _ _ 1 _ _ _ OKw2.out]; rfl
 have fK1 : w2.frozen? ⟨K, 1, none⟩ = false := frozen_of_row _ _ 1 _ _ OKw2.out
 have cK2 : w2.cell? ⟨K, 2, none⟩ = some (.slice o3 V.length c3) := by rw [cell_of_row _ _ 2 _ _ _ OKw2.out]; rfl
 have fK2 : w2.frozen? ⟨K, 2, none⟩ = false := frozen_of_row _ _ 2 _ _ OKw2.out
 have cK3 : w2.cell? ⟨K, 3, none⟩ = some (.int .i64 dv) := by rw [cell_of_row _ _ 3 _ _ _ OKw2.out]; rfl
 have fK3 : w2.frozen? ⟨K, 3, none⟩ = false := frozen_of_row _ _ 3 _ _ OKw2.out
 have cK4 : w2.cell? ⟨K, 4, none⟩ = some (.slice od D.length cd) := by rw [cell_of_row _ _ 4 _ _ _ OKw2.out]; rfl
 have fK4 : w2.frozen? ⟨K, 4, none⟩ = false := frozen_of_row _ _ 4 _ _ OKw2.out
 have cK5 : w2.cell? ⟨K, 5, none⟩ = some (.slice og G.length cg) := by rw [cell_of_row _ _ 5 _ _ _ OKw2.out]; rfl
 have fK5 : w2.frozen? ⟨K, 5, none⟩ = false := frozen_of_row _ _ 5 _ _ OKw2.out
 have cK6 : w2.cell? ⟨K, 6, none⟩ = some (.slice ov W.length cv) := by rw [cell_of_row _ _ 6 _ _ _ OKw2.out]; rfl
 have fK6 : w2.frozen? ⟨K, 6, none⟩ = false := frozen_of_row _ _ 6 _ _ OKw2.out
 refine hJ _ _ ⟨(HS0.out.below Bww2.out), OAw2.out⟩ ?_
 clear hJ J
 refine yB (fuel := 4) (by kernel_rfl) (fun c d v a w h => by cases d <;> exact h) ⟨(HS0.out.below Bww2.out), OAw2.out⟩ [8, 9, 10] _ _ (by kernel_rfl) ?_
 refine pS (.tuple #[stV x1 x2 x3 n1 y1 n2 y2 n3 y3 xv x4 n4 y4 x5 n5 y5 x6 n6 y6, .int .i64 E]) rfl rfl ?_
 refine pS (stV x1 x2 x3 n1 y1 n2 y2 n3 y3 xv x4 n4 y4 x5 n5 y5 x6 n6 y6) rfl rfl ?_
 refine pS (.int .i64 E) rfl rfl ?_
 refine zE ?_
 refine oR 11 rfl rfl fun J hJ => ?_
 go_simp
 refine hJ _ _ ⟨(HS0.out.below Bww2.out), OAw2.out⟩ ?_
 clear hJ J
 refine oR 12 rfl rfl fun J hJ => ?_
 go_simp
 refine hJ _ _ ⟨(HS0.out.below Bww2.out), OAw2.out⟩ ?_
 clear hJ J
 refine oR 13 rfl rfl fun J hJ => ?_
 go_simp
 have HSz := zA ((HS0.out.below Bww2.out).store HK.out x1 x2 x3 n1 y1 n2 y2 n3 y3 xv x4 n4 y4 x5 n5 y5 x6 n6 y6)
 have OAz := zA (heap_store OAw2.out (K := K) (by omega) x1 x2 x3 n1 y1 n2 y2 n3 y3 xv x4 n4 y4 x5 n5 y5 x6 n6 y6)
 have HKz := zA (Kq.store (K := K) (Kq.ofBelow Bww2.out) x1 x2 x3 n1 y1 n2 y2 n3 y3 xv x4 n4 y4 x5 n5 y5 x6 n6 y6)
 have HBz := zA (fun h0 => StB.store OKw2.out (HQ.out h0) (by omega))
 refine hJ _ _ ⟨HSz.out, OAz.out⟩ ?_
 clear hJ J
 clear cK0 cK1 cK2 cK3 cK4 cK5 cK6 fK0 fK1 fK2 fK3 fK4 fK5 fK6
 generalize World.setCell _ ⟨K, 6, none⟩ _ = wz at *
 refine oR 14 rfl rfl fun J hJ => ?_
 go_simp
 refine hJ _ _ ⟨HSz.out, OAz.out⟩ ?_
 clear hJ J
 refine wpAnyH_done (by kernel_rfl) ?_ _
 go_wp2_with fail
 go_ret2
 exact ⟨⟨rfl, fun h0 => (HBz.out h0).mono (by omega)⟩, HKz.out⟩
theorem do2_any (K B : Nat) (T : List TK) (P : List TP) (V : List Int) (dv : Int) (D : List Int) (G : List GT) (W : List VW) (o1 o2 o3 od og ov : Option Addr) (c1 c2 c3 cd cg cv : Nat) (a : AC) (w : World) (hK : w.heap[K]? = some (.cells #[.slice o1 T.length c1, .slice o2 P.length c2, .slice o3 V.length c3, .int .i64 dv, .slice od D.length cd, .slice og G.length cg, .slice ov W.length cv] 72)) (hs : StW w o1 o2 o3 c1 c2 c3 T P V od cd D og cg G ov cv W) (hf : FrS B o1 o2 o3 od og ov c1 c2 c3 cd cg cv T P V D G W) (hB : B ≤ K) (hk : LtK K o1 o2 o3 od og ov T P V D G W) (hc : yP T P V dv D G W = 0) (hh : a.k = 2) :
  Calls Tryz.prog 31 #[.pointer (some ⟨K, 0, none⟩), acV a] w fun e w' => (e = .returned (.tuple #[.int .i64 (doN ⟨T, P, V, dv, D, G.map GT.p, W⟩ a), .int .i64 (doE ⟨T, P, V, dv, D, G.map GT.p, W⟩ a)]) ∧ (doE ⟨T, P, V, dv, D, G.map GT.p, W⟩ a = 0 → StB w' B K (doS ⟨T, P, V, dv, D, G.map GT.p, W⟩ a))) ∧ Kq (fun k => k = K) w w' := by
 have hE : doE ⟨T, P, V, dv, D, G.map GT.p, W⟩ a = (tapR T P V dv D (G.map GT.p) W a.i a.o a.m).2 := by
  unfold doE
  rw [if_neg (by omega), if_pos (by omega)]
 have hN : doN ⟨T, P, V, dv, D, G.map GT.p, W⟩ a = (tapR T P V dv D (G.map GT.p) W a.i a.o a.m).1 := by
  unfold doN
  rw [if_pos (by omega)]
 have hS : doS ⟨T, P, V, dv, D, G.map GT.p, W⟩ a = ⟨T, pTap W (gAt (G.map GT.p) a.o) P a.i a.o a.m, vTap W (gAt (G.map GT.p) a.o) V (tapR T P V dv D (G.map GT.p) W a.i a.o a.m).1, dv, D, (G.map GT.p).set a.o.toNat (gTap W (gAt (G.map GT.p) a.o) (tAt T a.i) a.m), W⟩ := by
  unfold doS
  rw [if_neg (by omega), if_pos (by omega)]
 rw [hE, hN, hS]
 clear hE hN hS
 have b1 : (a.k == 1) = false := by rw [hh]; rfl
 have b2 : (a.k == 2) = true := by rw [hh]; rfl
 have b3 : (a.k == 3) = false := by rw [hh]; rfl
 have b4 : (a.k == 4) = false := by rw [hh]; rfl
 have b5 : (a.k == 5) = false := by rw [hh]; rfl
 have b6 : (a.k == 6) = false := by rw [hh]; rfl
 have b7 : (a.k == 7) = false := by rw [hh]; rfl
 clear hh
 have HB := zA ((zL.nil w).more (.cells #[.int .i64 a.k, .int .i64 a.i, .int .i64 a.o, .int .i64 a.m, .int .i64 a.t.i, .int .i64 a.t.k, .int .i64 a.t.f, .int .i64 a.t.t, .int .i64 a.t.z, .int .i64 a.t.r] 36) (by simp))
 have Hw := zA HB.out.2.2
 have OA0 := zA (show _ = _ from HB.out.1 0 _ rfl)
 rw [Nat.add_zero] at OA0
 have lKw : K < w.heap.size := (Array.getElem?_eq_some_iff.1 hK).1
 have OK0 := zA (zC hK HB.out.2.2)
 have HS := zA (hs.below HB.out.2.2)
 have HS0 := zA hs
 have HK := zA hk
 have HF := zA hf
 have HC := zA hc
 clear hK hs hk hf hc HB
 have hz0 : w.heap.size < (w.alloc (.cells #[.int .i64 a.k, .int .i64 a.i, .int .i64 a.o, .int .i64 a.m, .int .i64 a.t.i, .int .i64 a.t.k, .int .i64 a.t.f, .int .i64 a.t.t, .int .i64 a.t.z, .int .i64 a.t.r] 36)).heap.size := by simp
 have H1 := zA (fun X (h : StW X o1 o2 o3 c1 c2 c3 T P V od cd D og cg G ov cv W) => tapTwo T P V dv D G W o1 o2 o3 od og ov c1 c2 c3 cd cg cv a.i a.o a.m X h HC.out)
 generalize (⟨T, pTap W (gAt (G.map GT.p) a.o) P a.i a.o a.m, vTap W (gAt (G.map GT.p) a.o) V (tapR T P V dv D (G.map GT.p) W a.i a.o a.m).1, dv, D, (G.map GT.p).set a.o.toNat (gTap W (gAt (G.map GT.p) a.o) (tAt T a.i) a.m), W⟩ : SS) = S2 at *
 generalize (tapR T P V dv D (G.map GT.p) W a.i a.o a.m).1 = R1 at *
 generalize (tapR T P V dv D (G.map GT.p) W a.i a.o a.m).2 = R2 at *
 clear HC
 obtain ⟨cA0, cA1, cA2, cA3, cA4, cA5, cA6, cA7, cA8, cA9⟩ := qV OA0.out
 go_enter Tryz.func31, Tryz.ntmps31
 go_upto_region 5 with fail
 generalize (w.alloc (.cells #[.int .i64 a.k, .int .i64 a.i, .int .i64 a.o, .int .i64 a.m, .int .i64 a.t.i, .int .i64 a.t.k, .int .i64 a.t.f, .int .i64 a.t.t, .int .i64 a.t.z, .int .i64 a.t.r] 36)) = w0 at *
 clear cA0 cA1 cA2 cA3 cA4 cA5 cA6 cA7 cA8 cA9
 refine zJ (fun w' => StW w' o1 o2 o3 c1 c2 c3 T P V od cd D og cg G ov cv W ∧ w'.heap[w.heap.size]? = some (.cells #[.int .i64 a.k, .int .i64 a.i, .int .i64 a.o, .int .i64 a.m, .int .i64 a.t.i, .int .i64 a.t.k, .int .i64 a.t.f, .int .i64 a.t.t, .int .i64 a.t.z, .int .i64 a.t.r] 36)) [0, 1, 2, 3, 5, 6, 7, 8, 9, 10] 11 (by rfl) (by kernel_rfl) (by kernel_rfl) (by kernel_rfl) (fun c d v a w h => by cases d <;> exact h) ?_ ?_
 ·exact ⟨HS.out.below (Below.refl _ _).drew, zC OA0.out (Below.refl _ _).drew⟩
 refine zB (.pointer (some ⟨K, 0, none⟩)) rfl rfl (fun w' hS => ?_) ?_
 ·go_simp
 refine zB (.pointer (some ⟨K, 0, none⟩)) rfl rfl (fun w' hS => ?_) ?_
 ·go_simp
 refine zB (.pointer (some ⟨K, 0, none⟩)) rfl rfl (fun w' hS => ?_) ?_
 ·go_simp
 refine zB (.pointer (some ⟨K, 0, none⟩)) rfl rfl (fun w' hS => ?_) ?_
 ·go_simp
 refine zB (.pointer (some ⟨w.heap.size, 1, none⟩)) rfl rfl (fun w' hS => ?_) ?_
 ·go_simp
 refine zB (.int .i64 a.i) rfl rfl (fun w' hS => ?_) ?_
 ·have u1 : w'.cell? ⟨w.heap.size, 1, none⟩ = some (.int .i64 a.i) := (cell_of_row _ _ 1 _ _ _ hS.2).trans rfl
  go_simp
 refine zB (.pointer (some ⟨w.heap.size, 2, none⟩)) rfl rfl (fun w' hS => ?_) ?_
 ·go_simp
 refine zB (.int .i64 a.o) rfl rfl (fun w' hS => ?_) ?_
 ·have u2 : w'.cell? ⟨w.heap.size, 2, none⟩ = some (.int .i64 a.o) := (cell_of_row _ _ 2 _ _ _ hS.2).trans rfl
  go_simp
 refine zB (.pointer (some ⟨w.heap.size, 3, none⟩)) rfl rfl (fun w' hS => ?_) ?_
 ·go_simp
 refine zB (.int .i64 a.m) rfl rfl (fun w' hS => ?_) ?_
 ·have u3 : w'.cell? ⟨w.heap.size, 3, none⟩ = some (.int .i64 a.m) := (cell_of_row _ _ 3 _ _ _ hS.2).trans rfl
  go_simp
 refine zE ?_
 have HSd := zA (HS.out.below (Below.refl _ _).drew)
 have OAd := zA (zC OA0.out (Below.refl _ _).drew)
 have OKd := zA (zC OK0.out (Below.refl _ _).drew)
 have Hd := zA (Hw.out.trans ((Below.refl w0.heap.size w0).drew.mono Hw.out.size))
 have hzd : w.heap.size < w0.drew.heap.size := hz0
 clear HS OA0 OK0 Hw
 generalize (World.drew _) = wd at *
 obtain ⟨cK0, cK1, cK2, cK3, cK4, cK5, cK6⟩ := zY OKd.out
 refine oR 4 rfl rfl fun J hJ => ?_
 go_simp
 refine hJ _ _ ⟨HSd.out, OAd.out⟩ ?_
 clear hJ J
 refine oR 11 rfl rfl fun J hJ => ?_
 go_simp
 clear cK0 cK1 cK2 cK3 cK4 cK5 cK6
 refine (H1.out _ HSd.out).mono ?_
 rintro e w2 ⟨⟨x1, x2, x3, n1, y1, n2, y2, n3, y3, xv, x4, n4, y4, x5, n5, y5, x6, n6, y6, rfl, hq⟩, hb⟩
 have Bww2 := trR Hd hb
 have OKw2 := atR OKd hb
 have OAw2 := atR OAd hb
 have zww2 := Bww2.out.size
 have lKw2 := ltR OKw2
 have lAw2 := ltR OAw2
 clear hb Hd OKd OAd
 have HQ := zA hq
 clear hq
 have cK0 : w2.cell? ⟨K, 0, none⟩ = some (.slice o1 T.length c1) := by rw [cell_of_row _ _ 0 _ _ _ OKw2.out]; rfl
 have fK0 : w2.frozen? ⟨K, 0, none⟩ = false := frozen_of_row _ _ 0 _ _ OKw2.out
 have cK1 : w2.cell? ⟨K, 1, none⟩ = some (.slice o2 P.length c2) := by rw [cell_of_row _ _ 1 _ _ _ OKw2.out]; rfl
 have fK1 : w2.frozen? ⟨K, 1, none⟩ = false := frozen_of_row _ _ 1 _ _ OKw2.out
 have cK2 : w2.cell? ⟨K, 2, none⟩ = some (.slice o3 V.length c3) := by rw [cell_of_row _ _ 2 _ _ _ OKw2.out]; rfl
 have fK2 : w2.frozen? ⟨K, 2, none⟩ = false := frozen_of_row _ _ 2 _ _ OKw2.out
 have cK3 : w2.cell? ⟨K, 3, none⟩ = some (.int .i64 dv) := by rw [cell_of_row _ _ 3 _ _ _ OKw2.out]; rfl
 have fK3 : w2.frozen? ⟨K, 3, none⟩ = false := frozen_of_row _ _ 3 _ _ OKw2.out
 have cK4 : w2.cell? ⟨K, 4, none⟩ = some (.slice od D.length cd) := by rw [cell_of_row _ _ 4 _ _ _ OKw2.out]; rfl
 have fK4 : w2.frozen? ⟨K, 4, none⟩ = false := frozen_of_row _ _ 4 _ _ OKw2.out
 have cK5 : w2.cell? ⟨K, 5, none⟩ = some (.slice og G.length cg) := by rw [cell_of_row _ _ 5 _ _ _ OKw2.out]; rfl
 have fK5 : w2.frozen? ⟨K, 5, none⟩ = false := frozen_of_row _ _ 5 _ _ OKw2.out
 have cK6 : w2.cell? ⟨K, 6, none⟩ = some (.slice ov W.length cv) := by rw [cell_of_row _ _ 6 _ _ _ OKw2.out]; rfl
 have fK6 : w2.frozen? ⟨K, 6, none⟩ = false := frozen_of_row _ _ 6 _ _ OKw2.out
 refine hJ _ _ ⟨(HS0.out.below Bww2.out), OAw2.out⟩ ?_
 clear hJ J
 refine yB (fuel := 5) (by kernel_rfl) (fun c d v a w h => by cases d <;> exact h) ⟨(HS0.out.below Bww2.out), OAw2.out⟩ [12, 13, 14, 15] _ _ (by kernel_rfl) ?_
 refine pS (.tuple #[stV x1 x2 x3 n1 y1 n2 y2 n3 y3 xv x4 n4 y4 x5 n5 y5 x6 n6 y6, .int .i64 R1, .int .i64 R2]) rfl rfl ?_
 refine pS (stV x1 x2 x3 n1 y1 n2 y2 n3 y3 xv x4 n4 y4 x5 n5 y5 x6 n6 y6) rfl rfl ?_
 refine pS (.int .i64 R1) rfl rfl ?_
 refine pS (.int .i64 R2) rfl rfl ?_
 refine zE ?_
 refine oR 16 rfl rfl fun J hJ => ?_
 go_simp
 refine hJ _ _ ⟨(HS0.out.below Bww2.out), OAw2.out⟩ ?_
 clear hJ J
 refine oR 17 rfl rfl fun J hJ => ?_
 go_simp
 refine hJ _ _ ⟨(HS0.out.below Bww2.out), OAw2.out⟩ ?_
 clear hJ J
 refine oR 18 rfl rfl fun J hJ => ?_
 go_simp
 have HSz := zA ((HS0.out.below Bww2.out).store HK.out x1 x2 x3 n1 y1 n2 y2 n3 y3 xv x4 n4 y4 x5 n5 y5 x6 n6 y6)
 have OAz := zA (heap_store OAw2.out (K := K) (by omega) x1 x2 x3 n1 y1 n2 y2 n3 y3 xv x4 n4 y4 x5 n5 y5 x6 n6 y6)
 have HKz := zA (Kq.store (K := K) (Kq.ofBelow Bww2.out) x1 x2 x3 n1 y1 n2 y2 n3 y3 xv x4 n4 y4 x5 n5 y5 x6 n6 y6)
 have HBz := zA (fun h0 => StB.store OKw2.out (HQ.out h0) (by omega))
 refine hJ _ _ ⟨HSz.out, OAz.out⟩ ?_
 clear hJ J
 clear cK0 cK1 cK2 cK3 cK4 cK5 cK6 fK0 fK1 fK2 fK3 fK4 fK5 fK6
 generalize World.setCell _ ⟨K, 6, none⟩ _ = wz at *
 refine oR 19 rfl rfl fun J hJ => ?_
 go_simp
 refine hJ _ _ ⟨HSz.out, OAz.out⟩ ?_
 clear hJ J
 refine oR 20 rfl rfl fun J hJ => ?_
 go_simp
 refine hJ _ _ ⟨HSz.out, OAz.out⟩ ?_
 clear hJ J
 refine wpAnyH_done (by kernel_rfl) ?_ _
 go_wp2_with fail
 go_ret2
 exact ⟨⟨rfl, fun h0 => (HBz.out h0).mono (by omega)⟩, HKz.out⟩
theorem do3_any (K B : Nat) (T : List TK) (P : List TP) (V : List Int) (dv : Int) (D : List Int) (G : List GT) (W : List VW) (o1 o2 o3 od og ov : Option Addr) (c1 c2 c3 cd cg cv : Nat) (a : AC) (w : World) (hK : w.heap[K]? = some (.cells #[.slice o1 T.length c1, .slice o2 P.length c2, .slice o3 V.length c3, .int .i64 dv, .slice od D.length cd, .slice og G.length cg, .slice ov W.length cv] 72)) (hs : StW w o1 o2 o3 c1 c2 c3 T P V od cd D og cg G ov cv W) (hf : FrS B o1 o2 o3 od og ov c1 c2 c3 cd cg cv T P V D G W) (hB : B ≤ K) (hk : LtK K o1 o2 o3 od og ov T P V D G W) (hc : yP T P V dv D G W = 0) (hh : a.k = 3) :
  Calls Tryz.prog 31 #[.pointer (some ⟨K, 0, none⟩), acV a] w fun e w' => (e = .returned (.tuple #[.int .i64 (doN ⟨T, P, V, dv, D, G.map GT.p, W⟩ a), .int .i64 (doE ⟨T, P, V, dv, D, G.map GT.p, W⟩ a)]) ∧ (doE ⟨T, P, V, dv, D, G.map GT.p, W⟩ a = 0 → StB w' B K (doS ⟨T, P, V, dv, D, G.map GT.p, W⟩ a))) ∧ Kq (fun k => k = K) w w' := by
 have hE : doE ⟨T, P, V, dv, D, G.map GT.p, W⟩ a = (if jE W = true then addE dv D a.i else 4) := by
  unfold doE
  rw [if_neg (by omega), if_neg (by omega), if_pos (by omega)]
 have hN : doN ⟨T, P, V, dv, D, G.map GT.p, W⟩ a = 0 := by
  unfold doN
  rw [if_neg (by omega), if_neg (by omega), if_neg (by omega)]
 have hS : doS ⟨T, P, V, dv, D, G.map GT.p, W⟩ a = ⟨T, P, V, dv + 1, addI D a.i, G.map GT.p, W⟩ := by
  unfold doS
  rw [if_neg (by omega), if_neg (by omega), if_pos (by omega)]
 rw [hE, hN, hS]
 clear hE hN hS
 have b1 : (a.k == 1) = false := by rw [hh]; rfl
 have b2 : (a.k == 2) = false := by rw [hh]; rfl
 have b3 : (a.k == 3) = true := by rw [hh]; rfl
 have b4 : (a.k == 4) = false := by rw [hh]; rfl
 have b5 : (a.k == 5) = false := by rw [hh]; rfl
 have b6 : (a.k == 6) = false := by rw [hh]; rfl
 have b7 : (a.k == 7) = false := by rw [hh]; rfl
 clear hh
 have HB := zA ((zL.nil w).more (.cells #[.int .i64 a.k, .int .i64 a.i, .int .i64 a.o, .int .i64 a.m, .int .i64 a.t.i, .int .i64 a.t.k, .int .i64 a.t.f, .int .i64 a.t.t, .int .i64 a.t.z, .int .i64 a.t.r] 36) (by simp))
 have Hw := zA HB.out.2.2
 have OA0 := zA (show _ = _ from HB.out.1 0 _ rfl)
 rw [Nat.add_zero] at OA0
 have lKw : K < w.heap.size := (Array.getElem?_eq_some_iff.1 hK).1
 have OK0 := zA (zC hK HB.out.2.2)
 have HS := zA (hs.below HB.out.2.2)
 have HK := zA hk
 have HF := zA hf
 have HC := zA hc
 clear hK hs hk hf hc HB
 have hz0 : w.heap.size < (w.alloc (.cells #[.int .i64 a.k, .int .i64 a.i, .int .i64 a.o, .int .i64 a.m, .int .i64 a.t.i, .int .i64 a.t.k, .int .i64 a.t.f, .int .i64 a.t.t, .int .i64 a.t.z, .int .i64 a.t.r] 36)).heap.size := by simp
 have H1 := zA (fun X (h0 : X.heap[K]? = some (.cells #[.slice o1 T.length c1, .slice o2 P.length c2, .slice o3 V.length c3, .int .i64 dv, .slice od D.length cd, .slice og G.length cg, .slice ov W.length cv] 72)) (h : StW X o1 o2 o3 c1 c2 c3 T P V od cd D og cg G ov cv W) => deskDeny_any K T P V dv D G W o1 o2 o3 od og ov c1 c2 c3 cd cg cv a.i X h0 h HK.out)
 obtain ⟨EE, hEE⟩ : ∃ E, E = (if jE W = true then addE dv D a.i else 4) := ⟨_, rfl⟩
 rw [← hEE] at H1 ⊢
 clear hEE
 obtain ⟨cA0, cA1, cA2, cA3, cA4, cA5, cA6, cA7, cA8, cA9⟩ := qV OA0.out
 go_enter Tryz.func31, Tryz.ntmps31
 go_wp2_with fail
 generalize (w.alloc (.cells #[.int .i64 a.k, .int .i64 a.i, .int .i64 a.o, .int .i64 a.m, .int .i64 a.t.i, .int .i64 a.t.k, .int .i64 a.t.f, .int .i64 a.t.t, .int .i64 a.t.z, .int .i64 a.t.r] 36)) = w0 at *
 clear cA0 cA1 cA2 cA3 cA4 cA5 cA6 cA7 cA8 cA9
 refine (H1.out _ OK0.out HS.out).mono ?_
 rintro e w2 ⟨⟨E, rfl, rfl, h0⟩, hq⟩
 have H0 := zA h0
 have HQ := zA hq
 clear h0 hq H1
 go_wp2_with fail
 go_ret2
 refine ⟨⟨rfl, fun h => ?_⟩, Kq.back Hw.out HQ.out (fun k _ h => h)⟩
 obtain ⟨x, y, g1, g2, g3⟩ := H0.out h
 exact ⟨_, _, _, _, _, _, _, _, _, _, _, _, _, _, _, _, _, _, _, g1, rfl, rfl, rfl, rfl, rfl, rfl, G, rfl, rfl, g2, HF.out.den (g3.mono (by omega))⟩
theorem do4_any (K B : Nat) (T : List TK) (P : List TP) (V : List Int) (dv : Int) (D : List Int) (G : List GT) (W : List VW) (o1 o2 o3 od og ov : Option Addr) (c1 c2 c3 cd cg cv : Nat) (a : AC) (w : World) (hK : w.heap[K]? = some (.cells #[.slice o1 T.length c1, .slice o2 P.length c2, .slice o3 V.length c3, .int .i64 dv, .slice od D.length cd, .slice og G.length cg, .slice ov W.length cv] 72)) (hs : StW w o1 o2 o3 c1 c2 c3 T P V od cd D og cg G ov cv W) (hf : FrS B o1 o2 o3 od og ov c1 c2 c3 cd cg cv T P V D G W) (hB : B ≤ K) (hk : LtK K o1 o2 o3 od og ov T P V D G W) (hc : yP T P V dv D G W = 0) (hh : a.k = 4) :
  Calls Tryz.prog 31 #[.pointer (some ⟨K, 0, none⟩), acV a] w fun e w' => (e = .returned (.tuple #[.int .i64 (doN ⟨T, P, V, dv, D, G.map GT.p, W⟩ a), .int .i64 (doE ⟨T, P, V, dv, D, G.map GT.p, W⟩ a)]) ∧ (doE ⟨T, P, V, dv, D, G.map GT.p, W⟩ a = 0 → StB w' B K (doS ⟨T, P, V, dv, D, G.map GT.p, W⟩ a))) ∧ Kq (fun k => k = K) w w' := by
 have hE : doE ⟨T, P, V, dv, D, G.map GT.p, W⟩ a = xZ T P V dv D (G.map GT.p) W a.o a.m := by
  unfold doE
  rw [if_neg (by omega), if_neg (by omega), if_neg (by omega), if_pos (by omega)]
 have hN : doN ⟨T, P, V, dv, D, G.map GT.p, W⟩ a = ((zS T P V (G.map GT.p) a.o (xZ T P V dv D (G.map GT.p) W a.o a.m)).length : Int) := by
  unfold doN
  rw [if_neg (by omega), if_pos (by omega)]
 have hS : doS ⟨T, P, V, dv, D, G.map GT.p, W⟩ a = ⟨xV T P V (gAt (G.map GT.p) a.o).A, xR T P V (gAt (G.map GT.p) a.o).A, xY T P V (gAt (G.map GT.p) a.o).A, (yC (zS T P V (G.map GT.p) a.o 0) dv D).1, (yC (zS T P V (G.map GT.p) a.o 0) dv D).2, (G.map GT.p).set a.o.toNat (gSync (gAt (G.map GT.p) a.o) (yC (zS T P V (G.map GT.p) a.o 0) dv D).1 (yC (zS T P V (G.map GT.p) a.o 0) dv D).2 a.m), W⟩ := by
  unfold doS
  rw [if_neg (by omega), if_neg (by omega), if_neg (by omega), if_pos (by omega)]
 rw [hE, hN, hS]
 clear hE hN hS
 have b1 : (a.k == 1) = false := by rw [hh]; rfl
 have b2 : (a.k == 2) = false := by rw [hh]; rfl
 have b3 : (a.k == 3) = false := by rw [hh]; rfl
 have b4 : (a.k == 4) = true := by rw [hh]; rfl
 have b5 : (a.k == 5) = false := by rw [hh]; rfl
 have b6 : (a.k == 6) = false := by rw [hh]; rfl
 have b7 : (a.k == 7) = false := by rw [hh]; rfl
 clear hh
 have HB := zA ((zL.nil w).more (.cells #[.int .i64 a.k, .int .i64 a.i, .int .i64 a.o, .int .i64 a.m, .int .i64 a.t.i, .int .i64 a.t.k, .int .i64 a.t.f, .int .i64 a.t.t, .int .i64 a.t.z, .int .i64 a.t.r] 36) (by simp))
 have Hw := zA HB.out.2.2
 have OA0 := zA (show _ = _ from HB.out.1 0 _ rfl)
 rw [Nat.add_zero] at OA0
 have lKw : K < w.heap.size := (Array.getElem?_eq_some_iff.1 hK).1
 have OK0 := zA (zC hK HB.out.2.2)
 have HS := zA (hs.below HB.out.2.2)
 have HK := zA hk
 have HF := zA hf
 have HC := zA hc
 clear hK hs hk hf hc HB
 have hz0 : w.heap.size < (w.alloc (.cells #[.int .i64 a.k, .int .i64 a.i, .int .i64 a.o, .int .i64 a.m, .int .i64 a.t.i, .int .i64 a.t.k, .int .i64 a.t.f, .int .i64 a.t.t, .int .i64 a.t.z, .int .i64 a.t.r] 36)).heap.size := by simp
 have H1 := zA (fun X (h0 : X.heap[K]? = some (.cells #[.slice o1 T.length c1, .slice o2 P.length c2, .slice o3 V.length c3, .int .i64 dv, .slice od D.length cd, .slice og G.length cg, .slice ov W.length cv] 72)) (h : StW X o1 o2 o3 c1 c2 c3 T P V od cd D og cg G ov cv W) => doerSync_any K T P V dv D G W o1 o2 o3 od og ov c1 c2 c3 cd cg cv a.o a.m X h0 h HC.out)
 generalize (⟨xV T P V (gAt (G.map GT.p) a.o).A, xR T P V (gAt (G.map GT.p) a.o).A, xY T P V (gAt (G.map GT.p) a.o).A, (yC (zS T P V (G.map GT.p) a.o 0) dv D).1, (yC (zS T P V (G.map GT.p) a.o 0) dv D).2, (G.map GT.p).set a.o.toNat (gSync (gAt (G.map GT.p) a.o) (yC (zS T P V (G.map GT.p) a.o 0) dv D).1 (yC (zS T P V (G.map GT.p) a.o 0) dv D).2 a.m), W⟩ : SS) = S2 at *
 generalize zS T P V (G.map GT.p) a.o (xZ T P V dv D (G.map GT.p) W a.o a.m) = M at *
 generalize xZ T P V dv D (G.map GT.p) W a.o a.m = E at *
 obtain ⟨cA0, cA1, cA2, cA3, cA4, cA5, cA6, cA7, cA8, cA9⟩ := qV OA0.out
 go_enter Tryz.func31, Tryz.ntmps31
 go_wp2_with fail
 generalize (w.alloc (.cells #[.int .i64 a.k, .int .i64 a.i, .int .i64 a.o, .int .i64 a.m, .int .i64 a.t.i, .int .i64 a.t.k, .int .i64 a.t.f, .int .i64 a.t.t, .int .i64 a.t.z, .int .i64 a.t.r] 36)) = w0 at *
 clear cA0 cA1 cA2 cA3 cA4 cA5 cA6 cA7 cA8 cA9
 refine (H1.out _ OK0.out HS.out).mono ?_
 rintro e w2 ⟨⟨rfl, h0⟩, hq⟩
 have H0 := zA h0
 have HQ := zA hq
 clear h0 hq H1
 go_wp2_with fail
 go_ret2
 exact ⟨⟨rfl, fun h => (H0.out h).mono (by omega)⟩, Kq.back Hw.out HQ.out (fun k _ h => h)⟩
theorem do5_any (K B : Nat) (T : List TK) (P : List TP) (V : List Int) (dv : Int) (D : List Int) (G : List GT) (W : List VW) (o1 o2 o3 od og ov : Option Addr) (c1 c2 c3 cd cg cv : Nat) (a : AC) (w : World) (hK : w.heap[K]? = some (.cells #[.slice o1 T.length c1, .slice o2 P.length c2, .slice o3 V.length c3, .int .i64 dv, .slice od D.length cd, .slice og G.length cg, .slice ov W.length cv] 72)) (hs : StW w o1 o2 o3 c1 c2 c3 T P V od cd D og cg G ov cv W) (hf : FrS B o1 o2 o3 od og ov c1 c2 c3 cd cg cv T P V D G W) (hB : B ≤ K) (hk : LtK K o1 o2 o3 od og ov T P V D G W) (hc : yP T P V dv D G W = 0) (hh : a.k = 5) :
  Calls Tryz.prog 31 #[.pointer (some ⟨K, 0, none⟩), acV a] w fun e w' => (e = .returned (.tuple #[.int .i64 (doN ⟨T, P, V, dv, D, G.map GT.p, W⟩ a), .int .i64 (doE ⟨T, P, V, dv, D, G.map GT.p, W⟩ a)]) ∧ (doE ⟨T, P, V, dv, D, G.map GT.p, W⟩ a = 0 → StB w' B K (doS ⟨T, P, V, dv, D, G.map GT.p, W⟩ a))) ∧ Kq (fun k => k = K) w w' := by
 have hE : doE ⟨T, P, V, dv, D, G.map GT.p, W⟩ a = qO W a.o 2 := by
  unfold doE
  rw [if_neg (by omega), if_neg (by omega), if_neg (by omega), if_neg (by omega), if_neg (by omega)]
 have hN : doN ⟨T, P, V, dv, D, G.map GT.p, W⟩ a = 0 := by
  unfold doN
  rw [if_neg (by omega), if_neg (by omega), if_neg (by omega)]
 have hS : doS ⟨T, P, V, dv, D, G.map GT.p, W⟩ a = ⟨T, P, V, dv, D, G.map GT.p, setR W a.o (a.k == 5)⟩ := by
  unfold doS
  rw [if_neg (by omega), if_neg (by omega), if_neg (by omega), if_neg (by omega), if_neg (by omega)]
 rw [hE, hN, hS]
 clear hE hN hS
 have b1 : (a.k == 1) = false := by rw [hh]; rfl
 have b2 : (a.k == 2) = false := by rw [hh]; rfl
 have b3 : (a.k == 3) = false := by rw [hh]; rfl
 have b4 : (a.k == 4) = false := by rw [hh]; rfl
 have b5 : (a.k == 5) = true := by rw [hh]; rfl
 have b6 : (a.k == 6) = false := by rw [hh]; rfl
 have b7 : (a.k == 7) = false := by rw [hh]; rfl
 clear hh
 have HB := zA ((zL.nil w).more (.cells #[.int .i64 a.k, .int .i64 a.i, .int .i64 a.o, .int .i64 a.m, .int .i64 a.t.i, .int .i64 a.t.k, .int .i64 a.t.f, .int .i64 a.t.t, .int .i64 a.t.z, .int .i64 a.t.r] 36) (by simp))
 have Hw := zA HB.out.2.2
 have OA0 := zA (show _ = _ from HB.out.1 0 _ rfl)
 rw [Nat.add_zero] at OA0
 have lKw : K < w.heap.size := (Array.getElem?_eq_some_iff.1 hK).1
 have OK0 := zA (zC hK HB.out.2.2)
 have HS := zA (hs.below HB.out.2.2)
 have HK := zA hk
 have HF := zA hf
 have HC := zA hc
 clear hK hs hk hf hc HB
 have hz0 : w.heap.size < (w.alloc (.cells #[.int .i64 a.k, .int .i64 a.i, .int .i64 a.o, .int .i64 a.m, .int .i64 a.t.i, .int .i64 a.t.k, .int .i64 a.t.f, .int .i64 a.t.t, .int .i64 a.t.z, .int .i64 a.t.r] 36)).heap.size := by simp
 have hW : W.length ≤ 100 := by
  have := (yM HC.out).2.2.2.2.2
  omega
 have H1 := zA (fun X (h0 : X.heap[K]? = some (.cells #[.slice o1 T.length c1, .slice o2 P.length c2, .slice o3 V.length c3, .int .i64 dv, .slice od D.length cd, .slice og G.length cg, .slice ov W.length cv] 72)) (h : StW X o1 o2 o3 c1 c2 c3 T P V od cd D og cg G ov cv W) (h3 : X.heap[w.heap.size]? = some (.cells #[.int .i64 a.k, .int .i64 a.i, .int .i64 a.o, .int .i64 a.m, .int .i64 a.t.i, .int .i64 a.t.k, .int .i64 a.t.f, .int .i64 a.t.t, .int .i64 a.t.z, .int .i64 a.t.r] 36)) => setViews_any 80 #[.pointer (some ⟨w.heap.size, 0, none⟩)] enterDoC (fun _ => False) K T P V dv D G W o1 o2 o3 od og ov c1 c2 c3 cd cg cv X h0 HK.out
  (fun E W' _ => E = qO W a.o 2 ∧ W' = setR W a.o (a.k == 5)) (fun E W' w2 u h => h)
  ((setC_any ov cv W a w.heap.size X h.vws h.vln h3).mono (fun e w2 h5 => by
   obtain ⟨⟨o', n, c', he, hv, hf⟩, hb⟩ := h5
   exact ⟨o', n, c', _, _, he, hv, hf, zC h0 hb, h.below hb, setR_len _ _ hW, ⟨rfl, rfl⟩, .ofBelow hb⟩)))
 clear hW
 generalize setR W a.o (a.k == 5) = W2 at *
 generalize qO W a.o 2 = E at *
 obtain ⟨cA0, cA1, cA2, cA3, cA4, cA5, cA6, cA7, cA8, cA9⟩ := qV OA0.out
 go_enter Tryz.func31, Tryz.ntmps31
 go_wp2_with fail
 generalize (w.alloc (.cells #[.int .i64 a.k, .int .i64 a.i, .int .i64 a.o, .int .i64 a.m, .int .i64 a.t.i, .int .i64 a.t.k, .int .i64 a.t.f, .int .i64 a.t.t, .int .i64 a.t.z, .int .i64 a.t.r] 36)) = w0 at *
 clear cA0 cA1 cA2 cA3 cA4 cA5 cA6 cA7 cA8 cA9
 refine (H1.out _ OK0.out HS.out OA0.out).mono ?_
 rintro e w2 ⟨⟨E', W', o', c', rfl, g1, g2, g3, rfl, rfl⟩, hq⟩
 have G1 := zA g1
 have G2 := zA g2
 have G3 := zA g3
 have HQ := zA hq
 clear g1 g2 g3 hq H1
 go_wp2_with fail
 go_ret2
 exact ⟨⟨rfl, fun h => ⟨_, _, _, _, _, _, _, _, _, _, _, _, _, _, _, _, _, _, _, G1.out, rfl, rfl, rfl, rfl, rfl, rfl, G, rfl, rfl, G2.out, HF.out.vw (G3.out.mono (by omega))⟩⟩, Kq.back Hw.out HQ.out (fun k _ h => h.elim id (fun h => h.elim))⟩
theorem do6_any (K B : Nat) (T : List TK) (P : List TP) (V : List Int) (dv : Int) (D : List Int) (G : List GT) (W : List VW) (o1 o2 o3 od og ov : Option Addr) (c1 c2 c3 cd cg cv : Nat) (a : AC) (w : World) (hK : w.heap[K]? = some (.cells #[.slice o1 T.length c1, .slice o2 P.length c2, .slice o3 V.length c3, .int .i64 dv, .slice od D.length cd, .slice og G.length cg, .slice ov W.length cv] 72)) (hs : StW w o1 o2 o3 c1 c2 c3 T P V od cd D og cg G ov cv W) (hf : FrS B o1 o2 o3 od og ov c1 c2 c3 cd cg cv T P V D G W) (hB : B ≤ K) (hk : LtK K o1 o2 o3 od og ov T P V D G W) (hc : yP T P V dv D G W = 0) (hh : a.k = 6) :
  Calls Tryz.prog 31 #[.pointer (some ⟨K, 0, none⟩), acV a] w fun e w' => (e = .returned (.tuple #[.int .i64 (doN ⟨T, P, V, dv, D, G.map GT.p, W⟩ a), .int .i64 (doE ⟨T, P, V, dv, D, G.map GT.p, W⟩ a)]) ∧ (doE ⟨T, P, V, dv, D, G.map GT.p, W⟩ a = 0 → StB w' B K (doS ⟨T, P, V, dv, D, G.map GT.p, W⟩ a))) ∧ Kq (fun k => k = K) w w' := by
 have hE : doE ⟨T, P, V, dv, D, G.map GT.p, W⟩ a = qO W a.o 2 := by
  unfold doE
  rw [if_neg (by omega), if_neg (by omega), if_neg (by omega), if_neg (by omega), if_neg (by omega)]
 have hN : doN ⟨T, P, V, dv, D, G.map GT.p, W⟩ a = 0 := by
  unfold doN
  rw [if_neg (by omega), if_neg (by omega), if_neg (by omega)]
 have hS : doS ⟨T, P, V, dv, D, G.map GT.p, W⟩ a = ⟨T, P, V, dv, D, G.map GT.p, setR W a.o (a.k == 5)⟩ := by
  unfold doS
  rw [if_neg (by omega), if_neg (by omega), if_neg (by omega), if_neg (by omega), if_neg (by omega)]
 rw [hE, hN, hS]
 clear hE hN hS
 have b1 : (a.k == 1) = false := by rw [hh]; rfl
 have b2 : (a.k == 2) = false := by rw [hh]; rfl
 have b3 : (a.k == 3) = false := by rw [hh]; rfl
 have b4 : (a.k == 4) = false := by rw [hh]; rfl
 have b5 : (a.k == 5) = false := by rw [hh]; rfl
 have b6 : (a.k == 6) = true := by rw [hh]; rfl
 have b7 : (a.k == 7) = false := by rw [hh]; rfl
 clear hh
 have HB := zA ((zL.nil w).more (.cells #[.int .i64 a.k, .int .i64 a.i, .int .i64 a.o, .int .i64 a.m, .int .i64 a.t.i, .int .i64 a.t.k, .int .i64 a.t.f, .int .i64 a.t.t, .int .i64 a.t.z, .int .i64 a.t.r] 36) (by simp))
 have Hw := zA HB.out.2.2
 have OA0 := zA (show _ = _ from HB.out.1 0 _ rfl)
 rw [Nat.add_zero] at OA0
 have lKw : K < w.heap.size := (Array.getElem?_eq_some_iff.1 hK).1
 have OK0 := zA (zC hK HB.out.2.2)
 have HS := zA (hs.below HB.out.2.2)
 have HK := zA hk
 have HF := zA hf
 have HC := zA hc
 clear hK hs hk hf hc HB
 have hz0 : w.heap.size < (w.alloc (.cells #[.int .i64 a.k, .int .i64 a.i, .int .i64 a.o, .int .i64 a.m, .int .i64 a.t.i, .int .i64 a.t.k, .int .i64 a.t.f, .int .i64 a.t.t, .int .i64 a.t.z, .int .i64 a.t.r] 36)).heap.size := by simp
 have hW : W.length ≤ 100 := by
  have := (yM HC.out).2.2.2.2.2
  omega
 have H1 := zA (fun X (h0 : X.heap[K]? = some (.cells #[.slice o1 T.length c1, .slice o2 P.length c2, .slice o3 V.length c3, .int .i64 dv, .slice od D.length cd, .slice og G.length cg, .slice ov W.length cv] 72)) (h : StW X o1 o2 o3 c1 c2 c3 T P V od cd D og cg G ov cv W) (h3 : X.heap[w.heap.size]? = some (.cells #[.int .i64 a.k, .int .i64 a.i, .int .i64 a.o, .int .i64 a.m, .int .i64 a.t.i, .int .i64 a.t.k, .int .i64 a.t.f, .int .i64 a.t.t, .int .i64 a.t.z, .int .i64 a.t.r] 36)) => setViews_any 80 #[.pointer (some ⟨w.heap.size, 0, none⟩)] enterDoC (fun _ => False) K T P V dv D G W o1 o2 o3 od og ov c1 c2 c3 cd cg cv X h0 HK.out
  (fun E W' _ => E = qO W a.o 2 ∧ W' = setR W a.o (a.k == 5)) (fun E W' w2 u h => h)
  ((setC_any ov cv W a w.heap.size X h.vws h.vln h3).mono (fun e w2 h5 => by
   obtain ⟨⟨o', n, c', he, hv, hf⟩, hb⟩ := h5
   exact ⟨o', n, c', _, _, he, hv, hf, zC h0 hb, h.below hb, setR_len _ _ hW, ⟨rfl, rfl⟩, .ofBelow hb⟩)))
 clear hW
 generalize setR W a.o (a.k == 5) = W2 at *
 generalize qO W a.o 2 = E at *
 obtain ⟨cA0, cA1, cA2, cA3, cA4, cA5, cA6, cA7, cA8, cA9⟩ := qV OA0.out
 go_enter Tryz.func31, Tryz.ntmps31
 go_wp2_with fail
 generalize (w.alloc (.cells #[.int .i64 a.k, .int .i64 a.i, .int .i64 a.o, .int .i64 a.m, .int .i64 a.t.i, .int .i64 a.t.k, .int .i64 a.t.f, .int .i64 a.t.t, .int .i64 a.t.z, .int .i64 a.t.r] 36)) = w0 at *
 clear cA0 cA1 cA2 cA3 cA4 cA5 cA6 cA7 cA8 cA9
 refine (H1.out _ OK0.out HS.out OA0.out).mono ?_
 rintro e w2 ⟨⟨E', W', o', c', rfl, g1, g2, g3, rfl, rfl⟩, hq⟩
 have G1 := zA g1
 have G2 := zA g2
 have G3 := zA g3
 have HQ := zA hq
 clear g1 g2 g3 hq H1
 go_wp2_with fail
 go_ret2
 exact ⟨⟨rfl, fun h => ⟨_, _, _, _, _, _, _, _, _, _, _, _, _, _, _, _, _, _, _, G1.out, rfl, rfl, rfl, rfl, rfl, rfl, G, rfl, rfl, G2.out, HF.out.vw (G3.out.mono (by omega))⟩⟩, Kq.back Hw.out HQ.out (fun k _ h => h.elim id (fun h => h.elim))⟩
theorem do7_any (K B : Nat) (T : List TK) (P : List TP) (V : List Int) (dv : Int) (D : List Int) (G : List GT) (W : List VW) (o1 o2 o3 od og ov : Option Addr) (c1 c2 c3 cd cg cv : Nat) (a : AC) (w : World) (hK : w.heap[K]? = some (.cells #[.slice o1 T.length c1, .slice o2 P.length c2, .slice o3 V.length c3, .int .i64 dv, .slice od D.length cd, .slice og G.length cg, .slice ov W.length cv] 72)) (hs : StW w o1 o2 o3 c1 c2 c3 T P V od cd D og cg G ov cv W) (hf : FrS B o1 o2 o3 od og ov c1 c2 c3 cd cg cv T P V D G W) (hB : B ≤ K) (hk : LtK K o1 o2 o3 od og ov T P V D G W) (hc : yP T P V dv D G W = 0) (hh : a.k = 7) :
  Calls Tryz.prog 31 #[.pointer (some ⟨K, 0, none⟩), acV a] w fun e w' => (e = .returned (.tuple #[.int .i64 (doN ⟨T, P, V, dv, D, G.map GT.p, W⟩ a), .int .i64 (doE ⟨T, P, V, dv, D, G.map GT.p, W⟩ a)]) ∧ (doE ⟨T, P, V, dv, D, G.map GT.p, W⟩ a = 0 → StB w' B K (doS ⟨T, P, V, dv, D, G.map GT.p, W⟩ a))) ∧ Kq (fun k => k = K) w w' := by
 have hE : doE ⟨T, P, V, dv, D, G.map GT.p, W⟩ a = winE W a.o := by
  unfold doE
  rw [if_neg (by omega), if_neg (by omega), if_neg (by omega), if_neg (by omega), if_pos (by omega)]
 have hN : doN ⟨T, P, V, dv, D, G.map GT.p, W⟩ a = (if winB W a.o = true then 1 else 0) := by
  unfold doN
  rw [if_neg (by omega), if_neg (by omega), if_pos (by omega)]
 have hS : doS ⟨T, P, V, dv, D, G.map GT.p, W⟩ a = ⟨T, P, V, dv, D, G.map GT.p, winR W a.o⟩ := by
  unfold doS
  rw [if_neg (by omega), if_neg (by omega), if_neg (by omega), if_neg (by omega), if_pos (by omega)]
 rw [hE, hN, hS]
 clear hE hN hS
 have b1 : (a.k == 1) = false := by rw [hh]; rfl
 have b2 : (a.k == 2) = false := by rw [hh]; rfl
 have b3 : (a.k == 3) = false := by rw [hh]; rfl
 have b4 : (a.k == 4) = false := by rw [hh]; rfl
 have b5 : (a.k == 5) = false := by rw [hh]; rfl
 have b6 : (a.k == 6) = false := by rw [hh]; rfl
 have b7 : (a.k == 7) = true := by rw [hh]; rfl
 clear hh
 have HB := zA ((zL.nil w).more (.cells #[.int .i64 a.k, .int .i64 a.i, .int .i64 a.o, .int .i64 a.m, .int .i64 a.t.i, .int .i64 a.t.k, .int .i64 a.t.f, .int .i64 a.t.t, .int .i64 a.t.z, .int .i64 a.t.r] 36) (by simp))
 have Hw := zA HB.out.2.2
 have OA0 := zA (show _ = _ from HB.out.1 0 _ rfl)
 rw [Nat.add_zero] at OA0
 have lKw : K < w.heap.size := (Array.getElem?_eq_some_iff.1 hK).1
 have OK0 := zA (zC hK HB.out.2.2)
 have HS := zA (hs.below HB.out.2.2)
 have HK := zA hk
 have HF := zA hf
 have HC := zA hc
 clear hK hs hk hf hc HB
 have hz0 : w.heap.size < (w.alloc (.cells #[.int .i64 a.k, .int .i64 a.i, .int .i64 a.o, .int .i64 a.m, .int .i64 a.t.i, .int .i64 a.t.k, .int .i64 a.t.f, .int .i64 a.t.t, .int .i64 a.t.z, .int .i64 a.t.r] 36)).heap.size := by simp
 have hW : W.length ≤ 100 := by
  have := (yM HC.out).2.2.2.2.2
  omega
 have H1 := zA (fun X (h0 : X.heap[K]? = some (.cells #[.slice o1 T.length c1, .slice o2 P.length c2, .slice o3 V.length c3, .int .i64 dv, .slice od D.length cd, .slice og G.length cg, .slice ov W.length cv] 72)) (h : StW X o1 o2 o3 c1 c2 c3 T P V od cd D og cg G ov cv W) => doerWin_any K T P V dv D G W o1 o2 o3 od og ov c1 c2 c3 cd cg cv a.o X h0 h HK.out hW)
 clear hW
 obtain ⟨NN, hNN⟩ : ∃ n : Int, n = (if winB W a.o = true then 1 else 0) := ⟨_, rfl⟩
 rw [← hNN] at H1 ⊢
 clear hNN
 generalize winR W a.o = W2 at *
 generalize winE W a.o = E at *
 obtain ⟨cA0, cA1, cA2, cA3, cA4, cA5, cA6, cA7, cA8, cA9⟩ := qV OA0.out
 go_enter Tryz.func31, Tryz.ntmps31
 go_wp2_with fail
 generalize (w.alloc (.cells #[.int .i64 a.k, .int .i64 a.i, .int .i64 a.o, .int .i64 a.m, .int .i64 a.t.i, .int .i64 a.t.k, .int .i64 a.t.f, .int .i64 a.t.t, .int .i64 a.t.z, .int .i64 a.t.r] 36)) = w0 at *
 clear cA0 cA1 cA2 cA3 cA4 cA5 cA6 cA7 cA8 cA9
 refine (H1.out _ OK0.out HS.out).mono ?_
 rintro e w2 ⟨⟨rfl, o', c', g1, g2, g3⟩, hq⟩
 have G1 := zA g1
 have G2 := zA g2
 have G3 := zA g3
 have HQ := zA hq
 clear g1 g2 g3 hq H1
 go_wp2_with fail
 go_ret2
 exact ⟨⟨rfl, fun h => ⟨_, _, _, _, _, _, _, _, _, _, _, _, _, _, _, _, _, _, _, G1.out, rfl, rfl, rfl, rfl, rfl, rfl, G, rfl, rfl, G2.out, HF.out.vw (G3.out.mono (by omega))⟩⟩, Kq.back Hw.out HQ.out (fun k _ h => h)⟩
theorem doerDo_any (K B : Nat) (T : List TK) (P : List TP) (V : List Int) (dv : Int) (D : List Int) (G : List GT) (W : List VW) (o1 o2 o3 od og ov : Option Addr) (c1 c2 c3 cd cg cv : Nat) (a : AC) (w : World) (hK : w.heap[K]? = some (.cells #[.slice o1 T.length c1, .slice o2 P.length c2, .slice o3 V.length c3, .int .i64 dv, .slice od D.length cd, .slice og G.length cg, .slice ov W.length cv] 72)) (hs : StW w o1 o2 o3 c1 c2 c3 T P V od cd D og cg G ov cv W) (hf : FrS B o1 o2 o3 od og ov c1 c2 c3 cd cg cv T P V D G W) (hB : B ≤ K) (hk : LtK K o1 o2 o3 od og ov T P V D G W) (hc : yP T P V dv D G W = 0) (hw : wi a.k 1 7 = true) :
  Calls Tryz.prog 31 #[.pointer (some ⟨K, 0, none⟩), acV a] w fun e w' => (e = .returned (.tuple #[.int .i64 (doN ⟨T, P, V, dv, D, G.map GT.p, W⟩ a), .int .i64 (doE ⟨T, P, V, dv, D, G.map GT.p, W⟩ a)]) ∧ (doE ⟨T, P, V, dv, D, G.map GT.p, W⟩ a = 0 → StB w' B K (doS ⟨T, P, V, dv, D, G.map GT.p, W⟩ a))) ∧ Kq (fun k => k = K) w w' := by
 rw [yO] at hw
 have h : a.k = 1 ∨ a.k = 2 ∨ a.k = 3 ∨ a.k = 4 ∨ a.k = 5 ∨ a.k = 6 ∨ a.k = 7 := by omega
 rcases h with h | h | h | h | h | h | h
 ·exact do1_any K B T P V dv D G W o1 o2 o3 od og ov c1 c2 c3 cd cg cv a w hK hs hf hB hk hc h
 ·exact do2_any K B T P V dv D G W o1 o2 o3 od og ov c1 c2 c3 cd cg cv a w hK hs hf hB hk hc h
 ·exact do3_any K B T P V dv D G W o1 o2 o3 od og ov c1 c2 c3 cd cg cv a w hK hs hf hB hk hc h
 ·exact do4_any K B T P V dv D G W o1 o2 o3 od og ov c1 c2 c3 cd cg cv a w hK hs hf hB hk hc h
 ·exact do5_any K B T P V dv D G W o1 o2 o3 od og ov c1 c2 c3 cd cg cv a w hK hs hf hB hk hc h
 ·exact do6_any K B T P V dv D G W o1 o2 o3 od og ov c1 c2 c3 cd cg cv a w hK hs hf hB hk hc h
 ·exact do7_any K B T P V dv D G W o1 o2 o3 od og ov c1 c2 c3 cd cg cv a w hK hs hf hB hk hc h
theorem deskDo_any (T : List TK) (P : List TP) (V : List Int) (dv : Int) (D : List Int) (G : List GT) (W : List VW) (o1 o2 o3 od og ov : Option Addr) (c1 c2 c3 cd cg cv : Nat) (a : AC) (w : World) (hs : StW w o1 o2 o3 c1 c2 c3 T P V od cd D og cg G ov cv W) :
  Calls Tryz.prog 7 #[stV o1 o2 o3 T.length c1 P.length c2 V.length c3 dv od D.length cd og G.length cg ov W.length cv, acV a] w fun e w' => (∃ x1 x2 x3 n1 y1 n2 y2 n3 y3 xv x4 n4 y4 x5 n5 y5 x6 n6 y6, e = .returned (.tuple #[stV x1 x2 x3 n1 y1 n2 y2 n3 y3 xv x4 n4 y4 x5 n5 y5 x6 n6 y6, .int .i64 (actN ⟨T, P, V, dv, D, G.map GT.p, W⟩ a), .int .i64 (actE ⟨T, P, V, dv, D, G.map GT.p, W⟩ a)]) ∧ (actE ⟨T, P, V, dv, D, G.map GT.p, W⟩ a ≠ 0 → stV x1 x2 x3 n1 y1 n2 y2 n3 y3 xv x4 n4 y4 x5 n5 y5 x6 n6 y6 = stV none none none 0 0 0 0 0 0 0 none 0 0 none 0 0 none 0 0) ∧ (actE ⟨T, P, V, dv, D, G.map GT.p, W⟩ a = 0 → StQ w' w.heap.size x1 x2 x3 n1 y1 n2 y2 n3 y3 xv x4 n4 y4 x5 n5 y5 x6 n6 y6 (doS ⟨T, P, V, dv, D, G.map GT.p, W⟩ a))) ∧ Below w.heap.size w w' := by
 have HB := zA ((((zL.nil w).more (.cells #[.slice o1 T.length c1, .slice o2 P.length c2, .slice o3 V.length c3, .int .i64 dv, .slice od D.length cd, .slice og G.length cg, .slice ov W.length cv] 32) (by simp)).more (.cells #[.int .i64 a.k, .int .i64 a.i, .int .i64 a.o, .int .i64 a.m, .int .i64 a.t.i, .int .i64 a.t.k, .int .i64 a.t.f, .int .i64 a.t.t, .int .i64 a.t.z, .int .i64 a.t.r] 36) (by simp)).more (.cells #[.slice none 0 0, .slice none 0 0, .slice none 0 0, .int .i64 0, .slice none 0 0, .slice none 0 0, .slice none 0 0] 32) (by simp))
 have Hw := zA HB.out.2.2
 have OS0 := zA (show _ = _ from HB.out.1 0 _ rfl)
 rw [Nat.add_zero] at OS0
 have OA0 := zA (show _ = _ from HB.out.1 1 _ rfl)
 have OR0 := zA (show _ = _ from HB.out.1 2 _ rfl)
 have hcs : yP T P V dv D G W = (⟨T, P, V, dv, D, G.map GT.p, W⟩ : SS).chk := chkS_p T P V dv D G W
 obtain ⟨E1, hE1⟩ : ∃ E, E = unfA ⟨T, P, V, dv, D, G.map GT.p, W⟩ a := ⟨_, rfl⟩
 have hU : (if yP T P V dv D G W = 0 then (if wi a.k 1 7 = false then 7 else if eqA a (namedA a) = true then 0 else 1) else yP T P V dv D G W) = E1 := by rw [hE1, unfA, ← hcs]
 have HE1 := zA (fun X (h : StW X o1 o2 o3 c1 c2 c3 T P V od cd D og cg G ov cv W) => deskUnfit_any T P V dv D G W o1 o2 o3 od og ov c1 c2 c3 cd cg cv a X h)
 rw [hU] at HE1
 have HZ : Hid (E1 = 0 → yP T P V dv D G W = 0 ∧ wi a.k 1 7 = true) := zA (fun h => by
  rw [← hU] at h
  split at h
  ·rename_i h0
   refine ⟨h0, ?_⟩
   cases hw : wi a.k 1 7 with
   | true => rfl
   | false => rw [hw, if_pos rfl] at h; cases h
  ·rename_i h0
   exact absurd h h0)
 have hAE : actE ⟨T, P, V, dv, D, G.map GT.p, W⟩ a = if E1 = 0 then doE ⟨T, P, V, dv, D, G.map GT.p, W⟩ a else E1 := by rw [actE, ← hE1]
 have hAN : actN ⟨T, P, V, dv, D, G.map GT.p, W⟩ a = if E1 = 0 then doN ⟨T, P, V, dv, D, G.map GT.p, W⟩ a else 0 := by rw [actN, ← hE1]
 rw [hAE, hAN]
 clear hcs hU hE1 hAE hAN
 have HS := zA hs
 have hz0 : w.heap.size + 3 ≤ (((w.alloc (.cells #[.slice o1 T.length c1, .slice o2 P.length c2, .slice o3 V.length c3, .int .i64 dv, .slice od D.length cd, .slice og G.length cg, .slice ov W.length cv] 32)).alloc (.cells #[.int .i64 a.k, .int .i64 a.i, .int .i64 a.o, .int .i64 a.m, .int .i64 a.t.i, .int .i64 a.t.k, .int .i64 a.t.f, .int .i64 a.t.t, .int .i64 a.t.z, .int .i64 a.t.r] 36)).alloc (.cells #[.slice none 0 0, .slice none 0 0, .slice none 0 0, .int .i64 0, .slice none 0 0, .slice none 0 0, .slice none 0 0] 32)).heap.size := by simp
 rcases hE : (E1 != 0) with _ | _
 ·obtain rfl : E1 = 0 := by simpa using hE
  obtain ⟨hc, hw⟩ := HZ.out rfl
  rw [if_pos rfl, if_pos rfl]
  clear hE HZ
  obtain ⟨NN, hNN⟩ : ∃ x, x = doN ⟨T, P, V, dv, D, G.map GT.p, W⟩ a := ⟨_, rfl⟩
  obtain ⟨EE, hEE⟩ : ∃ x, x = doE ⟨T, P, V, dv, D, G.map GT.p, W⟩ a := ⟨_, rfl⟩
  obtain ⟨S2, hS2⟩ : ∃ x, x = doS ⟨T, P, V, dv, D, G.map GT.p, W⟩ a := ⟨_, rfl⟩
  rw [← hNN, ← hEE, ← hS2]
  have HNN := zA hNN
  have HEE := zA hEE
  have HS2 := zA hS2
  clear hNN hEE hS2
  obtain ⟨r1, r2, r3, r4, r5, r6⟩ := yM hc
  obtain ⟨l1, l2, l3⟩ := chkL_lens r1
  have l4 := (yE r2).2.2.1
  have hgl : ∀ g ∈ G, g.A.length ≤ 60 ∧ g.D.length ≤ 60 := fun g hg => by
   obtain ⟨q, hq⟩ := List.getElem?_of_mem hg
   have := gate_lens (r4 q g hq)
   omega
  obtain ⟨g0, hg0⟩ : ∃ g0, G[0]? = some g0 := ⟨_, List.getElem?_eq_getElem (by omega)⟩
  obtain ⟨A, rfl, -⟩ := hs.gts 0 g0 hg0
  have HFr := zA (fun X (h : StW X o1 o2 o3 c1 c2 c3 T P V od cd D (some A) cg G ov cv W) => freshStation_any T P V dv D G W o1 o2 o3 od A ov c1 c2 c3 cd cg cv X h.led.parts3.1.ats h.led.parts3.2.1.ats h.led.parts3.2.2.ats h.den.1 h.gts h.vws (by omega) (by omega) (by omega) (by omega) (by omega) (by omega) hgl)
  have HLn : Hid (∀ G', G'.map GT.p = G.map GT.p → LnS T P V D G' W) := zA (fun G' hm => by
   have h3 : G'.length = 3 := by have := congrArg List.length hm; simpa [r3] using this
   refine ⟨xP.of r1, by omega, fun g hg => ?_, by omega, by omega⟩
   have := gates_lens r4 hm
   obtain ⟨q, hq⟩ := List.getElem?_of_mem hg
   have := this q g hq
   omega)
  have HC : Hid (∀ G', G'.map GT.p = G.map GT.p → yP T P V dv D G' W = 0) := zA (fun G' hm => by rw [chkS_p, hm, ← chkS_p]; exact hc)
  have HWi := zA hw
  clear hs r1 r2 r3 r4 r5 r6 l1 l2 l3 l4 hgl hg0 hc hw
  obtain ⟨cS0, cS1, cS2, cS3, cS4, cS5, cS6⟩ := zY OS0.out
  go_enter Tryz.func7, Tryz.ntmps7
  go_wp2_with fail
  generalize (((w.alloc (.cells #[.slice o1 T.length c1, .slice o2 P.length c2, .slice o3 V.length c3, .int .i64 dv, .slice od D.length cd, .slice (some A) G.length cg, .slice ov W.length cv] 32)).alloc (.cells #[.int .i64 a.k, .int .i64 a.i, .int .i64 a.o, .int .i64 a.m, .int .i64 a.t.i, .int .i64 a.t.k, .int .i64 a.t.f, .int .i64 a.t.t, .int .i64 a.t.z, .int .i64 a.t.r] 36)).alloc (.cells #[.slice none 0 0, .slice none 0 0, .slice none 0 0, .int .i64 0, .slice none 0 0, .slice none 0 0, .slice none 0 0] 32)) = w0 at *
  clear HB
  refine (HE1.out _ (HS.out.below Hw.out)).mono ?_
  rintro e w1 ⟨rfl, hb⟩
  have zw01 : w0.heap.size ≤ w1.heap.size := hb.size
  have Bww1 := trR Hw hb
  have OSw1 := atR OS0 hb
  have OAw1 := atR OA0 hb
  have ORw1 := atR OR0 hb
  have zww1 := Bww1.out.size
  have lSw1 := ltR OSw1
  have lAw1 : w.heap.size + 1 < w1.heap.size := (Array.getElem?_eq_some_iff.1 OAw1.out).1
  have lRw1 : w.heap.size + 2 < w1.heap.size := (Array.getElem?_eq_some_iff.1 ORw1.out).1
  clear hb Hw OS0 OA0 OR0
  clear cS0 cS1 cS2 cS3 cS4 cS5 cS6
  obtain ⟨cS0, cS1, cS2, cS3, cS4, cS5, cS6⟩ := zY OSw1.out
  go_wp2_with fail
  refine (HFr.out _ (HS.out.below Bww1.out)).mono ?_
  rintro e w2 ⟨⟨x1, y1, x2, y2, x3, y3, x4, y4, Q, cq, x5, y5, G', rfl, hm, hst⟩, hb⟩
  have zw12 : w1.heap.size ≤ w2.heap.size := hb.size
  have Bww2 := trR Bww1 hb
  have OSw2 := atR OSw1 hb
  have OAw2 := atR OAw1 hb
  have ORw2 := atR ORw1 hb
  have zww2 := Bww2.out.size
  have lSw2 := ltR OSw2
  have lAw2 : w.heap.size + 1 < w2.heap.size := (Array.getElem?_eq_some_iff.1 OAw2.out).1
  have lRw2 : w.heap.size + 2 < w2.heap.size := (Array.getElem?_eq_some_iff.1 ORw2.out).1
  clear hb Bww1 OSw1 OAw1 ORw1
  clear cS0 cS1 cS2 cS3 cS4 cS5 cS6
  obtain ⟨hst2, hfr⟩ := StF.stw hst (HLn.out G' hm)
  have hl3 : G'.length = G.length := by have := congrArg List.length hm; simpa using this
  rw [← hl3]
  have HST := zA hst2
  have HFS := zA hfr
  have HM := zA hm
  have HLK := zA (hst2.ltk (Nat.le_refl _))
  have hbs : w.heap.size + 3 ≤ w1.heap.size := Nat.le_trans hz0 zw01
  clear hst hst2 hfr hm hl3 HLn HFr
  go_upto_region 5 with fail
  have hb := (Below.refl w2.heap.size w2).alloc (Nat.le_refl _) (.cells #[.slice x1 T.length y1, .slice x2 P.length y2, .slice x3 V.length y3, .int .i64 dv, .slice x4 D.length y4, .slice (some ⟨Q, 0, none⟩) G'.length cq, .slice x5 W.length y5] 72)
  have OKw3 := zA (heap_alloc_new w2 (.cells #[.slice x1 T.length y1, .slice x2 P.length y2, .slice x3 V.length y3, .int .i64 dv, .slice x4 D.length y4, .slice (some ⟨Q, 0, none⟩) G'.length cq, .slice x5 W.length y5] 72))
  have Bww3 := trR Bww2 hb
  have Bw2w3 := zA hb
  have OSw3 := atR OSw2 hb
  have OAw3 := atR OAw2 hb
  have ORw3 := atR ORw2 hb
  clear hb Bww2 OSw2 OAw2 ORw2
  generalize (w2.alloc (.cells #[.slice x1 T.length y1, .slice x2 P.length y2, .slice x3 V.length y3, .int .i64 dv, .slice x4 D.length y4, .slice (some ⟨Q, 0, none⟩) G'.length cq, .slice x5 W.length y5] 72)) = w3 at *
  have zww3 := Bww3.out.size
  have zw2w3 := Bw2w3.out.size
  have lSw3 := ltR OSw3
  have lAw3 : w.heap.size + 1 < w3.heap.size := (Array.getElem?_eq_some_iff.1 OAw3.out).1
  have lRw3 : w.heap.size + 2 < w3.heap.size := (Array.getElem?_eq_some_iff.1 ORw3.out).1
  have lKw3 := ltR OKw3
  obtain ⟨cA0, cA1, cA2, cA3, cA4, cA5, cA6, cA7, cA8, cA9⟩ := qV OAw3.out
  obtain ⟨cK0, cK1, cK2, cK3, cK4, cK5, cK6⟩ := zY OKw3.out
  go_wp2_with fail
  refine (doerDo_any w2.heap.size w1.heap.size T P V dv D G' W x1 x2 x3 x4 (some ⟨Q, 0, none⟩) x5 y1 y2 y3 y4 cq y5 a _ OKw3.out (HST.out.below Bw2w3.out) HFS.out (by omega) HLK.out (HC.out G' HM.out) HWi.out).mono ?_
  rintro e w4 ⟨⟨rfl, hsb⟩, hkq⟩
  rw [HM.out] at hsb ⊢
  rw [← HNN.out, ← HEE.out]
  rw [← HEE.out, ← HS2.out] at hsb
  have HSB := zA hsb
  have HKq := zA hkq
  clear hsb hkq
  clear cA0 cA1 cA2 cA3 cA4 cA5 cA6 cA7 cA8 cA9
  clear cK0 cK1 cK2 cK3 cK4 cK5 cK6
  have HW4 : Hid (Below w.heap.size w w4) := zA (Bww3.out.trans (HKq.out.below (by omega) (fun k hk => by show ¬ k = w2.heap.size; omega)))
  have OR4 := zA (HKq.out.obj ORw3.out (by show ¬ w.heap.size + 2 = w2.heap.size; omega))
  rcases hE2 : (EE != 0) with _ | _
  ·obtain rfl : EE = 0 := by simpa using hE2
   clear hE2
   obtain ⟨t1, t2, t3, m1, u1, m2, u2, m3, u3, tv, t4, m4, u4, t5, m5, u5, t6, m6, u6, hbx, hq⟩ := HSB.out rfl
   have HBX := zA hbx
   have HQ := zA hq
   clear hbx hq HSB
   have zww4 := HW4.out.size
   have lRw4 : w.heap.size + 2 < w4.heap.size := (Array.getElem?_eq_some_iff.1 OR4.out).1
   have lBw4 := ltR HBX
   have cR0 : w4.cell? ⟨w.heap.size + 2, 0, none⟩ = some (.slice none 0 0) := by rw [cell_of_row _ _ 0 _ _ _ OR4.out]; rfl
   have fR0 : w4.frozen? ⟨w.heap.size + 2, 0, none⟩ = false := frozen_of_row _ _ 0 _ _ OR4.out
   have cR1 : w4.cell? ⟨w.heap.size + 2, 1, none⟩ = some (.slice none 0 0) := by rw [cell_of_row _ _ 1 _ _ _ OR4.out]; rfl
   have fR1 : w4.frozen? ⟨w.heap.size + 2, 1, none⟩ = false := frozen_of_row _ _ 1 _ _ OR4.out
   have cR2 : w4.cell? ⟨w.heap.size + 2, 2, none⟩ = some (.slice none 0 0) := by rw [cell_of_row _ _ 2 _ _ _ OR4.out]; rfl
   have fR2 : w4.frozen? ⟨w.heap.size + 2, 2, none⟩ = false := frozen_of_row _ _ 2 _ _ OR4.out
   have cR3 : w4.cell? ⟨w.heap.size + 2, 3, none⟩ = some (.int .i64 0) := by rw [cell_of_row _ _ 3 _ _ _ OR4.out]; rfl
   have fR3 : w4.frozen? ⟨w.heap.size + 2, 3, none⟩ = false := frozen_of_row _ _ 3 _ _ OR4.out
   have cR4 : w4.cell? ⟨w.heap.size + 2, 4, none⟩ = some (.slice none 0 0) := by rw [cell_of_row _ _ 4 _ _ _ OR4.out]; rfl
   have fR4 : w4.frozen? ⟨w.heap.size + 2, 4, none⟩ = false := frozen_of_row _ _ 4 _ _ OR4.out
   have cR5 : w4.cell? ⟨w.heap.size + 2, 5, none⟩ = some (.slice none 0 0) := by rw [cell_of_row _ _ 5 _ _ _ OR4.out]; rfl
   have fR5 : w4.frozen? ⟨w.heap.size + 2, 5, none⟩ = false := frozen_of_row _ _ 5 _ _ OR4.out
   have cR6 : w4.cell? ⟨w.heap.size + 2, 6, none⟩ = some (.slice none 0 0) := by rw [cell_of_row _ _ 6 _ _ _ OR4.out]; rfl
   have fR6 : w4.frozen? ⟨w.heap.size + 2, 6, none⟩ = false := frozen_of_row _ _ 6 _ _ OR4.out
   obtain ⟨cB0, cB1, cB2, cB3, cB4, cB5, cB6⟩ := zY HBX.out
   go_wp2_with fail
   clear cB0 cB1 cB2 cB3 cB4 cB5 cB6
   refine bodyPost_ret (v := .tuple #[stV t1 t2 t3 m1 u1 m2 u2 m3 u3 tv t4 m4 u4 t5 m5 u5 t6 m6 u6, .int .i64 NN, .int .i64 0]) (by simp [results, Tryz.results7, go_sem, *]) rfl ⟨⟨t1, t2, t3, m1, u1, m2, u2, m3, u3, tv, t4, m4, u4, t5, m5, u5, t6, m6, u6, rfl, (((((((HQ.out.set (p := ⟨w.heap.size + 2, 0, none⟩) (by show w.heap.size + 2 < w1.heap.size; omega) _).set (p := ⟨w.heap.size + 2, 1, none⟩) (by show w.heap.size + 2 < w1.heap.size; omega) _).set (p := ⟨w.heap.size + 2, 2, none⟩) (by show w.heap.size + 2 < w1.heap.size; omega) _).set (p := ⟨w.heap.size + 2, 3, none⟩) (by show w.heap.size + 2 < w1.heap.size; omega) _).set (p := ⟨w.heap.size + 2, 4, none⟩) (by show w.heap.size + 2 < w1.heap.size; omega) _).set (p := ⟨w.heap.size + 2, 5, none⟩) (by show w.heap.size + 2 < w1.heap.size; omega) _).set (p := ⟨w.heap.size + 2, 6, none⟩) (by show w.heap.size + 2 < w1.heap.size; omega) _).mono (show w.heap.size ≤ w1.heap.size by omega)⟩, (((((((HW4.out.setCell (p := ⟨w.heap.size + 2, 0, none⟩) (by show w.heap.size ≤ w.heap.size + 2; omega) _).setCell (p := ⟨w.heap.size + 2, 1, none⟩) (by show w.heap.size ≤ w.heap.size + 2; omega) _).setCell (p := ⟨w.heap.size + 2, 2, none⟩) (by show w.heap.size ≤ w.heap.size + 2; omega) _).setCell (p := ⟨w.heap.size + 2, 3, none⟩) (by show w.heap.size ≤ w.heap.size + 2; omega) _).setCell (p := ⟨w.heap.size + 2, 4, none⟩) (by show w.heap.size ≤ w.heap.size + 2; omega) _).setCell (p := ⟨w.heap.size + 2, 5, none⟩) (by show w.heap.size ≤ w.heap.size + 2; omega) _).setCell (p := ⟨w.heap.size + 2, 6, none⟩) (by show w.heap.size ≤ w.heap.size + 2; omega) _)⟩
  ·have hE3 : ¬ EE = 0 := by simpa using hE2
   have zww4 := HW4.out.size
   have lRw4 : w.heap.size + 2 < w4.heap.size := (Array.getElem?_eq_some_iff.1 OR4.out).1
   have cR0 : w4.cell? ⟨w.heap.size + 2, 0, none⟩ = some (.slice none 0 0) := by rw [cell_of_row _ _ 0 _ _ _ OR4.out]; rfl
   have fR0 : w4.frozen? ⟨w.heap.size + 2, 0, none⟩ = false := frozen_of_row _ _ 0 _ _ OR4.out
   have cR1 : w4.cell? ⟨w.heap.size + 2, 1, none⟩ = some (.slice none 0 0) := by rw [cell_of_row _ _ 1 _ _ _ OR4.out]; rfl
   have fR1 : w4.frozen? ⟨w.heap.size + 2, 1, none⟩ = false := frozen_of_row _ _ 1 _ _ OR4.out
   have cR2 : w4.cell? ⟨w.heap.size + 2, 2, none⟩ = some (.slice none 0 0) := by rw [cell_of_row _ _ 2 _ _ _ OR4.out]; rfl
   have fR2 : w4.frozen? ⟨w.heap.size + 2, 2, none⟩ = false := frozen_of_row _ _ 2 _ _ OR4.out
   have cR3 : w4.cell? ⟨w.heap.size + 2, 3, none⟩ = some (.int .i64 0) := by rw [cell_of_row _ _ 3 _ _ _ OR4.out]; rfl
   have fR3 : w4.frozen? ⟨w.heap.size + 2, 3, none⟩ = false := frozen_of_row _ _ 3 _ _ OR4.out
   have cR4 : w4.cell? ⟨w.heap.size + 2, 4, none⟩ = some (.slice none 0 0) := by rw [cell_of_row _ _ 4 _ _ _ OR4.out]; rfl
   have fR4 : w4.frozen? ⟨w.heap.size + 2, 4, none⟩ = false := frozen_of_row _ _ 4 _ _ OR4.out
   have cR5 : w4.cell? ⟨w.heap.size + 2, 5, none⟩ = some (.slice none 0 0) := by rw [cell_of_row _ _ 5 _ _ _ OR4.out]; rfl
   have fR5 : w4.frozen? ⟨w.heap.size + 2, 5, none⟩ = false := frozen_of_row _ _ 5 _ _ OR4.out
   have cR6 : w4.cell? ⟨w.heap.size + 2, 6, none⟩ = some (.slice none 0 0) := by rw [cell_of_row _ _ 6 _ _ _ OR4.out]; rfl
   have fR6 : w4.frozen? ⟨w.heap.size + 2, 6, none⟩ = false := frozen_of_row _ _ 6 _ _ OR4.out
   go_wp2_with fail
   refine bodyPost_ret (v := .tuple #[stV none none none 0 0 0 0 0 0 0 none 0 0 none 0 0 none 0 0, .int .i64 NN, .int .i64 EE]) (by simp [results, Tryz.results7, go_sem, *]) rfl ⟨⟨none, none, none, 0, 0, 0, 0, 0, 0, 0, none, 0, 0, none, 0, 0, none, 0, 0, rfl, fun _ => rfl, fun h => absurd h hE3⟩, (((((((HW4.out.setCell (p := ⟨w.heap.size + 2, 0, none⟩) (by show w.heap.size ≤ w.heap.size + 2; omega) _).setCell (p := ⟨w.heap.size + 2, 1, none⟩) (by show w.heap.size ≤ w.heap.size + 2; omega) _).setCell (p := ⟨w.heap.size + 2, 2, none⟩) (by show w.heap.size ≤ w.heap.size + 2; omega) _).setCell (p := ⟨w.heap.size + 2, 3, none⟩) (by show w.heap.size ≤ w.heap.size + 2; omega) _).setCell (p := ⟨w.heap.size + 2, 4, none⟩) (by show w.heap.size ≤ w.heap.size + 2; omega) _).setCell (p := ⟨w.heap.size + 2, 5, none⟩) (by show w.heap.size ≤ w.heap.size + 2; omega) _).setCell (p := ⟨w.heap.size + 2, 6, none⟩) (by show w.heap.size ≤ w.heap.size + 2; omega) _)⟩
 ·have hE3 : ¬ E1 = 0 := by simpa using hE
  rw [if_neg hE3, if_neg hE3]
  clear hs
  obtain ⟨cS0, cS1, cS2, cS3, cS4, cS5, cS6⟩ := zY OS0.out
  obtain ⟨cA0, cA1, cA2, cA3, cA4, cA5, cA6, cA7, cA8, cA9⟩ := qV OA0.out
  go_enter Tryz.func7, Tryz.ntmps7
  go_wp2_with fail
  generalize (((w.alloc (.cells #[.slice o1 T.length c1, .slice o2 P.length c2, .slice o3 V.length c3, .int .i64 dv, .slice od D.length cd, .slice og G.length cg, .slice ov W.length cv] 32)).alloc (.cells #[.int .i64 a.k, .int .i64 a.i, .int .i64 a.o, .int .i64 a.m, .int .i64 a.t.i, .int .i64 a.t.k, .int .i64 a.t.f, .int .i64 a.t.t, .int .i64 a.t.z, .int .i64 a.t.r] 36)).alloc (.cells #[.slice none 0 0, .slice none 0 0, .slice none 0 0, .int .i64 0, .slice none 0 0, .slice none 0 0, .slice none 0 0] 32)) = w0 at *
  clear HB
  refine (HE1.out _ (HS.out.below Hw.out)).mono ?_
  rintro e w1 ⟨rfl, hb⟩
  have Bww1 := trR Hw hb
  have OSw1 := atR OS0 hb
  have OAw1 := atR OA0 hb
  have ORw1 := atR OR0 hb
  have zww1 := Bww1.out.size
  have lSw1 := ltR OSw1
  have lAw1 : w.heap.size + 1 < w1.heap.size := (Array.getElem?_eq_some_iff.1 OAw1.out).1
  have lRw1 : w.heap.size + 2 < w1.heap.size := (Array.getElem?_eq_some_iff.1 ORw1.out).1
  clear hb Hw OS0 OA0 OR0
  clear cS0 cS1 cS2 cS3 cS4 cS5 cS6
  clear cA0 cA1 cA2 cA3 cA4 cA5 cA6 cA7 cA8 cA9
  have cR0 : w1.cell? ⟨w.heap.size + 2, 0, none⟩ = some (.slice none 0 0) := by rw [cell_of_row _ _ 0 _ _ _ ORw1.out]; rfl
  have fR0 : w1.frozen? ⟨w.heap.size + 2, 0, none⟩ = false := frozen_of_row _ _ 0 _ _ ORw1.out
  have cR1 : w1.cell? ⟨w.heap.size + 2, 1, none⟩ = some (.slice none 0 0) := by rw [cell_of_row _ _ 1 _ _ _ ORw1.out]; rfl
  have fR1 : w1.frozen? ⟨w.heap.size + 2, 1, none⟩ = false := frozen_of_row _ _ 1 _ _ ORw1.out
  have cR2 : w1.cell? ⟨w.heap.size + 2, 2, none⟩ = some (.slice none 0 0) := by rw [cell_of_row _ _ 2 _ _ _ ORw1.out]; rfl
  have fR2 : w1.frozen? ⟨w.heap.size + 2, 2, none⟩ = false := frozen_of_row _ _ 2 _ _ ORw1.out
  have cR3 : w1.cell? ⟨w.heap.size + 2, 3, none⟩ = some (.int .i64 0) := by rw [cell_of_row _ _ 3 _ _ _ ORw1.out]; rfl
  have fR3 : w1.frozen? ⟨w.heap.size + 2, 3, none⟩ = false := frozen_of_row _ _ 3 _ _ ORw1.out
  have cR4 : w1.cell? ⟨w.heap.size + 2, 4, none⟩ = some (.slice none 0 0) := by rw [cell_of_row _ _ 4 _ _ _ ORw1.out]; rfl
  have fR4 : w1.frozen? ⟨w.heap.size + 2, 4, none⟩ = false := frozen_of_row _ _ 4 _ _ ORw1.out
  have cR5 : w1.cell? ⟨w.heap.size + 2, 5, none⟩ = some (.slice none 0 0) := by rw [cell_of_row _ _ 5 _ _ _ ORw1.out]; rfl
  have fR5 : w1.frozen? ⟨w.heap.size + 2, 5, none⟩ = false := frozen_of_row _ _ 5 _ _ ORw1.out
  have cR6 : w1.cell? ⟨w.heap.size + 2, 6, none⟩ = some (.slice none 0 0) := by rw [cell_of_row _ _ 6 _ _ _ ORw1.out]; rfl
  have fR6 : w1.frozen? ⟨w.heap.size + 2, 6, none⟩ = false := frozen_of_row _ _ 6 _ _ ORw1.out
  go_wp2_with fail
  refine bodyPost_ret (v := .tuple #[stV none none none 0 0 0 0 0 0 0 none 0 0 none 0 0 none 0 0, .int .i64 0, .int .i64 E1]) (by simp [results, Tryz.results7, go_sem, *]) rfl ⟨⟨none, none, none, 0, 0, 0, 0, 0, 0, 0, none, 0, 0, none, 0, 0, none, 0, 0, rfl, fun _ => rfl, fun h => absurd h hE3⟩, (((((((Bww1.out.setCell (p := ⟨w.heap.size + 2, 0, none⟩) (by show w.heap.size ≤ w.heap.size + 2; omega) _).setCell (p := ⟨w.heap.size + 2, 1, none⟩) (by show w.heap.size ≤ w.heap.size + 2; omega) _).setCell (p := ⟨w.heap.size + 2, 2, none⟩) (by show w.heap.size ≤ w.heap.size + 2; omega) _).setCell (p := ⟨w.heap.size + 2, 3, none⟩) (by show w.heap.size ≤ w.heap.size + 2; omega) _).setCell (p := ⟨w.heap.size + 2, 4, none⟩) (by show w.heap.size ≤ w.heap.size + 2; omega) _).setCell (p := ⟨w.heap.size + 2, 5, none⟩) (by show w.heap.size ≤ w.heap.size + 2; omega) _).setCell (p := ⟨w.heap.size + 2, 6, none⟩) (by show w.heap.size ≤ w.heap.size + 2; omega) _)⟩
def qG : SS := ⟨[], [], [], 0, [], xE.map GT.p, newV⟩
def tk1 : TK := ⟨1, 1, 10, 500, 15, 0⟩
def script7 : List AC := [⟨7, 0, 0, 0, tk0⟩, ⟨1, 0, 0, 0, tk1⟩, ⟨6, 0, 0, 0, tk0⟩, ⟨2, 1, 0, 20, tk0⟩, ⟨2, 1, 1, 90, tk0⟩, ⟨5, 0, 0, 0, tk0⟩, ⟨4, 0, 0, 95, tk0⟩]
def a8 : AC := ⟨4, 0, 1, 96, tk0⟩
def a9 : AC := ⟨2, 1, 2, 97, tk0⟩
def scriptL : List AC := script7 ++ [a8] ++ [a9]
def tp1 : TP := ⟨1, 0, 1, 20, 1⟩
def tp2 : TP := ⟨1, 1, 1, 90, 2⟩
def viewsS : List VW := [⟨1, 0, true⟩, ⟨1, 0, true⟩, ⟨1, 0, true⟩]
def st7 : SS := ⟨[tk1], [tp1], [1], 0, [], [⟨0, 1, 1, [], 0, [], 9, 195⟩, ⟨1, 2, 1, [tp2], 0, [], 8, 100⟩, ⟨2, 4, 0, [], 0, [], 9, 100⟩], viewsS⟩
def st8 : SS := ⟨[tk1], [tp1], [1], 1, [1], [⟨0, 1, 1, [], 0, [], 9, 195⟩, ⟨1, 2, 1, [], 1, [1], 9, 196⟩, ⟨2, 4, 0, [], 0, [], 9, 100⟩], viewsS⟩
theorem new_chkS : qG.chk = 0 := by decide +kernel
theorem run7_S : runS qG script7 = st7 := by kernel_rfl
theorem run7_E : runE qG script7 = [0, 0, 0, 0, 0, 0, 0] := by decide +kernel
theorem srt_12 : srt ([tp1] ++ [tp2]) = [tp1, tp2] := (srt_eq (by simp [Ord, tp1, tp2, befP]) (List.Perm.refl _) (by simp [DistP, tp1, tp2])).symm
theorem into_B12 : qD [tk1] [tp1] [tp2] = (0, [tp1], [1], [tp2]) := by
 have h : jJ [tk1] [tp1, tp2] [] [] [] = (0, [tp1], [1], [tp2]) := by kernel_rfl
 rw [qD, srt_12, h]
theorem into_E12 : qC [tk1] [tp1] [1] [tp2] = 0 := by
 rw [qC, if_pos (by decide +kernel), if_neg (by decide), if_pos (by decide +kernel), into_B12]
theorem act8_E : actE st7 a8 = 0 := by
 have h : xZ st7.T st7.P st7.V st7.dv st7.D st7.L st7.W a8.o a8.m = 0 := by
  rw [xZ, if_neg (by decide +kernel), syncK, if_pos (by decide +kernel), if_pos (by decide +kernel)]
  exact into_E12
 have hu : unfA st7 a8 = 0 := by decide +kernel
 rw [actE, if_pos hu, doE, if_neg (by decide), if_neg (by decide), if_neg (by decide), if_pos (by decide)]
 exact h
theorem act8_S : doS st7 a8 = st8 := by
 have h4 : doS st7 a8 = { st7 with T := xV [tk1] [tp1] [1] [tp2], P := xR [tk1] [tp1] [1] [tp2], V := xY [tk1] [tp1] [1] [tp2], dv := (yC (qL [tk1] [tp1] [1] [tp2]) 0 []).1, D := (yC (qL [tk1] [tp1] [1] [tp2]) 0 []).2, L := st7.L.set 1 (gSync ⟨1, 2, 1, [tp2], 0, [], 8, 100⟩ (yC (qL [tk1] [tp1] [1] [tp2]) 0 []).1 (yC (qL [tk1] [tp1] [1] [tp2]) 0 []).2 96) } := by kernel_rfl
 rw [h4, xV, xR, xY, qL, if_pos into_E12, if_pos into_E12, if_pos into_E12, if_pos into_E12, into_B12]
 show _ = _
 kernel_rfl
theorem act9_E : actE st8 a9 = 11 := by decide +kernel
theorem script_S : runS qG scriptL = st8 := by
 rw [scriptL, runS_snoc, runS_snoc, run7_S, act8_E, if_pos rfl, act8_S, act9_E]
 rfl
theorem script_E : runE qG scriptL = [0, 0, 0, 0, 0, 0, 0, 0, 11] := by
 rw [scriptL, runE_snoc, runE_snoc, runS_snoc, run7_S, act8_E, if_pos rfl, act8_S, act9_E, run7_E]
 rfl
theorem act10_E : actE st8 ⟨7, 0, 1, 0, tk0⟩ = 0 := by decide +kernel
theorem act10_N : actN st8 ⟨7, 0, 1, 0, tk0⟩ = 1 := by decide +kernel
theorem infoErr : (Tryz.prog.info? 37).map (fun i => (i.zero, i.size, i.bytes)) = some (some (.int .i64 0), 1, 8) := by kernel_rfl
theorem intsV_ownE {w : World} {base n : Nat} {v : Value} {L : List Int} {T : TypeId} (h : w.ownsRow base T 1 v n (qJ L)) : zP w v L := by
 have hn : n = L.length := by have := h.1; rw [cellsV_len] at this; omega
 subst hn
 have hc := fun g => h.cells (g := g)
 rcases h.2 with ⟨rfl, h0⟩ | ⟨g, cap, cur, rfl, -, -, hcap, -⟩
 ·have : L = [] := List.eq_nil_of_length_eq_zero h0
  subst this
  exact ⟨none, 0, rfl, fun i p hi => by simp at hi, by simp, fun _ => rfl⟩
 ·exact ⟨_, cap, rfl, fun i p hi => ⟨_, rfl, hc g rfl i _ (by simp [qJ, hi])⟩, hcap, fun h => by cases h⟩
structure Act10 (w : World) (b : Addr) (a : AC) : Prop where
 c0 : w.cell? b = some (.int .i64 a.k)
 c1 : w.cell? ⟨b.block, b.off + 1, none⟩ = some (.int .i64 a.i)
 c2 : w.cell? ⟨b.block, b.off + 2, none⟩ = some (.int .i64 a.o)
 c3 : w.cell? ⟨b.block, b.off + 3, none⟩ = some (.int .i64 a.m)
 c4 : w.cell? ⟨b.block, b.off + 4, none⟩ = some (.int .i64 a.t.i)
 c5 : w.cell? ⟨b.block, b.off + 5, none⟩ = some (.int .i64 a.t.k)
 c6 : w.cell? ⟨b.block, b.off + 6, none⟩ = some (.int .i64 a.t.f)
 c7 : w.cell? ⟨b.block, b.off + 7, none⟩ = some (.int .i64 a.t.t)
 c8 : w.cell? ⟨b.block, b.off + 8, none⟩ = some (.int .i64 a.t.z)
 c9 : w.cell? ⟨b.block, b.off + 9, none⟩ = some (.int .i64 a.t.r)
theorem Act10.below {w w' : World} {b : Addr} {a : AC} (h : Act10 w b a) (hb : Below w.heap.size w w') : Act10 w' b a := by
 have hl : b.block < w.heap.size := World.block_lt_of_cell? w b h.c0
 have e : ∀ {p : Addr} {v : Value}, p.block = b.block → w.cell? p = some v → w'.cell? p = some v := fun {p v} hp hv => by
  rw [hb.cell (by rw [hp]; exact hl)]
  exact hv
 exact ⟨e rfl h.c0, e rfl h.c1, e rfl h.c2, e rfl h.c3, e rfl h.c4, e rfl h.c5, e rfl h.c6, e rfl h.c7, e rfl h.c8, e rfl h.c9⟩
def jC (w : World) (o : Option Addr) (L : List AC) : Prop := ∀ i a, L[i]? = some a → ∃ b, o = some b ∧ Act10 w (b.add (i * 10)) a
theorem jC.below {w w' : World} {o : Option Addr} {L : List AC} (h : jC w o L) (hb : Below w.heap.size w w') : jC w' o L :=
 fun i a hi => have ⟨b, e, h1⟩ := h i a hi; ⟨b, e, h1.below hb⟩
def StX (w : World) (B X : Nat) (x1 x2 x3 : Option Addr) (n1 y1 n2 y2 n3 y3 : Nat) (xv : Int) (x4 : Option Addr) (n4 y4 : Nat) (x5 : Option Addr) (n5 y5 : Nat) (x6 : Option Addr) (n6 y6 : Nat) (s : SS) : Prop :=
 n1 = s.T.length ∧ n2 = s.P.length ∧ n3 = s.V.length ∧ xv = s.dv ∧ n4 = s.D.length ∧ n6 = s.W.length ∧ ∃ G : List GT, n5 = G.length ∧ G.map GT.p = s.L ∧ StW w x1 x2 x3 y1 y2 y3 s.T s.P s.V x4 y4 s.D x5 y5 G x6 y6 s.W ∧ FrS B x1 x2 x3 x4 x5 x6 y1 y2 y3 y4 y5 y6 s.T s.P s.V s.D G s.W ∧ LtK X x1 x2 x3 x4 x5 x6 s.T s.P s.V s.D G s.W
theorem StQ.stx {w : World} {B X : Nat} {x1 x2 x3 : Option Addr} {n1 y1 n2 y2 n3 y3 : Nat} {xv : Int} {x4 : Option Addr} {n4 y4 : Nat} {x5 : Option Addr} {n5 y5 : Nat} {x6 : Option Addr} {n6 y6 : Nat} {s : SS} (h : StQ w B x1 x2 x3 n1 y1 n2 y2 n3 y3 xv x4 n4 y4 x5 n5 y5 x6 n6 y6 s) (hX : X < B ∨ w.heap.size ≤ X) : StX w B X x1 x2 x3 n1 y1 n2 y2 n3 y3 xv x4 n4 y4 x5 n5 y5 x6 n6 y6 s := by
 obtain ⟨h1, h2, h3, h4, h5, h6, G, h7, h8, h9, h10⟩ := h
 exact ⟨h1, h2, h3, h4, h5, h6, G, h7, h8, h9, h10, hX.elim (fun h => h10.ltk h) (fun h => h9.ltk h)⟩
theorem StX.stq {w : World} {B X : Nat} {x1 x2 x3 : Option Addr} {n1 y1 n2 y2 n3 y3 : Nat} {xv : Int} {x4 : Option Addr} {n4 y4 : Nat} {x5 : Option Addr} {n5 y5 : Nat} {x6 : Option Addr} {n6 y6 : Nat} {s : SS} (h : StX w B X x1 x2 x3 n1 y1 n2 y2 n3 y3 xv x4 n4 y4 x5 n5 y5 x6 n6 y6 s) : StQ w B x1 x2 x3 n1 y1 n2 y2 n3 y3 xv x4 n4 y4 x5 n5 y5 x6 n6 y6 s := by
 obtain ⟨h1, h2, h3, h4, h5, h6, G, h7, h8, h9, h10, -⟩ := h
 exact ⟨h1, h2, h3, h4, h5, h6, G, h7, h8, h9, h10⟩
theorem StX.below {w w' : World} {B X : Nat} {x1 x2 x3 : Option Addr} {n1 y1 n2 y2 n3 y3 : Nat} {xv : Int} {x4 : Option Addr} {n4 y4 : Nat} {x5 : Option Addr} {n5 y5 : Nat} {x6 : Option Addr} {n6 y6 : Nat} {s : SS} (h : StX w B X x1 x2 x3 n1 y1 n2 y2 n3 y3 xv x4 n4 y4 x5 n5 y5 x6 n6 y6 s) (hb : Below w.heap.size w w') : StX w' B X x1 x2 x3 n1 y1 n2 y2 n3 y3 xv x4 n4 y4 x5 n5 y5 x6 n6 y6 s := by
 obtain ⟨h1, h2, h3, h4, h5, h6, G, h7, h8, h9, h10, h11⟩ := h
 exact ⟨h1, h2, h3, h4, h5, h6, G, h7, h8, h9.below hb, h10, h11⟩
theorem StX.mono {w : World} {B C X : Nat} {x1 x2 x3 : Option Addr} {n1 y1 n2 y2 n3 y3 : Nat} {xv : Int} {x4 : Option Addr} {n4 y4 : Nat} {x5 : Option Addr} {n5 y5 : Nat} {x6 : Option Addr} {n6 y6 : Nat} {s : SS} (h : StX w B X x1 x2 x3 n1 y1 n2 y2 n3 y3 xv x4 n4 y4 x5 n5 y5 x6 n6 y6 s) (hC : C ≤ B) : StX w C X x1 x2 x3 n1 y1 n2 y2 n3 y3 xv x4 n4 y4 x5 n5 y5 x6 n6 y6 s := by
 obtain ⟨h1, h2, h3, h4, h5, h6, G, h7, h8, h9, h10, h11⟩ := h
 exact ⟨h1, h2, h3, h4, h5, h6, G, h7, h8, h9, h10.mono hC, h11⟩
theorem StX.kq {w w' : World} {B X : Nat} {x1 x2 x3 : Option Addr} {n1 y1 n2 y2 n3 y3 : Nat} {xv : Int} {x4 : Option Addr} {n4 y4 : Nat} {x5 : Option Addr} {n5 y5 : Nat} {x6 : Option Addr} {n6 y6 : Nat} {s : SS} (h : StX w B X x1 x2 x3 n1 y1 n2 y2 n3 y3 xv x4 n4 y4 x5 n5 y5 x6 n6 y6 s) (hk : Kq (fun k => k = X) w w') : StX w' B X x1 x2 x3 n1 y1 n2 y2 n3 y3 xv x4 n4 y4 x5 n5 y5 x6 n6 y6 s := by
 obtain ⟨h1, h2, h3, h4, h5, h6, G, h7, h8, h9, h10, h11⟩ := h
 exact ⟨h1, h2, h3, h4, h5, h6, G, h7, h8, h9.kq hk (fun b hb => by rw [hb]; exact h11), h10, h11⟩
theorem StX.set {w : World} {B X : Nat} {x1 x2 x3 : Option Addr} {n1 y1 n2 y2 n3 y3 : Nat} {xv : Int} {x4 : Option Addr} {n4 y4 : Nat} {x5 : Option Addr} {n5 y5 : Nat} {x6 : Option Addr} {n6 y6 : Nat} {s : SS} (h : StX w B X x1 x2 x3 n1 y1 n2 y2 n3 y3 xv x4 n4 y4 x5 n5 y5 x6 n6 y6 s) {p : Addr} (hp : p.block < B) (u : Value) : StX (w.setCell p u) B X x1 x2 x3 n1 y1 n2 y2 n3 y3 xv x4 n4 y4 x5 n5 y5 x6 n6 y6 s := by
 obtain ⟨h1, h2, h3, h4, h5, h6, G, h7, h8, h9, h10, h11⟩ := h
 exact ⟨h1, h2, h3, h4, h5, h6, G, h7, h8, h9.setO (h10.ltk hp) u, h10, h11⟩
theorem Kq.ofGrown {w w' : World} {g : Nat} (h : w.grownBy w' (some g)) : Kq (fun k => k = g) w w' :=
 ⟨h.os, h.tape, h.output, h.size, fun k hk hs => h.block k hk (fun e => hs (Option.some.inj e))⟩
theorem newQ_any (w : World) : Calls Tryz.prog 27 #[] w fun e w' => (∃ x1 x2 x3 n1 y1 n2 y2 n3 y3 xv x4 n4 y4 x5 n5 y5 x6 n6 y6, e = .returned (stV x1 x2 x3 n1 y1 n2 y2 n3 y3 xv x4 n4 y4 x5 n5 y5 x6 n6 y6) ∧ StQ w' w.heap.size x1 x2 x3 n1 y1 n2 y2 n3 y3 xv x4 n4 y4 x5 n5 y5 x6 n6 y6 qG) ∧ Below w.heap.size w w' := by
 refine (new_any w).mono ?_
 rintro e w' ⟨⟨og, cg, ov, cv, rfl, h1, h2⟩, hb⟩
 obtain ⟨Q, c, e1, hQ, hc⟩ := yU h1 (by omega)
 simp only [Value.slice.injEq, true_and] at e1
 obtain ⟨rfl, rfl⟩ := e1
 obtain ⟨Q2, c2, e2, hQ2, hc2⟩ := yU h2 (by omega)
 simp only [Value.slice.injEq, true_and] at e2
 obtain ⟨rfl, rfl⟩ := e2
 have hg : xA w' (some ⟨Q, 0, none⟩) xE := gatesAt_own h1 (fun g hg => by
  simp only [xE, List.mem_cons, List.not_mem_nil, or_false] at hg
  rcases hg with rfl | rfl | rfl <;> exact ⟨⟨none, 0, rfl, fun i p h => by simp [gt0] at h, by simp [gt0], fun _ => rfl⟩, ⟨none, 0, rfl, fun i p h => by simp [gt0] at h, by simp [gt0], fun _ => rfl⟩⟩)
 have hv : qK w' (.slice (some ⟨Q2, 0, none⟩) 3 cv) newV := vwsV_own h2
 have fr : ∀ {α : Type} (L : List α) (B : Nat), zK B (.slice none L.length 0) := fun L B k hk => by simp [Value.ownBlock] at hk
 refine ⟨⟨none, none, none, 0, 0, 0, 0, 0, 0, 0, none, 0, 0, some ⟨Q, 0, none⟩, 3, cg, some ⟨Q2, 0, none⟩, 3, cv, rfl, rfl, rfl, rfl, rfl, rfl, rfl, xE, rfl, rfl, ?_, ?_⟩, hb⟩
 ·refine ⟨xW.of ⟨none, 0, rfl, fun i p h => by simp [qG] at h, by simp [qG], fun _ => rfl⟩ ⟨none, 0, rfl, fun i p h => by simp [qG] at h, by simp [qG], fun _ => rfl⟩ ⟨none, 0, rfl, fun i p h => by simp [qG] at h, by simp [qG], fun _ => rfl⟩, by constructor <;> simp [qG], ⟨fun i p h => by simp [qG] at h, by simp [qG], by simp [qG], fun _ => rfl⟩, hg, ?_, hc, (fun h => by cases h), by simp [xE], hv.eqs.2.1, hv.eqs.2.2.1, (fun h => by cases h), by simp [qG, newV]⟩
  intro g hg
  simp only [xE, List.mem_cons, List.not_mem_nil, or_false] at hg
  rcases hg with rfl | rfl | rfl <;> simp [gt0]
 ·refine ⟨fr _ _, fr _ _, fr _ _, fr _ _, fun k hk => ?_, fun k hk => ?_, fun g hg => ?_⟩
  ·simp only [Value.ownBlock, Option.some.injEq] at hk; omega
  ·simp only [Value.ownBlock, Option.some.injEq] at hk; omega
  ·simp only [xE, List.mem_cons, List.not_mem_nil, or_false] at hg
   rcases hg with rfl | rfl | rfl <;> exact ⟨fun k hk => by simp [gt0, Value.ownBlock] at hk, fun k hk => by simp [gt0, Value.ownBlock] at hk⟩
theorem deskRun_any (o : Option Addr) (c : Nat) (L : List AC) (w : World) (hL : jC w o L) (hlen : L.length ≤ 9223372036854775807) :
  Calls Tryz.prog 12 #[.slice o L.length c] w fun e w' => ((40 < L.length ∧ e = .returned (.tuple #[stV none none none 0 0 0 0 0 0 0 none 0 0 none 0 0 none 0 0, .slice none 0 0, .int .i64 2])) ∨ (L.length ≤ 40 ∧ ∃ x1 x2 x3 n1 y1 n2 y2 n3 y3 xv x4 n4 y4 x5 n5 y5 x6 n6 y6 o' c', e = .returned (.tuple #[stV x1 x2 x3 n1 y1 n2 y2 n3 y3 xv x4 n4 y4 x5 n5 y5 x6 n6 y6, .slice o' L.length c', .int .i64 0]) ∧ StQ w' w.heap.size x1 x2 x3 n1 y1 n2 y2 n3 y3 xv x4 n4 y4 x5 n5 y5 x6 n6 y6 (runS qG L) ∧ zP w' (.slice o' L.length c') (runE qG L) ∧ zK w.heap.size (.slice o' L.length c'))) ∧ Below w.heap.size w w' := by
 obtain ⟨i0, hi, hz0, hz1, hz2⟩ := info_parts infoErr
 have HB := zA ((zL.nil w).more (.cells #[.slice none 0 0, .slice none 0 0, .slice none 0 0, .int .i64 0, .slice none 0 0, .slice none 0 0, .slice none 0 0] 32) (by simp))
 have Hw := zA HB.out.2.2
 have OR0 := zA (show _ = _ from HB.out.1 0 _ rfl)
 rw [Nat.add_zero] at OR0
 have HL := zA hL
 clear hL
 have hz : w.heap.size + 1 ≤ (w.alloc (.cells #[.slice none 0 0, .slice none 0 0, .slice none 0 0, .int .i64 0, .slice none 0 0, .slice none 0 0, .slice none 0 0] 32)).heap.size := by simp
 by_cases h40 : 40 < L.length
 ·go_enter Tryz.func12, Tryz.ntmps12
  go_upto_region 1 with fail
  generalize (w.alloc (.cells #[.slice none 0 0, .slice none 0 0, .slice none 0 0, .int .i64 0, .slice none 0 0, .slice none 0 0, .slice none 0 0] 32)) = w0 at *
  clear HB
  have zww0 := Hw.out.size
  have lRw0 := ltR OR0
  have cR0 : w0.cell? ⟨w.heap.size, 0, none⟩ = some (.slice none 0 0) := by rw [cell_of_row _ _ 0 _ _ _ OR0.out]; rfl
  have fR0 : w0.frozen? ⟨w.heap.size, 0, none⟩ = false := frozen_of_row _ _ 0 _ _ OR0.out
  have cR1 : w0.cell? ⟨w.heap.size, 1, none⟩ = some (.slice none 0 0) := by rw [cell_of_row _ _ 1 _ _ _ OR0.out]; rfl
  have fR1 : w0.frozen? ⟨w.heap.size, 1, none⟩ = false := frozen_of_row _ _ 1 _ _ OR0.out
  have cR2 : w0.cell? ⟨w.heap.size, 2, none⟩ = some (.slice none 0 0) := by rw [cell_of_row _ _ 2 _ _ _ OR0.out]; rfl
  have fR2 : w0.frozen? ⟨w.heap.size, 2, none⟩ = false := frozen_of_row _ _ 2 _ _ OR0.out
  have cR3 : w0.cell? ⟨w.heap.size, 3, none⟩ = some (.int .i64 0) := by rw [cell_of_row _ _ 3 _ _ _ OR0.out]; rfl
  have fR3 : w0.frozen? ⟨w.heap.size, 3, none⟩ = false := frozen_of_row _ _ 3 _ _ OR0.out
  have cR4 : w0.cell? ⟨w.heap.size, 4, none⟩ = some (.slice none 0 0) := by rw [cell_of_row _ _ 4 _ _ _ OR0.out]; rfl
  have fR4 : w0.frozen? ⟨w.heap.size, 4, none⟩ = false := frozen_of_row _ _ 4 _ _ OR0.out
  have cR5 : w0.cell? ⟨w.heap.size, 5, none⟩ = some (.slice none 0 0) := by rw [cell_of_row _ _ 5 _ _ _ OR0.out]; rfl
  have fR5 : w0.frozen? ⟨w.heap.size, 5, none⟩ = false := frozen_of_row _ _ 5 _ _ OR0.out
  have cR6 : w0.cell? ⟨w.heap.size, 6, none⟩ = some (.slice none 0 0) := by rw [cell_of_row _ _ 6 _ _ _ OR0.out]; rfl
  have fR6 : w0.frozen? ⟨w.heap.size, 6, none⟩ = false := frozen_of_row _ _ 6 _ _ OR0.out
  go_wp2_with fail
  refine bodyPost_ret (v := .tuple #[stV none none none 0 0 0 0 0 0 0 none 0 0 none 0 0 none 0 0, .slice none 0 0, .int .i64 2]) (by simp [results, Tryz.results12, go_sem, *]) rfl ⟨Or.inl ⟨h40, rfl⟩, (((((((Hw.out.setCell (p := ⟨w.heap.size, 0, none⟩) (Nat.le_refl _) _).setCell (p := ⟨w.heap.size, 1, none⟩) (Nat.le_refl _) _).setCell (p := ⟨w.heap.size, 2, none⟩) (Nat.le_refl _) _).setCell (p := ⟨w.heap.size, 3, none⟩) (Nat.le_refl _) _).setCell (p := ⟨w.heap.size, 4, none⟩) (Nat.le_refl _) _).setCell (p := ⟨w.heap.size, 5, none⟩) (Nat.le_refl _) _).setCell (p := ⟨w.heap.size, 6, none⟩) (Nat.le_refl _) _)⟩
 ·go_enter Tryz.func12, Tryz.ntmps12
  have h40b : L.length ≤ 40 := by omega
  go_upto_region 1 with fail
  generalize (w.alloc (.cells #[.slice none 0 0, .slice none 0 0, .slice none 0 0, .int .i64 0, .slice none 0 0, .slice none 0 0, .slice none 0 0] 32)) = w0 at *
  clear HB
  have zww0 := Hw.out.size
  have lRw0 := ltR OR0
  go_wp2_with fail
  refine (newQ_any _).mono ?_
  rintro e w1 ⟨⟨x1, x2, x3, n1, y1, n2, y2, n3, y3, xv, x4, n4, y4, x5, n5, y5, x6, n6, y6, rfl, hq⟩, hb⟩
  have Bww1 := trR Hw hb
  have Bw0w1 := zA hb
  have ORw1 := atR OR0 hb
  have zww1 := Bww1.out.size
  have zw0w1 := Bw0w1.out.size
  have lRw1 := ltR ORw1
  clear hb Hw OR0
  have HQ := zA hq
  clear hq
  go_upto_region 4 with fail
  have hb := (Below.refl w1.heap.size w1).alloc (Nat.le_refl _) (.cells #[.slice x1 n1 y1, .slice x2 n2 y2, .slice x3 n3 y3, .int .i64 xv, .slice x4 n4 y4, .slice x5 n5 y5, .slice x6 n6 y6] 32)
  have OBw2 := zA (heap_alloc_new w1 (.cells #[.slice x1 n1 y1, .slice x2 n2 y2, .slice x3 n3 y3, .int .i64 xv, .slice x4 n4 y4, .slice x5 n5 y5, .slice x6 n6 y6] 32))
  have Bww2 := trR Bww1 hb
  have Bw0w2 := trR Bw0w1 hb
  have Bw1w2 := zA hb
  have ORw2 := atR ORw1 hb
  clear hb Bww1 Bw0w1 ORw1
  generalize (w1.alloc (.cells #[.slice x1 n1 y1, .slice x2 n2 y2, .slice x3 n3 y3, .int .i64 xv, .slice x4 n4 y4, .slice x5 n5 y5, .slice x6 n6 y6] 32)) = w2 at *
  have zww2 := Bww2.out.size
  have zw0w2 := Bw0w2.out.size
  have zw1w2 := Bw1w2.out.size
  have lRw2 := ltR ORw2
  have lBw2 := ltR OBw2
  go_wp2_with (first
   | (at_make; go_loud (refine wpList_make_own _ rfl _ _ 45 rfl w2.heap.size 37 i0 (.int .i64 0) 1 Tryz.underlying45 hi hz0 hz1 .i64 .i64 _ L.length rfl rfl (by first | rfl | omega) (by rw [hz2]; omega) (by unfold maxLen; omega) (Nat.le_refl _) ?_; intro w3 hown0 hgrow0)))
  have hb : Below w2.heap.size w2 w3 := (Below.refl _ _).grown hgrow0 (Nat.le_refl _) (fun k h => by cases h)
  have HX := zA (((((HQ.out.below Bw1w2.out).stx (X := w2.heap.size) (Or.inr (Nat.le_refl _))).mono (C := w.heap.size + 1) (by omega)).below hb))
  have HOwn := zA hown0
  clear HQ hown0 hgrow0
  have Bww3 := trR Bww2 hb
  clear Bww2
  have Bw0w3 := trR Bw0w2 hb
  clear Bw0w2
  have Bw1w3 := trR Bw1w2 hb
  clear Bw1w2
  have ORw3 := atR ORw2 hb
  clear ORw2
  have OBw3 := atR OBw2 hb
  clear OBw2
  clear hb
  have zww3 := Bww3.out.size
  have zw0w3 := Bw0w3.out.size
  have zw1w3 := Bw1w3.out.size
  have lRw3 := ltR ORw3
  have lBw3 := ltR OBw3
  go_loopw [6, 22] (fun v i wr => ∃ (q : Nat) (x1 x2 x3 : Option Addr) (n1 y1 n2 y2 n3 y3 : Nat) (xv : Int) (x4 : Option Addr) (n4 y4 : Nat) (x5 : Option Addr) (n5 y5 : Nat) (x6 : Option Addr) (n6 y6 : Nat), q ≤ L.length ∧ i = .int .i64 q ∧ v = .slice (some ⟨w2.heap.size, 0, none⟩) q L.length ∧ Hid (wr.ownsRow w2.heap.size 37 1 (.slice (some ⟨w2.heap.size, 0, none⟩) q L.length) q (qJ (runE qG (L.take q)))) ∧ Hid (wr.heap[w1.heap.size]? = some (.cells #[.slice x1 n1 y1, .slice x2 n2 y2, .slice x3 n3 y3, .int .i64 xv, .slice x4 n4 y4, .slice x5 n5 y5, .slice x6 n6 y6] 32)) ∧ Hid (StX wr (w.heap.size + 1) w2.heap.size x1 x2 x3 n1 y1 n2 y2 n3 y3 xv x4 n4 y4 x5 n5 y5 x6 n6 y6 (runS qG (L.take q))) ∧ Hid (Below w.heap.size w wr) ∧ Hid (wr.heap[w.heap.size]? = some (.cells #[.slice none 0 0, .slice none 0 0, .slice none 0 0, .int .i64 0, .slice none 0 0, .slice none 0 0, .slice none 0 0] 32))) (fun _ i _ => L.length - (intOf i).toNat)
  case atStart => exact ⟨0, x1, x2, x3, n1, y1, n2, y2, n3, y3, xv, x4, n4, y4, x5, n5, y5, x6, n6, y6, Nat.zero_le _, rfl, rfl, HOwn, OBw3, HX, Bww3, ORw3⟩
  case round =>
   obtain ⟨q, x1, x2, x3, n1, y1, n2, y2, n3, y3, xv, x4, n4, y4, x5, n5, y5, x6, n6, y6, hq, rfl, rfl, HO, OB0, HX0, Hw0, OR9⟩ := hrel
   have zwwr := Hw0.out.size
   have lRwr := ltR OR9
   have lBwr := ltR OB0
   by_cases hgo : q < L.length
   ·obtain ⟨a, ha⟩ : ∃ a, L[q]? = some a := ⟨_, List.getElem?_eq_getElem hgo⟩
    have HS1 := zA (show runS qG (L.take (q + 1)) = if actE (runS qG (L.take q)) a = 0 then doS (runS qG (L.take q)) a else runS qG (L.take q) by rw [List.take_add_one, ha]; exact runS_snoc _ _ _)
    have HE1 := zA (show runE qG (L.take (q + 1)) = runE qG (L.take q) ++ [actE (runS qG (L.take q)) a] by rw [List.take_add_one, ha]; exact runE_snoc _ _ _)
    obtain ⟨b, rfl, a0, a1, a2, a3, a4, a5, a6, a7, a8, a9⟩ := (HL.out.below Hw0.out) q a ha
    clear ha
    generalize runS qG (L.take q) = s at *
    generalize runE qG (L.take q) = es at *
    obtain ⟨T, P, V, dv, D, L', W⟩ := s
    obtain ⟨rfl, rfl, rfl, rfl, rfl, rfl, G, rfl, rfl, hst, hfr, hlt⟩ := HX0.out
    have HST := zA hst
    clear hst hfr hlt
    go_upto_region 8 with fail
    clear a0 a1 a2 a3 a4 a5 a6 a7 a8 a9
    have hb := (Below.refl wr.heap.size wr).alloc (Nat.le_refl _) (.cells #[.int .i64 a.k, .int .i64 a.i, .int .i64 a.o, .int .i64 a.m, .int .i64 a.t.i, .int .i64 a.t.k, .int .i64 a.t.f, .int .i64 a.t.t, .int .i64 a.t.z, .int .i64 a.t.r] 36)
    have OAwa := zA (heap_alloc_new wr (.cells #[.int .i64 a.k, .int .i64 a.i, .int .i64 a.o, .int .i64 a.m, .int .i64 a.t.i, .int .i64 a.t.k, .int .i64 a.t.f, .int .i64 a.t.t, .int .i64 a.t.z, .int .i64 a.t.r] 36))
    have Bwwa := trR Hw0 hb
    have Bwrwa := zA hb
    have ORwa := atR OR9 hb
    have OBwa := atR OB0 hb
    clear hb Hw0 OR9 OB0
    generalize (wr.alloc (.cells #[.int .i64 a.k, .int .i64 a.i, .int .i64 a.o, .int .i64 a.m, .int .i64 a.t.i, .int .i64 a.t.k, .int .i64 a.t.f, .int .i64 a.t.t, .int .i64 a.t.z, .int .i64 a.t.r] 36)) = wa at *
    have zwwa := Bwwa.out.size
    have zwrwa := Bwrwa.out.size
    have lRwa := ltR ORwa
    have lBwa := ltR OBwa
    have lAwa := ltR OAwa
    obtain ⟨cB0, cB1, cB2, cB3, cB4, cB5, cB6⟩ := zY OBwa.out
    obtain ⟨cA0, cA1, cA2, cA3, cA4, cA5, cA6, cA7, cA8, cA9⟩ := qV OAwa.out
    go_wp2_with fail
    clear cB0 cB1 cB2 cB3 cB4 cB5 cB6
    clear cA0 cA1 cA2 cA3 cA4 cA5 cA6 cA7 cA8 cA9
    have hwa : w2.heap.size < wa.heap.size := by have := HO.out.lt _ rfl; omega
    refine ((deskDo_any T P V xv D G W x1 x2 x3 x4 x5 x6 y1 y2 y3 y4 y5 y6 a _ (HST.out.below Bwrwa.out))).mono ?_
    rintro e wd ⟨⟨t1, t2, t3, m1, u1, m2, u2, m3, u3, tv, t4, m4, u4, t5, m5, u5, t6, m6, u6, rfl, hz8, hq8⟩, hb⟩
    have Bwwd := trR Bwwa hb
    have Bwrwd := trR Bwrwa hb
    have ORwd := atR ORwa hb
    have OBwd := atR OBwa hb
    have OAwd := atR OAwa hb
    have zwwd := Bwwd.out.size
    have zwrwd := Bwrwd.out.size
    have lRwd := ltR ORwd
    have lBwd := ltR OBwd
    have lAwd := ltR OAwd
    clear hb Bwwa Bwrwa ORwa OBwa OAwa
    have HQ8 := zA hq8
    clear hz8 hq8
    generalize actN ⟨T, P, V, xv, D, G.map GT.p, W⟩ a = NN at *
    generalize actE ⟨T, P, V, xv, D, G.map GT.p, W⟩ a = EE at *
    generalize doS ⟨T, P, V, xv, D, G.map GT.p, W⟩ a = S2 at *
    go_upto_region 9 with fail
    have hb := (Below.refl wd.heap.size wd).alloc (Nat.le_refl _) (.cells #[.slice t1 m1 u1, .slice t2 m2 u2, .slice t3 m3 u3, .int .i64 tv, .slice t4 m4 u4, .slice t5 m5 u5, .slice t6 m6 u6] 32)
    have OYwy := zA (heap_alloc_new wd (.cells #[.slice t1 m1 u1, .slice t2 m2 u2, .slice t3 m3 u3, .int .i64 tv, .slice t4 m4 u4, .slice t5 m5 u5, .slice t6 m6 u6] 32))
    have Bwwy := trR Bwwd hb
    have Bwrwy := trR Bwrwd hb
    have Bwdwy := zA hb
    have ORwy := atR ORwd hb
    have OBwy := atR OBwd hb
    have OAwy := atR OAwd hb
    clear hb Bwwd Bwrwd ORwd OBwd OAwd
    generalize (wd.alloc (.cells #[.slice t1 m1 u1, .slice t2 m2 u2, .slice t3 m3 u3, .int .i64 tv, .slice t4 m4 u4, .slice t5 m5 u5, .slice t6 m6 u6] 32)) = wy at *
    have zwwy := Bwwy.out.size
    have zwrwy := Bwrwy.out.size
    have zwdwy := Bwdwy.out.size
    have lRwy := ltR ORwy
    have lBwy := ltR OBwy
    have lAwy := ltR OAwy
    have lYwy := ltR OYwy
    rcases hE : (EE != 0) with _ | _
    ·obtain rfl : EE = 0 := by simpa using hE
     clear hE
     obtain ⟨cY0, cY1, cY2, cY3, cY4, cY5, cY6⟩ := zY OYwy.out
     have cB0 : wy.cell? ⟨w1.heap.size, 0, none⟩ = some (.slice x1 T.length y1) := by rw [cell_of_row _ _ 0 _ _ _ OBwy.out]; rfl
     have fB0 : wy.frozen? ⟨w1.heap.size, 0, none⟩ = false := frozen_of_row _ _ 0 _ _ OBwy.out
     have cB1 : wy.cell? ⟨w1.heap.size, 1, none⟩ = some (.slice x2 P.length y2) := by rw [cell_of_row _ _ 1 _ _ _ OBwy.out]; rfl
     have fB1 : wy.frozen? ⟨w1.heap.size, 1, none⟩ = false := frozen_of_row _ _ 1 _ _ OBwy.out
     have cB2 : wy.cell? ⟨w1.heap.size, 2, none⟩ = some (.slice x3 V.length y3) := by rw [cell_of_row _ _ 2 _ _ _ OBwy.out]; rfl
     have fB2 : wy.frozen? ⟨w1.heap.size, 2, none⟩ = false := frozen_of_row _ _ 2 _ _ OBwy.out
     have cB3 : wy.cell? ⟨w1.heap.size, 3, none⟩ = some (.int .i64 xv) := by rw [cell_of_row _ _ 3 _ _ _ OBwy.out]; rfl
     have fB3 : wy.frozen? ⟨w1.heap.size, 3, none⟩ = false := frozen_of_row _ _ 3 _ _ OBwy.out
     have cB4 : wy.cell? ⟨w1.heap.size, 4, none⟩ = some (.slice x4 D.length y4) := by rw [cell_of_row _ _ 4 _ _ _ OBwy.out]; rfl
     have fB4 : wy.frozen? ⟨w1.heap.size, 4, none⟩ = false := frozen_of_row _ _ 4 _ _ OBwy.out
     have cB5 : wy.cell? ⟨w1.heap.size, 5, none⟩ = some (.slice x5 G.length y5) := by rw [cell_of_row _ _ 5 _ _ _ OBwy.out]; rfl
     have fB5 : wy.frozen? ⟨w1.heap.size, 5, none⟩ = false := frozen_of_row _ _ 5 _ _ OBwy.out
     have cB6 : wy.cell? ⟨w1.heap.size, 6, none⟩ = some (.slice x6 W.length y6) := by rw [cell_of_row _ _ 6 _ _ _ OBwy.out]; rfl
     have fB6 : wy.frozen? ⟨w1.heap.size, 6, none⟩ = false := frozen_of_row _ _ 6 _ _ OBwy.out
     go_upto_region 11 with fail
     clear cY0 cY1 cY2 cY3 cY4 cY5 cY6
     clear cB0 cB1 cB2 cB3 cB4 cB5 cB6 fB0 fB1 fB2 fB3 fB4 fB5 fB6
     have OBs := zA (heap_setCell_same _ w1.heap.size 6 _ _ (.slice t6 m6 u6) (heap_setCell_same _ w1.heap.size 5 _ _ (.slice t5 m5 u5) (heap_setCell_same _ w1.heap.size 4 _ _ (.slice t4 m4 u4) (heap_setCell_same _ w1.heap.size 3 _ _ (.int .i64 tv) (heap_setCell_same _ w1.heap.size 2 _ _ (.slice t3 m3 u3) (heap_setCell_same _ w1.heap.size 1 _ _ (.slice t2 m2 u2) (heap_setCell_same _ w1.heap.size 0 _ _ (.slice t1 m1 u1) OBwy.out)))))))
     have ORs := zA (zD (zD (zD (zD (zD (zD (zD ORwy.out (p := ⟨w1.heap.size, 0, none⟩) (by show w1.heap.size ≠ w.heap.size; omega) (.slice t1 m1 u1)) (p := ⟨w1.heap.size, 1, none⟩) (by show w1.heap.size ≠ w.heap.size; omega) (.slice t2 m2 u2)) (p := ⟨w1.heap.size, 2, none⟩) (by show w1.heap.size ≠ w.heap.size; omega) (.slice t3 m3 u3)) (p := ⟨w1.heap.size, 3, none⟩) (by show w1.heap.size ≠ w.heap.size; omega) (.int .i64 tv)) (p := ⟨w1.heap.size, 4, none⟩) (by show w1.heap.size ≠ w.heap.size; omega) (.slice t4 m4 u4)) (p := ⟨w1.heap.size, 5, none⟩) (by show w1.heap.size ≠ w.heap.size; omega) (.slice t5 m5 u5)) (p := ⟨w1.heap.size, 6, none⟩) (by show w1.heap.size ≠ w.heap.size; omega) (.slice t6 m6 u6))
     have HOs := zA (zU (zU (zU (zU (zU (zU (zU (zF HO.out Bwrwy.out) (p := ⟨w1.heap.size, 0, none⟩) (by show w1.heap.size ≠ w2.heap.size; omega) (.slice t1 m1 u1)) (p := ⟨w1.heap.size, 1, none⟩) (by show w1.heap.size ≠ w2.heap.size; omega) (.slice t2 m2 u2)) (p := ⟨w1.heap.size, 2, none⟩) (by show w1.heap.size ≠ w2.heap.size; omega) (.slice t3 m3 u3)) (p := ⟨w1.heap.size, 3, none⟩) (by show w1.heap.size ≠ w2.heap.size; omega) (.int .i64 tv)) (p := ⟨w1.heap.size, 4, none⟩) (by show w1.heap.size ≠ w2.heap.size; omega) (.slice t4 m4 u4)) (p := ⟨w1.heap.size, 5, none⟩) (by show w1.heap.size ≠ w2.heap.size; omega) (.slice t5 m5 u5)) (p := ⟨w1.heap.size, 6, none⟩) (by show w1.heap.size ≠ w2.heap.size; omega) (.slice t6 m6 u6))
     have Hws := zA (((((((Bwwy.out.setCell (p := ⟨w1.heap.size, 0, none⟩) (by show w.heap.size ≤ w1.heap.size; omega) (.slice t1 m1 u1)).setCell (p := ⟨w1.heap.size, 1, none⟩) (by show w.heap.size ≤ w1.heap.size; omega) (.slice t2 m2 u2)).setCell (p := ⟨w1.heap.size, 2, none⟩) (by show w.heap.size ≤ w1.heap.size; omega) (.slice t3 m3 u3)).setCell (p := ⟨w1.heap.size, 3, none⟩) (by show w.heap.size ≤ w1.heap.size; omega) (.int .i64 tv)).setCell (p := ⟨w1.heap.size, 4, none⟩) (by show w.heap.size ≤ w1.heap.size; omega) (.slice t4 m4 u4)).setCell (p := ⟨w1.heap.size, 5, none⟩) (by show w.heap.size ≤ w1.heap.size; omega) (.slice t5 m5 u5)).setCell (p := ⟨w1.heap.size, 6, none⟩) (by show w.heap.size ≤ w1.heap.size; omega) (.slice t6 m6 u6))
     have HXs := zA ((((((((((HQ8.out rfl).below Bwdwy.out).stx (X := w2.heap.size) (Or.inl (by omega))).set (p := ⟨w1.heap.size, 0, none⟩) (by show w1.heap.size < wa.heap.size; omega) (.slice t1 m1 u1)).set (p := ⟨w1.heap.size, 1, none⟩) (by show w1.heap.size < wa.heap.size; omega) (.slice t2 m2 u2)).set (p := ⟨w1.heap.size, 2, none⟩) (by show w1.heap.size < wa.heap.size; omega) (.slice t3 m3 u3)).set (p := ⟨w1.heap.size, 3, none⟩) (by show w1.heap.size < wa.heap.size; omega) (.int .i64 tv)).set (p := ⟨w1.heap.size, 4, none⟩) (by show w1.heap.size < wa.heap.size; omega) (.slice t4 m4 u4)).set (p := ⟨w1.heap.size, 5, none⟩) (by show w1.heap.size < wa.heap.size; omega) (.slice t5 m5 u5)).set (p := ⟨w1.heap.size, 6, none⟩) (by show w1.heap.size < wa.heap.size; omega) (.slice t6 m6 u6))
     generalize (((((((wy.setCell ⟨w1.heap.size, 0, none⟩ (.slice t1 m1 u1)).setCell ⟨w1.heap.size, 1, none⟩ (.slice t2 m2 u2)).setCell ⟨w1.heap.size, 2, none⟩ (.slice t3 m3 u3)).setCell ⟨w1.heap.size, 3, none⟩ (.int .i64 tv)).setCell ⟨w1.heap.size, 4, none⟩ (.slice t4 m4 u4)).setCell ⟨w1.heap.size, 5, none⟩ (.slice t5 m5 u5)).setCell ⟨w1.heap.size, 6, none⟩ (.slice t6 m6 u6)) = ws at *
     go_wp2_with (at_builtin; refine wpList_append_own_spare _ rfl (.tmp 36) (.tmp 38) 45 rfl w2.heap.size 37 i0 1 Tryz.underlying45 hi hz1 w2.heap.size q L.length _ rfl (HOs.out.alloc _) ⟨ws.heap.size, 0, none⟩ 1 1 [.int .i64 0] rfl rfl (cell_one_new _ _ _) (by intro u hu; simp at hu; subst hu; rfl) (by omega) ?_; intro wz hown1 hgrow1)
     have hal := (Below.refl ws.heap.size ws).alloc (Nat.le_refl _) (.cells #[.int .i64 0] 37)
     have hkq := Kq.ofGrown hgrow1
     have hne : ¬ w1.heap.size = w2.heap.size := by omega
     have hnr : ¬ w.heap.size = w2.heap.size := by omega
     refine ⟨⟨q + 1, t1, t2, t3, m1, u1, m2, u2, m3, u3, tv, t4, m4, u4, t5, m5, u5, t6, m6, u6, by omega, by simp, by simp, ?_, zA (hkq.obj (zC OBs.out hal) hne), zA ?_, zA (Hws.out.trans ((hal.mono Hws.out.size).trans (hkq.below (by have := Hws.out.size; have := hal.size; omega) (fun k hk => by omega)))), zA (hkq.obj (zC ORs.out hal) hnr)⟩, by simp [intOf]; omega⟩
     ·refine zA ?_
      rw [HE1.out]
      simpa [qJ] using hown1
     ·rw [HS1.out, if_pos rfl]
      exact ((HXs.out.mono (by omega)).below hal).kq hkq
    ·have hE0 : ¬ EE = 0 := by simpa using hE
     go_upto_region 11 with fail
     have HOs := zA (zF HO.out Bwrwy.out)
     have HXs := zA (HX0.out.below Bwrwy.out)
     go_wp2_with (at_builtin; refine wpList_append_own_spare _ rfl (.tmp 36) (.tmp 38) 45 rfl w2.heap.size 37 i0 1 Tryz.underlying45 hi hz1 w2.heap.size q L.length _ rfl (HOs.out.alloc _) ⟨wy.heap.size, 0, none⟩ 1 1 [.int .i64 EE] rfl rfl (cell_one_new _ _ _) (by intro u hu; simp at hu; subst hu; rfl) (by omega) ?_; intro wz hown1 hgrow1)
     have hal := (Below.refl wy.heap.size wy).alloc (Nat.le_refl _) (.cells #[.int .i64 EE] 37)
     have hkq := Kq.ofGrown hgrow1
     have hne : ¬ w1.heap.size = w2.heap.size := by omega
     have hnr : ¬ w.heap.size = w2.heap.size := by omega
     refine ⟨⟨q + 1, x1, x2, x3, T.length, y1, P.length, y2, V.length, y3, xv, x4, D.length, y4, x5, G.length, y5, x6, W.length, y6, by omega, by simp, by simp, ?_, zA (hkq.obj (zC OBwy.out hal) hne), zA ?_, zA (Bwwy.out.trans ((hal.mono Bwwy.out.size).trans (hkq.below (by have := Bwwy.out.size; have := hal.size; omega) (fun k hk => by omega)))), zA (hkq.obj (zC ORwy.out hal) hnr)⟩, by simp [intOf]; omega⟩
     ·refine zA ?_
      rw [HE1.out]
      simpa [qJ] using hown1
     ·rw [HS1.out, if_neg hE0]
      exact ((HXs.out).below hal).kq hkq
   ·obtain rfl : q = L.length := by omega
    rw [List.take_length] at HO HX0
    have cR0 : wr.cell? ⟨w.heap.size, 0, none⟩ = some (.slice none 0 0) := by rw [cell_of_row _ _ 0 _ _ _ OR9.out]; rfl
    have fR0 : wr.frozen? ⟨w.heap.size, 0, none⟩ = false := frozen_of_row _ _ 0 _ _ OR9.out
    have cR1 : wr.cell? ⟨w.heap.size, 1, none⟩ = some (.slice none 0 0) := by rw [cell_of_row _ _ 1 _ _ _ OR9.out]; rfl
    have fR1 : wr.frozen? ⟨w.heap.size, 1, none⟩ = false := frozen_of_row _ _ 1 _ _ OR9.out
    have cR2 : wr.cell? ⟨w.heap.size, 2, none⟩ = some (.slice none 0 0) := by rw [cell_of_row _ _ 2 _ _ _ OR9.out]; rfl
    have fR2 : wr.frozen? ⟨w.heap.size, 2, none⟩ = false := frozen_of_row _ _ 2 _ _ OR9.out
    have cR3 : wr.cell? ⟨w.heap.size, 3, none⟩ = some (.int .i64 0) := by rw [cell_of_row _ _ 3 _ _ _ OR9.out]; rfl
    have fR3 : wr.frozen? ⟨w.heap.size, 3, none⟩ = false := frozen_of_row _ _ 3 _ _ OR9.out
    have cR4 : wr.cell? ⟨w.heap.size, 4, none⟩ = some (.slice none 0 0) := by rw [cell_of_row _ _ 4 _ _ _ OR9.out]; rfl
    have fR4 : wr.frozen? ⟨w.heap.size, 4, none⟩ = false := frozen_of_row _ _ 4 _ _ OR9.out
    have cR5 : wr.cell? ⟨w.heap.size, 5, none⟩ = some (.slice none 0 0) := by rw [cell_of_row _ _ 5 _ _ _ OR9.out]; rfl
    have fR5 : wr.frozen? ⟨w.heap.size, 5, none⟩ = false := frozen_of_row _ _ 5 _ _ OR9.out
    have cR6 : wr.cell? ⟨w.heap.size, 6, none⟩ = some (.slice none 0 0) := by rw [cell_of_row _ _ 6 _ _ _ OR9.out]; rfl
    have fR6 : wr.frozen? ⟨w.heap.size, 6, none⟩ = false := frozen_of_row _ _ 6 _ _ OR9.out
    obtain ⟨cB0, cB1, cB2, cB3, cB4, cB5, cB6⟩ := zY OB0.out
    go_wp2_with fail
    clear cB0 cB1 cB2 cB3 cB4 cB5 cB6
    refine bodyPost_ret (v := .tuple #[stV x1 x2 x3 n1 y1 n2 y2 n3 y3 xv x4 n4 y4 x5 n5 y5 x6 n6 y6, .slice (some ⟨w2.heap.size, 0, none⟩) L.length L.length, .int .i64 0]) (by simp [results, Tryz.results12, go_sem, *]) rfl ⟨Or.inr ⟨h40b, x1, x2, x3, n1, y1, n2, y2, n3, y3, xv, x4, n4, y4, x5, n5, y5, x6, n6, y6, _, _, rfl, (((((((HX0.out.stq.set (p := ⟨w.heap.size, 0, none⟩) (by show w.heap.size < w.heap.size + 1; omega) _).set (p := ⟨w.heap.size, 1, none⟩) (by show w.heap.size < w.heap.size + 1; omega) _).set (p := ⟨w.heap.size, 2, none⟩) (by show w.heap.size < w.heap.size + 1; omega) _).set (p := ⟨w.heap.size, 3, none⟩) (by show w.heap.size < w.heap.size + 1; omega) _).set (p := ⟨w.heap.size, 4, none⟩) (by show w.heap.size < w.heap.size + 1; omega) _).set (p := ⟨w.heap.size, 5, none⟩) (by show w.heap.size < w.heap.size + 1; omega) _).set (p := ⟨w.heap.size, 6, none⟩) (by show w.heap.size < w.heap.size + 1; omega) _).mono (by omega), intsV_ownE (zU (zU (zU (zU (zU (zU (zU HO.out (p := ⟨w.heap.size, 0, none⟩) (by show w.heap.size ≠ w2.heap.size; omega) (.slice x1 n1 y1)) (p := ⟨w.heap.size, 1, none⟩) (by show w.heap.size ≠ w2.heap.size; omega) (.slice x2 n2 y2)) (p := ⟨w.heap.size, 2, none⟩) (by show w.heap.size ≠ w2.heap.size; omega) (.slice x3 n3 y3)) (p := ⟨w.heap.size, 3, none⟩) (by show w.heap.size ≠ w2.heap.size; omega) (.int .i64 xv)) (p := ⟨w.heap.size, 4, none⟩) (by show w.heap.size ≠ w2.heap.size; omega) (.slice x4 n4 y4)) (p := ⟨w.heap.size, 5, none⟩) (by show w.heap.size ≠ w2.heap.size; omega) (.slice x5 n5 y5)) (p := ⟨w.heap.size, 6, none⟩) (by show w.heap.size ≠ w2.heap.size; omega) (.slice x6 n6 y6)), fun k hk => by simp [Value.ownBlock] at hk; omega⟩, (((((((Hw0.out.setCell (p := ⟨w.heap.size, 0, none⟩) (Nat.le_refl _) _).setCell (p := ⟨w.heap.size, 1, none⟩) (Nat.le_refl _) _).setCell (p := ⟨w.heap.size, 2, none⟩) (Nat.le_refl _) _).setCell (p := ⟨w.heap.size, 3, none⟩) (Nat.le_refl _) _).setCell (p := ⟨w.heap.size, 4, none⟩) (Nat.le_refl _) _).setCell (p := ⟨w.heap.size, 5, none⟩) (Nat.le_refl _) _).setCell (p := ⟨w.heap.size, 6, none⟩) (Nat.le_refl _) _)⟩
theorem sameInts_same (L : List Int) (o o' : Option Addr) (c c' : Nat) (w : World) (hL : zH w o L) (hM : zH w o' L) (hlen : L.length ≤ 100) :
  Calls Tryz.prog 106 #[.slice o L.length c, .slice o' L.length c'] w fun e w' => e = .returned (.bool true) ∧ Below w.heap.size w w' := by
 have HL := zA hL
 have HM := zA hM
 clear hL hM
 go_enter Tryz.func106, Tryz.ntmps106
 go_wp2_with fail
 go_loopw [5] (fun j wr => ∃ (q : Nat), q ≤ L.length ∧ j = .int .i64 q ∧ Below w.heap.size w wr) (fun j _ => L.length - (intOf j).toNat)
 case atStart => exact ⟨0, Nat.zero_le _, rfl, Below.refl _ _⟩
 case round =>
  obtain ⟨q, hq, rfl, hbr⟩ := hrel
  by_cases hgo : q < L.length
  ·obtain ⟨p, hp⟩ : ∃ p, L[q]? = some p := ⟨L[q], by simp [hgo]⟩
   obtain ⟨A, rfl, c0⟩ := (HL.out.below hbr) q p hp
   obtain ⟨A', rfl, d0⟩ := (HM.out.below hbr) q p hp
   clear hp
   go_wp2_with fail
   go_region
   go_wp2_with fail
   exact ⟨⟨q + 1, by omega, by simp, hbr.drew⟩, by simp [intOf]; omega⟩
  ·go_wp2_with fail
   go_ret
   exact ⟨rfl, hbr⟩
theorem sameDenied_same (v : Int) (L : List Int) (o o' : Option Addr) (c c' : Nat) (w : World) (hL : zH w o L) (hM : zH w o' L) (hlen : L.length ≤ 100) :
  Calls Tryz.prog 56 #[dn v o L.length c, dn v o' L.length c'] w fun e w' => e = .returned (.bool true) ∧ Below w.heap.size w w' := by
 have HB := zA (((zL.nil w).more (.cells #[.int .i64 v, .slice o L.length c] 28) (by simp)).more (.cells #[.int .i64 v, .slice o' L.length c'] 28) (by simp))
 have HL := zA hL
 have HM := zA hM
 clear hL hM
 go_enter Tryz.func56, Tryz.ntmps56
 go_wp2_with fail
 refine (sameInts_same L o o' c c' _ (HL.out.below HB.out.2.2) (HM.out.below HB.out.2.2) hlen).mono ?_
 rintro e w1 ⟨rfl, hb⟩
 have HB1 := zA (HB.out.on hb)
 clear hb HB
 go_wp2_with fail
 go_ret
 exact ⟨rfl, HB1.out.2.2⟩
theorem hasInt_any (L : List Int) (id : Int) (o : Option Addr) (c : Nat) (w : World) (hL : zH w o L) (hlen : L.length ≤ 9223372036854775807) :
  Calls Tryz.prog 17 #[.slice o L.length c, .int .i64 id] w fun e w' => e = .returned (.bool (xQ L id)) ∧ w' = w := by
 have HL := zA hL
 clear hL
 go_enter Tryz.func17, Tryz.ntmps17
 go_wp2_with fail
 go_loopw [5] (fun j wr => ∃ (q : Nat), q ≤ L.length ∧ j = .int .i64 q ∧ Hid (xQ (L.take q) id = false) ∧ wr = w) (fun j _ => L.length - (intOf j).toNat)
 case atStart => exact ⟨0, Nat.zero_le _, rfl, by show _ = _; simp [xQ], rfl⟩
 case round =>
  obtain ⟨q, hq, rfl, hF, hw⟩ := hrel
  subst hw
  by_cases hgo : q < L.length
  ·obtain ⟨x, hx⟩ : ∃ x, L[q]? = some x := ⟨L[q], by simp [hgo]⟩
   have HS : Hid (xQ (L.take (q + 1)) id = (x == id)) := by
    show _ = _
    have h0 := hF.out
    unfold xQ at h0 ⊢
    rw [List.take_add_one, hx, Option.toList_some, List.any_append, h0]
    simp
   obtain ⟨A, rfl, c0⟩ := HL.out q x hx
   have HX := zA hx
   clear hx hF
   cases h : (x == id)
   ·rw [h] at HS
    go_wp2_with fail
    exact ⟨⟨q + 1, by omega, by simp, HS, by first | rfl | trivial⟩, by simp [intOf]; omega⟩
   ·have HR : Hid (xQ L id = true) := by
     show _ = _
     unfold xQ
     rw [List.any_eq_true]
     exact ⟨x, List.mem_of_getElem? HX.out, h⟩
    go_wp2_with fail
    go_ret
    exact ⟨by rw [HR.out]; rfl, rfl⟩
  ·have HR : Hid (xQ L id = false) := by
    have h1 := hF.out
    rw [List.take_of_length_le (by omega)] at h1
    exact h1
   clear hF
   go_wp2_with fail
   go_ret
   exact ⟨by rw [HR.out]; rfl, rfl⟩
def AC.cells (a : AC) : List Value := [.int .i64 a.k, .int .i64 a.i, .int .i64 a.o, .int .i64 a.m, .int .i64 a.t.i, .int .i64 a.t.k, .int .i64 a.t.f, .int .i64 a.t.t, .int .i64 a.t.z, .int .i64 a.t.r]
def zM (L : List AC) : List Value := L.flatMap AC.cells
theorem yS (L M : List AC) : zM (L ++ M) = zM L ++ zM M := by simp [zM]
theorem xK (L : List AC) : (zM L).length = L.length * 10 := by
 induction L with
 | nil => rfl
 | cons p L ih =>
  rw [zM, List.flatMap_cons, List.length_append, List.length_cons, ← zM, ih]
  simp [AC.cells]; omega
theorem oneA (L : List AC) : ∀ u ∈ zM L, u.oneCell' = true := by
 intro u hu
 simp only [zM, AC.cells, List.mem_flatMap, List.mem_cons, List.not_mem_nil, or_false] at hu
 obtain ⟨p, -, h⟩ := hu
 rcases h with rfl | rfl | rfl | rfl | rfl | rfl | rfl | rfl | rfl | rfl <;> rfl
theorem cellsA_cons (x : AC) (L : List AC) : zM (x :: L) = x.cells ++ zM L := by simp [zM]
theorem cellsA_get : ∀ (L : List AC) (i : Nat) (g : AC), L[i]? = some g → ∀ j, j < 10 → (zM L)[i * 10 + j]? = g.cells[j]?
 | [], i, g, h, j, _ => by simp at h
 | x :: L, 0, g, h, j, hj => by
  simp at h
  subst h
  rw [cellsA_cons, Nat.zero_mul, Nat.zero_add, List.getElem?_append_left (by simpa [AC.cells] using hj)]
 | x :: L, i + 1, g, h, j, hj => by
  have h8 : x.cells.length = 10 := rfl
  rw [cellsA_cons, List.getElem?_append_right (by omega), h8, show (i + 1) * 10 + j - 10 = i * 10 + j by omega]
  exact cellsA_get L i g (by simpa using h) j hj
theorem yG {w : World} {B Q c n : Nat} {T : TypeId} {L : List AC} (h : w.ownsRow B T 10 (.slice (some ⟨Q, 0, none⟩) n c) n (zM L)) (hn : n = L.length) : jC w (some ⟨Q, 0, none⟩) L := by
 subst hn
 intro i g hi
 have hc : ∀ j, j < 10 → w.cell? ⟨Q, i * 10 + j, none⟩ = g.cells[j]? := fun j hj => by
  rw [h.cellAt (i * 10 + j) (by have := (List.getElem?_eq_some_iff.1 hi).1; omega)]
  exact cellsA_get L i g hi j hj
 refine ⟨_, rfl, ?_⟩
 rw [qX]
 exact ⟨hc 0 (by omega), hc 1 (by omega), hc 2 (by omega), hc 3 (by omega), hc 4 (by omega), hc 5 (by omega), hc 6 (by omega), hc 7 (by omega), hc 8 (by omega), hc 9 (by omega)⟩
theorem xN {w : World} {A : Addr} {L : List AC} (h : jC w (some A) L) : ∀ j u, (zM L)[j]? = some u → w.cell? (A.add j) = some u := by
 intro j u hu
 have hlt : j < L.length * 10 := by
  have := (List.getElem?_eq_some_iff.1 hu).1
  rwa [xK] at this
 have hi : j / 10 < L.length := by omega
 obtain ⟨g, hg⟩ : ∃ g, L[j / 10]? = some g := ⟨L[j / 10], by simp [hi]⟩
 obtain ⟨b, hb, h8⟩ := h (j / 10) g hg
 cases hb
 have hj := cellsA_get L (j / 10) g hg (j % 10) (by omega)
 rw [show j / 10 * 10 + j % 10 = j by omega, hu] at hj
 have ha : A.add j = if j % 10 = 0 then A.add (j / 10 * 10) else ⟨(A.add (j / 10 * 10)).block, (A.add (j / 10 * 10)).off + j % 10, none⟩ := by
  by_cases h1 : j % 10 = 0
  ·rw [if_pos h1]
   congr 1
   omega
  ·rw [if_neg h1]
   have hj0 : j ≠ 0 := by omega
   by_cases h2 : j / 10 * 10 = 0
   ·have hjj : j % 10 = j := by omega
    simp [Addr.add, h2, hj0, hjj]
   ·have hjj : j / 10 * 10 + j % 10 = j := by omega
    simp [Addr.add, h2, hj0, Nat.add_assoc, hjj]
 rw [ha]
 have hm : j % 10 < 10 := by omega
 obtain ⟨c0, c1, c2, c3, c4, c5, c6, c7, c8, c9⟩ := h8
 generalize j % 10 = m at *
 match m, hm with
 | 0, _ => simp [AC.cells] at hj; subst hj; simpa using c0
 | 1, _ => simp [AC.cells] at hj; subst hj; simpa using c1
 | 2, _ => simp [AC.cells] at hj; subst hj; simpa using c2
 | 3, _ => simp [AC.cells] at hj; subst hj; simpa using c3
 | 4, _ => simp [AC.cells] at hj; subst hj; simpa using c4
 | 5, _ => simp [AC.cells] at hj; subst hj; simpa using c5
 | 6, _ => simp [AC.cells] at hj; subst hj; simpa using c6
 | 7, _ => simp [AC.cells] at hj; subst hj; simpa using c7
 | 8, _ => simp [AC.cells] at hj; subst hj; simpa using c8
 | 9, _ => simp [AC.cells] at hj; subst hj; simpa using c9
theorem script_any (w : World) :
  Calls Tryz.prog 45 #[] w fun e w' => (∃ b, e = .returned (.slice (some ⟨b, 0, none⟩) 9 9) ∧ jC w' (some ⟨b, 0, none⟩) scriptL) ∧ Below w.heap.size w w' := by
 go_enter Tryz.func45, Tryz.ntmps45
 go_wp2_with fail
 refine (single_any 1 _).mono ?_
 rintro e w1 ⟨rfl, hb⟩
 go_wp2_with fail
 go_ret
 refine ⟨⟨w1.heap.size, rfl, ?_⟩, hb.alloc hb.size _⟩
 have h := own_lit (B := w1.heap.size) (n := 9) (size := 10) (heap_alloc_new w1 (.cells (zM scriptL).toArray 36)) (Nat.le_refl _) (by decide) rfl
 exact yG (n := 9) (L := scriptL) h rfl
theorem runBegun_any (b : Nat) (w : World) (h : jC w (some ⟨b, 0, none⟩) scriptL) :
  Calls Tryz.prog 12 #[.slice (some ⟨b, 0, none⟩) 9 9] w fun e w' => (∃ x1 x2 x3 n1 y1 n2 y2 n3 y3 xv x4 n4 y4 x5 n5 y5 x6 n6 y6 o' c', e = .returned (.tuple #[stV x1 x2 x3 n1 y1 n2 y2 n3 y3 xv x4 n4 y4 x5 n5 y5 x6 n6 y6, .slice o' 9 c', .int .i64 0]) ∧ StQ w' w.heap.size x1 x2 x3 n1 y1 n2 y2 n3 y3 xv x4 n4 y4 x5 n5 y5 x6 n6 y6 st8 ∧ zP w' (.slice o' 9 c') [0, 0, 0, 0, 0, 0, 0, 0, 11]) ∧ Below w.heap.size w w' := by
 refine (deskRun_any (some ⟨b, 0, none⟩) 9 scriptL w h (by decide)).mono ?_
 rintro e w' ⟨⟨h1, -⟩ | ⟨-, x1, x2, x3, n1, y1, n2, y2, n3, y3, xv, x4, n4, y4, x5, n5, y5, x6, n6, y6, o', c', rfl, h2, h3, -⟩, hb⟩
 ·exact absurd h1 (by decide)
 ·rw [script_S] at h2
  rw [script_E] at h3
  exact ⟨⟨x1, x2, x3, n1, y1, n2, y2, n3, y3, xv, x4, n4, y4, x5, n5, y5, x6, n6, y6, o', c', rfl, h2, h3⟩, hb⟩
theorem doBegun_any {B : Nat} (x1 x2 x3 : Option Addr) (n1 y1 n2 y2 n3 y3 : Nat) (xv : Int) (x4 : Option Addr) (n4 y4 : Nat) (x5 : Option Addr) (n5 y5 : Nat) (x6 : Option Addr) (n6 y6 : Nat) (w : World) (h : StQ w B x1 x2 x3 n1 y1 n2 y2 n3 y3 xv x4 n4 y4 x5 n5 y5 x6 n6 y6 st8) :
  Calls Tryz.prog 7 #[stV x1 x2 x3 n1 y1 n2 y2 n3 y3 xv x4 n4 y4 x5 n5 y5 x6 n6 y6, acV ⟨7, 0, 1, 0, tk0⟩] w fun e w' => (∃ t1 t2 t3 m1 u1 m2 u2 m3 u3 tv t4 m4 u4 t5 m5 u5 t6 m6 u6, e = .returned (.tuple #[stV t1 t2 t3 m1 u1 m2 u2 m3 u3 tv t4 m4 u4 t5 m5 u5 t6 m6 u6, .int .i64 1, .int .i64 0])) ∧ Below w.heap.size w w' := by
 obtain ⟨h1, h2, h3, h4, h5, h6, G, h7, h8, h9, h10⟩ := h
 subst h1 h2 h3 h5 h6 h7
 have hs : (⟨st8.T, st8.P, st8.V, st8.dv, st8.D, G.map GT.p, st8.W⟩ : SS) = st8 := by rw [h8]
 have := deskDo_any st8.T st8.P st8.V st8.dv st8.D G st8.W x1 x2 x3 x4 x5 x6 y1 y2 y3 y4 y5 y6 ⟨7, 0, 1, 0, tk0⟩ w h9
 rw [hs, act10_E, act10_N, ← h4] at this
 refine this.mono ?_
 rintro e w' ⟨⟨t1, t2, t3, m1, u1, m2, u2, m3, u3, tv, t4, m4, u4, t5, m5, u5, t6, m6, u6, he, -, -⟩, hb⟩
 exact ⟨⟨t1, t2, t3, m1, u1, m2, u2, m3, u3, tv, t4, m4, u4, t5, m5, u5, t6, m6, u6, he⟩, hb⟩
theorem deskBegun_any (w : World) :
  Calls Tryz.prog 10 #[] w fun e w' => e = .returned (.bool true) ∧ Below w.heap.size w w' := by
 go_enter Tryz.func10, Tryz.ntmps10
 go_wp2_with fail
 refine (script_any w).mono ?_
 rintro e w1 ⟨⟨b, rfl, ha⟩, hb⟩
 have Bww1 := zA hb
 have zww1 := Bww1.out.size
 clear hb 
 have HA := zA ha
 clear ha
 go_wp2_with fail
 refine (runBegun_any b _ HA.out).mono ?_
 rintro e w2 ⟨⟨x1, x2, x3, n1, y1, n2, y2, n3, y3, xv, x4, n4, y4, x5, n5, y5, x6, n6, y6, o', c', rfl, hq, hi⟩, hb⟩
 have Bww2 := trR Bww1 hb
 have zww2 := Bww2.out.size
 clear hb Bww1
 clear HA
 have HD := zA (fun X (h : StQ X w1.heap.size x1 x2 x3 n1 y1 n2 y2 n3 y3 xv x4 n4 y4 x5 n5 y5 x6 n6 y6 st8) => doBegun_any (B := w1.heap.size) x1 x2 x3 n1 y1 n2 y2 n3 y3 xv x4 n4 y4 x5 n5 y5 x6 n6 y6 X h)
 obtain ⟨g1, g2, g3, g4, g5, g6, G, g7, g8, g9, g10⟩ := hq
 have HQ : Hid (StQ w2 w1.heap.size x1 x2 x3 n1 y1 n2 y2 n3 y3 xv x4 n4 y4 x5 n5 y5 x6 n6 y6 st8) := zA ⟨g1, g2, g3, g4, g5, g6, G, g7, g8, g9, g10⟩
 have e2 : n2 = 1 := g2
 have e4 : n4 = 1 := g5
 have e5 : n5 = 3 := by rw [g7]; have := congrArg List.length g8; simpa [st8] using this
 have HDn := zA (show zP w2 (.slice x4 [(1 : Int)].length y4) [1] from ⟨x4, y4, rfl, g9.den.1, g9.den.2.2⟩)
 have HI := zA hi
 clear g1 g2 g3 g4 g5 g6 g7 g8 g9 g10 hi
 subst e2 e4 e5
 go_upto_region 2 with fail
 have hb := (Below.refl w2.heap.size w2).alloc (Nat.le_refl _) (.cells #[.slice x1 n1 y1, .slice x2 1 y2, .slice x3 n3 y3, .int .i64 xv, .slice x4 1 y4, .slice x5 3 y5, .slice x6 n6 y6] 32)
 have OBw3 := zA (heap_alloc_new w2 (.cells #[.slice x1 n1 y1, .slice x2 1 y2, .slice x3 n3 y3, .int .i64 xv, .slice x4 1 y4, .slice x5 3 y5, .slice x6 n6 y6] 32))
 have Bww3 := trR Bww2 hb
 have Bw2w3 := zA hb
 clear hb Bww2
 generalize (w2.alloc (.cells #[.slice x1 n1 y1, .slice x2 1 y2, .slice x3 n3 y3, .int .i64 xv, .slice x4 1 y4, .slice x5 3 y5, .slice x6 n6 y6] 32)) = w3 at *
 have zww3 := Bww3.out.size
 have zw2w3 := Bw2w3.out.size
 have lBw3 := ltR OBw3
 obtain ⟨cB0, cB1, cB2, cB3, cB4, cB5, cB6⟩ := zY OBw3.out
 go_wp2_with fail
 clear cB0 cB1 cB2 cB3 cB4 cB5 cB6
 go_loopw [4] (fun j wr => ∃ (p : Nat), p ≤ 8 ∧ j = .int .i64 p ∧ Hid (Below w3.heap.size w3 wr)) (fun j _ => 8 - (intOf j).toNat)
 case atStart => exact ⟨0, by omega, rfl, zA (Below.refl _ _)⟩
 case round =>
  obtain ⟨p, hp, rfl, HR⟩ := hrel
  have hb := HR.out
  have Bwwr := trR Bww3 hb
  clear Bww3
  have Bw2wr := trR Bw2w3 hb
  clear Bw2w3
  have Bw3wr := zA hb
  have OBwr := atR OBw3 hb
  clear OBw3
  clear hb
  have zwwr := Bwwr.out.size
  have zw2wr := Bw2wr.out.size
  have zw3wr := Bw3wr.out.size
  have lBwr := ltR OBwr
  clear HR
  have HIx := zA (HI.out.below Bw2wr.out)
  by_cases hgo : p < 8
  ·have hv : [(0 : Int), 0, 0, 0, 0, 0, 0, 0, 11][p]? = some 0 := by
    match p, hgo with
    | 0, _ | 1, _ | 2, _ | 3, _ | 4, _ | 5, _ | 6, _ | 7, _ => rfl
   obtain ⟨bb, hbb, v0⟩ := HIx.out.eqs.2.1 p 0 hv
   subst hbb
   clear hv
   go_wp2_with fail
   exact ⟨⟨p + 1, by omega, by simp, Bw3wr⟩, by simp [intOf]; omega⟩
  ·obtain ⟨bb, hbb, v0⟩ := HIx.out.eqs.2.1 8 11 rfl
   subst hbb
   clear HIx
   obtain ⟨cB0, cB1, cB2, cB3, cB4, cB5, cB6⟩ := zY OBwr.out
   go_wp2_with fail
   clear cB0 cB1 cB2 cB3 cB4 cB5 cB6
   clear v0
   refine (HD.out _ (HQ.out.below Bw2wr.out)).mono ?_
   rintro e w5 ⟨⟨t1, t2, t3, m1, u1, m2, u2, m3, u3, tv, t4, m4, u4, t5, m5, u5, t6, m6, u6, rfl⟩, hb⟩
   have Bww5 := trR Bwwr hb
   have Bw2w5 := trR Bw2wr hb
   have Bw3w5 := trR Bw3wr hb
   have OBw5 := atR OBwr hb
   have zww5 := Bww5.out.size
   have zw2w5 := Bw2w5.out.size
   have zw3w5 := Bw3w5.out.size
   have lBw5 := ltR OBw5
   clear hb Bwwr Bw2wr Bw3wr OBwr
   go_upto_region 10 with fail
   have hb := (Below.refl w5.heap.size w5).alloc (Nat.le_refl _) (.cells #[.slice t1 m1 u1, .slice t2 m2 u2, .slice t3 m3 u3, .int .i64 tv, .slice t4 m4 u4, .slice t5 m5 u5, .slice t6 m6 u6] 32)
   have OCw6 := zA (heap_alloc_new w5 (.cells #[.slice t1 m1 u1, .slice t2 m2 u2, .slice t3 m3 u3, .int .i64 tv, .slice t4 m4 u4, .slice t5 m5 u5, .slice t6 m6 u6] 32))
   have Bww6 := trR Bww5 hb
   have Bw2w6 := trR Bw2w5 hb
   have Bw3w6 := trR Bw3w5 hb
   have Bw5w6 := zA hb
   have OBw6 := atR OBw5 hb
   clear hb Bww5 Bw2w5 Bw3w5 OBw5
   generalize (w5.alloc (.cells #[.slice t1 m1 u1, .slice t2 m2 u2, .slice t3 m3 u3, .int .i64 tv, .slice t4 m4 u4, .slice t5 m5 u5, .slice t6 m6 u6] 32)) = w6 at *
   have zww6 := Bww6.out.size
   have zw2w6 := Bw2w6.out.size
   have zw3w6 := Bw3w6.out.size
   have zw5w6 := Bw5w6.out.size
   have lBw6 := ltR OBw6
   have lCw6 := ltR OCw6
   obtain ⟨b2, hb2, v0⟩ := (HI.out.below Bw2w6.out).eqs.2.1 8 11 rfl
   obtain rfl := Option.some.inj hb2
   clear hb2
   have v8 : w6.cell? ⟨bb.block, bb.off + 8, none⟩ = some (.int .i64 11) := by simpa [Addr.add] using v0
   clear v0
   obtain ⟨cB0, cB1, cB2, cB3, cB4, cB5, cB6⟩ := zY OBw6.out
   go_wp2_with fail
   clear cB0 cB1 cB2 cB3 cB4 cB5 cB6
   refine (hasInt_any [1] 1 x4 y4 _ (HDn.out.below Bw2w6.out).eqs.2.1 (by decide)).mono ?_
   rintro e w7 ⟨rfl, hw⟩
   obtain rfl := hw.symm
   rw [show xQ [1] 1 = true from rfl]
   go_wp2_with fail
   go_ret
   exact ⟨rfl, Bww6.out⟩
theorem infoAct : (Tryz.prog.info? 36).map (fun i => (i.zero, i.size, i.bytes)) = some (some (.agg #[.int .i64 0, .int .i64 0, .int .i64 0, .int .i64 0, .int .i64 0, .int .i64 0, .int .i64 0, .int .i64 0, .int .i64 0, .int .i64 0]), 10, 80) := by kernel_rfl
def RunR (w : World) (B X : Nat) (x1 x2 x3 : Option Addr) (n1 y1 n2 y2 n3 y3 : Nat) (xv : Int) (x4 : Option Addr) (n4 y4 : Nat) (x5 : Option Addr) (n5 y5 : Nat) (x6 : Option Addr) (n6 y6 : Nat) (o' : Option Addr) (N c' : Nat) (E : Int) (M : List AC) : Prop :=
 (40 < M.length → E = 2) ∧ (M.length ≤ 40 → E = 0 ∧ N = M.length ∧ StX w B X x1 x2 x3 n1 y1 n2 y2 n3 y3 xv x4 n4 y4 x5 n5 y5 x6 n6 y6 (runS qG M) ∧ zP w (.slice o' M.length c') (runE qG M) ∧ Off o' (runE qG M) X)
theorem RunR.below {w w' : World} {B X : Nat} {x1 x2 x3 : Option Addr} {n1 y1 n2 y2 n3 y3 : Nat} {xv : Int} {x4 : Option Addr} {n4 y4 : Nat} {x5 : Option Addr} {n5 y5 : Nat} {x6 : Option Addr} {n6 y6 : Nat} {o' : Option Addr} {N c' : Nat} {E : Int} {M : List AC} (h : RunR w B X x1 x2 x3 n1 y1 n2 y2 n3 y3 xv x4 n4 y4 x5 n5 y5 x6 n6 y6 o' N c' E M) (hb : Below w.heap.size w w') : RunR w' B X x1 x2 x3 n1 y1 n2 y2 n3 y3 xv x4 n4 y4 x5 n5 y5 x6 n6 y6 o' N c' E M :=
 ⟨h.1, fun hm => have ⟨a, b, c, d, e⟩ := h.2 hm; ⟨a, b, c.below hb, d.below hb, e⟩⟩
theorem RunR.mono {w : World} {B C X : Nat} {x1 x2 x3 : Option Addr} {n1 y1 n2 y2 n3 y3 : Nat} {xv : Int} {x4 : Option Addr} {n4 y4 : Nat} {x5 : Option Addr} {n5 y5 : Nat} {x6 : Option Addr} {n6 y6 : Nat} {o' : Option Addr} {N c' : Nat} {E : Int} {M : List AC} (h : RunR w B X x1 x2 x3 n1 y1 n2 y2 n3 y3 xv x4 n4 y4 x5 n5 y5 x6 n6 y6 o' N c' E M) (hC : C ≤ B) : RunR w C X x1 x2 x3 n1 y1 n2 y2 n3 y3 xv x4 n4 y4 x5 n5 y5 x6 n6 y6 o' N c' E M :=
 ⟨h.1, fun hm => have ⟨a, b, c, d, e⟩ := h.2 hm; ⟨a, b, c.mono hC, d, e⟩⟩
theorem StX.setX {w : World} {B X : Nat} {x1 x2 x3 : Option Addr} {n1 y1 n2 y2 n3 y3 : Nat} {xv : Int} {x4 : Option Addr} {n4 y4 : Nat} {x5 : Option Addr} {n5 y5 : Nat} {x6 : Option Addr} {n6 y6 : Nat} {s : SS} (h : StX w B X x1 x2 x3 n1 y1 n2 y2 n3 y3 xv x4 n4 y4 x5 n5 y5 x6 n6 y6 s) (j : Nat) (u : Value) : StX (w.setCell ⟨X, j, none⟩ u) B X x1 x2 x3 n1 y1 n2 y2 n3 y3 xv x4 n4 y4 x5 n5 y5 x6 n6 y6 s := by
 obtain ⟨h1, h2, h3, h4, h5, h6, G, h7, h8, h9, h10, h11⟩ := h
 exact ⟨h1, h2, h3, h4, h5, h6, G, h7, h8, h9.setO (p := ⟨X, j, none⟩) h11 u, h10, h11⟩
theorem RunR.set {w : World} {B X : Nat} {x1 x2 x3 : Option Addr} {n1 y1 n2 y2 n3 y3 : Nat} {xv : Int} {x4 : Option Addr} {n4 y4 : Nat} {x5 : Option Addr} {n5 y5 : Nat} {x6 : Option Addr} {n6 y6 : Nat} {o' : Option Addr} {N c' : Nat} {E : Int} {M : List AC} (h : RunR w B X x1 x2 x3 n1 y1 n2 y2 n3 y3 xv x4 n4 y4 x5 n5 y5 x6 n6 y6 o' N c' E M) (j : Nat) (u : Value) : RunR (w.setCell ⟨X, j, none⟩ u) B X x1 x2 x3 n1 y1 n2 y2 n3 y3 xv x4 n4 y4 x5 n5 y5 x6 n6 y6 o' N c' E M :=
 ⟨h.1, fun hm => have ⟨a, b, c, d, e⟩ := h.2 hm; ⟨a, b, c.setX j u, d.setO (p := ⟨X, j, none⟩) e u, e⟩⟩
theorem RunR.store {w : World} {B X : Nat} {x1 x2 x3 : Option Addr} {n1 y1 n2 y2 n3 y3 : Nat} {xv : Int} {x4 : Option Addr} {n4 y4 : Nat} {x5 : Option Addr} {n5 y5 : Nat} {x6 : Option Addr} {n6 y6 : Nat} {o' : Option Addr} {N c' : Nat} {E : Int} {M : List AC} (h : RunR w B X x1 x2 x3 n1 y1 n2 y2 n3 y3 xv x4 n4 y4 x5 n5 y5 x6 n6 y6 o' N c' E M) : RunR (((((((w.setCell ⟨X, 0, none⟩ (.slice x1 n1 y1)).setCell ⟨X, 1, none⟩ (.slice x2 n2 y2)).setCell ⟨X, 2, none⟩ (.slice x3 n3 y3)).setCell ⟨X, 3, none⟩ (.int .i64 xv)).setCell ⟨X, 4, none⟩ (.slice x4 n4 y4)).setCell ⟨X, 5, none⟩ (.slice x5 n5 y5)).setCell ⟨X, 6, none⟩ (.slice x6 n6 y6)) B X x1 x2 x3 n1 y1 n2 y2 n3 y3 xv x4 n4 y4 x5 n5 y5 x6 n6 y6 o' N c' E M :=
 ((((((h.set 0 _).set 1 _).set 2 _).set 3 _).set 4 _).set 5 _).set 6 _
theorem yI (o : Option Addr) (c n : Nat) (M : List AC) (w : World) (hL : jC w o M) (hn : n = M.length) (hlen : M.length ≤ 9223372036854775807) :
  Calls Tryz.prog 12 #[.slice o n c] w fun e w' => (∃ x1 x2 x3 n1 y1 n2 y2 n3 y3 xv x4 n4 y4 x5 n5 y5 x6 n6 y6 o' N c' E, e = .returned (.tuple #[stV x1 x2 x3 n1 y1 n2 y2 n3 y3 xv x4 n4 y4 x5 n5 y5 x6 n6 y6, .slice o' N c', .int .i64 E]) ∧ ∀ X, X < w.heap.size ∨ w'.heap.size ≤ X → RunR w' w.heap.size X x1 x2 x3 n1 y1 n2 y2 n3 y3 xv x4 n4 y4 x5 n5 y5 x6 n6 y6 o' N c' E M) ∧ Below w.heap.size w w' := by
 subst hn
 refine (deskRun_any o c M w hL hlen).mono ?_
 rintro e w' ⟨⟨h1, rfl⟩ | ⟨h1, x1, x2, x3, n1, y1, n2, y2, n3, y3, xv, x4, n4, y4, x5, n5, y5, x6, n6, y6, o', c', rfl, h2, h3, h4⟩, hb⟩
 ·exact ⟨⟨_, _, _, _, _, _, _, _, _, _, _, _, _, _, _, _, _, _, _, none, 0, 0, 2, rfl, fun X _ => ⟨fun _ => rfl, fun h => by omega⟩⟩, hb⟩
 ·refine ⟨⟨x1, x2, x3, n1, y1, n2, y2, n3, y3, xv, x4, n4, y4, x5, n5, y5, x6, n6, y6, o', M.length, c', 0, rfl, fun X hX => ⟨fun h => by omega, fun _ => ⟨rfl, rfl, h2.stx hX, h3, ?_⟩⟩⟩, hb⟩
  rcases hX with hX | hX
  ·exact zQ (n := (runE qG M).length) (by rw [runE_len]; exact h4) hX
  ·exact jA (intsV_lt h3) hX
end
end Go.Proofs.YtgidebfgcbkkkaaGreat
