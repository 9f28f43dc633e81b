/-
  Texts joined: Z20, Z21, Z22, Z23, M2, M4, F15, F16, H5, F19, R7, U1, F20, Z24, J10, Z26, J9, Q1, N9, W3, J12, V7, N2, N11.
-/
import Derived.Deep.CutRange
import Derived.Lib.QuietBelow
import Derived.Test.YtcjfmbeemdcklaaGreatPk5
/-
  'Sync' (package station).
-/
namespace Go.Proofs.YtcjfmbeemdcklaaGreat
open Go.RowKit
def gSync (g : GP) (v : Int) (D : List Int) (m : Int) : GP := ⟨g.i, g.z, g.s, [], v, D, 9, m + 100⟩
def syncR (T : List TK) (P : List TP) (V : List Int) (dv : Int) (D : List Int) (L : List GP) (W : List VW) (n m : Int) : Int := if wi n 0 2 = false then 3 else syncK T P V dv D W (gAt L n) m
def syncS (T : List TK) (P : List TP) (V : List Int) (dv : Int) (D : List Int) (G : List GT) (W : List VW) (n m : Int) : Int := if chkS T P V dv D G W = 0 then syncR T P V dv D (G.map GT.p) W n m else chkS T P V dv D G W
def toldR (T : List TK) (P : List TP) (V : List Int) (L : List GP) (n E : Int) : List TP := if E = 0 then intoD T P V (gAt L n).A else []
theorem denA_len : ∀ (M : List TP) (v : Int) (D : List Int), D.length ≤ 60 → (denA M v D).2.length ≤ 60
  | [], v, D, h => h
  | p :: M, v, D, h => by
    rw [denA]
    by_cases hE : addE v D p.a = 0
    · rw [if_pos hE]
      exact denA_len M _ _ (by rw [addI_len]; have := add_room hE; omega)
    · rw [if_neg hE]
      exact denA_len M v D h
theorem bldA_lensP (T : List TK) : ∀ (L P : List TP) (V : List Int) (D : List TP), (bldA T L P V D).2.1.length ≤ P.length + L.length ∧ (bldA T L P V D).2.2.1.length ≤ V.length + L.length
  | [], P, V, D => by simp [bldA]
  | p :: L, P, V, D => by
    rw [bldA]
    by_cases h : bldE T P V p = 0
    · rw [if_pos h]
      have h1 := bldA_lensP T L (bldP T P V p) (bldV T P V p) (bldD T P V D p)
      have h2 : (bldP T P V p).length ≤ P.length + 1 := by
        unfold bldP
        split
        · simp
        · omega
      have h3 : (bldV T P V p).length ≤ V.length + 1 := by
        unfold bldV
        split
        · simp
        · omega
      simp only [List.length_cons]
      omega
    · rw [if_neg h]
      simp only [List.length_cons]
      omega
theorem into_lnS (T : List TK) (P : List TP) (V : List Int) (M : List TP) (hT : T.length ≤ 12) (hP : P.length ≤ 60) (hM : M.length ≤ 12) : LensOk (intoT T P V M) (intoP T P V M) (intoV T P V M) := by
  have h := bldA_lensP T (srt (P ++ M)) [] [] []
  have h2 : (srt (P ++ M)).length = P.length + M.length := by simp [srt]
  simp only [List.length_nil] at h
  refine ⟨?_, ?_, ?_⟩
  · unfold intoT
    split
    · omega
    · simp
  · unfold intoP intoB
    split
    · omega
    · simp
  · unfold intoV intoB
    split
    · omega
    · simp
set_option maxHeartbeats 6400000 in
set_option maxRecDepth 100000 in
theorem sync1_any (K Q B : Nat) (a : KA) (T : List TK) (P : List TP) (V : List Int) (dv : Int) (D : List Int) (G : List GT) (W : List VW) (b2 b3 vb : Nat) (n m : Int) (v0 : Value) (w : World) (hK : Ks w K Q B a T P V dv D G W) (hG : G.length = 3) (hg : ∀ (q : Nat) g, G[q]? = some g → g.A.length ≤ 12 ∧ g.D.length ≤ 12 ∧ 0 ≤ g.s ∧ g.s ≤ 99) (hl : LensOk T P V) (hlP : P.length ≤ 60) (hlD : D.length ≤ 12) (hlW : W.length ≤ 9223372036854775807)
    (h2 : w.heap[b2]? = some (.cells #[.int .i64 n] 3)) (h3 : w.heap[b3]? = some (.cells #[.int .i64 m] 3)) (hv : w.heap[vb]? = some (.cells #[v0] 23)) (hvb : vb < B) :
    Calls Tryz.prog 48 #[.pointer (some ⟨K, 0, none⟩), .pointer (some ⟨b2, 0, none⟩), .pointer (some ⟨b3, 0, none⟩), .pointer (some ⟨vb, 0, none⟩)] w fun e w' => ∃ E o c, E = syncR T P V dv D (G.map GT.p) W n m ∧ e = .returned (.int .i64 E) ∧ w'.heap[vb]? = some (.cells #[.slice o (toldR T P V (G.map GT.p) n E).length c] 23) ∧ (TapsV w' (.slice o (toldR T P V (G.map GT.p) n E).length c) (toldR T P V (G.map GT.p) n E) ∧ Fresh w.heap.size (.slice o (toldR T P V (G.map GT.p) n E).length c)) ∧ Kq (fun k => k = K ∨ k = Q ∨ k = vb) w w' ∧ (E ≠ 0 → Ks w' K Q B a T P V dv D G W) ∧
      (E = 0 → ∃ a' G', Ks w' K Q B a' (intoT T P V (gAt (G.map GT.p) n).A) (intoP T P V (gAt (G.map GT.p) n).A) (intoV T P V (gAt (G.map GT.p) n).A) (denA (toldR T P V (G.map GT.p) n 0) dv D).1 (denA (toldR T P V (G.map GT.p) n 0) dv D).2 G' W ∧ G'.map GT.p = (G.map GT.p).set n.toNat (gSync (gAt (G.map GT.p) n) (denA (toldR T P V (G.map GT.p) n 0) dv D).1 (denA (toldR T P V (G.map GT.p) n 0) dv D).2 m) ∧ ∀ (q : Nat) g, G'[q]? = some g → g.A.length ≤ 13 ∧ g.D.length ≤ 60) := by
  have hbk := hK.bk
  have hbq := hK.qlt
  have hvl := (Array.getElem?_eq_some_iff.1 hv).1
  have r2 := cell_of_row _ _ 0 _ _ _ h2
  have r3 := cell_of_row _ _ 0 _ _ _ h3
  simp at r2 r3
  have HV := hide hv
  cases hn : wi n 0 2
  · have HC := hide (keeperSync_range K n m w hn)
    have HR : Hid ((3 : Int) = syncR T P V dv D (G.map GT.p) W n m) := hide (by rw [syncR, if_pos hn])
    have HK := hide hK
    have rv := cell_of_row _ _ 0 _ _ _ hv
    have sv := frozen_of_row _ _ 0 _ _ hv
    simp at rv
    clear hK hv h2 h3 hg hG
    go_enter Tryz.func48, Tryz.ntmps48
    go_wp2_with fail
    refine HC.out.mono ?_
    rintro e w1 ⟨rfl, hw⟩
    obtain rfl := hw.symm
    go_wp2_with fail
    go_ret
    have ht : toldR T P V (G.map GT.p) n 3 = [] := by rw [toldR, if_neg (by decide)]
    exact ⟨3, none, 0, HR.out, rfl, by rw [ht]; exact heap_setCell_same _ vb 0 _ _ _ HV.out, by rw [ht]; exact ⟨⟨none, 0, rfl, fun i p h => by simp at h, by simp, fun _ => rfl⟩, fun k hk => by simp [Value.ownBlock] at hk⟩, (Kq.refl _ _).setCell (p := ⟨vb, 0, none⟩) (.inr (.inr rfl)) _, fun _ => HK.out.setB (p := ⟨vb, 0, none⟩) hvb _, fun h => absurd h (by decide)⟩
  · have hnn : 0 ≤ n ∧ n ≤ 2 := (wi_iff n 0 2).1 hn
    obtain ⟨q, rfl⟩ : ∃ q : Nat, n = (q : Int) := ⟨n.toNat, by omega⟩
    have hq3 : q < 3 := by omega
    obtain ⟨g, hgq⟩ : ∃ g, G[q]? = some g := ⟨G[q]'(by omega), by simp⟩
    obtain ⟨hA, hgD, -, -⟩ := hg q g hgq
    have HC := hide (keeperSync_any K Q B a T P V dv D G W q g m w hK hgq hq3 hl hlP hA (by omega) hlD hlW)
    have hgp := gAt_map hgq
    have HGP := hide hgp
    have HGL := hide (fun (x : GT) (hx : x.A.length ≤ 13 ∧ x.D.length ≤ 60) (k : Nat) (y : GT) (hy : (G.set q x)[k]? = some y) => show y.A.length ≤ 13 ∧ y.D.length ≤ 60 from by
      rw [List.getElem?_set] at hy
      split at hy
      · split at hy
        · cases hy; exact hx
        · cases hy
      · have := hg k y hy
        omega)
    clear hK hv h2 h3 hg hgp hgq hG hnn
    go_enter Tryz.func48, Tryz.ntmps48
    go_wp2_with fail
    refine HC.out.mono ?_
    rintro e w1 ⟨⟨E, M, o, c, hE, hM, rfl, hT, hk1, hk2⟩, hkq⟩
    have HKQ := hide hkq
    have HE := hide (And.intro hE hM)
    have HT := hide hT
    have H12 := hide (And.intro hk1 hk2)
    have hv1 := hkq.obj HV.out (fun h => by rcases h with h | h <;> omega)
    have HV1 := hide hv1
    have rv := cell_of_row _ _ 0 _ _ _ hv1
    have sv := frozen_of_row _ _ 0 _ _ hv1
    simp at rv
    clear hkq hE hM hT hk1 hk2 hv1 HC r2 r3
    go_wp2_with fail
    go_ret
    have hM : M = toldR T P V (G.map GT.p) q E := by rw [toldR, HGP.out]; exact HE.out.2
    have hE : E = syncR T P V dv D (G.map GT.p) W q m := by rw [syncR, if_neg (by rw [hn]; decide), HGP.out]; exact HE.out.1
    refine ⟨E, o, c, hE, rfl, by rw [← hM]; exact heap_setCell_same _ vb 0 _ _ _ HV1.out, by rw [← hM]; exact ⟨HT.out.1.set HT.out.2 (p := ⟨vb, 0, none⟩) hvl _, HT.out.2⟩, (HKQ.out.mono (fun k _ h => h.elim .inl (fun h => .inr (.inl h)))).setCell (p := ⟨vb, 0, none⟩) (.inr (.inr rfl)) _, fun h => (H12.out.1 h).setB (p := ⟨vb, 0, none⟩) hvb _, fun h => ?_⟩
    obtain ⟨a', x, hx, hk⟩ := H12.out.2 h
    have hM0 : toldR T P V (G.map GT.p) q 0 = M := by rw [hM, h]
    rw [HGP.out, hM0]
    have hgA : g.p.A = g.A := rfl
    have hxA : x.A = [] := congrArg GP.A hx
    have hxD : x.D = (denA M dv D).2 := congrArg GP.D hx
    have hset : ∀ x : GT, (G.set q x).map GT.p = (G.map GT.p).set q x.p := fun x => List.map_set
    refine ⟨a', _, hk.setB (p := ⟨vb, 0, none⟩) hvb _, ?_, HGL.out x ⟨by rw [hxA]; simp, by rw [hxD]; exact denA_len M dv D (by omega)⟩⟩
    rw [hset, hx]
    rfl
set_option maxRecDepth 100000 in
theorem enterY1 (args : Array Value) (W : World) : (callFunc 48 args).run Tryz.prog W = .ok (.enter 48 args) W := by
  simp [go_sem]
set_option maxHeartbeats 12800000 in
set_option maxRecDepth 100000 in
theorem stationSync_any (T : List TK) (P : List TP) (V : List Int) (dv : Int) (D : List Int) (G : List GT) (W : List VW) (o1 o2 o3 od og ov : Option Addr) (c1 c2 c3 cd cg cv : Nat) (n m : Int) (w : World) (hs : StW w o1 o2 o3 c1 c2 c3 T P V od cd D og cg G ov cv W) :
    Calls Tryz.prog 12 #[stV o1 o2 o3 T.length c1 P.length c2 V.length c3 dv od D.length cd og G.length cg ov W.length cv, .int .i64 n, .int .i64 m] w fun e w' => (∃ v E M o c, E = syncS T P V dv D G W n m ∧ M = (if chkS T P V dv D G W = 0 then (toldR T P V (G.map GT.p) n E) else []) ∧ e = .returned (.tuple #[v, .slice o M.length c, .int .i64 E]) ∧ (TapsV w' (.slice o M.length c) M ∧ Fresh w.heap.size (.slice o M.length c)) ∧ (E ≠ 0 → v = stV none none none 0 0 0 0 0 0 0 none 0 0 none 0 0 none 0 0) ∧
      (E = 0 → ∃ G', G'.map GT.p = (G.map GT.p).set n.toNat (gSync (gAt (G.map GT.p) n) (denA (toldR T P V (G.map GT.p) n 0) dv D).1 (denA (toldR T P V (G.map GT.p) n 0) dv D).2 m) ∧ StR w' w.heap.size v (intoT T P V (gAt (G.map GT.p) n).A) (intoP T P V (gAt (G.map GT.p) n).A) (intoV T P V (gAt (G.map GT.p) n).A) (denA (toldR T P V (G.map GT.p) n 0) dv D).1 (denA (toldR T P V (G.map GT.p) n 0) dv D).2 G' W)) ∧ Below w.heap.size w w' := by
  have HB := hide ((((((Blks.nil w).more (.cells #[.slice o1 T.length c1, .slice o2 P.length c2, .slice o3 V.length c3, .int .i64 dv, .slice od D.length cd, .slice og G.length cg, .slice ov W.length cv] 32) (by simp)).more (.cells #[.int .i64 n] 3) (by simp)).more (.cells #[.int .i64 m] 3) (by simp)).more (.cells #[.slice none 0 0, .slice none 0 0, .slice none 0 0, .int .i64 0, .slice none 0 0, .slice none 0 0, .slice none 0 0] 32) (by simp)).more (.cells #[.slice none 0 0] 23) (by simp))
  have HS := hide (hs.below HB.out.2.2)
  have hz : (((((w.alloc (.cells #[.slice o1 T.length c1, .slice o2 P.length c2, .slice o3 V.length c3, .int .i64 dv, .slice od D.length cd, .slice og G.length cg, .slice ov W.length cv] 32)).alloc (.cells #[.int .i64 n] 3)).alloc (.cells #[.int .i64 m] 3)).alloc (.cells #[.slice none 0 0, .slice none 0 0, .slice none 0 0, .int .i64 0, .slice none 0 0, .slice none 0 0, .slice none 0 0] 32)).alloc (.cells #[.slice none 0 0] 23)).heap.size = w.heap.size + 1 + 1 + 1 + 1 + 1 := by simp
  obtain ⟨E, hE⟩ : ∃ E, E = syncS T P V dv D G W n m := ⟨_, rfl⟩
  have hE0 : chkS T P V dv D G W = 0 → E = syncR T P V dv D (G.map GT.p) W n m := fun h => by rw [hE, syncS, if_pos h]
  have hEE : chkS T P V dv D G W ≠ 0 → E = chkS T P V dv D G W := fun h => by rw [hE, syncS, if_neg h]
  have HC := hide (changed_any 48 #[.pointer (some ⟨w.heap.size + 1, 0, none⟩), .pointer (some ⟨w.heap.size + 1 + 1, 0, none⟩), .pointer (some ⟨w.heap.size + 1 + 1 + 1 + 1, 0, none⟩)] enterY1 (fun k => k = w.heap.size + 1 + 1 + 1 + 1) T P V dv D G W o1 o2 o3 od og ov c1 c2 c3 cd cg cv _ HS.out (fun k h => by rw [h]; simp)
    (fun E' X => E' = E ∧ (∃ o c, X.heap[w.heap.size + 1 + 1 + 1 + 1]? = some (.cells #[.slice o (toldR T P V (G.map GT.p) n E).length c] 23) ∧ TapsV X (.slice o (toldR T P V (G.map GT.p) n E).length c) (toldR T P V (G.map GT.p) n E) ∧ Fresh (w.heap.size + 1 + 1 + 1 + 1 + 1 + 1 + 1) (.slice o (toldR T P V (G.map GT.p) n E).length c))) (fun _ T' P' V' dv' D' G' W' X => E = 0 ∧ (∃ o c, X.heap[w.heap.size + 1 + 1 + 1 + 1]? = some (.cells #[.slice o (toldR T P V (G.map GT.p) n E).length c] 23) ∧ TapsV X (.slice o (toldR T P V (G.map GT.p) n E).length c) (toldR T P V (G.map GT.p) n E) ∧ Fresh (w.heap.size + 1 + 1 + 1 + 1 + 1 + 1 + 1) (.slice o (toldR T P V (G.map GT.p) n E).length c)) ∧ T' = intoT T P V (gAt (G.map GT.p) n).A ∧ P' = intoP T P V (gAt (G.map GT.p) n).A ∧ V' = intoV T P V (gAt (G.map GT.p) n).A ∧ dv' = (denA (toldR T P V (G.map GT.p) n 0) dv D).1 ∧ D' = (denA (toldR T P V (G.map GT.p) n 0) dv D).2 ∧ G'.map GT.p = (G.map GT.p).set n.toNat (gSync (gAt (G.map GT.p) n) (denA (toldR T P V (G.map GT.p) n 0) dv D).1 (denA (toldR T P V (G.map GT.p) n 0) dv D).2 m) ∧ W' = W)
    (fun _ _ p u hp h => ⟨h.1, h.2.imp fun o ho => ho.imp fun c hc => ⟨heap_setO hc.1 (by rw [hp]; simp; try omega) u, hc.2.1.set hc.2.2 (by rw [hp]; simp; try omega) u, hc.2.2⟩⟩) (fun _ _ _ _ _ _ _ _ _ p u hp h => ⟨h.1, h.2.1.imp fun o ho => ho.imp fun c hc => ⟨heap_setO hc.1 (by rw [hp]; simp; try omega) u, hc.2.1.set hc.2.2 (by rw [hp]; simp; try omega) u, hc.2.2⟩, h.2.2⟩) (fun h0 w1 K Q a G' hm hk hb => by
      obtain ⟨p1, p2, p3, p4, -, p6⟩ := chkS_right h0
      obtain ⟨q1, q2, q3, -, -⟩ := chkL_right p1
      have q4 := (chkD_right p2).2.2.1
      have hl3 : G'.length = 3 := by have := congrArg List.length hm; simp at this; omega
      have hgl := gates_lens p4 hm
      have hkk := hk.lt
      have hkb := hk.bk
      have hw1 : w.heap.size + 1 + 1 + 1 + 1 + 1 + 1 + 1 ≤ w1.heap.size := by simp at hkb; omega
      refine (sync1_any K Q _ a T P V dv D G' W (w.heap.size + 1) (w.heap.size + 1 + 1) (w.heap.size + 1 + 1 + 1 + 1) n m _ w1 hk hl3 hgl (LensOk.of p1) q2 q4 (by omega) (at_below (HB.out.1 1 _ rfl) hb) (at_below (HB.out.1 2 _ rfl) hb) (at_below (HB.out.1 4 _ rfl) hb) (by simp; try omega)).mono ?_
      rintro e w2 ⟨E', o, c, hE', rfl, hv, hT, hkq, he, ho⟩
      rw [hm] at hE' ho hv hT
      have hRR : E' = E := by rw [hE', hE0 h0]
      subst hRR
      refine ⟨_, rfl, hkq, fun _ => ⟨rfl, o, c, hv, hT.1, hT.2.mono hw1⟩, fun h => ?_⟩
      obtain ⟨a', G'', hk', hm', hl'⟩ := ho h
      refine ⟨a', _, _, _, _, _, G'', _, hk', ?_, h, ⟨o, c, hv, hT.1, hT.2.mono hw1⟩, rfl, rfl, rfl, rfl, rfl, hm', rfl⟩
      have hA : (gAt (G.map GT.p) n).A.length ≤ 12 := by
        unfold gAt
        rw [← hm]
        simp only [List.getD, List.getElem?_map]
        cases hx : G'[n.toNat]? with
        | none => simp [gp0]
        | some x =>
          have := (hgl _ x hx).1
          exact this
      refine ⟨into_lnS T P V _ q1 q2 hA, ?_, fun g hg => ?_, ?_, by omega⟩
      · have := denA_len (toldR T P V (G.map GT.p) n 0) dv D (by omega)
        omega
      · obtain ⟨i, hi⟩ := List.mem_iff_getElem?.1 hg
        have := hl' i g hi
        exact ⟨by omega, by omega⟩
      · have := congrArg List.length hm'
        simp at this
        omega))
  rw [hz] at HC
  have HE0 := hide (And.intro hE0 hEE)
  have HE := hide hE
  clear hs hz hE0 hEE hE
  obtain ⟨M, hM⟩ : ∃ M, M = (if chkS T P V dv D G W = 0 then (toldR T P V (G.map GT.p) n E) else []) := ⟨_, rfl⟩
  have HM := hide hM
  clear hM
  suffices h : Calls Tryz.prog 12 #[stV o1 o2 o3 T.length c1 P.length c2 V.length c3 dv od D.length cd og G.length cg ov W.length cv, .int .i64 n, .int .i64 m] w fun e w' => (∃ v o c, e = .returned (.tuple #[v, .slice o M.length c, .int .i64 E]) ∧ (TapsV w' (.slice o M.length c) M ∧ Fresh w.heap.size (.slice o M.length c)) ∧ (E ≠ 0 → v = stV none none none 0 0 0 0 0 0 0 none 0 0 none 0 0 none 0 0) ∧ (E = 0 → ∃ G', G'.map GT.p = (G.map GT.p).set n.toNat (gSync (gAt (G.map GT.p) n) (denA (toldR T P V (G.map GT.p) n 0) dv D).1 (denA (toldR T P V (G.map GT.p) n 0) dv D).2 m) ∧ StR w' w.heap.size v (intoT T P V (gAt (G.map GT.p) n).A) (intoP T P V (gAt (G.map GT.p) n).A) (intoV T P V (gAt (G.map GT.p) n).A) (denA (toldR T P V (G.map GT.p) n 0) dv D).1 (denA (toldR T P V (G.map GT.p) n 0) dv D).2 G' W)) ∧ Below w.heap.size w w' by
    refine h.mono ?_
    rintro e w' ⟨⟨v, o, c, he, hT, h1, h2⟩, hb⟩
    exact ⟨⟨v, E, M, o, c, HE.out, HM.out, he, hT, h1, h2⟩, hb⟩
  obtain ⟨k0, k1, k2, k3, k4, k5, k6⟩ := HB.out.c7 0 w.heap.size rfl rfl rfl rfl rfl rfl rfl rfl rfl
  go_enter Tryz.func12, Tryz.ntmps12
  go_wp2_with fail
  refine HC.out.mono ?_
  rintro e w1 ⟨⟨v, E', rfl, h1, h2, h3⟩, hkq⟩
  have hEE : E' = E ∧ ∃ o c, w1.heap[w.heap.size + 1 + 1 + 1 + 1]? = some (.cells #[.slice o M.length c] 23) ∧ TapsV w1 (.slice o M.length c) M ∧ Fresh (w.heap.size + 1 + 1 + 1 + 1 + 1 + 1 + 1) (.slice o M.length c) := by
    rw [HM.out]
    by_cases h0 : chkS T P V dv D G W = 0
    · rw [if_pos h0]
      by_cases hE0 : E' = 0
      · obtain ⟨a, T', P', V', dv', D', G', W', -, hk, hv, -⟩ := (h3 h0).2 hE0
        exact ⟨by rw [hE0, hk], hv⟩
      · exact (h3 h0).1 hE0
    · rw [if_neg h0]
      have he := h1 h0
      refine ⟨he.1.trans (HE0.out.2 h0).symm, none, 0, ?_, ⟨none, 0, rfl, fun i p h => by simp at h, by simp, fun _ => rfl⟩, fun k hk => by simp [Value.ownBlock] at hk⟩
      exact (he.2.block _ (by omega)).trans (HB.out.1 4 _ rfl)
  obtain ⟨hE1, o, c, hV1, hT1, hF1⟩ := hEE
  subst hE1
  have h4 : E' = 0 → ∃ G', G'.map GT.p = (G.map GT.p).set n.toNat (gSync (gAt (G.map GT.p) n) (denA (toldR T P V (G.map GT.p) n 0) dv D).1 (denA (toldR T P V (G.map GT.p) n 0) dv D).2 m) ∧ StR w1 (w.heap.size + 1 + 1 + 1 + 1 + 1 + 1 + 1) v (intoT T P V (gAt (G.map GT.p) n).A) (intoP T P V (gAt (G.map GT.p) n).A) (intoV T P V (gAt (G.map GT.p) n).A) (denA (toldR T P V (G.map GT.p) n 0) dv D).1 (denA (toldR T P V (G.map GT.p) n 0) dv D).2 G' W := by
    intro h0
    by_cases hc : chkS T P V dv D G W = 0
    · obtain ⟨a, T', P', V', dv', D', G', W', hr, -, -, rfl, rfl, rfl, rfl, rfl, hm, rfl⟩ := (h3 hc).2 h0
      exact ⟨G', hm, hr⟩
    · have := (h1 hc).1
      omega
  have hv : ∃ x1 x2 x3 n1 y1 n2 y2 n3 y3 xv x4 n4 y4 x5 n5 y5 x6 n6 y6, v = stV x1 x2 x3 n1 y1 n2 y2 n3 y3 xv x4 n4 y4 x5 n5 y5 x6 n6 y6 := by
    by_cases h0 : E' = 0
    · obtain ⟨G', -, hr⟩ := h4 h0
      exact hr.form
    · exact ⟨_, _, _, _, _, _, _, _, _, _, _, _, _, _, _, _, _, _, _, h2 h0⟩
  obtain ⟨x1, x2, x3, n1, y1, n2, y2, n3, y3, xv, x4, n4, y4, x5, n5, y5, x6, n6, y6, rfl⟩ := hv
  have H2 := hide h2
  have H4 := hide h4
  have HV1 := hide hV1
  have HT1 := hide hT1
  have HF1 := hide hF1
  have HZ1 := hide (hkq.obj (HB.out.1 3 _ rfl) (by omega))
  have hkb := hkq.below (B := w.heap.size) (by have := HB.out.2.2.size; exact this) (fun k hk h => by omega)
  have HBw := hide (HB.out.2.2.trans hkb)
  have hsz : w.heap.size + 1 + 1 + 1 + 1 + 1 ≤ w1.heap.size := by have := hkq.size; simp at this; omega
  clear h1 h2 h3 h4 hV1 hT1 hF1 hkq hkb HB HS HC HE0 k0 k1 k2 k3 k4 k5 k6
  have HA := hide ((Below.refl w1.heap.size w1).alloc (Nat.le_refl _) (.cells #[.slice x1 n1 y1, .slice x2 n2 y2, .slice x3 n3 y3, .int .i64 xv, .slice x4 n4 y4, .slice x5 n5 y5, .slice x6 n6 y6] 32))
  have HN := hide (heap_alloc_new w1 (.cells #[.slice x1 n1 y1, .slice x2 n2 y2, .slice x3 n3 y3, .int .i64 xv, .slice x4 n4 y4, .slice x5 n5 y5, .slice x6 n6 y6] 32))
  have HV2 := hide (at_below HV1.out HA.out)
  have HT2 := hide (HT1.out.below HA.out)
  have HZ2 := hide (at_below HZ1.out HA.out)
  have HB2 := hide (HBw.out.trans (HA.out.mono (by omega)))
  have H42 := hide (fun h => (H4.out h).imp fun _ hm => And.intro hm.1 (hm.2.below HA.out))
  clear HV1 HZ1 HBw H4 HT1
  go_upto_region 3 with fail
  generalize w1.alloc (.cells #[.slice x1 n1 y1, .slice x2 n2 y2, .slice x3 n3 y3, .int .i64 xv, .slice x4 n4 y4, .slice x5 n5 y5, .slice x6 n6 y6] 32) = w2 at *
  refine wp_region_reads (fun w' => w'.heap[w1.heap.size]? = some (.cells #[.slice x1 n1 y1, .slice x2 n2 y2, .slice x3 n3 y3, .int .i64 xv, .slice x4 n4 y4, .slice x5 n5 y5, .slice x6 n6 y6] 32) ∧ w'.heap[w.heap.size + 1 + 1 + 1 + 1]? = some (.cells #[.slice o M.length c] 23)) [0, 1, 2] 3 (by rfl) (by kernel_rfl) (by kernel_rfl) (by kernel_rfl) (fun c d v a w h => by cases d <;> exact h) ?_ ?_
  · exact ⟨at_below HN.out (Below.refl _ _).drew, at_below HV2.out (Below.refl _ _).drew⟩
  refine wpPureH_step (stV x1 x2 x3 n1 y1 n2 y2 n3 y3 xv x4 n4 y4 x5 n5 y5 x6 n6 y6) rfl rfl (fun w' hS => ?_) ?_
  · have q0 : w'.cell? ⟨w1.heap.size, 0, none⟩ = some (.slice x1 n1 y1) := by rw [cell_of_row _ _ 0 _ _ _ hS.1]; rfl
    have q1 : w'.cell? ⟨w1.heap.size, 1, none⟩ = some (.slice x2 n2 y2) := by rw [cell_of_row _ _ 1 _ _ _ hS.1]; rfl
    have q2 : w'.cell? ⟨w1.heap.size, 2, none⟩ = some (.slice x3 n3 y3) := by rw [cell_of_row _ _ 2 _ _ _ hS.1]; rfl
    have q3 : w'.cell? ⟨w1.heap.size, 3, none⟩ = some (.int .i64 xv) := by rw [cell_of_row _ _ 3 _ _ _ hS.1]; rfl
    have q4 : w'.cell? ⟨w1.heap.size, 4, none⟩ = some (.slice x4 n4 y4) := by rw [cell_of_row _ _ 4 _ _ _ hS.1]; rfl
    have q5 : w'.cell? ⟨w1.heap.size, 5, none⟩ = some (.slice x5 n5 y5) := by rw [cell_of_row _ _ 5 _ _ _ hS.1]; rfl
    have q6 : w'.cell? ⟨w1.heap.size, 6, none⟩ = some (.slice x6 n6 y6) := by rw [cell_of_row _ _ 6 _ _ _ hS.1]; rfl
    go_simp
  refine wpPureH_step (.slice o M.length c) rfl rfl (fun w' hS => ?_) ?_
  · have q0 : w'.cell? ⟨w.heap.size + 1 + 1 + 1 + 1, 0, none⟩ = some (.slice o M.length c) := by rw [cell_of_row _ _ 0 _ _ _ hS.2]; rfl
    go_simp
  refine wpPureH_step (.int .i64 E') rfl rfl (fun w' _ => by go_simp) ?_
  refine wpPureH_nil ?_
  have HNd := hide (at_below HN.out (Below.refl _ _).drew)
  have HVd := hide (at_below HV2.out (Below.refl _ _).drew)
  have HTd := hide (HT2.out.below (Below.refl _ _).drew)
  have HZd := hide (at_below HZ2.out (Below.refl _ _).drew)
  have HBd := hide HB2.out.drew
  have H4d := hide (fun h => (H42.out h).imp fun _ hm => And.intro hm.1 (hm.2.below (Below.refl _ _).drew))
  clear HN HV2 HZ2 HB2 H42 HA HT2
  generalize (World.drew _) = w3 at *
  have r0 := cell_of_row _ _ 0 _ _ _ HZd.out
  have s0 := frozen_of_row _ _ 0 _ _ HZd.out
  have r1 := cell_of_row _ _ 1 _ _ _ HZd.out
  have s1 := frozen_of_row _ _ 1 _ _ HZd.out
  have r2 := cell_of_row _ _ 2 _ _ _ HZd.out
  have s2 := frozen_of_row _ _ 2 _ _ HZd.out
  have r3 := cell_of_row _ _ 3 _ _ _ HZd.out
  have s3 := frozen_of_row _ _ 3 _ _ HZd.out
  have r4 := cell_of_row _ _ 4 _ _ _ HZd.out
  have s4 := frozen_of_row _ _ 4 _ _ HZd.out
  have r5 := cell_of_row _ _ 5 _ _ _ HZd.out
  have s5 := frozen_of_row _ _ 5 _ _ HZd.out
  have r6 := cell_of_row _ _ 6 _ _ _ HZd.out
  have s6 := frozen_of_row _ _ 6 _ _ HZd.out
  simp at r0 r1 r2 r3 r4 r5 r6
  refine one_readyH (i := 3) (by kernel_rfl) rfl rfl (fun K hK => ?_)
  go_simp
  have HZ := hide (heap_setCell_same _ (w.heap.size + 1 + 1 + 1) 6 _ _ (.slice x6 n6 y6) (heap_setCell_same _ (w.heap.size + 1 + 1 + 1) 5 _ _ (.slice x5 n5 y5) (heap_setCell_same _ (w.heap.size + 1 + 1 + 1) 4 _ _ (.slice x4 n4 y4) (heap_setCell_same _ (w.heap.size + 1 + 1 + 1) 3 _ _ (.int .i64 xv) (heap_setCell_same _ (w.heap.size + 1 + 1 + 1) 2 _ _ (.slice x3 n3 y3) (heap_setCell_same _ (w.heap.size + 1 + 1 + 1) 1 _ _ (.slice x2 n2 y2) (heap_setCell_same _ (w.heap.size + 1 + 1 + 1) 0 _ _ (.slice x1 n1 y1) HZd.out)))))))
  have HBz := hide (((((((HBd.out.setCell (p := ⟨w.heap.size + 1 + 1 + 1, 0, none⟩) (by simp; try omega) (.slice x1 n1 y1)).setCell (p := ⟨w.heap.size + 1 + 1 + 1, 1, none⟩) (by simp; try omega) (.slice x2 n2 y2)).setCell (p := ⟨w.heap.size + 1 + 1 + 1, 2, none⟩) (by simp; try omega) (.slice x3 n3 y3)).setCell (p := ⟨w.heap.size + 1 + 1 + 1, 3, none⟩) (by simp; try omega) (.int .i64 xv)).setCell (p := ⟨w.heap.size + 1 + 1 + 1, 4, none⟩) (by simp; try omega) (.slice x4 n4 y4)).setCell (p := ⟨w.heap.size + 1 + 1 + 1, 5, none⟩) (by simp; try omega) (.slice x5 n5 y5)).setCell (p := ⟨w.heap.size + 1 + 1 + 1, 6, none⟩) (by simp; try omega) (.slice x6 n6 y6))
  have HTz := hide (((((((HTd.out.set HF1.out (p := ⟨w.heap.size + 1 + 1 + 1, 0, none⟩) (by simp; try omega) (.slice x1 n1 y1)).set HF1.out (p := ⟨w.heap.size + 1 + 1 + 1, 1, none⟩) (by simp; try omega) (.slice x2 n2 y2)).set HF1.out (p := ⟨w.heap.size + 1 + 1 + 1, 2, none⟩) (by simp; try omega) (.slice x3 n3 y3)).set HF1.out (p := ⟨w.heap.size + 1 + 1 + 1, 3, none⟩) (by simp; try omega) (.int .i64 xv)).set HF1.out (p := ⟨w.heap.size + 1 + 1 + 1, 4, none⟩) (by simp; try omega) (.slice x4 n4 y4)).set HF1.out (p := ⟨w.heap.size + 1 + 1 + 1, 5, none⟩) (by simp; try omega) (.slice x5 n5 y5)).set HF1.out (p := ⟨w.heap.size + 1 + 1 + 1, 6, none⟩) (by simp; try omega) (.slice x6 n6 y6))
  have H4z := hide (fun h => (H4d.out h).imp fun _ hm => And.intro hm.1 (((((((hm.2.set (p := ⟨w.heap.size + 1 + 1 + 1, 0, none⟩) (by simp; try omega) (.slice x1 n1 y1)).set (p := ⟨w.heap.size + 1 + 1 + 1, 1, none⟩) (by simp; try omega) (.slice x2 n2 y2)).set (p := ⟨w.heap.size + 1 + 1 + 1, 2, none⟩) (by simp; try omega) (.slice x3 n3 y3)).set (p := ⟨w.heap.size + 1 + 1 + 1, 3, none⟩) (by simp; try omega) (.int .i64 xv)).set (p := ⟨w.heap.size + 1 + 1 + 1, 4, none⟩) (by simp; try omega) (.slice x4 n4 y4)).set (p := ⟨w.heap.size + 1 + 1 + 1, 5, none⟩) (by simp; try omega) (.slice x5 n5 y5)).set (p := ⟨w.heap.size + 1 + 1 + 1, 6, none⟩) (by simp; try omega) (.slice x6 n6 y6)))
  have HSn := hide (And.intro (heap_setO (heap_setO (heap_setO (heap_setO (heap_setO (heap_setO (heap_setO HNd.out (p := ⟨w.heap.size + 1 + 1 + 1, 0, none⟩) (by simp; try omega) (.slice x1 n1 y1)) (p := ⟨w.heap.size + 1 + 1 + 1, 1, none⟩) (by simp; try omega) (.slice x2 n2 y2)) (p := ⟨w.heap.size + 1 + 1 + 1, 2, none⟩) (by simp; try omega) (.slice x3 n3 y3)) (p := ⟨w.heap.size + 1 + 1 + 1, 3, none⟩) (by simp; try omega) (.int .i64 xv)) (p := ⟨w.heap.size + 1 + 1 + 1, 4, none⟩) (by simp; try omega) (.slice x4 n4 y4)) (p := ⟨w.heap.size + 1 + 1 + 1, 5, none⟩) (by simp; try omega) (.slice x5 n5 y5)) (p := ⟨w.heap.size + 1 + 1 + 1, 6, none⟩) (by simp; try omega) (.slice x6 n6 y6)) (heap_setO (heap_setO (heap_setO (heap_setO (heap_setO (heap_setO (heap_setO HVd.out (p := ⟨w.heap.size + 1 + 1 + 1, 0, none⟩) (by simp; try omega) (.slice x1 n1 y1)) (p := ⟨w.heap.size + 1 + 1 + 1, 1, none⟩) (by simp; try omega) (.slice x2 n2 y2)) (p := ⟨w.heap.size + 1 + 1 + 1, 2, none⟩) (by simp; try omega) (.slice x3 n3 y3)) (p := ⟨w.heap.size + 1 + 1 + 1, 3, none⟩) (by simp; try omega) (.int .i64 xv)) (p := ⟨w.heap.size + 1 + 1 + 1, 4, none⟩) (by simp; try omega) (.slice x4 n4 y4)) (p := ⟨w.heap.size + 1 + 1 + 1, 5, none⟩) (by simp; try omega) (.slice x5 n5 y5)) (p := ⟨w.heap.size + 1 + 1 + 1, 6, none⟩) (by simp; try omega) (.slice x6 n6 y6)))
  refine hK _ _ HSn.out ?_
  clear hK K HBd H4d HNd HVd HZd HTd r0 r1 r2 r3 r4 r5 r6 s0 s1 s2 s3 s4 s5 s6
  generalize (((((((w3.setCell ⟨w.heap.size + 1 + 1 + 1, 0, none⟩ (.slice x1 n1 y1)).setCell ⟨w.heap.size + 1 + 1 + 1, 1, none⟩ (.slice x2 n2 y2)).setCell ⟨w.heap.size + 1 + 1 + 1, 2, none⟩ (.slice x3 n3 y3)).setCell ⟨w.heap.size + 1 + 1 + 1, 3, none⟩ (.int .i64 xv)).setCell ⟨w.heap.size + 1 + 1 + 1, 4, none⟩ (.slice x4 n4 y4)).setCell ⟨w.heap.size + 1 + 1 + 1, 5, none⟩ (.slice x5 n5 y5)).setCell ⟨w.heap.size + 1 + 1 + 1, 6, none⟩ (.slice x6 n6 y6)) = w5 at *
  refine one_readyH (i := 4) (by kernel_rfl) rfl rfl (fun K hK => ?_)
  go_simp
  refine hK _ _ HSn.out ?_
  clear hK K
  refine one_readyH (i := 5) (by kernel_rfl) rfl rfl (fun K hK => ?_)
  go_simp
  refine hK _ _ HSn.out ?_
  clear hK K
  refine wpAnyH_done (by kernel_rfl) ?_ _
  have g0 := cell_of_row _ _ 0 _ _ _ HZ.out
  have g1 := cell_of_row _ _ 1 _ _ _ HZ.out
  have g2 := cell_of_row _ _ 2 _ _ _ HZ.out
  have g3 := cell_of_row _ _ 3 _ _ _ HZ.out
  have g4 := cell_of_row _ _ 4 _ _ _ HZ.out
  have g5 := cell_of_row _ _ 5 _ _ _ HZ.out
  have g6 := cell_of_row _ _ 6 _ _ _ HZ.out
  simp at g0 g1 g2 g3 g4 g5 g6
  go_wp2_with fail
  exact bodyPost_ret (v := .tuple #[stV x1 x2 x3 n1 y1 n2 y2 n3 y3 xv x4 n4 y4 x5 n5 y5 x6 n6 y6, .slice o M.length c, .int .i64 E']) (by simp [results, Tryz.results12, go_sem, g0, g1, g2, g3, g4, g5, g6]) rfl ⟨⟨_, o, c, rfl, ⟨HTz.out, HF1.out.mono (by omega)⟩, H2.out, fun h => (H4z.out h).imp fun _ hm => ⟨hm.1, hm.2.mono (by omega)⟩⟩, HBz.out⟩
end Go.Proofs.YtcjfmbeemdcklaaGreat

/-
  'NewStation' (package leeboardref), 'hall' (package leeboardlaw).
-/
namespace Go.Proofs.YtcjfmbeemdcklaaGreat
open Go.RowKit
theorem gatesAt_own {w : World} {B Q c : Nat} {G : List GT} (h : w.ownsRow B 49 8 (.slice (some ⟨Q, 0, none⟩) G.length c) G.length (cellsG G)) (hl : ∀ g ∈ G, TapsV w (.slice g.oa g.A.length g.ca) g.A ∧ IntsV w (.slice g.od g.D.length g.cd) g.D) : GatesAt w (some ⟨Q, 0, none⟩) G := by
  intro i g hi
  have hc : ∀ j, j < 8 → w.cell? ⟨Q, i * 8 + j, none⟩ = g.cells[j]? := fun j hj => by
    rw [h.cellAt (i * 8 + j) (by have := (List.getElem?_eq_some_iff.1 hi).1; omega)]
    exact cellsG_get G i g hi j hj
  have hm := hl g (List.mem_of_getElem? hi)
  refine ⟨_, rfl, ?_, hm.1, hm.2⟩
  rw [own_addrZ]
  exact ⟨hc 0 (by omega), hc 1 (by omega), hc 2 (by omega), hc 3 (by omega), hc 4 (by omega), hc 5 (by omega), hc 6 (by omega), hc 7 (by omega)⟩
theorem own_lit {w : World} {B b n size : Nat} {e : TypeId} {cs : Array Value} (h : w.heap[b]? = some (.cells cs e)) (hB : B ≤ b) (hn : n ≤ 1000) (hs : cs.size = n * size) : w.ownsRow B e size (.slice (some ⟨b, 0, none⟩) n n) n cs.toList :=
  ⟨by simpa using hs, .inr ⟨b, n, cs, rfl, hB, h, Nat.le_refl _, by unfold maxLen; omega, hs, List.take_of_length_le (by rw [Array.length_toList, hs]; exact Nat.le_refl _)⟩⟩
set_option maxHeartbeats 6400000 in
set_option maxRecDepth 100000 in
theorem newStation_any (w : World) : Calls Tryz.prog 20 #[] w fun e w' => (∃ og cg ov cv, e = .returned (stV none none none 0 0 0 0 0 0 0 none 0 0 og 3 cg ov 3 cv) ∧ (GatesAt w' og newG ∧ 3 ≤ cg ∧ (og = none → cg = 0) ∧ Fresh w.heap.size (.slice og 3 cg)) ∧ VwsV w' (.slice ov 3 cv) newV ∧ Fresh w.heap.size (.slice ov 3 cv)) ∧ Below w.heap.size w w' := by
  have HB := hide (((((Blks.nil w).more (.cells #[.slice none 0 0, .slice none 0 0, .slice none 0 0, .int .i64 0, .slice none 0 0, .slice (some ⟨w.heap.size + 1 + 1, 0, none⟩) 3 3, .slice (some ⟨w.heap.size + 1 + 1 + 1, 0, none⟩) 3 3] 32) (by simp)).more (.cells #[.int .i64 9, .int .i64 100] 47) (by simp)).more (.cells #[.int .i64 0, .int .i64 1, .int .i64 0, .slice none 0 0, .int .i64 0, .slice none 0 0, .int .i64 9, .int .i64 100, .int .i64 1, .int .i64 2, .int .i64 0, .slice none 0 0, .int .i64 0, .slice none 0 0, .int .i64 9, .int .i64 100, .int .i64 2, .int .i64 4, .int .i64 0, .slice none 0 0, .int .i64 0, .slice none 0 0, .int .i64 9, .int .i64 100] 49) (by simp)).more (.cells #[.int .i64 0, .int .i64 0, .bool true, .int .i64 0, .int .i64 0, .bool true, .int .i64 0, .int .i64 0, .bool true] 82) (by simp))
  go_enter Tryz.func20, Tryz.ntmps20
  go_wp2_with fail
  refine bodyPost_ret (v := stV none none none 0 0 0 0 0 0 0 none 0 0 (some ⟨w.heap.size + 1 + 1, 0, none⟩) 3 3 (some ⟨w.heap.size + 1 + 1 + 1, 0, none⟩) 3 3) (by simp [results, Tryz.results20, go_sem]) rfl ⟨⟨_, _, _, _, rfl, ⟨?_, Nat.le_refl _, (fun h => by cases h), ?_⟩, ?_, ?_⟩, HB.out.2.2⟩
  · have h := own_lit (B := 0) (n := 3) (size := 8) (HB.out.1 2 _ rfl) (Nat.zero_le _) (by omega) rfl
    refine gatesAt_own (B := 0) (c := 3) (G := newG) h (fun g hg => ?_)
    simp only [newG, List.mem_cons, List.not_mem_nil, or_false] at hg
    rcases hg with rfl | rfl | rfl <;> exact ⟨tapsV_nil _, intsV_nil _⟩
  · intro k hk
    simp [Value.ownBlock] at hk
    omega
  · exact vwsV_own (base := 0) (L := newV) (own_lit (B := 0) (n := 3) (size := 3) (HB.out.1 3 _ rfl) (Nat.zero_le _) (by omega) rfl)
  · intro k hk
    simp [Value.ownBlock] at hk
    omega
def hallT : List TK := [⟨1, 1, 10, 500, 15, 0⟩]
def hallW : List VW := [⟨1, 0, true⟩, ⟨1, 0, true⟩, ⟨1, 0, true⟩]
set_option maxHeartbeats 6400000 in
set_option maxRecDepth 100000 in
theorem hall_any (w : World) : Calls Tryz.prog 34 #[] w fun e w' => (∃ o1 c1 og cg ov cv, e = .returned (stV o1 none none 1 c1 0 0 0 0 0 none 0 0 og 3 cg ov 3 cv) ∧ StW w' o1 none none c1 0 0 hallT [] [] none 0 [] og cg newG ov cv hallW ∧ Fresh w.heap.size (.slice ov 3 cv)) ∧ Below w.heap.size w w' := by
  have HB := hide ((Blks.nil w).more (.cells #[.slice none 0 0, .slice none 0 0, .slice none 0 0, .int .i64 0, .slice none 0 0, .slice none 0 0, .slice none 0 0] 32) (by simp))
  go_enter Tryz.func34, Tryz.ntmps34
  go_wp2_with fail
  refine (newStation_any _).mono ?_
  rintro e w1 ⟨⟨og, cg, ov, cv, rfl, ⟨hG, hcg, hng, hgf⟩, -, -⟩, hb⟩
  have HB1 := hide (HB.out.on hb)
  have HG1 := hide hG
  have HGf : Hid (Fresh (w.heap.size + 1) (.slice og 3 cg)) := hide (hgf.mono (by simp))
  have hw01 : w.heap.size < w1.heap.size := HB1.out.2.1
  clear hb hG hgf HB
  have HX := hide (((Blks.nil w1).more (.cells #[.slice none 0 0, .slice none 0 0, .slice none 0 0, .int .i64 0, .slice none 0 0, .slice og 3 cg, .slice (some ⟨w1.heap.size + 1, 0, none⟩) 3 3] 32) (by simp)).more (.cells #[.int .i64 1, .int .i64 0, .bool true, .int .i64 1, .int .i64 0, .bool true, .int .i64 1, .int .i64 0, .bool true] 82) (by simp))
  have HB2 := hide (HB1.out.on HX.out.2.2)
  clear HB1
  go_wp2_with fail
  refine (single_any _ _).mono ?_
  rintro e w2 ⟨rfl, hb⟩
  have HX2 := hide (HX.out.on hb)
  have HB3 := hide (HB2.out.on hb)
  clear hb HX HB2
  obtain ⟨b0, b1, b2, b3, b4, b5, b6⟩ := HB3.out.c7 0 w.heap.size rfl rfl rfl rfl rfl rfl rfl rfl rfl
  obtain ⟨f0, f1, f2, f3, f4, f5, f6⟩ := HB3.out.z7 0 w.heap.size rfl rfl
  obtain ⟨x0, x1, x2, x3, x4, x5, x6⟩ := HX2.out.c7 0 w1.heap.size rfl rfl rfl rfl rfl rfl rfl rfl rfl
  have y0 := HX2.out.frozen 0 0 w1.heap.size _ _ rfl rfl
  have hs1 : w.heap.size + 1 ≤ w2.heap.size := HB3.out.2.1
  have hs2 : w1.heap.size + 1 + 1 ≤ w2.heap.size := HX2.out.2.1
  have hs3 : w1.heap.size < w2.heap.size := by omega
  have hs4 : w.heap.size < w2.heap.size := by omega
  have hs5 : w.heap.size < w1.heap.size := hw01
  go_wp2_with fail
  have hgl : ∀ g ∈ newG, Fresh (w.heap.size + 1) (.slice g.oa g.A.length g.ca) ∧ Fresh (w.heap.size + 1) (.slice g.od g.D.length g.cd) := by
    intro g hg
    simp only [newG, List.mem_cons, List.not_mem_nil, or_false] at hg
    rcases hg with rfl | rfl | rfl <;> exact ⟨fun k hk => by simp [Value.ownBlock, gt0] at hk, fun k hk => by simp [Value.ownBlock, gt0] at hk⟩
  have HGa := hide (HG1.out.below (HX2.out.2.2.setCell (p := ⟨w1.heap.size, 0, none⟩) (Nat.le_refl _) (.slice (some ⟨w2.heap.size, 0, none⟩) 1 1)))
  have HGb := hide (((((((HGa.out.set HGf.out hgl (p := ⟨w.heap.size, 0, none⟩) (by simp) (.slice (some ⟨w2.heap.size, 0, none⟩) 1 1)).set HGf.out hgl (p := ⟨w.heap.size, 1, none⟩) (by simp) (.slice none 0 0)).set HGf.out hgl (p := ⟨w.heap.size, 2, none⟩) (by simp) (.slice none 0 0)).set HGf.out hgl (p := ⟨w.heap.size, 3, none⟩) (by simp) (.int .i64 0)).set HGf.out hgl (p := ⟨w.heap.size, 4, none⟩) (by simp) (.slice none 0 0)).set HGf.out hgl (p := ⟨w.heap.size, 5, none⟩) (by simp) (.slice og 3 cg)).set HGf.out hgl (p := ⟨w.heap.size, 6, none⟩) (by simp) (.slice (some ⟨w1.heap.size + 1, 0, none⟩) 3 3))
  have HVb := hide (heap_setO (heap_setO (heap_setO (heap_setO (heap_setO (heap_setO (heap_setO (heap_setO (HX2.out.1 1 _ rfl) (p := ⟨w1.heap.size, 0, none⟩) (by simp) (.slice (some ⟨w2.heap.size, 0, none⟩) 1 1)) (p := ⟨w.heap.size, 0, none⟩) (by simp; omega) (.slice (some ⟨w2.heap.size, 0, none⟩) 1 1)) (p := ⟨w.heap.size, 1, none⟩) (by simp; omega) (.slice none 0 0)) (p := ⟨w.heap.size, 2, none⟩) (by simp; omega) (.slice none 0 0)) (p := ⟨w.heap.size, 3, none⟩) (by simp; omega) (.int .i64 0)) (p := ⟨w.heap.size, 4, none⟩) (by simp; omega) (.slice none 0 0)) (p := ⟨w.heap.size, 5, none⟩) (by simp; omega) (.slice og 3 cg)) (p := ⟨w.heap.size, 6, none⟩) (by simp; omega) (.slice (some ⟨w1.heap.size + 1, 0, none⟩) 3 3))
  have HZb := hide (heap_setCell_same _ w.heap.size 6 _ _ (.slice (some ⟨w1.heap.size + 1, 0, none⟩) 3 3) (heap_setCell_same _ w.heap.size 5 _ _ (.slice og 3 cg) (heap_setCell_same _ w.heap.size 4 _ _ (.slice none 0 0) (heap_setCell_same _ w.heap.size 3 _ _ (.int .i64 0) (heap_setCell_same _ w.heap.size 2 _ _ (.slice none 0 0) (heap_setCell_same _ w.heap.size 1 _ _ (.slice none 0 0) (heap_setCell_same _ w.heap.size 0 _ _ (.slice (some ⟨w2.heap.size, 0, none⟩) 1 1) (heap_setO (HB3.out.1 0 _ rfl) (p := ⟨w1.heap.size, 0, none⟩) (by simp; omega) (.slice (some ⟨w2.heap.size, 0, none⟩) 1 1)))))))))
  have HBb := hide ((((((((HB3.out.2.2.setCell (p := ⟨w1.heap.size, 0, none⟩) (by simp; omega) (.slice (some ⟨w2.heap.size, 0, none⟩) 1 1)).setCell (p := ⟨w.heap.size, 0, none⟩) (by simp) (.slice (some ⟨w2.heap.size, 0, none⟩) 1 1)).setCell (p := ⟨w.heap.size, 1, none⟩) (by simp) (.slice none 0 0)).setCell (p := ⟨w.heap.size, 2, none⟩) (by simp) (.slice none 0 0)).setCell (p := ⟨w.heap.size, 3, none⟩) (by simp) (.int .i64 0)).setCell (p := ⟨w.heap.size, 4, none⟩) (by simp) (.slice none 0 0)).setCell (p := ⟨w.heap.size, 5, none⟩) (by simp) (.slice og 3 cg)).setCell (p := ⟨w.heap.size, 6, none⟩) (by simp) (.slice (some ⟨w1.heap.size + 1, 0, none⟩) 3 3))
  have hsz : ((((((((w2.setCell ⟨w1.heap.size, 0, none⟩ (.slice (some ⟨w2.heap.size, 0, none⟩) 1 1)).setCell ⟨w.heap.size, 0, none⟩ (.slice (some ⟨w2.heap.size, 0, none⟩) 1 1)).setCell ⟨w.heap.size, 1, none⟩ (.slice none 0 0)).setCell ⟨w.heap.size, 2, none⟩ (.slice none 0 0)).setCell ⟨w.heap.size, 3, none⟩ (.int .i64 0)).setCell ⟨w.heap.size, 4, none⟩ (.slice none 0 0)).setCell ⟨w.heap.size, 5, none⟩ (.slice og 3 cg)).setCell ⟨w.heap.size, 6, none⟩ (.slice (some ⟨w1.heap.size + 1, 0, none⟩) 3 3)).heap.size = w2.heap.size := by simp only [World.size_setCell]
  have HA := hide ((Below.refl _ ((((((((w2.setCell ⟨w1.heap.size, 0, none⟩ (.slice (some ⟨w2.heap.size, 0, none⟩) 1 1)).setCell ⟨w.heap.size, 0, none⟩ (.slice (some ⟨w2.heap.size, 0, none⟩) 1 1)).setCell ⟨w.heap.size, 1, none⟩ (.slice none 0 0)).setCell ⟨w.heap.size, 2, none⟩ (.slice none 0 0)).setCell ⟨w.heap.size, 3, none⟩ (.int .i64 0)).setCell ⟨w.heap.size, 4, none⟩ (.slice none 0 0)).setCell ⟨w.heap.size, 5, none⟩ (.slice og 3 cg)).setCell ⟨w.heap.size, 6, none⟩ (.slice (some ⟨w1.heap.size + 1, 0, none⟩) 3 3))).alloc (Nat.le_refl _) (.cells #[.int .i64 1, .int .i64 1, .int .i64 10, .int .i64 500, .int .i64 15, .int .i64 0] 34))
  have hN : (((((((((w2.setCell ⟨w1.heap.size, 0, none⟩ (.slice (some ⟨w2.heap.size, 0, none⟩) 1 1)).setCell ⟨w.heap.size, 0, none⟩ (.slice (some ⟨w2.heap.size, 0, none⟩) 1 1)).setCell ⟨w.heap.size, 1, none⟩ (.slice none 0 0)).setCell ⟨w.heap.size, 2, none⟩ (.slice none 0 0)).setCell ⟨w.heap.size, 3, none⟩ (.int .i64 0)).setCell ⟨w.heap.size, 4, none⟩ (.slice none 0 0)).setCell ⟨w.heap.size, 5, none⟩ (.slice og 3 cg)).setCell ⟨w.heap.size, 6, none⟩ (.slice (some ⟨w1.heap.size + 1, 0, none⟩) 3 3)).alloc (.cells #[.int .i64 1, .int .i64 1, .int .i64 10, .int .i64 500, .int .i64 15, .int .i64 0] 34)).heap[w2.heap.size]? = some (.cells #[.int .i64 1, .int .i64 1, .int .i64 10, .int .i64 500, .int .i64 15, .int .i64 0] 34) := by
    have h := heap_alloc_new ((((((((w2.setCell ⟨w1.heap.size, 0, none⟩ (.slice (some ⟨w2.heap.size, 0, none⟩) 1 1)).setCell ⟨w.heap.size, 0, none⟩ (.slice (some ⟨w2.heap.size, 0, none⟩) 1 1)).setCell ⟨w.heap.size, 1, none⟩ (.slice none 0 0)).setCell ⟨w.heap.size, 2, none⟩ (.slice none 0 0)).setCell ⟨w.heap.size, 3, none⟩ (.int .i64 0)).setCell ⟨w.heap.size, 4, none⟩ (.slice none 0 0)).setCell ⟨w.heap.size, 5, none⟩ (.slice og 3 cg)).setCell ⟨w.heap.size, 6, none⟩ (.slice (some ⟨w1.heap.size + 1, 0, none⟩) 3 3)) (.cells #[.int .i64 1, .int .i64 1, .int .i64 10, .int .i64 500, .int .i64 15, .int .i64 0] 34)
    rwa [hsz] at h
  have HN := hide hN
  have HGc := hide (HGb.out.below HA.out)
  have HVc := hide (at_below HVb.out HA.out)
  have HZc := hide (at_below HZb.out HA.out)
  have HBc := hide (HBb.out.trans (HA.out.mono (by rw [hsz]; omega)))
  clear HGa HGb HVb HZb HBb HA hsz hN HG1 HX2 HB3 b0 b1 b2 b3 b4 b5 b6 f0 f1 f2 f3 f4 f5 f6 x0 x1 x2 x3 x4 x5 x6 y0
  generalize (((((((((w2.setCell ⟨w1.heap.size, 0, none⟩ (.slice (some ⟨w2.heap.size, 0, none⟩) 1 1)).setCell ⟨w.heap.size, 0, none⟩ (.slice (some ⟨w2.heap.size, 0, none⟩) 1 1)).setCell ⟨w.heap.size, 1, none⟩ (.slice none 0 0)).setCell ⟨w.heap.size, 2, none⟩ (.slice none 0 0)).setCell ⟨w.heap.size, 3, none⟩ (.int .i64 0)).setCell ⟨w.heap.size, 4, none⟩ (.slice none 0 0)).setCell ⟨w.heap.size, 5, none⟩ (.slice og 3 cg)).setCell ⟨w.heap.size, 6, none⟩ (.slice (some ⟨w1.heap.size + 1, 0, none⟩) 3 3)).alloc (.cells #[.int .i64 1, .int .i64 1, .int .i64 10, .int .i64 500, .int .i64 15, .int .i64 0] 34)) = w4 at *
  have g0 := cell_of_row _ _ 0 _ _ _ HZc.out
  have g1 := cell_of_row _ _ 1 _ _ _ HZc.out
  have g2 := cell_of_row _ _ 2 _ _ _ HZc.out
  have g3 := cell_of_row _ _ 3 _ _ _ HZc.out
  have g4 := cell_of_row _ _ 4 _ _ _ HZc.out
  have g5 := cell_of_row _ _ 5 _ _ _ HZc.out
  have g6 := cell_of_row _ _ 6 _ _ _ HZc.out
  simp at g0 g1 g2 g3 g4 g5 g6
  refine bodyPost_ret (v := stV (some ⟨w2.heap.size, 0, none⟩) none none 1 1 0 0 0 0 0 none 0 0 og 3 cg (some ⟨w1.heap.size + 1, 0, none⟩) 3 3) (by simp [results, Tryz.results34, go_sem, g0, g1, g2, g3, g4, g5, g6]) rfl ⟨⟨_, _, _, _, _, _, rfl, ?_, fun k hk => by simp only [Value.ownBlock, Option.some.injEq] at hk; omega⟩, HBc.out⟩
  have hT : TiksV w4 (.slice (some ⟨w2.heap.size, 0, none⟩) 1 1) hallT := tiksV_own (base := 0) (L := hallT) (own_lit (B := 0) (n := 1) (size := 6) HN.out (Nat.zero_le _) (by omega) rfl)
  have hW : VwsV w4 (.slice (some ⟨w1.heap.size + 1, 0, none⟩) 3 3) hallW := vwsV_own (base := 0) (L := hallW) (own_lit (B := 0) (n := 3) (size := 3) HVc.out (Nat.zero_le _) (by omega) rfl)
  exact ⟨LedV.of hT (tapsV_nil _) (intsV_nil _), ⟨by simp [hallT], by simp, by simp⟩, ⟨fun i p h => by simp at h, by simp, by simp, fun _ => rfl⟩, HGc.out, fun g hg => by
    simp only [newG, List.mem_cons, List.not_mem_nil, or_false] at hg
    rcases hg with rfl | rfl | rfl <;> simp [gt0], hcg, hng, by simp [newG], hW.eqs.2.1, by simp [hallW], (fun h => by cases h), by simp [hallW]⟩
end Go.Proofs.YtcjfmbeemdcklaaGreat

/-
  For 'stationBegun': a station's check hangs on its gates alone, wherever they lie; its calls, one by one.
-/
namespace Go.Proofs.YtcjfmbeemdcklaaGreat
open Go.RowKit
def gatePE (dv : Int) (P : List TP) (n : Nat) (g : GP) : Int :=
  if chkG g.i g.z g.s g.A g.v g.D g.l g.u = 0 then (if g.i = (n : Int) ∧ ¬ dv < g.v then (if P.any (twiG g.i g.s g.A) = true then 6 else 0) else 4) else chkG g.i g.z g.s g.A g.v g.D g.l g.u
def gatesPF (dv : Int) (P : List TP) : Nat → List GP → Int
  | _, [] => 0
  | n, g :: L => if gatePE dv P n g = 0 then gatesPF dv P (n + 1) L else gatePE dv P n g
def gatesPE (dv : Int) (P : List TP) (G : List GP) : Int := if G.length = 3 then gatesPF dv P 0 G else 1
def chkPS (T : List TK) (P : List TP) (V : List Int) (dv : Int) (D : List Int) (L : List GP) (W : List VW) : Int :=
  if chkL T P V = 0 then (if chkD dv D = 0 then (if gatesPE dv P L = 0 then chkVs W else gatesPE dv P L) else chkD dv D) else chkL T P V
theorem gatesF_p (dv : Int) (P : List TP) : ∀ (G : List GT) (n : Nat), gatesF dv P n G = gatesPF dv P n (G.map GT.p)
  | [], n => rfl
  | g :: L, n => by
    rw [gatesF, List.map_cons, gatesPF, gatesF_p dv P L (n + 1)]
    rfl
theorem chkS_p (T : List TK) (P : List TP) (V : List Int) (dv : Int) (D : List Int) (G : List GT) (W : List VW) : chkS T P V dv D G W = chkPS T P V dv D (G.map GT.p) W := by
  have h : gatesE dv P G = gatesPE dv P (G.map GT.p) := by
    rw [gatesE, gatesPE, List.length_map, gatesF_p]
  rw [chkS, chkPS, h]
theorem tapS_p {T : List TK} {P : List TP} {V : List Int} {dv : Int} {D : List Int} {G : List GT} {W : List VW} {L : List GP} (h : G.map GT.p = L) (id n m : Int) : tapS T P V dv D G W id n m = if chkPS T P V dv D L W = 0 then tapR T P V dv D L W id n m else (0, chkPS T P V dv D L W) := by
  rw [tapS, chkS_p, h]
theorem sellS_p {T : List TK} {P : List TP} {V : List Int} {dv : Int} {D : List Int} {G : List GT} {W : List VW} {L : List GP} (h : G.map GT.p = L) (t : TK) : sellS T P V dv D G W t = if chkPS T P V dv D L W = 0 then sellK T P V W t else chkPS T P V dv D L W := by
  rw [sellS, chkS_p, h]
theorem syncS_p {T : List TK} {P : List TP} {V : List Int} {dv : Int} {D : List Int} {G : List GT} {W : List VW} {L : List GP} (h : G.map GT.p = L) (n m : Int) : syncS T P V dv D G W n m = if chkPS T P V dv D L W = 0 then syncR T P V dv D L W n m else chkPS T P V dv D L W := by
  rw [syncS, chkS_p, h]
def gN : List GP := [⟨0, 1, 0, [], 0, [], 9, 100⟩, ⟨1, 2, 0, [], 0, [], 9, 100⟩, ⟨2, 4, 0, [], 0, [], 9, 100⟩]
def gB : List GP := [⟨0, 1, 1, [⟨1, 0, 1, 20, 1⟩], 0, [], 8, 100⟩, ⟨1, 2, 0, [], 0, [], 9, 100⟩, ⟨2, 4, 0, [], 0, [], 9, 100⟩]
theorem newG_p : newG.map GT.p = gN := rfl
theorem ev_hall : tapS hallT [] [] 0 [] newG hallW 1 0 20 = (1, 0) := by rw [tapS_p newG_p]; decide +kernel
theorem ev_alone : tapS hallT [] [] 0 [] newG newV 1 0 20 = (0, 0) := by rw [tapS_p newG_p]; decide +kernel
theorem ev_b {G : List GT} (h : G.map GT.p = gB) : (tapS hallT [] [] 0 [] G hallW 1 0 90).2 = 10 := by rw [tapS_p h]; decide +kernel
theorem ev_sell : sellS hallT [] [] 0 [] newG hallW ⟨2, 1, 10, 500, 15, 0⟩ = 0 := by rw [sellS_p newG_p]; decide +kernel
theorem ev_sell4 : sellS hallT [] [] 0 [] newG newV ⟨2, 1, 10, 500, 15, 0⟩ = 4 := by rw [sellS_p newG_p]; decide +kernel
theorem srt_one : srt [(⟨1, 0, 1, 20, 1⟩ : TP)] = [⟨1, 0, 1, 20, 1⟩] := by simp [srt]
theorem into_b : intoB hallT [] [(⟨1, 0, 1, 20, 1⟩ : TP)] = (0, [⟨1, 0, 1, 20, 1⟩], [1], []) := by
  rw [intoB, List.nil_append, srt_one]
  rfl
theorem into_e : intoE hallT [] [] [(⟨1, 0, 1, 20, 1⟩ : TP)] = 0 := by
  rw [intoE, if_pos (by decide +kernel), if_neg (by decide), if_pos (by decide +kernel), into_b]
theorem ev_sync {G : List GT} (h : G.map GT.p = gB) : syncS hallT [] [] 0 [] G hallW 0 50 = 0 := by
  rw [syncS_p h, if_pos (by decide +kernel), syncR, if_neg (by decide), syncK, if_pos (by decide +kernel), if_pos (by decide +kernel)]
  exact into_e
set_option maxRecDepth 100000 in
theorem tapHall {w : World} {o1 o2 o3 od og ov : Option Addr} {c1 c2 c3 cd cg cv : Nat} (hs : StW w o1 o2 o3 c1 c2 c3 hallT [] [] od cd [] og cg newG ov cv hallW) : Calls Tryz.prog 13 #[stV o1 o2 o3 1 c1 0 c2 0 c3 0 od 0 cd og 3 cg ov 3 cv, .int .i64 1, .int .i64 0, .int .i64 20] w fun e w' => (∃ x1 y1 x2 y2 x3 y3 x4 y4 x5 y5 x6 y6, e = .returned (.tuple #[stV x1 x2 x3 1 y1 1 y2 1 y3 0 x4 0 y4 x5 3 y5 x6 3 y6, .int .i64 1, .int .i64 0])) ∧ Below w.heap.size w w' := by
  refine (stationTap_any hallT [] [] 0 [] newG hallW o1 o2 o3 od og ov c1 c2 c3 cd cg cv 1 0 20 w hs).mono ?_
  rintro e w' ⟨⟨v, R, hR, rfl, -, h2⟩, hb⟩
  rw [ev_hall] at hR
  subst hR
  obtain ⟨G', hm, hr⟩ := h2 rfl
  obtain ⟨x1, y1, x2, y2, x3, y3, x4, y4, x5, y5, x6, y6, rfl, -⟩ := hr.of
  have hl : G'.length = 3 := by have := congrArg List.length hm; simpa [newG] using this
  exact ⟨⟨x1, y1, x2, y2, x3, y3, x4, y4, x5, y5, x6, y6, by rw [hl]; rfl⟩, hb⟩
set_option maxRecDepth 100000 in
theorem tapAlone {w : World} {o1 o2 o3 od og ov : Option Addr} {c1 c2 c3 cd cg cv : Nat} (hs : StW w o1 o2 o3 c1 c2 c3 hallT [] [] od cd [] og cg newG ov cv newV) : Calls Tryz.prog 13 #[stV o1 o2 o3 1 c1 0 c2 0 c3 0 od 0 cd og 3 cg ov 3 cv, .int .i64 1, .int .i64 0, .int .i64 20] w fun e w' => (∃ x1 y1 x2 y2 x3 y3 x4 y4 x5 y5 x6 y6 G', e = .returned (.tuple #[stV x1 x2 x3 1 y1 0 y2 0 y3 0 x4 0 y4 x5 3 y5 x6 3 y6, .int .i64 0, .int .i64 0]) ∧ G'.map GT.p = gB ∧ StW w' x1 x2 x3 y1 y2 y3 hallT [] [] x4 y4 [] x5 y5 G' x6 y6 newV) ∧ Below w.heap.size w w' := by
  refine (stationTap_any hallT [] [] 0 [] newG newV o1 o2 o3 od og ov c1 c2 c3 cd cg cv 1 0 20 w hs).mono ?_
  rintro e w' ⟨⟨v, R, hR, rfl, -, h2⟩, hb⟩
  rw [ev_alone] at hR
  subst hR
  obtain ⟨G', hm, hr⟩ := h2 rfl
  have e1 : pTap newV (gAt (newG.map GT.p) 0) [] 1 0 20 = [] := by decide +kernel
  have e2 : vTap newV (gAt (newG.map GT.p) 0) [] (0, 0).1 = [] := by decide +kernel
  have e3 : (newG.map GT.p).set (0 : Int).toNat (gTap newV (gAt (newG.map GT.p) 0) (tAt hallT 1) 20) = gB := by rfl
  rw [e1, e2] at hr
  rw [e3] at hm
  obtain ⟨x1, y1, x2, y2, x3, y3, x4, y4, x5, y5, x6, y6, rfl, hs, -⟩ := hr.of
  have hl : G'.length = 3 := by have := congrArg List.length hm; simpa [gB] using this
  exact ⟨⟨x1, y1, x2, y2, x3, y3, x4, y4, x5, y5, x6, y6, G', by rw [hl]; rfl, hm, hs⟩, hb⟩
set_option maxRecDepth 100000 in
theorem tapB {w : World} {o1 o2 o3 od og ov : Option Addr} {c1 c2 c3 cd cg cv : Nat} {G : List GT} (hm : G.map GT.p = gB) (hs : StW w o1 o2 o3 c1 c2 c3 hallT [] [] od cd [] og cg G ov cv hallW) : Calls Tryz.prog 13 #[stV o1 o2 o3 1 c1 0 c2 0 c3 0 od 0 cd og 3 cg ov 3 cv, .int .i64 1, .int .i64 0, .int .i64 90] w fun e w' => (∃ v, e = .returned (.tuple #[stV none none none 0 0 0 0 0 0 0 none 0 0 none 0 0 none 0 0, .int .i64 v, .int .i64 10])) ∧ Below w.heap.size w w' := by
  have hl : G.length = 3 := by have := congrArg List.length hm; simpa [gB] using this
  have h := stationTap_any hallT [] [] 0 [] G hallW o1 o2 o3 od og ov c1 c2 c3 cd cg cv 1 0 90 w hs
  rw [hl] at h
  refine h.mono ?_
  rintro e w' ⟨⟨v, R, hR, rfl, h1, -⟩, hb⟩
  have h10 : R.2 = 10 := by rw [hR]; exact ev_b hm
  rw [h1 (by omega), h10]
  exact ⟨⟨_, rfl⟩, hb⟩
set_option maxRecDepth 100000 in
theorem sellHall {w : World} {o1 o2 o3 od og ov : Option Addr} {c1 c2 c3 cd cg cv : Nat} (hs : StW w o1 o2 o3 c1 c2 c3 hallT [] [] od cd [] og cg newG ov cv hallW) : Calls Tryz.prog 11 #[stV o1 o2 o3 1 c1 0 c2 0 c3 0 od 0 cd og 3 cg ov 3 cv, tk 2 1 10 500 15 0] w fun e w' => (∃ x1 y1 x2 y2 x3 y3 x4 y4 x5 y5 x6 y6, e = .returned (.tuple #[stV x1 x2 x3 2 y1 0 y2 0 y3 0 x4 0 y4 x5 3 y5 x6 3 y6, .int .i64 0])) ∧ Below w.heap.size w w' := by
  refine (stationSell_any hallT [] [] 0 [] newG hallW o1 o2 o3 od og ov c1 c2 c3 cd cg cv 2 1 10 500 15 0 w hs).mono ?_
  rintro e w' ⟨⟨v, rfl, -, h2⟩, hb⟩
  rw [ev_sell] at h2 ⊢
  obtain ⟨G', hm, hr⟩ := h2 rfl
  obtain ⟨x1, y1, x2, y2, x3, y3, x4, y4, x5, y5, x6, y6, rfl, -⟩ := hr.of
  have hl : G'.length = 3 := by have := congrArg List.length hm; simpa [newG] using this
  exact ⟨⟨x1, y1, x2, y2, x3, y3, x4, y4, x5, y5, x6, y6, by rw [hl]; rfl⟩, hb⟩
set_option maxRecDepth 100000 in
theorem sellAlone4 {w : World} {o1 o2 o3 od og ov : Option Addr} {c1 c2 c3 cd cg cv : Nat} (hs : StW w o1 o2 o3 c1 c2 c3 hallT [] [] od cd [] og cg newG ov cv newV) : Calls Tryz.prog 11 #[stV o1 o2 o3 1 c1 0 c2 0 c3 0 od 0 cd og 3 cg ov 3 cv, tk 2 1 10 500 15 0] w fun e w' => e = .returned (.tuple #[stV none none none 0 0 0 0 0 0 0 none 0 0 none 0 0 none 0 0, .int .i64 4]) ∧ Below w.heap.size w w' := by
  refine (stationSell_any hallT [] [] 0 [] newG newV o1 o2 o3 od og ov c1 c2 c3 cd cg cv 2 1 10 500 15 0 w hs).mono ?_
  rintro e w' ⟨⟨v, rfl, h1, -⟩, hb⟩
  rw [ev_sell4] at h1 ⊢
  rw [h1 (by decide)]
  exact ⟨rfl, hb⟩
set_option maxRecDepth 100000 in
theorem syncB {w : World} {o1 o2 o3 od og ov : Option Addr} {c1 c2 c3 cd cg cv : Nat} {G : List GT} (hm : G.map GT.p = gB) (hs : StW w o1 o2 o3 c1 c2 c3 hallT [] [] od cd [] og cg G ov cv hallW) : Calls Tryz.prog 12 #[stV o1 o2 o3 1 c1 0 c2 0 c3 0 od 0 cd og 3 cg ov 3 cv, .int .i64 0, .int .i64 50] w fun e w' => (∃ x1 y1 x2 y2 x3 y3 x4 y4 x5 y5 x6 y6 o c, e = .returned (.tuple #[stV x1 x2 x3 1 y1 1 y2 1 y3 0 x4 0 y4 x5 3 y5 x6 3 y6, .slice o 0 c, .int .i64 0])) ∧ Below w.heap.size w w' := by
  have hl : G.length = 3 := by have := congrArg List.length hm; simpa [gB] using this
  have h := stationSync_any hallT [] [] 0 [] G hallW o1 o2 o3 od og ov c1 c2 c3 cd cg cv 0 50 w hs
  rw [hl] at h
  refine h.mono ?_
  rintro e w' ⟨⟨v, E, M, o, c, hE, hM, rfl, -, -, h2⟩, hb⟩
  have hE0 : E = 0 := by rw [hE]; exact ev_sync hm
  subst hE0
  obtain ⟨G', hm', hr⟩ := h2 rfl
  have hA : (gAt (G.map GT.p) 0).A = [⟨1, 0, 1, 20, 1⟩] := by rw [hm]; rfl
  have hD : toldR hallT [] [] (G.map GT.p) 0 0 = [] := by rw [toldR, if_pos rfl, hA, intoD, if_pos into_e, into_b]
  rw [hD, hA, intoT, intoP, intoV, if_pos into_e, if_pos into_e, if_pos into_e, into_b] at hr
  have hc : chkS hallT [] [] 0 [] G hallW = 0 := by rw [chkS_p, hm]; decide +kernel
  rw [if_pos hc, hD] at hM
  subst hM
  obtain ⟨x1, y1, x2, y2, x3, y3, x4, y4, x5, y5, x6, y6, rfl, -⟩ := hr.of
  have hl' : G'.length = 3 := by have := congrArg List.length hm'; simpa [hl] using this
  exact ⟨⟨x1, y1, x2, y2, x3, y3, x4, y4, x5, y5, x6, y6, o, c, by rw [hl']; rfl⟩, hb⟩
theorem ev_new : chkS [] [] [] 0 [] newG newV = 0 := by rw [chkS_p, newG_p]; decide +kernel
end Go.Proofs.YtcjfmbeemdcklaaGreat

/-
  'stationBegun' (package leeboardlaw).
-/
namespace Go.Proofs.YtcjfmbeemdcklaaGreat
open Go.RowKit
theorem stationNew_any (w : World) : Calls Tryz.prog 19 #[] w fun e w' => (∃ og cg ov cv, e = .returned (stV none none none 0 0 0 0 0 0 0 none 0 0 og 3 cg ov 3 cv) ∧ StW w' none none none 0 0 0 [] [] [] none 0 [] og cg newG ov cv newV) ∧ Below w.heap.size w w' := by
  refine (new_any w).mono ?_
  rintro e w' ⟨⟨og, cg, ov, cv, rfl, h1, h2⟩, hb⟩
  obtain ⟨o, c, e1, e2, e3⟩ := own_sliceB h1
  simp only [Value.slice.injEq, true_and] at e1
  obtain ⟨rfl, rfl⟩ := e1
  have hv := (vwsV_own (L := newV) h2).eqs
  have hg : GatesAt w' og newG := by
    rcases h1.2 with ⟨h0, -⟩ | ⟨g, cap, cur, h3, -⟩
    · simp at h0
    · simp only [Value.slice.injEq, true_and] at h3
      obtain ⟨rfl, rfl⟩ := h3
      refine gatesAt_own (G := newG) h1 (fun g hg => ?_)
      simp only [newG, List.mem_cons, List.not_mem_nil, or_false] at hg
      rcases hg with rfl | rfl | rfl <;> exact ⟨tapsV_nil _, intsV_nil _⟩
  exact ⟨⟨og, cg, ov, cv, rfl, ⟨LedV.of (tiksV_nil _) (tapsV_nil _) (intsV_nil _), ⟨by simp, by simp, by simp⟩, ⟨fun i p h => by simp at h, by simp, by simp, fun _ => rfl⟩, hg, fun g hg => by
    simp only [newG, List.mem_cons, List.not_mem_nil, or_false] at hg
    rcases hg with rfl | rfl | rfl <;> simp [gt0], e2, e3, by simp [newG], hv.2.1, hv.2.2.1, hv.2.2.2, by simp [newV]⟩⟩, hb⟩
set_option maxHeartbeats 12800000 in
set_option maxRecDepth 100000 in
theorem stationBegun_any (w : World) : Calls Tryz.prog 7 #[] w fun e w' => e = .returned (.bool true) ∧ Below w.heap.size w w' := by
  have Hw := hide (Below.refl w.heap.size w)
  go_enter Tryz.func7, Tryz.ntmps7
  go_wp2_with fail
  refine (hall_any _).mono ?_
  rintro e w1 ⟨⟨o1, c1, og, cg, ov, cv, rfl, hs1, -⟩, hb⟩
  have Bww1 := hide (Hw.out.trans (hb.mono Hw.out.size))
  have zww1 : w.heap.size ≤ w1.heap.size := Bww1.out.size
  clear hb Hw
  go_wp2_with fail
  refine (tapHall hs1).mono ?_
  rintro e w2 ⟨⟨a1, b1, a2, b2, a3, b3, a4, b4, a5, b5, a6, b6, rfl⟩, hb⟩
  have Bww2 := hide (Bww1.out.trans (hb.mono Bww1.out.size))
  have zww2 : w.heap.size ≤ w2.heap.size := Bww2.out.size
  clear hb Bww1
  clear hs1
  go_wp2_with fail
  have hb := (Below.refl w2.heap.size w2).alloc (Nat.le_refl _) (.cells #[.slice a1 1 b1, .slice a2 1 b2, .slice a3 1 b3, .int .i64 0, .slice a4 0 b4, .slice a5 3 b5, .slice a6 3 b6] 32)
  have OAw2a := hide (heap_alloc_new w2 (.cells #[.slice a1 1 b1, .slice a2 1 b2, .slice a3 1 b3, .int .i64 0, .slice a4 0 b4, .slice a5 3 b5, .slice a6 3 b6] 32))
  have Bww2a := hide (Bww2.out.trans (hb.mono Bww2.out.size))
  clear hb Bww2
  generalize (w2.alloc (.cells #[.slice a1 1 b1, .slice a2 1 b2, .slice a3 1 b3, .int .i64 0, .slice a4 0 b4, .slice a5 3 b5, .slice a6 3 b6] 32)) = w2a at *
  have zww2a : w.heap.size ≤ w2a.heap.size := Bww2a.out.size
  have lAw2a : w2.heap.size < w2a.heap.size := (Array.getElem?_eq_some_iff.1 OAw2a.out).1
  refine (hall_any _).mono ?_
  rintro e w3 ⟨⟨p1, q1, pg, qg, pv, qv, rfl, hs3, -⟩, hb⟩
  have Bww3 := hide (Bww2a.out.trans (hb.mono Bww2a.out.size))
  have OAw3 := hide (at_below OAw2a.out hb)
  have zww3 : w.heap.size ≤ w3.heap.size := Bww3.out.size
  have lAw3 : w2.heap.size < w3.heap.size := (Array.getElem?_eq_some_iff.1 OAw3.out).1
  clear hb Bww2a OAw2a
  have HS3 := hide hs3
  clear hs3
  go_wp2_with fail
  have hb := (Below.refl w3.heap.size w3).alloc (Nat.le_refl _) (.cells #[.slice p1 1 q1, .slice none 0 0, .slice none 0 0, .int .i64 0, .slice none 0 0, .slice pg 3 qg, .slice pv 3 qv] 32)
  have OLw3a := hide (heap_alloc_new w3 (.cells #[.slice p1 1 q1, .slice none 0 0, .slice none 0 0, .int .i64 0, .slice none 0 0, .slice pg 3 qg, .slice pv 3 qv] 32))
  have Bww3a := hide (Bww3.out.trans (hb.mono Bww3.out.size))
  have Bw3w3a := hide hb
  have OAw3a := hide (at_below OAw3.out hb)
  clear hb Bww3 OAw3
  generalize (w3.alloc (.cells #[.slice p1 1 q1, .slice none 0 0, .slice none 0 0, .int .i64 0, .slice none 0 0, .slice pg 3 qg, .slice pv 3 qv] 32)) = w3a at *
  have zww3a : w.heap.size ≤ w3a.heap.size := Bww3a.out.size
  have zw3w3a : w3.heap.size ≤ w3a.heap.size := Bw3w3a.out.size
  have lAw3a : w2.heap.size < w3a.heap.size := (Array.getElem?_eq_some_iff.1 OAw3a.out).1
  have lLw3a : w3.heap.size < w3a.heap.size := (Array.getElem?_eq_some_iff.1 OLw3a.out).1
  refine (newStation_any _).mono ?_
  rintro e w4 ⟨⟨ng, nc, nv, mc, rfl, -, hv, hvf⟩, hb⟩
  have Bww4 := hide (Bww3a.out.trans (hb.mono Bww3a.out.size))
  have Bw3w4 := hide (Bw3w3a.out.trans (hb.mono Bw3w3a.out.size))
  have OAw4 := hide (at_below OAw3a.out hb)
  have OLw4 := hide (at_below OLw3a.out hb)
  have zww4 : w.heap.size ≤ w4.heap.size := Bww4.out.size
  have zw3w4 : w3.heap.size ≤ w4.heap.size := Bw3w4.out.size
  have lAw4 : w2.heap.size < w4.heap.size := (Array.getElem?_eq_some_iff.1 OAw4.out).1
  have lLw4 : w3.heap.size < w4.heap.size := (Array.getElem?_eq_some_iff.1 OLw4.out).1
  clear hb Bww3a Bw3w3a OAw3a OLw3a
  have HV4 := hide (hv.set hvf (p := ⟨w3.heap.size, 6, none⟩) (by simp; omega) (.slice nv 3 mc))
  clear hv hvf
  have cL0 : w4.cell? ⟨w3.heap.size, 0, none⟩ = some (.slice p1 1 q1) := by rw [cell_of_row _ _ 0 _ _ _ OLw4.out]; rfl
  have fL0 : w4.frozen? ⟨w3.heap.size, 0, none⟩ = false := frozen_of_row _ _ 0 _ _ OLw4.out
  have cL1 : w4.cell? ⟨w3.heap.size, 1, none⟩ = some (.slice none 0 0) := by rw [cell_of_row _ _ 1 _ _ _ OLw4.out]; rfl
  have fL1 : w4.frozen? ⟨w3.heap.size, 1, none⟩ = false := frozen_of_row _ _ 1 _ _ OLw4.out
  have cL2 : w4.cell? ⟨w3.heap.size, 2, none⟩ = some (.slice none 0 0) := by rw [cell_of_row _ _ 2 _ _ _ OLw4.out]; rfl
  have fL2 : w4.frozen? ⟨w3.heap.size, 2, none⟩ = false := frozen_of_row _ _ 2 _ _ OLw4.out
  have cL3 : w4.cell? ⟨w3.heap.size, 3, none⟩ = some (.int .i64 0) := by rw [cell_of_row _ _ 3 _ _ _ OLw4.out]; rfl
  have fL3 : w4.frozen? ⟨w3.heap.size, 3, none⟩ = false := frozen_of_row _ _ 3 _ _ OLw4.out
  have cL4 : w4.cell? ⟨w3.heap.size, 4, none⟩ = some (.slice none 0 0) := by rw [cell_of_row _ _ 4 _ _ _ OLw4.out]; rfl
  have fL4 : w4.frozen? ⟨w3.heap.size, 4, none⟩ = false := frozen_of_row _ _ 4 _ _ OLw4.out
  have cL5 : w4.cell? ⟨w3.heap.size, 5, none⟩ = some (.slice pg 3 qg) := by rw [cell_of_row _ _ 5 _ _ _ OLw4.out]; rfl
  have fL5 : w4.frozen? ⟨w3.heap.size, 5, none⟩ = false := frozen_of_row _ _ 5 _ _ OLw4.out
  have cL6 : w4.cell? ⟨w3.heap.size, 6, none⟩ = some (.slice pv 3 qv) := by rw [cell_of_row _ _ 6 _ _ _ OLw4.out]; rfl
  have fL6 : w4.frozen? ⟨w3.heap.size, 6, none⟩ = false := frozen_of_row _ _ 6 _ _ OLw4.out
  have hfd : ∀ X : World, (Instr.field 32 (stV none none none 0 0 0 0 0 0 0 none 0 0 ng 3 nc nv 3 mc) 3).run Tryz.prog X = .ok (.slice nv 3 mc) X := fun _ => by rfl
  go_wp2_with fail
  clear cL0 cL1 cL2 cL3 cL4 cL5 cL6 fL0 fL1 fL2 fL3 fL4 fL5 fL6
  clear hfd
  have Bww4a := hide (Bww4.out.setCell (p := ⟨w3.heap.size, 6, none⟩) (by simp; try omega) (.slice nv 3 mc))
  have Bw3w4a := hide (Bw3w4.out.setCell (p := ⟨w3.heap.size, 6, none⟩) (by simp; try omega) (.slice nv 3 mc))
  have OAw4a := hide (heap_setO OAw4.out (p := ⟨w3.heap.size, 6, none⟩) (by simp; omega) (.slice nv 3 mc))
  have OLw4a := hide (heap_setCell_same _ (w3.heap.size) 6 _ _ (.slice nv 3 mc) OLw4.out)
  clear Bww4 Bw3w4 OAw4 OLw4
  generalize (w4.setCell ⟨w3.heap.size, 6, none⟩ (.slice nv 3 mc)) = w4a at *
  have zww4a : w.heap.size ≤ w4a.heap.size := Bww4a.out.size
  have zw3w4a : w3.heap.size ≤ w4a.heap.size := Bw3w4a.out.size
  have lAw4a : w2.heap.size < w4a.heap.size := (Array.getElem?_eq_some_iff.1 OAw4a.out).1
  have lLw4a : w3.heap.size < w4a.heap.size := (Array.getElem?_eq_some_iff.1 OLw4a.out).1
  have HSA := hide (show StW w4a p1 none none q1 0 0 hallT [] [] none 0 [] pg qg newG nv mc newV from by
    have h := HS3.out.below Bw3w4a.out
    exact ⟨h.led, h.lok, h.den, h.gts, h.gok, h.gle, h.gno, h.gln, HV4.out.eqs.2.1, HV4.out.eqs.2.2.1, HV4.out.eqs.2.2.2, by simp [newV]⟩)
  clear HS3 HV4
  refine (tapAlone HSA.out).mono ?_
  rintro e w5 ⟨⟨e1, f1, e2, f2, e3, f3, e4, f4, e5, f5, e6, f6, G', rfl, hm, hsB⟩, hb⟩
  have Bww5 := hide (Bww4a.out.trans (hb.mono Bww4a.out.size))
  have Bw4aw5 := hide hb
  have OAw5 := hide (at_below OAw4a.out hb)
  have OLw5 := hide (at_below OLw4a.out hb)
  have zww5 : w.heap.size ≤ w5.heap.size := Bww5.out.size
  have zw4aw5 : w4a.heap.size ≤ w5.heap.size := Bw4aw5.out.size
  have lAw5 : w2.heap.size < w5.heap.size := (Array.getElem?_eq_some_iff.1 OAw5.out).1
  have lLw5 : w3.heap.size < w5.heap.size := (Array.getElem?_eq_some_iff.1 OLw5.out).1
  clear hb Bww4a OAw4a OLw4a
  have HSB := hide hsB
  have HM := hide hm
  clear hsB hm
  go_wp2_with fail
  have hb := (Below.refl w5.heap.size w5).alloc (Nat.le_refl _) (.cells #[.slice e1 1 f1, .slice e2 0 f2, .slice e3 0 f3, .int .i64 0, .slice e4 0 f4, .slice e5 3 f5, .slice e6 3 f6] 32)
  have OBw5a := hide (heap_alloc_new w5 (.cells #[.slice e1 1 f1, .slice e2 0 f2, .slice e3 0 f3, .int .i64 0, .slice e4 0 f4, .slice e5 3 f5, .slice e6 3 f6] 32))
  have Bww5a := hide (Bww5.out.trans (hb.mono Bww5.out.size))
  have Bw4aw5a := hide (Bw4aw5.out.trans (hb.mono Bw4aw5.out.size))
  have Bw5w5a := hide hb
  have OAw5a := hide (at_below OAw5.out hb)
  have OLw5a := hide (at_below OLw5.out hb)
  clear hb Bww5 Bw4aw5 OAw5 OLw5
  generalize (w5.alloc (.cells #[.slice e1 1 f1, .slice e2 0 f2, .slice e3 0 f3, .int .i64 0, .slice e4 0 f4, .slice e5 3 f5, .slice e6 3 f6] 32)) = w5a at *
  have zww5a : w.heap.size ≤ w5a.heap.size := Bww5a.out.size
  have zw4aw5a : w4a.heap.size ≤ w5a.heap.size := Bw4aw5a.out.size
  have zw5w5a : w5.heap.size ≤ w5a.heap.size := Bw5w5a.out.size
  have lAw5a : w2.heap.size < w5a.heap.size := (Array.getElem?_eq_some_iff.1 OAw5a.out).1
  have lLw5a : w3.heap.size < w5a.heap.size := (Array.getElem?_eq_some_iff.1 OLw5a.out).1
  have lBw5a : w5.heap.size < w5a.heap.size := (Array.getElem?_eq_some_iff.1 OBw5a.out).1
  refine (hall_any _).mono ?_
  rintro e w6 ⟨⟨r1, s1, rg, sg, rv, sv, rfl, hs6, hf6⟩, hb⟩
  have Bww6 := hide (Bww5a.out.trans (hb.mono Bww5a.out.size))
  have Bw4aw6 := hide (Bw4aw5a.out.trans (hb.mono Bw4aw5a.out.size))
  have Bw5w6 := hide (Bw5w5a.out.trans (hb.mono Bw5w5a.out.size))
  have OAw6 := hide (at_below OAw5a.out hb)
  have OLw6 := hide (at_below OLw5a.out hb)
  have OBw6 := hide (at_below OBw5a.out hb)
  have zww6 : w.heap.size ≤ w6.heap.size := Bww6.out.size
  have zw4aw6 : w4a.heap.size ≤ w6.heap.size := Bw4aw6.out.size
  have zw5w6 : w5.heap.size ≤ w6.heap.size := Bw5w6.out.size
  have lAw6 : w2.heap.size < w6.heap.size := (Array.getElem?_eq_some_iff.1 OAw6.out).1
  have lLw6 : w3.heap.size < w6.heap.size := (Array.getElem?_eq_some_iff.1 OLw6.out).1
  have lBw6 : w5.heap.size < w6.heap.size := (Array.getElem?_eq_some_iff.1 OBw6.out).1
  clear hb Bww5a Bw4aw5a Bw5w5a OAw5a OLw5a OBw5a
  have HV6 := hide ((show VwsV w6 (.slice rv 3 sv) hallW from ⟨_, _, rfl, hs6.vws, hs6.vle, hs6.vno⟩).set hf6 (p := ⟨w5.heap.size, 6, none⟩) (by simp; omega) (.slice rv 3 sv))
  clear hs6 hf6
  have cB0 : w6.cell? ⟨w5.heap.size, 0, none⟩ = some (.slice e1 1 f1) := by rw [cell_of_row _ _ 0 _ _ _ OBw6.out]; rfl
  have fB0 : w6.frozen? ⟨w5.heap.size, 0, none⟩ = false := frozen_of_row _ _ 0 _ _ OBw6.out
  have cB1 : w6.cell? ⟨w5.heap.size, 1, none⟩ = some (.slice e2 0 f2) := by rw [cell_of_row _ _ 1 _ _ _ OBw6.out]; rfl
  have fB1 : w6.frozen? ⟨w5.heap.size, 1, none⟩ = false := frozen_of_row _ _ 1 _ _ OBw6.out
  have cB2 : w6.cell? ⟨w5.heap.size, 2, none⟩ = some (.slice e3 0 f3) := by rw [cell_of_row _ _ 2 _ _ _ OBw6.out]; rfl
  have fB2 : w6.frozen? ⟨w5.heap.size, 2, none⟩ = false := frozen_of_row _ _ 2 _ _ OBw6.out
  have cB3 : w6.cell? ⟨w5.heap.size, 3, none⟩ = some (.int .i64 0) := by rw [cell_of_row _ _ 3 _ _ _ OBw6.out]; rfl
  have fB3 : w6.frozen? ⟨w5.heap.size, 3, none⟩ = false := frozen_of_row _ _ 3 _ _ OBw6.out
  have cB4 : w6.cell? ⟨w5.heap.size, 4, none⟩ = some (.slice e4 0 f4) := by rw [cell_of_row _ _ 4 _ _ _ OBw6.out]; rfl
  have fB4 : w6.frozen? ⟨w5.heap.size, 4, none⟩ = false := frozen_of_row _ _ 4 _ _ OBw6.out
  have cB5 : w6.cell? ⟨w5.heap.size, 5, none⟩ = some (.slice e5 3 f5) := by rw [cell_of_row _ _ 5 _ _ _ OBw6.out]; rfl
  have fB5 : w6.frozen? ⟨w5.heap.size, 5, none⟩ = false := frozen_of_row _ _ 5 _ _ OBw6.out
  have cB6 : w6.cell? ⟨w5.heap.size, 6, none⟩ = some (.slice e6 3 f6) := by rw [cell_of_row _ _ 6 _ _ _ OBw6.out]; rfl
  have fB6 : w6.frozen? ⟨w5.heap.size, 6, none⟩ = false := frozen_of_row _ _ 6 _ _ OBw6.out
  have hfd : ∀ X : World, (Instr.field 32 (stV r1 none none 1 s1 0 0 0 0 0 none 0 0 rg 3 sg rv 3 sv) 3).run Tryz.prog X = .ok (.slice rv 3 sv) X := fun _ => by rfl
  go_wp2_with fail
  clear cB0 cB1 cB2 cB3 cB4 cB5 cB6 fB0 fB1 fB2 fB3 fB4 fB5 fB6
  clear hfd
  have Bww6a := hide (Bww6.out.setCell (p := ⟨w5.heap.size, 6, none⟩) (by simp; try omega) (.slice rv 3 sv))
  have Bw4aw6a := hide (Bw4aw6.out.setCell (p := ⟨w5.heap.size, 6, none⟩) (by simp; try omega) (.slice rv 3 sv))
  have Bw5w6a := hide (Bw5w6.out.setCell (p := ⟨w5.heap.size, 6, none⟩) (by simp; try omega) (.slice rv 3 sv))
  have OAw6a := hide (heap_setO OAw6.out (p := ⟨w5.heap.size, 6, none⟩) (by simp; omega) (.slice rv 3 sv))
  have OLw6a := hide (heap_setO OLw6.out (p := ⟨w5.heap.size, 6, none⟩) (by simp; omega) (.slice rv 3 sv))
  have OBw6a := hide (heap_setCell_same _ (w5.heap.size) 6 _ _ (.slice rv 3 sv) OBw6.out)
  clear Bww6 Bw4aw6 Bw5w6 OAw6 OLw6 OBw6
  generalize (w6.setCell ⟨w5.heap.size, 6, none⟩ (.slice rv 3 sv)) = w6a at *
  have zww6a : w.heap.size ≤ w6a.heap.size := Bww6a.out.size
  have zw4aw6a : w4a.heap.size ≤ w6a.heap.size := Bw4aw6a.out.size
  have zw5w6a : w5.heap.size ≤ w6a.heap.size := Bw5w6a.out.size
  have lAw6a : w2.heap.size < w6a.heap.size := (Array.getElem?_eq_some_iff.1 OAw6a.out).1
  have lLw6a : w3.heap.size < w6a.heap.size := (Array.getElem?_eq_some_iff.1 OLw6a.out).1
  have lBw6a : w5.heap.size < w6a.heap.size := (Array.getElem?_eq_some_iff.1 OBw6a.out).1
  have HSC := hide (show StW w6a e1 e2 e3 f1 f2 f3 hallT [] [] e4 f4 [] e5 f5 G' rv sv hallW from by
    have h := HSB.out.below Bw5w6a.out
    exact ⟨h.led, h.lok, h.den, h.gts, h.gok, h.gle, h.gno, h.gln, HV6.out.eqs.2.1, HV6.out.eqs.2.2.1, HV6.out.eqs.2.2.2, by simp [hallW]⟩)
  clear HSB HV6
  refine (tapB HM.out HSC.out).mono ?_
  rintro e w7 ⟨⟨vv, rfl⟩, hb⟩
  have Bww7 := hide (Bww6a.out.trans (hb.mono Bww6a.out.size))
  have Bw4aw7 := hide (Bw4aw6a.out.trans (hb.mono Bw4aw6a.out.size))
  have Bw6aw7 := hide hb
  have OAw7 := hide (at_below OAw6a.out hb)
  have OLw7 := hide (at_below OLw6a.out hb)
  have OBw7 := hide (at_below OBw6a.out hb)
  have zww7 : w.heap.size ≤ w7.heap.size := Bww7.out.size
  have zw4aw7 : w4a.heap.size ≤ w7.heap.size := Bw4aw7.out.size
  have zw6aw7 : w6a.heap.size ≤ w7.heap.size := Bw6aw7.out.size
  have lAw7 : w2.heap.size < w7.heap.size := (Array.getElem?_eq_some_iff.1 OAw7.out).1
  have lLw7 : w3.heap.size < w7.heap.size := (Array.getElem?_eq_some_iff.1 OLw7.out).1
  have lBw7 : w5.heap.size < w7.heap.size := (Array.getElem?_eq_some_iff.1 OBw7.out).1
  clear hb Bww6a Bw4aw6a OAw6a OLw6a OBw6a
  go_wp2_with fail
  have hb := (Below.refl w7.heap.size w7).alloc (Nat.le_refl _) (.cells #[.slice none 0 0, .slice none 0 0, .slice none 0 0, .int .i64 0, .slice none 0 0, .slice none 0 0, .slice none 0 0] 32)
  have OCw7a := hide (heap_alloc_new w7 (.cells #[.slice none 0 0, .slice none 0 0, .slice none 0 0, .int .i64 0, .slice none 0 0, .slice none 0 0, .slice none 0 0] 32))
  have Bww7a := hide (Bww7.out.trans (hb.mono Bww7.out.size))
  have Bw4aw7a := hide (Bw4aw7.out.trans (hb.mono Bw4aw7.out.size))
  have Bw6aw7a := hide (Bw6aw7.out.trans (hb.mono Bw6aw7.out.size))
  have OAw7a := hide (at_below OAw7.out hb)
  have OLw7a := hide (at_below OLw7.out hb)
  have OBw7a := hide (at_below OBw7.out hb)
  clear hb Bww7 Bw4aw7 Bw6aw7 OAw7 OLw7 OBw7
  generalize (w7.alloc (.cells #[.slice none 0 0, .slice none 0 0, .slice none 0 0, .int .i64 0, .slice none 0 0, .slice none 0 0, .slice none 0 0] 32)) = w7a at *
  have zww7a : w.heap.size ≤ w7a.heap.size := Bww7a.out.size
  have zw4aw7a : w4a.heap.size ≤ w7a.heap.size := Bw4aw7a.out.size
  have zw6aw7a : w6a.heap.size ≤ w7a.heap.size := Bw6aw7a.out.size
  have lAw7a : w2.heap.size < w7a.heap.size := (Array.getElem?_eq_some_iff.1 OAw7a.out).1
  have lLw7a : w3.heap.size < w7a.heap.size := (Array.getElem?_eq_some_iff.1 OLw7a.out).1
  have lBw7a : w5.heap.size < w7a.heap.size := (Array.getElem?_eq_some_iff.1 OBw7a.out).1
  have lCw7a : w7.heap.size < w7a.heap.size := (Array.getElem?_eq_some_iff.1 OCw7a.out).1
  refine (hall_any _).mono ?_
  rintro e w8 ⟨⟨u1, t1, ug, tg, uv, tv, rfl, hs8, -⟩, hb⟩
  have Bww8 := hide (Bww7a.out.trans (hb.mono Bww7a.out.size))
  have Bw4aw8 := hide (Bw4aw7a.out.trans (hb.mono Bw4aw7a.out.size))
  have Bw6aw8 := hide (Bw6aw7a.out.trans (hb.mono Bw6aw7a.out.size))
  have OAw8 := hide (at_below OAw7a.out hb)
  have OLw8 := hide (at_below OLw7a.out hb)
  have OBw8 := hide (at_below OBw7a.out hb)
  have OCw8 := hide (at_below OCw7a.out hb)
  have zww8 : w.heap.size ≤ w8.heap.size := Bww8.out.size
  have zw4aw8 : w4a.heap.size ≤ w8.heap.size := Bw4aw8.out.size
  have zw6aw8 : w6a.heap.size ≤ w8.heap.size := Bw6aw8.out.size
  have lAw8 : w2.heap.size < w8.heap.size := (Array.getElem?_eq_some_iff.1 OAw8.out).1
  have lLw8 : w3.heap.size < w8.heap.size := (Array.getElem?_eq_some_iff.1 OLw8.out).1
  have lBw8 : w5.heap.size < w8.heap.size := (Array.getElem?_eq_some_iff.1 OBw8.out).1
  have lCw8 : w7.heap.size < w8.heap.size := (Array.getElem?_eq_some_iff.1 OCw8.out).1
  clear hb Bww7a Bw4aw7a Bw6aw7a OAw7a OLw7a OBw7a OCw7a
  have HS8 := hide hs8
  clear hs8
  go_wp2_with fail
  refine (single_any _ _).mono ?_
  rintro e w9 ⟨rfl, hb⟩
  have Bww9 := hide (Bww8.out.trans (hb.mono Bww8.out.size))
  have Bw4aw9 := hide (Bw4aw8.out.trans (hb.mono Bw4aw8.out.size))
  have Bw6aw9 := hide (Bw6aw8.out.trans (hb.mono Bw6aw8.out.size))
  have Bw8w9 := hide hb
  have OAw9 := hide (at_below OAw8.out hb)
  have OLw9 := hide (at_below OLw8.out hb)
  have OBw9 := hide (at_below OBw8.out hb)
  have OCw9 := hide (at_below OCw8.out hb)
  have zww9 : w.heap.size ≤ w9.heap.size := Bww9.out.size
  have zw4aw9 : w4a.heap.size ≤ w9.heap.size := Bw4aw9.out.size
  have zw6aw9 : w6a.heap.size ≤ w9.heap.size := Bw6aw9.out.size
  have zw8w9 : w8.heap.size ≤ w9.heap.size := Bw8w9.out.size
  have lAw9 : w2.heap.size < w9.heap.size := (Array.getElem?_eq_some_iff.1 OAw9.out).1
  have lLw9 : w3.heap.size < w9.heap.size := (Array.getElem?_eq_some_iff.1 OLw9.out).1
  have lBw9 : w5.heap.size < w9.heap.size := (Array.getElem?_eq_some_iff.1 OBw9.out).1
  have lCw9 : w7.heap.size < w9.heap.size := (Array.getElem?_eq_some_iff.1 OCw9.out).1
  clear hb Bww8 Bw4aw8 Bw6aw8 OAw8 OLw8 OBw8 OCw8
  go_wp2_with fail
  refine (sellHall (HS8.out.below Bw8w9.out)).mono ?_
  rintro e w10 ⟨⟨h1, i1, h2, i2, h3, i3, h4, i4, h5, i5, h6, i6, rfl⟩, hb⟩
  have Bww10 := hide (Bww9.out.trans (hb.mono Bww9.out.size))
  have Bw4aw10 := hide (Bw4aw9.out.trans (hb.mono Bw4aw9.out.size))
  have Bw6aw10 := hide (Bw6aw9.out.trans (hb.mono Bw6aw9.out.size))
  have Bw8w10 := hide (Bw8w9.out.trans (hb.mono Bw8w9.out.size))
  have OAw10 := hide (at_below OAw9.out hb)
  have OLw10 := hide (at_below OLw9.out hb)
  have OBw10 := hide (at_below OBw9.out hb)
  have OCw10 := hide (at_below OCw9.out hb)
  have zww10 : w.heap.size ≤ w10.heap.size := Bww10.out.size
  have zw4aw10 : w4a.heap.size ≤ w10.heap.size := Bw4aw10.out.size
  have zw6aw10 : w6a.heap.size ≤ w10.heap.size := Bw6aw10.out.size
  have zw8w10 : w8.heap.size ≤ w10.heap.size := Bw8w10.out.size
  have lAw10 : w2.heap.size < w10.heap.size := (Array.getElem?_eq_some_iff.1 OAw10.out).1
  have lLw10 : w3.heap.size < w10.heap.size := (Array.getElem?_eq_some_iff.1 OLw10.out).1
  have lBw10 : w5.heap.size < w10.heap.size := (Array.getElem?_eq_some_iff.1 OBw10.out).1
  have lCw10 : w7.heap.size < w10.heap.size := (Array.getElem?_eq_some_iff.1 OCw10.out).1
  clear hb Bww9 Bw4aw9 Bw6aw9 Bw8w9 OAw9 OLw9 OBw9 OCw9
  clear HS8
  obtain ⟨cB0, cB1, cB2, cB3, cB4, cB5, cB6⟩ := row_c7 OBw10.out
  go_wp2_with fail
  clear cB0 cB1 cB2 cB3 cB4 cB5 cB6
  have hb := (Below.refl w10.heap.size w10).alloc (Nat.le_refl _) (.cells #[.slice h1 2 i1, .slice h2 0 i2, .slice h3 0 i3, .int .i64 0, .slice h4 0 i4, .slice h5 3 i5, .slice h6 3 i6] 32)
  have ODw10a := hide (heap_alloc_new w10 (.cells #[.slice h1 2 i1, .slice h2 0 i2, .slice h3 0 i3, .int .i64 0, .slice h4 0 i4, .slice h5 3 i5, .slice h6 3 i6] 32))
  have Bww10a := hide (Bww10.out.trans (hb.mono Bww10.out.size))
  have Bw4aw10a := hide (Bw4aw10.out.trans (hb.mono Bw4aw10.out.size))
  have Bw6aw10a := hide (Bw6aw10.out.trans (hb.mono Bw6aw10.out.size))
  have OAw10a := hide (at_below OAw10.out hb)
  have OLw10a := hide (at_below OLw10.out hb)
  have OBw10a := hide (at_below OBw10.out hb)
  have OCw10a := hide (at_below OCw10.out hb)
  clear hb Bww10 Bw4aw10 Bw6aw10 OAw10 OLw10 OBw10 OCw10
  generalize (w10.alloc (.cells #[.slice h1 2 i1, .slice h2 0 i2, .slice h3 0 i3, .int .i64 0, .slice h4 0 i4, .slice h5 3 i5, .slice h6 3 i6] 32)) = w10a at *
  have zww10a : w.heap.size ≤ w10a.heap.size := Bww10a.out.size
  have zw4aw10a : w4a.heap.size ≤ w10a.heap.size := Bw4aw10a.out.size
  have zw6aw10a : w6a.heap.size ≤ w10a.heap.size := Bw6aw10a.out.size
  have lAw10a : w2.heap.size < w10a.heap.size := (Array.getElem?_eq_some_iff.1 OAw10a.out).1
  have lLw10a : w3.heap.size < w10a.heap.size := (Array.getElem?_eq_some_iff.1 OLw10a.out).1
  have lBw10a : w5.heap.size < w10a.heap.size := (Array.getElem?_eq_some_iff.1 OBw10a.out).1
  have lCw10a : w7.heap.size < w10a.heap.size := (Array.getElem?_eq_some_iff.1 OCw10a.out).1
  have lDw10a : w10.heap.size < w10a.heap.size := (Array.getElem?_eq_some_iff.1 ODw10a.out).1
  refine (syncB HM.out (HSC.out.below Bw6aw10a.out)).mono ?_
  rintro e w11 ⟨⟨j1, k1, j2, k2, j3, k3, j4, k4, j5, k5, j6, k6, o, c, rfl⟩, hb⟩
  have Bww11 := hide (Bww10a.out.trans (hb.mono Bww10a.out.size))
  have Bw4aw11 := hide (Bw4aw10a.out.trans (hb.mono Bw4aw10a.out.size))
  have Bw6aw11 := hide (Bw6aw10a.out.trans (hb.mono Bw6aw10a.out.size))
  have OAw11 := hide (at_below OAw10a.out hb)
  have OLw11 := hide (at_below OLw10a.out hb)
  have OBw11 := hide (at_below OBw10a.out hb)
  have OCw11 := hide (at_below OCw10a.out hb)
  have ODw11 := hide (at_below ODw10a.out hb)
  have zww11 : w.heap.size ≤ w11.heap.size := Bww11.out.size
  have zw4aw11 : w4a.heap.size ≤ w11.heap.size := Bw4aw11.out.size
  have zw6aw11 : w6a.heap.size ≤ w11.heap.size := Bw6aw11.out.size
  have lAw11 : w2.heap.size < w11.heap.size := (Array.getElem?_eq_some_iff.1 OAw11.out).1
  have lLw11 : w3.heap.size < w11.heap.size := (Array.getElem?_eq_some_iff.1 OLw11.out).1
  have lBw11 : w5.heap.size < w11.heap.size := (Array.getElem?_eq_some_iff.1 OBw11.out).1
  have lCw11 : w7.heap.size < w11.heap.size := (Array.getElem?_eq_some_iff.1 OCw11.out).1
  have lDw11 : w10.heap.size < w11.heap.size := (Array.getElem?_eq_some_iff.1 ODw11.out).1
  clear hb Bww10a Bw4aw10a Bw6aw10a OAw10a OLw10a OBw10a OCw10a ODw10a
  go_upto_region 9 with fail
  have hb := (Below.refl w11.heap.size w11).alloc (Nat.le_refl _) (.cells #[.slice j1 1 k1, .slice j2 1 k2, .slice j3 1 k3, .int .i64 0, .slice j4 0 k4, .slice j5 3 k5, .slice j6 3 k6] 32)
  have OSwa := hide (heap_alloc_new w11 (.cells #[.slice j1 1 k1, .slice j2 1 k2, .slice j3 1 k3, .int .i64 0, .slice j4 0 k4, .slice j5 3 k5, .slice j6 3 k6] 32))
  have Bwwa := hide (Bww11.out.trans (hb.mono Bww11.out.size))
  have Bw4awa := hide (Bw4aw11.out.trans (hb.mono Bw4aw11.out.size))
  have Bw6awa := hide (Bw6aw11.out.trans (hb.mono Bw6aw11.out.size))
  have OAwa := hide (at_below OAw11.out hb)
  have OLwa := hide (at_below OLw11.out hb)
  have OBwa := hide (at_below OBw11.out hb)
  have OCwa := hide (at_below OCw11.out hb)
  have ODwa := hide (at_below ODw11.out hb)
  clear hb Bww11 Bw4aw11 Bw6aw11 OAw11 OLw11 OBw11 OCw11 ODw11
  generalize (w11.alloc (.cells #[.slice j1 1 k1, .slice j2 1 k2, .slice j3 1 k3, .int .i64 0, .slice j4 0 k4, .slice j5 3 k5, .slice j6 3 k6] 32)) = wa at *
  have zwwa : w.heap.size ≤ wa.heap.size := Bwwa.out.size
  have zw4awa : w4a.heap.size ≤ wa.heap.size := Bw4awa.out.size
  have zw6awa : w6a.heap.size ≤ wa.heap.size := Bw6awa.out.size
  have lAwa : w2.heap.size < wa.heap.size := (Array.getElem?_eq_some_iff.1 OAwa.out).1
  have lLwa : w3.heap.size < wa.heap.size := (Array.getElem?_eq_some_iff.1 OLwa.out).1
  have lBwa : w5.heap.size < wa.heap.size := (Array.getElem?_eq_some_iff.1 OBwa.out).1
  have lCwa : w7.heap.size < wa.heap.size := (Array.getElem?_eq_some_iff.1 OCwa.out).1
  have lDwa : w10.heap.size < wa.heap.size := (Array.getElem?_eq_some_iff.1 ODwa.out).1
  have lSwa : w11.heap.size < wa.heap.size := (Array.getElem?_eq_some_iff.1 OSwa.out).1
  go_cut [16, 17] from 55 to 61 (fun s16 s17 wx => s17 = .int .i64 4 ∧ Hid (Below wa.heap.size wa wx))
  case first =>
    refine wp_region_reads (fun w' => w'.heap[w3.heap.size]? = some (.cells #[.slice p1 1 q1, .slice none 0 0, .slice none 0 0, .int .i64 0, .slice none 0 0, .slice pg 3 qg, .slice nv 3 mc] 32)) [0] 8 (by rfl) (by kernel_rfl) (by kernel_rfl) (by kernel_rfl) (fun c d v a w h => by cases d <;> exact h) ?_ ?_
    · exact at_below OLwa.out (Below.refl _ _).drew
    refine wpPureH_step (stV p1 none none 1 q1 0 0 0 0 0 none 0 0 pg 3 qg nv 3 mc) rfl rfl (fun w' hS => ?_) ?_
    · have q0 : w'.cell? ⟨w3.heap.size, 0, none⟩ = some (.slice p1 1 q1) := by rw [cell_of_row _ _ 0 _ _ _ hS]; rfl
      have q1 : w'.cell? ⟨w3.heap.size, 1, none⟩ = some (.slice none 0 0) := by rw [cell_of_row _ _ 1 _ _ _ hS]; rfl
      have q2 : w'.cell? ⟨w3.heap.size, 2, none⟩ = some (.slice none 0 0) := by rw [cell_of_row _ _ 2 _ _ _ hS]; rfl
      have q3 : w'.cell? ⟨w3.heap.size, 3, none⟩ = some (.int .i64 0) := by rw [cell_of_row _ _ 3 _ _ _ hS]; rfl
      have q4 : w'.cell? ⟨w3.heap.size, 4, none⟩ = some (.slice none 0 0) := by rw [cell_of_row _ _ 4 _ _ _ hS]; rfl
      have q5 : w'.cell? ⟨w3.heap.size, 5, none⟩ = some (.slice pg 3 qg) := by rw [cell_of_row _ _ 5 _ _ _ hS]; rfl
      have q6 : w'.cell? ⟨w3.heap.size, 6, none⟩ = some (.slice nv 3 mc) := by rw [cell_of_row _ _ 6 _ _ _ hS]; rfl
      go_simp
    refine wpPureH_nil ?_
    have HLd := hide (at_below OLwa.out (Below.refl _ _).drew)
    have HSd := hide ((HSA.out.below Bw4awa.out).below (Below.refl _ _).drew)
    have HAd := hide ((Below.refl wa.heap.size wa).drew)
    have hsd : wa.heap.size ≤ wa.drew.heap.size := Nat.le_refl _
    generalize (World.drew _) = w0 at *
    refine two_readyH (i := 1) (j := 6) (by kernel_rfl) rfl rfl rfl rfl (fun K hK => ?_) (fun K hK => ?_)
    · go_simp
      refine (single_any _ _).mono ?_
      rintro e v1 ⟨rfl, hb⟩
      have HB1 := hide (hb)
      refine hK _ _ (at_below HLd.out HB1.out) ?_
      clear hK K hb
      refine two_readyH (i := 2) (j := 6) (by kernel_rfl) rfl rfl rfl rfl (fun K hK => ?_) (fun K hK => ?_)
      · go_simp
        refine (sellAlone4 (HSd.out.below HB1.out)).mono ?_
        rintro e v2 ⟨rfl, hb⟩
        have HB2 := hide (HB1.out.trans (hb.mono HB1.out.size))
        refine hK _ _ (at_below HLd.out HB2.out) ?_
        clear hK K hb
        refine takesH (fuel := 3) (by kernel_rfl) (fun c d v a w h => by cases d <;> exact h) (at_below HLd.out HB2.out) [3, 4, 5] _ _ (by kernel_rfl) ?_
        refine wpPureH_step (.tuple #[stV none none none 0 0 0 0 0 0 0 none 0 0 none 0 0 none 0 0, .int .i64 4]) rfl rfl (fun w' _ => by go_simp) ?_
        refine wpPureH_step (stV none none none 0 0 0 0 0 0 0 none 0 0 none 0 0 none 0 0) rfl rfl (fun w' _ => by go_simp) ?_
        refine wpPureH_step (.int .i64 4) rfl rfl (fun w' _ => by go_simp) ?_
        refine wpPureH_nil ?_
        refine one_readyH (i := 6) (by kernel_rfl) rfl rfl (fun K hK => ?_)
        go_simp
        have hb := (Below.refl v2.heap.size v2).alloc (Nat.le_refl _) (.cells #[.slice none 0 0, .slice none 0 0, .slice none 0 0, .int .i64 0, .slice none 0 0, .slice none 0 0, .slice none 0 0] 32)
        have HB3 := hide (HB2.out.trans (hb.mono HB2.out.size))
        have HZ3 := hide (heap_alloc_new v2 (.cells #[.slice none 0 0, .slice none 0 0, .slice none 0 0, .int .i64 0, .slice none 0 0, .slice none 0 0, .slice none 0 0] 32))
        have q3 : v2.heap.size < (v2.alloc (.cells #[.slice none 0 0, .slice none 0 0, .slice none 0 0, .int .i64 0, .slice none 0 0, .slice none 0 0, .slice none 0 0] 32)).heap.size := by simp
        have u3 : w0.heap.size ≤ v2.heap.size := HB2.out.size
        refine hK _ _ (at_below HLd.out HB3.out) ?_
        clear hK K hb
        generalize v2.alloc (.cells #[.slice none 0 0, .slice none 0 0, .slice none 0 0, .int .i64 0, .slice none 0 0, .slice none 0 0, .slice none 0 0] 32) = v3 at *
        have r0 := cell_of_row _ _ 0 _ _ _ HZ3.out
        have s0 := frozen_of_row _ _ 0 _ _ HZ3.out
        have r1 := cell_of_row _ _ 1 _ _ _ HZ3.out
        have s1 := frozen_of_row _ _ 1 _ _ HZ3.out
        have r2 := cell_of_row _ _ 2 _ _ _ HZ3.out
        have s2 := frozen_of_row _ _ 2 _ _ HZ3.out
        have r3 := cell_of_row _ _ 3 _ _ _ HZ3.out
        have s3 := frozen_of_row _ _ 3 _ _ HZ3.out
        have r4 := cell_of_row _ _ 4 _ _ _ HZ3.out
        have s4 := frozen_of_row _ _ 4 _ _ HZ3.out
        have r5 := cell_of_row _ _ 5 _ _ _ HZ3.out
        have s5 := frozen_of_row _ _ 5 _ _ HZ3.out
        have r6 := cell_of_row _ _ 6 _ _ _ HZ3.out
        have s6 := frozen_of_row _ _ 6 _ _ HZ3.out
        simp at r0 r1 r2 r3 r4 r5 r6
        have HBz := hide (((((((HB3.out.setCell (p := ⟨v2.heap.size, 0, none⟩) (by simp; try omega) (.slice none 0 0)).setCell (p := ⟨v2.heap.size, 1, none⟩) (by simp; try omega) (.slice none 0 0)).setCell (p := ⟨v2.heap.size, 2, none⟩) (by simp; try omega) (.slice none 0 0)).setCell (p := ⟨v2.heap.size, 3, none⟩) (by simp; try omega) (.int .i64 0)).setCell (p := ⟨v2.heap.size, 4, none⟩) (by simp; try omega) (.slice none 0 0)).setCell (p := ⟨v2.heap.size, 5, none⟩) (by simp; try omega) (.slice none 0 0)).setCell (p := ⟨v2.heap.size, 6, none⟩) (by simp; try omega) (.slice none 0 0))
        refine one_readyH (i := 7) (by kernel_rfl) rfl rfl (fun K hK => ?_)
        go_simp
        refine hK _ _ (at_below HLd.out HBz.out) ?_
        clear hK K r0 s0 r1 s1 r2 s2 r3 s3 r4 s4 r5 s5 r6 s6
        generalize (((((((v3.setCell ⟨v2.heap.size, 0, none⟩ (.slice none 0 0)).setCell ⟨v2.heap.size, 1, none⟩ (.slice none 0 0)).setCell ⟨v2.heap.size, 2, none⟩ (.slice none 0 0)).setCell ⟨v2.heap.size, 3, none⟩ (.int .i64 0)).setCell ⟨v2.heap.size, 4, none⟩ (.slice none 0 0)).setCell ⟨v2.heap.size, 5, none⟩ (.slice none 0 0)).setCell ⟨v2.heap.size, 6, none⟩ (.slice none 0 0)) = wz at *
        refine one_readyH (i := 8) (by kernel_rfl) rfl rfl (fun K hK => ?_)
        go_simp
        refine hK _ _ (at_below HLd.out HBz.out) ?_
        clear hK K
        refine wpAnyH_done (by kernel_rfl) ?_ _
        go_wp2_with fail
        go_meet
        case rel => exact ⟨rfl, hide (HAd.out.trans (HBz.out.mono (by omega)))⟩
      · go_simp
        have hb := (Below.refl v1.heap.size v1).alloc (Nat.le_refl _) (.cells #[.slice none 0 0, .slice none 0 0, .slice none 0 0, .int .i64 0, .slice none 0 0, .slice none 0 0, .slice none 0 0] 32)
        have HB4 := hide (HB1.out.trans (hb.mono HB1.out.size))
        have HZ4 := hide (heap_alloc_new v1 (.cells #[.slice none 0 0, .slice none 0 0, .slice none 0 0, .int .i64 0, .slice none 0 0, .slice none 0 0, .slice none 0 0] 32))
        have q4 : v1.heap.size < (v1.alloc (.cells #[.slice none 0 0, .slice none 0 0, .slice none 0 0, .int .i64 0, .slice none 0 0, .slice none 0 0, .slice none 0 0] 32)).heap.size := by simp
        have u4 : w0.heap.size ≤ v1.heap.size := HB1.out.size
        refine hK _ _ (at_below HLd.out HB4.out) ?_
        clear hK K hb
        generalize v1.alloc (.cells #[.slice none 0 0, .slice none 0 0, .slice none 0 0, .int .i64 0, .slice none 0 0, .slice none 0 0, .slice none 0 0] 32) = v4 at *
        refine one_readyH (i := 2) (by kernel_rfl) rfl rfl (fun K hK => ?_)
        go_simp
        refine (sellAlone4 (HSd.out.below HB4.out)).mono ?_
        rintro e v5 ⟨rfl, hb⟩
        have HB5 := hide (HB4.out.trans (hb.mono HB4.out.size))
        have HZ5 := hide (at_below HZ4.out hb)
        have q5 : v1.heap.size < v5.heap.size := (Array.getElem?_eq_some_iff.1 HZ5.out).1
        refine hK _ _ (at_below HLd.out HB5.out) ?_
        clear hK K hb
        refine takesH (fuel := 2) (by kernel_rfl) (fun c d v a w h => by cases d <;> exact h) (at_below HLd.out HB5.out) [3, 4, 5] _ _ (by kernel_rfl) ?_
        refine wpPureH_step (.tuple #[stV none none none 0 0 0 0 0 0 0 none 0 0 none 0 0 none 0 0, .int .i64 4]) rfl rfl (fun w' _ => by go_simp) ?_
        refine wpPureH_step (stV none none none 0 0 0 0 0 0 0 none 0 0 none 0 0 none 0 0) rfl rfl (fun w' _ => by go_simp) ?_
        refine wpPureH_step (.int .i64 4) rfl rfl (fun w' _ => by go_simp) ?_
        refine wpPureH_nil ?_
        have r0 := cell_of_row _ _ 0 _ _ _ HZ5.out
        have s0 := frozen_of_row _ _ 0 _ _ HZ5.out
        have r1 := cell_of_row _ _ 1 _ _ _ HZ5.out
        have s1 := frozen_of_row _ _ 1 _ _ HZ5.out
        have r2 := cell_of_row _ _ 2 _ _ _ HZ5.out
        have s2 := frozen_of_row _ _ 2 _ _ HZ5.out
        have r3 := cell_of_row _ _ 3 _ _ _ HZ5.out
        have s3 := frozen_of_row _ _ 3 _ _ HZ5.out
        have r4 := cell_of_row _ _ 4 _ _ _ HZ5.out
        have s4 := frozen_of_row _ _ 4 _ _ HZ5.out
        have r5 := cell_of_row _ _ 5 _ _ _ HZ5.out
        have s5 := frozen_of_row _ _ 5 _ _ HZ5.out
        have r6 := cell_of_row _ _ 6 _ _ _ HZ5.out
        have s6 := frozen_of_row _ _ 6 _ _ HZ5.out
        simp at r0 r1 r2 r3 r4 r5 r6
        have HBz := hide (((((((HB5.out.setCell (p := ⟨v1.heap.size, 0, none⟩) (by simp; try omega) (.slice none 0 0)).setCell (p := ⟨v1.heap.size, 1, none⟩) (by simp; try omega) (.slice none 0 0)).setCell (p := ⟨v1.heap.size, 2, none⟩) (by simp; try omega) (.slice none 0 0)).setCell (p := ⟨v1.heap.size, 3, none⟩) (by simp; try omega) (.int .i64 0)).setCell (p := ⟨v1.heap.size, 4, none⟩) (by simp; try omega) (.slice none 0 0)).setCell (p := ⟨v1.heap.size, 5, none⟩) (by simp; try omega) (.slice none 0 0)).setCell (p := ⟨v1.heap.size, 6, none⟩) (by simp; try omega) (.slice none 0 0))
        refine one_readyH (i := 7) (by kernel_rfl) rfl rfl (fun K hK => ?_)
        go_simp
        refine hK _ _ (at_below HLd.out HBz.out) ?_
        clear hK K r0 s0 r1 s1 r2 s2 r3 s3 r4 s4 r5 s5 r6 s6
        generalize (((((((v5.setCell ⟨v1.heap.size, 0, none⟩ (.slice none 0 0)).setCell ⟨v1.heap.size, 1, none⟩ (.slice none 0 0)).setCell ⟨v1.heap.size, 2, none⟩ (.slice none 0 0)).setCell ⟨v1.heap.size, 3, none⟩ (.int .i64 0)).setCell ⟨v1.heap.size, 4, none⟩ (.slice none 0 0)).setCell ⟨v1.heap.size, 5, none⟩ (.slice none 0 0)).setCell ⟨v1.heap.size, 6, none⟩ (.slice none 0 0)) = wz at *
        refine one_readyH (i := 8) (by kernel_rfl) rfl rfl (fun K hK => ?_)
        go_simp
        refine hK _ _ (at_below HLd.out HBz.out) ?_
        clear hK K
        refine wpAnyH_done (by kernel_rfl) ?_ _
        go_wp2_with fail
        go_meet
        case rel => exact ⟨rfl, hide (HAd.out.trans (HBz.out.mono (by omega)))⟩
    · go_simp
      have hb := (Below.refl w0.heap.size w0).alloc (Nat.le_refl _) (.cells #[.slice none 0 0, .slice none 0 0, .slice none 0 0, .int .i64 0, .slice none 0 0, .slice none 0 0, .slice none 0 0] 32)
      have HB6 := hide (hb)
      have HZ6 := hide (heap_alloc_new w0 (.cells #[.slice none 0 0, .slice none 0 0, .slice none 0 0, .int .i64 0, .slice none 0 0, .slice none 0 0, .slice none 0 0] 32))
      have q6 : w0.heap.size < (w0.alloc (.cells #[.slice none 0 0, .slice none 0 0, .slice none 0 0, .int .i64 0, .slice none 0 0, .slice none 0 0, .slice none 0 0] 32)).heap.size := by simp
      have u6 : w0.heap.size ≤ w0.heap.size := Nat.le_refl _
      refine hK _ _ (at_below HLd.out HB6.out) ?_
      clear hK K hb
      generalize w0.alloc (.cells #[.slice none 0 0, .slice none 0 0, .slice none 0 0, .int .i64 0, .slice none 0 0, .slice none 0 0, .slice none 0 0] 32) = v6 at *
      refine one_readyH (i := 1) (by kernel_rfl) rfl rfl (fun K hK => ?_)
      go_simp
      refine (single_any _ _).mono ?_
      rintro e v7 ⟨rfl, hb⟩
      have HB7 := hide (HB6.out.trans (hb.mono HB6.out.size))
      have HZ7 := hide (at_below HZ6.out hb)
      have q7 : w0.heap.size < v7.heap.size := (Array.getElem?_eq_some_iff.1 HZ7.out).1
      refine hK _ _ (at_below HLd.out HB7.out) ?_
      clear hK K hb
      refine one_readyH (i := 2) (by kernel_rfl) rfl rfl (fun K hK => ?_)
      go_simp
      refine (sellAlone4 (HSd.out.below HB7.out)).mono ?_
      rintro e v8 ⟨rfl, hb⟩
      have HB8 := hide (HB7.out.trans (hb.mono HB7.out.size))
      have HZ8 := hide (at_below HZ7.out hb)
      have q8 : w0.heap.size < v8.heap.size := (Array.getElem?_eq_some_iff.1 HZ8.out).1
      refine hK _ _ (at_below HLd.out HB8.out) ?_
      clear hK K hb
      refine takesH (fuel := 2) (by kernel_rfl) (fun c d v a w h => by cases d <;> exact h) (at_below HLd.out HB8.out) [3, 4, 5] _ _ (by kernel_rfl) ?_
      refine wpPureH_step (.tuple #[stV none none none 0 0 0 0 0 0 0 none 0 0 none 0 0 none 0 0, .int .i64 4]) rfl rfl (fun w' _ => by go_simp) ?_
      refine wpPureH_step (stV none none none 0 0 0 0 0 0 0 none 0 0 none 0 0 none 0 0) rfl rfl (fun w' _ => by go_simp) ?_
      refine wpPureH_step (.int .i64 4) rfl rfl (fun w' _ => by go_simp) ?_
      refine wpPureH_nil ?_
      have r0 := cell_of_row _ _ 0 _ _ _ HZ8.out
      have s0 := frozen_of_row _ _ 0 _ _ HZ8.out
      have r1 := cell_of_row _ _ 1 _ _ _ HZ8.out
      have s1 := frozen_of_row _ _ 1 _ _ HZ8.out
      have r2 := cell_of_row _ _ 2 _ _ _ HZ8.out
      have s2 := frozen_of_row _ _ 2 _ _ HZ8.out
      have r3 := cell_of_row _ _ 3 _ _ _ HZ8.out
      have s3 := frozen_of_row _ _ 3 _ _ HZ8.out
      have r4 := cell_of_row _ _ 4 _ _ _ HZ8.out
      have s4 := frozen_of_row _ _ 4 _ _ HZ8.out
      have r5 := cell_of_row _ _ 5 _ _ _ HZ8.out
      have s5 := frozen_of_row _ _ 5 _ _ HZ8.out
      have r6 := cell_of_row _ _ 6 _ _ _ HZ8.out
      have s6 := frozen_of_row _ _ 6 _ _ HZ8.out
      simp at r0 r1 r2 r3 r4 r5 r6
      have HBz := hide (((((((HB8.out.setCell (p := ⟨w0.heap.size, 0, none⟩) (by simp; try omega) (.slice none 0 0)).setCell (p := ⟨w0.heap.size, 1, none⟩) (by simp; try omega) (.slice none 0 0)).setCell (p := ⟨w0.heap.size, 2, none⟩) (by simp; try omega) (.slice none 0 0)).setCell (p := ⟨w0.heap.size, 3, none⟩) (by simp; try omega) (.int .i64 0)).setCell (p := ⟨w0.heap.size, 4, none⟩) (by simp; try omega) (.slice none 0 0)).setCell (p := ⟨w0.heap.size, 5, none⟩) (by simp; try omega) (.slice none 0 0)).setCell (p := ⟨w0.heap.size, 6, none⟩) (by simp; try omega) (.slice none 0 0))
      refine one_readyH (i := 7) (by kernel_rfl) rfl rfl (fun K hK => ?_)
      go_simp
      refine hK _ _ (at_below HLd.out HBz.out) ?_
      clear hK K r0 s0 r1 s1 r2 s2 r3 s3 r4 s4 r5 s5 r6 s6
      generalize (((((((v8.setCell ⟨w0.heap.size, 0, none⟩ (.slice none 0 0)).setCell ⟨w0.heap.size, 1, none⟩ (.slice none 0 0)).setCell ⟨w0.heap.size, 2, none⟩ (.slice none 0 0)).setCell ⟨w0.heap.size, 3, none⟩ (.int .i64 0)).setCell ⟨w0.heap.size, 4, none⟩ (.slice none 0 0)).setCell ⟨w0.heap.size, 5, none⟩ (.slice none 0 0)).setCell ⟨w0.heap.size, 6, none⟩ (.slice none 0 0)) = wz at *
      refine one_readyH (i := 8) (by kernel_rfl) rfl rfl (fun K hK => ?_)
      go_simp
      refine hK _ _ (at_below HLd.out HBz.out) ?_
      clear hK K
      refine wpAnyH_done (by kernel_rfl) ?_ _
      go_wp2_with fail
      go_meet
      case rel => exact ⟨rfl, hide (HAd.out.trans (HBz.out.mono (by omega)))⟩
  case rest =>
    obtain ⟨rfl, HB⟩ := hcut
    have hb := HB.out
    have Bwwc := hide (Bwwa.out.trans (hb.mono Bwwa.out.size))
    have Bw4awc := hide (Bw4awa.out.trans (hb.mono Bw4awa.out.size))
    have Bw6awc := hide (Bw6awa.out.trans (hb.mono Bw6awa.out.size))
    have OAwc := hide (at_below OAwa.out hb)
    have OLwc := hide (at_below OLwa.out hb)
    have OBwc := hide (at_below OBwa.out hb)
    have OCwc := hide (at_below OCwa.out hb)
    have ODwc := hide (at_below ODwa.out hb)
    have OSwc := hide (at_below OSwa.out hb)
    have zwwc : w.heap.size ≤ wc.heap.size := Bwwc.out.size
    have zw4awc : w4a.heap.size ≤ wc.heap.size := Bw4awc.out.size
    have zw6awc : w6a.heap.size ≤ wc.heap.size := Bw6awc.out.size
    have lAwc : w2.heap.size < wc.heap.size := (Array.getElem?_eq_some_iff.1 OAwc.out).1
    have lLwc : w3.heap.size < wc.heap.size := (Array.getElem?_eq_some_iff.1 OLwc.out).1
    have lBwc : w5.heap.size < wc.heap.size := (Array.getElem?_eq_some_iff.1 OBwc.out).1
    have lCwc : w7.heap.size < wc.heap.size := (Array.getElem?_eq_some_iff.1 OCwc.out).1
    have lDwc : w10.heap.size < wc.heap.size := (Array.getElem?_eq_some_iff.1 ODwc.out).1
    have lSwc : w11.heap.size < wc.heap.size := (Array.getElem?_eq_some_iff.1 OSwc.out).1
    clear hb HB Bwwa Bw4awa Bw6awa OAwa OLwa OBwa OCwa ODwa OSwa
    go_wp2_with fail
    refine (stationNew_any _).mono ?_
    rintro e w12 ⟨⟨kg, lg, kv, lv, rfl, hsn⟩, hb⟩
    have Bww12 := hide (Bwwc.out.trans (hb.mono Bwwc.out.size))
    have Bw4aw12 := hide (Bw4awc.out.trans (hb.mono Bw4awc.out.size))
    have Bw6aw12 := hide (Bw6awc.out.trans (hb.mono Bw6awc.out.size))
    have OAw12 := hide (at_below OAwc.out hb)
    have OLw12 := hide (at_below OLwc.out hb)
    have OBw12 := hide (at_below OBwc.out hb)
    have OCw12 := hide (at_below OCwc.out hb)
    have ODw12 := hide (at_below ODwc.out hb)
    have OSw12 := hide (at_below OSwc.out hb)
    have zww12 : w.heap.size ≤ w12.heap.size := Bww12.out.size
    have zw4aw12 : w4a.heap.size ≤ w12.heap.size := Bw4aw12.out.size
    have zw6aw12 : w6a.heap.size ≤ w12.heap.size := Bw6aw12.out.size
    have lAw12 : w2.heap.size < w12.heap.size := (Array.getElem?_eq_some_iff.1 OAw12.out).1
    have lLw12 : w3.heap.size < w12.heap.size := (Array.getElem?_eq_some_iff.1 OLw12.out).1
    have lBw12 : w5.heap.size < w12.heap.size := (Array.getElem?_eq_some_iff.1 OBw12.out).1
    have lCw12 : w7.heap.size < w12.heap.size := (Array.getElem?_eq_some_iff.1 OCw12.out).1
    have lDw12 : w10.heap.size < w12.heap.size := (Array.getElem?_eq_some_iff.1 ODw12.out).1
    have lSw12 : w11.heap.size < w12.heap.size := (Array.getElem?_eq_some_iff.1 OSw12.out).1
    clear hb Bwwc Bw4awc Bw6awc OAwc OLwc OBwc OCwc ODwc OSwc
    have HSN := hide hsn
    clear hsn
    go_wp2_with fail
    have HCk := hide (stationCheck_any [] [] [] 0 [] newG newV none none none none kg kv 0 0 0 0 lg lv w12 HSN.out.led HSN.out.lok HSN.out.den.1 HSN.out.den.2.1 HSN.out.gts HSN.out.gok HSN.out.vws HSN.out.vln)
    rw [ev_new] at HCk
    refine (HCk.out).mono ?_
    rintro e w13 ⟨rfl, hb⟩
    have Bww13 := hide (Bww12.out.trans (hb.mono Bww12.out.size))
    have Bw4aw13 := hide (Bw4aw12.out.trans (hb.mono Bw4aw12.out.size))
    have Bw6aw13 := hide (Bw6aw12.out.trans (hb.mono Bw6aw12.out.size))
    have OAw13 := hide (at_below OAw12.out hb)
    have OLw13 := hide (at_below OLw12.out hb)
    have OBw13 := hide (at_below OBw12.out hb)
    have OCw13 := hide (at_below OCw12.out hb)
    have ODw13 := hide (at_below ODw12.out hb)
    have OSw13 := hide (at_below OSw12.out hb)
    have zww13 : w.heap.size ≤ w13.heap.size := Bww13.out.size
    have zw4aw13 : w4a.heap.size ≤ w13.heap.size := Bw4aw13.out.size
    have zw6aw13 : w6a.heap.size ≤ w13.heap.size := Bw6aw13.out.size
    have lAw13 : w2.heap.size < w13.heap.size := (Array.getElem?_eq_some_iff.1 OAw13.out).1
    have lLw13 : w3.heap.size < w13.heap.size := (Array.getElem?_eq_some_iff.1 OLw13.out).1
    have lBw13 : w5.heap.size < w13.heap.size := (Array.getElem?_eq_some_iff.1 OBw13.out).1
    have lCw13 : w7.heap.size < w13.heap.size := (Array.getElem?_eq_some_iff.1 OCw13.out).1
    have lDw13 : w10.heap.size < w13.heap.size := (Array.getElem?_eq_some_iff.1 ODw13.out).1
    have lSw13 : w11.heap.size < w13.heap.size := (Array.getElem?_eq_some_iff.1 OSw13.out).1
    clear hb Bww12 Bw4aw12 Bw6aw12 OAw12 OLw12 OBw12 OCw12 ODw12 OSw12
    obtain ⟨g0, hg0, hgA⟩ : ∃ g0, G'[0]? = some g0 ∧ g0.A.length = 1 := by
      have hm := HM.out
      cases hx : G' with
      | nil => rw [hx] at hm; simp [gB] at hm
      | cons x X =>
        rw [hx] at hm
        simp only [gB, List.map_cons, List.cons.injEq] at hm
        exact ⟨x, rfl, by have := congrArg (fun y => y.A.length) hm.1; simpa [GT.p] using this⟩
    obtain ⟨bb, rfl, h8, -, -⟩ := (HSC.out.below Bw6aw13.out).gts 0 g0 hg0
    obtain ⟨-, -, -, d3, -, -, -, -⟩ := h8
    simp only [Nat.zero_mul] at d3
    rw [hgA] at d3
    simp [Addr.add] at d3
    obtain ⟨cA0, cA1, cA2, cA3, cA4, cA5, cA6⟩ := row_c7 OAw13.out
    obtain ⟨cB0, cB1, cB2, cB3, cB4, cB5, cB6⟩ := row_c7 OBw13.out
    obtain ⟨cC0, cC1, cC2, cC3, cC4, cC5, cC6⟩ := row_c7 OCw13.out
    obtain ⟨cD0, cD1, cD2, cD3, cD4, cD5, cD6⟩ := row_c7 ODw13.out
    obtain ⟨cS0, cS1, cS2, cS3, cS4, cS5, cS6⟩ := row_c7 OSw13.out
    clear hg0 hgA HM HSC HSA HSN HCk
    go_wp2_with fail
    go_ret
    exact ⟨rfl, Bww13.out⟩
end Go.Proofs.YtcjfmbeemdcklaaGreat

/-
  What follows of a tap that was entered: the ledger is right, and the rides are as they must be.
-/
namespace Go.Proofs.YtcjfmbeemdcklaaGreat
open Go.RowKit
theorem zip_snoc {P : List TP} {V : List Int} (h : V.length = P.length) (p : TP) (v : Int) : (P ++ [p]).zip (V ++ [v]) = P.zip V ++ [(p, v)] := by
  rw [List.zip_append h.symm]
  rfl
theorem tapsE_all {T : List TK} {P : List TP} {V : List Int} (h : tapsE T P V = 0) : ∀ j, j < P.length → errP T P V j = 0 := fun j hj => firstE_mem _ h _ (List.mem_map.2 ⟨j, List.mem_range.2 hj, rfl⟩)
theorem errP_old {T : List TK} {P : List TP} {V : List Int} (h : V.length = P.length) (p : TP) (v : Int) (j : Nat) (hj : j < P.length) : errP T (P ++ [p]) (V ++ [v]) j = errP T P V j := by
  have g1 : (P ++ [p]).getD j tp0 = P.getD j tp0 := by simp only [List.getD, List.getElem?_append_left hj]
  have g2 : (P ++ [p]).getD (j - 1) tp0 = P.getD (j - 1) tp0 := by simp only [List.getD, List.getElem?_append_left (show j - 1 < P.length by omega)]
  have g3 : (V ++ [v]).getD j 0 = V.getD j 0 := by simp only [List.getD, List.getElem?_append_left (show j < V.length by omega)]
  have g4 : (P ++ [p]).take j = P.take j := List.take_append_of_le_length (by omega)
  have g5 : ((P ++ [p]).zip (V ++ [v])).take j = (P.zip V).take j := by rw [zip_snoc h, List.take_append_of_le_length (by rw [List.length_zip]; omega)]
  unfold errP verd
  rw [g1, g2, g3, g4, g5]
theorem errP_all_chk {T : List TK} {P : List TP} {V : List Int} (h : tapsE T P V = 0) : ∀ x ∈ P, chkT x = 0 := by
  intro x hx
  obtain ⟨j, hj⟩ := List.mem_iff_getElem?.1 hx
  exact errP_chk hj (tapsE_all h j (List.getElem?_eq_some_iff.1 hj).1)
theorem enter_right {T : List TK} {P : List TP} {V : List Int} {p : TP} (h : (enterV T P V p).2 = 0) :
    chkL T P V = 0 ∧ unf T P p = 0 ∧ earlyB P p.m = false ∧ (judB T (P.zip V) p).2 = 0 ∧ P.length < 60 ∧ (enterV T P V p).1 = (judB T (P.zip V) p).1 := by
  by_cases h1 : chkL T P V = 0
  · by_cases h2 : unf T P p = 0
    · cases h3 : earlyB P p.m
      · by_cases h4 : (judB T (P.zip V) p).2 = 0
        · by_cases h5 : P.length = 60
          · simp [enterV, h1, h2, h3, h4, h5] at h
          · have := (chkL_right h1).2.1
            refine ⟨h1, h2, rfl, h4, by omega, ?_⟩
            simp [enterV, h1, h2, h3, h4, h5]
        · simp [enterV, h1, h2, h3, h4] at h
      · simp [enterV, h1, h2, h3] at h
    · simp [enterV, h1, h2] at h
  · simp [enterV, h1] at h
theorem judge_ok {k f t z r last rides m zone : Int} (h : (judge k f t z r last rides m zone).2 = 0) : (judge k f t z r last rides m zone).1 = 2 ∨ ((judge k f t z r last rides m zone).1 = 1 ∧ ¬ ((k = 1 ∧ 0 < rides) ∨ (k = 3 ∧ r ≤ rides))) := by
  unfold judge at h ⊢
  by_cases h1 : place f t z m zone = 0
  · rw [if_neg (by simpa using h1)] at h ⊢
    by_cases h2 : 0 ≤ last ∧ last ≤ m ∧ m < last + 60
    · rw [if_pos h2]; exact Or.inl rfl
    · rw [if_neg h2] at h ⊢
      by_cases h3 : (k = 1 ∧ 0 < rides) ∨ (k = 3 ∧ r ≤ rides)
      · rw [if_pos h3] at h; simp at h
      · rw [if_neg h3]; exact Or.inr ⟨rfl, h3⟩
  · rw [if_pos h1] at h
    exact absurd h h1
theorem enter_verd {T : List TK} {P : List TP} {V : List Int} {p : TP} (h : (enterV T P V p).2 = 0) : (enterV T P V p).1 = 1 ∨ (enterV T P V p).1 = 2 := by
  obtain ⟨h1, h2, h3, h4, h5, h6⟩ := enter_right h
  obtain ⟨r1, r2, r3, r4, r5⟩ := chkL_right h1
  have hu := unf_has h2
  have e := judB_verd (V := V) (i := P.length) (rising_of r4) (checked_of r4) (fun x hx => errP_all_chk r5 x (List.mem_of_mem_take hx)) r2 hu.1 hu.2.1
  rw [List.take_of_length_le (by rw [List.length_zip]; omega)] at e
  rw [h6, e]
  rw [e] at h4
  unfold verd at h4 ⊢
  rcases judge_ok h4 with h | h
  · exact Or.inr h
  · exact Or.inl h.1
theorem enter_chk {T : List TK} {P : List TP} {V : List Int} {p : TP} (h : (enterV T P V p).2 = 0) : chkL T (P ++ [p]) (V ++ [(enterV T P V p).1]) = 0 := by
  obtain ⟨h1, h2, h3, h4, h5, h6⟩ := enter_right h
  obtain ⟨r1, r2, r3, r4, r5⟩ := chkL_right h1
  refine chkL_ok (by simp; omega) (ticksE_all r4) (fun j hj => ?_)
  rw [List.length_append, List.length_singleton] at hj
  rcases Nat.lt_or_ge j P.length with hlt | hge
  · rw [errP_old r3 p _ j hlt]
    exact tapsE_all r5 j hlt
  · obtain rfl : j = P.length := by omega
    have t1 : (P ++ [p]).take P.length = P := by simp
    have t2 : (V ++ [(enterV T P V p).1]).take P.length = V := by rw [← r3]; simp
    have e := tapE_errP (T := T) (P := P ++ [p]) (V := V ++ [(enterV T P V p).1]) (q := P.length) (p := p) (v := (enterV T P V p).1) (rising_of r4) (checked_of r4) r2 (fun x hx => errP_all_chk r5 x (by rw [t1] at hx; exact hx)) (by simp) (by rw [← r3]; simp)
    rw [← e, t1, t2]
    have hv : wi (enterV T P V p).1 1 2 = true := by
      rw [wi_iff]
      rcases enter_verd h with e | e <;> omega
    unfold tapE
    rw [h2, hv, h3, h6]
    simp [firstE]
theorem hasT_mem {T : List TK} {x : TK} (hx : x ∈ T) : hasT T x.i = true := by
  rw [hasT, List.any_eq_true]
  exact ⟨x, hx, by simp⟩
end Go.Proofs.YtcjfmbeemdcklaaGreat

/-
  What follows of a ticket that is sold, and of a beginning of a ledger.
-/
namespace Go.Proofs.YtcjfmbeemdcklaaGreat
open Go.RowKit
end Go.Proofs.YtcjfmbeemdcklaaGreat

/-
  Merging, of lists: what is in order stays so, nothing is lost, and the order in which taps come does not matter.
-/
namespace Go.Proofs.YtcjfmbeemdcklaaGreat
open Go.RowKit
end Go.Proofs.YtcjfmbeemdcklaaGreat

/-
  'IsBefore' (package leeboardref).
-/
namespace Go.Proofs.YtcjfmbeemdcklaaGreat
open Go.RowKit
end Go.Proofs.YtcjfmbeemdcklaaGreat

/-
  'append' of a list of taps to a list that one owns, operation by operation.
-/
namespace Go.Proofs.YtcjfmbeemdcklaaGreat
open Go.RowKit
end Go.Proofs.YtcjfmbeemdcklaaGreat

/-
  'OrderOf' (package leeboardref).
-/
namespace Go.Proofs.YtcjfmbeemdcklaaGreat
open Go.RowKit
end Go.Proofs.YtcjfmbeemdcklaaGreat

/-
  The document's answers on ledgers: 'CheckLedger' (package leeboardref).
-/
namespace Go.Proofs.YtcjfmbeemdcklaaGreat
open Go.RowKit
theorem idxT_get {T : List TK} {id : Int} (h : ¬ idxT T id < 0) : ∃ (k : Nat) (x : TK), idxT T id = k ∧ T[k]? = some x := by
  unfold idxT at h ⊢
  cases hf : T.findIdx? (fun p => p.i == id) with
  | none => rw [hf] at h; simp at h
  | some k =>
    have := (List.findIdx?_eq_some_iff_getElem.1 hf).1
    exact ⟨k, T[k], rfl, by simp⟩
end Go.Proofs.YtcjfmbeemdcklaaGreat

/-
  'EnterOf' (package leeboardref): errors.
-/
namespace Go.Proofs.YtcjfmbeemdcklaaGreat
open Go.RowKit
theorem idxT_id' {T : List TK} {id : Int} {k : Nat} {x : TK} (h : idxT T id = (k : Int)) (hx : T[k]? = some x) : x.i = id := by
  unfold idxT at h
  cases hf : T.findIdx? (fun p => p.i == id) with
  | none =>
    rw [hf] at h
    simp at h
  | some j =>
    rw [hf] at h
    have hj : j = k := by
      have : ((j : Nat) : Int) = k := h
      omega
    subst hj
    obtain ⟨h1, h2, -⟩ := List.findIdx?_eq_some_iff_getElem.1 hf
    have : T[j] = x := by
      have := List.getElem?_eq_some_iff.1 hx
      exact this.2
    rw [this] at h2
    simpa using h2
theorem enter_ways {T : List TK} {P : List TP} {V : List Int} (p : TP) (h0 : chkL T P V = 0) :
    (chkT p ≠ 0 ∧ enterV T P V p = (0, chkT p)) ∨
    (chkT p = 0 ∧ idxT T p.a < 0 ∧ enterV T P V p = (0, 5)) ∨
    (chkT p = 0 ∧ ∃ (k : Nat) (x : TK), idxT T p.a = k ∧ T[k]? = some x ∧ chkK x = 0 ∧
      ((twiceT P p = true ∧ enterV T P V p = (0, 6)) ∨
       (twiceT P p = false ∧ (∃ n q, P.length = n + 1 ∧ P[n]? = some q ∧ p.m < q.m) ∧ enterV T P V p = (0, 4)) ∨
       (twiceT P p = false ∧ (P = [] ∨ ∃ n q, P.length = n + 1 ∧ P[n]? = some q ∧ ¬ p.m < q.m) ∧
         enterV T P V p = if (judge x.k x.f x.t x.z x.r (many (P.zip V) p.a).2 (many (P.zip V) p.a).1 p.m p.z).2 ≠ 0 then judge x.k x.f x.t x.z x.r (many (P.zip V) p.a).2 (many (P.zip V) p.a).1 p.m p.z
           else if P.length = 60 then (0, 2) else ((judge x.k x.f x.t x.z x.r (many (P.zip V) p.a).2 (many (P.zip V) p.a).1 p.m p.z).1, 0)))) := by
  obtain ⟨r1, r2, r3, r4, r5⟩ := chkL_right h0
  have hE : enterV T P V p = if unf T P p ≠ 0 then (0, unf T P p) else if earlyB P p.m = true then (0, 4) else if (judB T (P.zip V) p).2 ≠ 0 then judB T (P.zip V) p else if P.length = 60 then (0, 2) else ((judB T (P.zip V) p).1, 0) := by
    unfold enterV
    rw [if_neg (by simp [h0])]
  by_cases h1 : chkT p = 0
  · right
    cases h2 : hasT T p.a
    · left
      have hu : unf T P p = 5 := by simp [unf, firstE, h1, h2]
      refine ⟨h1, ?_, by rw [hE, hu]; rfl⟩
      by_cases hi : idxT T p.a < 0
      · exact hi
      · obtain ⟨k, x, e1, e2⟩ := idxT_get hi
        have hx : x.i = p.a := idxT_id' e1 e2
        rw [← hx, hasT_mem (List.mem_of_getElem? e2)] at h2
        cases h2
    · right
      obtain ⟨x, hx, e1, e2⟩ := hasT_pos (rising_of r4) h2
      refine ⟨h1, posT T p.a, x, e2, hx, checked_of r4 x (List.mem_of_getElem? hx), ?_⟩
      cases h3 : twiceT P p
      · right
        have hu : unf T P p = 0 := by simp [unf, firstE, h1, h2, h3]
        rw [hu, if_neg (by simp)] at hE
        have hJ : judB T (P.zip V) p = judge x.k x.f x.t x.z x.r (many (P.zip V) p.a).2 (many (P.zip V) p.a).1 p.m p.z := by
          have e := judB_verd (V := V) (i := P.length) (rising_of r4) (checked_of r4) (fun y hy => errP_all_chk r5 y (List.mem_of_mem_take hy)) r2 h1 h2
          rw [List.take_of_length_le (by rw [List.length_zip]; omega)] at e
          rw [e]
          unfold verd
          rw [e2, show T.getD ((posT T p.a : Int)).toNat tk0 = x by simp [List.getD, hx], List.take_of_length_le (by rw [List.length_zip]; omega)]
        rw [hJ] at hE
        rcases List.eq_nil_or_concat P with hP | ⟨L, q, hP⟩
        · right
          refine ⟨rfl, Or.inl hP, ?_⟩
          rw [hE, if_neg (by simp [earlyB, hP])]
        · rw [List.concat_eq_append] at hP
          have hl : P.length = L.length + 1 := by rw [hP]; simp
          have hq : P[L.length]? = some q := by rw [hP]; simp
          have he : earlyB P p.m = decide (p.m < q.m) := by simp [earlyB, hP]
          by_cases hm : p.m < q.m
          · left
            refine ⟨rfl, ⟨L.length, q, hl, hq, hm⟩, ?_⟩
            rw [hE, if_pos (by simp [he, hm])]
          · right
            refine ⟨rfl, Or.inr ⟨L.length, q, hl, hq, hm⟩, ?_⟩
            rw [hE, if_neg (by simp [he, hm])]
      · left
        have hu : unf T P p = 6 := by simp [unf, firstE, h1, h2, h3]
        exact ⟨rfl, by rw [hE, hu]; rfl⟩
  · left
    have hu : unf T P p = chkT p := by simp [unf, firstE, h1]
    exact ⟨h1, by rw [hE, hu, if_pos h1]⟩
end Go.Proofs.YtcjfmbeemdcklaaGreat

/-
  The document's Into, of lists.
-/
namespace Go.Proofs.YtcjfmbeemdcklaaGreat
open Go.RowKit
theorem judge_err {k f t z r last rides m zone : Int} (h : (judge k f t z r last rides m zone).2 ≠ 0) : (judge k f t z r last rides m zone).1 = 3 ∧ (judge k f t z r last rides m zone).2 ≠ 2 := by
  unfold judge at h ⊢
  by_cases h1 : place f t z m zone ≠ 0
  · rw [if_pos h1]
    refine ⟨rfl, ?_⟩
    unfold place
    split
    · decide
    · split <;> decide
  · rw [if_neg h1] at h ⊢
    by_cases h2 : 0 ≤ last ∧ last ≤ m ∧ m < last + 60
    · rw [if_pos h2] at h
      exact absurd rfl h
    · rw [if_neg h2] at h ⊢
      by_cases h3 : (k = 1 ∧ 0 < rides) ∨ (k = 3 ∧ r ≤ rides)
      · rw [if_pos h3]
        exact ⟨rfl, by decide⟩
      · rw [if_neg h3] at h
        exact absurd rfl h
end Go.Proofs.YtcjfmbeemdcklaaGreat

/-
  For 'StationAlone': what a station says where nobody leads, and where one does.
-/
namespace Go.Proofs.YtcjfmbeemdcklaaGreat
open Go.RowKit
section
variable {T : List TK} {P : List TP} {V : List Int} {dv : Int} {D : List Int} {G : List GT} {W : List VW}
theorem gAt_of {q : Nat} {g : GT} (hq : G[q]? = some g) : gAt (G.map GT.p) (q : Int) = g.p := by
  rw [gAt, Int.toNat_natCast, List.getD_eq_getElem?_getD, List.getElem?_map, hq]
  rfl
end
end Go.Proofs.YtcjfmbeemdcklaaGreat

/-
  What follows of a tap that was let through, and of a gate that has told, of lists.
-/
namespace Go.Proofs.YtcjfmbeemdcklaaGreat
open Go.RowKit
theorem errA_snoc (i z : Int) (l : Option TP) (P : List TP) (p : TP) (h1 : errA i z l P = 0) (h2 : chkT p = 0) (h3 : okA i z (P.getLast?.or l) p = true) : errA i z l (P ++ [p]) = 0 := by
  induction P generalizing l with
  | nil =>
    simp only [List.getLast?_nil, Option.none_or] at h3
    simp only [List.nil_append, errA, h2, h3, if_true]
  | cons x P ih =>
    rcases errA_ways i z l x P with ⟨g1, g2⟩ | ⟨g1, g2, g3⟩ | ⟨g1, g2, g3⟩
    · rw [g2] at h1; rw [h1] at g1; cases g1
    · omega
    · rw [List.cons_append, errA, if_pos g1, if_pos g2]
      refine ih (some x) (g3.symm.trans h1) ?_
      rw [List.getLast?_cons] at h3
      cases hP : P.getLast? with
      | none => rw [hP] at h3; simpa using h3
      | some y => rw [hP] at h3; simpa using h3
theorem tapG_right {i z s : Int} {P : List TP} {v : Int} {D : List Int} {l u : Int} {x : TK} {m : Int} (h : tapG i z s P v D l u x m = 0) : unfG i z s P v D l u x m = 0 ∧ shutG D u z x m = 0 ∧ spentG P l x = false ∧ fullG P.length s = false := by
  rcases tapG_ways i z s P v D l u x m with ⟨h1, h2⟩ | ⟨h1, h2, h3⟩ | ⟨h1, h2, h3, h4⟩ | ⟨h1, h2, h3, h4, h5⟩ | ⟨h1, h2, h3, h4, h5⟩
  · rw [h2] at h; rw [h] at h1; cases h1
  · rw [h3] at h; rw [h] at h2; cases h2
  · omega
  · omega
  · exact ⟨h1, h2, h3, h4⟩
theorem aloneE_right {i z s : Int} {P : List TP} (h : aloneE i z s P = 0) : errA i z none P = 0 ∧ errQ s P = 0 := by
  rw [aloneE] at h
  split at h
  · rename_i h1; exact ⟨h1, h⟩
  · rename_i h1; exact absurd h h1
theorem errB_zero {l u : Int} : errB l u = 0 ↔ (0 ≤ l ∧ l ≤ 9) ∧ (0 ≤ u ∧ u ≤ 10099) := by
  rw [errB]
  by_cases h : (wi l 0 9 && wi u 0 10099) = true
  · rw [if_pos h]
    rw [Bool.and_eq_true, wi_iff, wi_iff] at h
    exact ⟨fun _ => h, fun _ => rfl⟩
  · rw [if_neg h]
    rw [Bool.and_eq_true, wi_iff, wi_iff] at h
    exact ⟨fun h' => by omega, fun h' => absurd h' h⟩
theorem errS_zero {i z s : Int} {n : Nat} (h1 : 0 ≤ i ∧ i ≤ 2) (h2 : 0 ≤ s ∧ s ≤ 99) (h3 : isZ z = true) (h4 : n ≤ 12) : errS i z s n = 0 := by
  rw [errS, (wi_iff i 0 2).2 h1, (wi_iff s 0 99).2 h2, h3, if_neg (by decide), if_neg (by decide), if_neg (by omega)]
theorem chkG_of {i z s : Int} {P : List TP} {v : Int} {D : List Int} {l u : Int} (h1 : errS i z s P.length = 0) (h2 : aloneE i z s P = 0) (h3 : chkD v D = 0) (h4 : errB l u = 0) : chkG i z s P v D l u = 0 := by
  rw [chkG, if_pos h1, if_pos h2, if_pos h3, h4]
theorem chkG_tap {i z s : Int} {P : List TP} {v : Int} {D : List Int} {l u : Int} {x : TK} {m : Int} (h : tapG i z s P v D l u x m = 0) : chkG i z (s + 1) (P ++ [⟨x.i, i, s + 1, m, z⟩]) v D (l - 1) u = 0 := by
  obtain ⟨h1, h2, h3, h4⟩ := tapG_right h
  obtain ⟨g1, g2, g3, g4⟩ := unfG_right h1
  obtain ⟨c1, c2, c3, c4⟩ := chkG_right g1
  obtain ⟨s1, s2, s3, s4⟩ := errS_right c1
  obtain ⟨a1, a2⟩ := aloneE_right c2
  have b := errB_zero.1 c4
  have hm := (wi_iff _ _ _).1 g3
  have hk := chk_right (show chk x.i x.k x.f x.t x.z x.r = 0 from g2)
  rw [fullG, Bool.or_eq_false_iff] at h4
  have f1 : ¬ (P.length : Int) = 12 := by simpa using h4.1
  have f2 : ¬ s = 99 := by simpa using h4.2
  rw [spentG, Bool.or_eq_false_iff] at h3
  have l0 : ¬ l = 0 := by simpa using h3.1
  have hp : chkT ⟨x.i, i, s + 1, m, z⟩ = 0 := by
    show chkP x.i i (s + 1) m z = 0
    rw [chkP, (wi_iff x.i 1 9999).2 hk.1, (wi_iff i 0 2).2 s1, (wi_iff (s + 1) 1 99).2 (by omega), (wi_iff m 0 9999).2 hm, s3]
    rfl
  refine chkG_of (errS_zero s1 (by omega) s3 (by simp; omega)) ?_ c3 (errB_zero.2 ⟨by omega, b.2⟩)
  have hA : errA i z none (P ++ [⟨x.i, i, s + 1, m, z⟩]) = 0 := by
    refine errA_snoc i z none P _ a1 hp ?_
    rw [Option.or_none]
    rw [earlyG] at g4
    rw [errQ] at a2
    cases hl : P.getLast? with
    | none => simp [okA]
    | some y =>
      rw [hl] at g4 a2
      simp only [decide_eq_false_iff_not] at g4
      simp only [ite_eq_left_iff] at a2
      have hys : y.s = s := by
        by_cases hy : y.s = s
        · exact hy
        · have := a2 hy; omega
      simp [okA, folB, hys]
      omega
  rw [aloneE, if_pos hA, errQ, List.getLast?_concat]
  simp
end Go.Proofs.YtcjfmbeemdcklaaGreat

/-
  For 'StationSafe': what a tap that gave no error leaves, lists alone.
-/
namespace Go.Proofs.YtcjfmbeemdcklaaGreat
open Go.RowKit
section
variable {T : List TK} {P : List TP} {V : List Int} {dv : Int} {D : List Int} {G : List GT} {W : List VW}
theorem enter_bad {p : TP} (h0 : chkL T P V = 0) (h : (enterV T P V p).2 ≠ 0) : (enterV T P V p).1 = 0 ∨ (enterV T P V p).1 = 3 := by
  rcases enter_ways p h0 with ⟨-, e⟩ | ⟨-, -, e⟩ | ⟨-, k, x, -, -, -, ⟨-, e⟩ | ⟨-, -, e⟩ | ⟨-, -, e⟩⟩
  · exact Or.inl (by rw [e])
  · exact Or.inl (by rw [e])
  · exact Or.inl (by rw [e])
  · exact Or.inl (by rw [e])
  · rw [e] at h ⊢
    split at h
    · rename_i hj
      rw [if_pos hj]
      exact Or.inr (judge_err hj).1
    · rename_i hj
      rw [if_neg hj]
      split at h
      · rename_i h6
        rw [if_pos h6]
        exact Or.inl rfl
      · exact absurd rfl h
theorem ent_bad {n z s id m : Int} (h0 : chkL T P V = 0) (h : (entK T P V dv D n z s id m).2 ≠ 0) : (entK T P V dv D n z s id m).1 = 0 ∨ (entK T P V dv D n z s id m).1 = 3 := by
  unfold entK at h ⊢
  split at h
  · rename_i h1
    rw [if_pos h1]; exact Or.inl rfl
  · rename_i h1
    rw [if_neg h1]
    split at h
    · rename_i h2
      rw [if_pos h2]; exact Or.inl rfl
    · rename_i h2
      rw [if_neg h2]
      split at h
      · rename_i h3
        rw [if_pos h3]; exact Or.inl rfl
      · rename_i h3
        rw [if_neg h3]
        exact enter_bad h0 h
theorem tap_bad {id n m : Int} (h : (tapS T P V dv D G W id n m).2 ≠ 0) : (tapS T P V dv D G W id n m).1 = 0 ∨ (tapS T P V dv D G W id n m).1 = 3 := by
  unfold tapS at h ⊢
  split at h
  · rename_i hc
    rw [if_pos hc]
    unfold tapR at h ⊢
    split at h
    · rename_i h1
      rw [if_pos h1]; exact Or.inl rfl
    · rename_i h1
      rw [if_neg h1]
      unfold tapK at h ⊢
      split at h
      · rename_i h2
        rw [if_pos h2]; exact Or.inl rfl
      · rename_i h2
        rw [if_neg h2]
        split at h
        · rename_i h3
          rw [if_pos h3]; exact Or.inl rfl
        · rename_i h3
          rw [if_neg h3]
          exact ent_bad (chkS_right hc).1 h
  · rename_i hc
    rw [if_neg hc]; exact Or.inl rfl
theorem ent_right {n z s id m : Int} (h : (entK T P V dv D n z s id m).2 = 0) : (decide (unfD dv D id = 0) && hasI D id) = false ∧ s ≠ 99 ∧ (enterV T P V ⟨id, n, s + 1, m, z⟩).2 = 0 ∧ (entK T P V dv D n z s id m).1 = (enterV T P V ⟨id, n, s + 1, m, z⟩).1 := by
  unfold entK at h ⊢
  split at h
  · cases h
  · rename_i h1
    rw [if_neg h1]
    split at h
    · cases h
    · rename_i h2
      rw [if_neg h2]
      split at h
      · cases h
      · rename_i h3
        rw [if_neg h3]
        exact ⟨by simpa using h1, h3, h, rfl⟩
theorem tap_right {id n m : Int} (h : (tapS T P V dv D G W id n m).2 = 0) : chkS T P V dv D G W = 0 ∧ ∃ (q : Nat) (g : GT) (k : Nat) (x : TK), n = q ∧ q < 3 ∧ G[q]? = some g ∧ idxT T id = k ∧ T[k]? = some x ∧ tAt T id = x ∧
    ((alB W g.A = true ∧ (tapS T P V dv D G W id n m).1 = 0 ∧ tapG g.i g.z g.s g.A g.v g.D g.l g.u x m = 0) ∨
     (alB W g.A = false ∧ ((tapS T P V dv D G W id n m).1 = 1 ∨ (tapS T P V dv D G W id n m).1 = 2) ∧ (decide (unfD dv D id = 0) && hasI D id) = false ∧ g.s ≠ 99 ∧ (enterV T P V ⟨id, q, g.s + 1, m, g.z⟩).2 = 0 ∧ (tapS T P V dv D G W id n m).1 = (enterV T P V ⟨id, q, g.s + 1, m, g.z⟩).1)) := by
  unfold tapS at h ⊢
  split at h
  · rename_i hc
    rw [if_pos hc]
    refine ⟨hc, ?_⟩
    obtain ⟨-, -, hG3, -⟩ := chkS_right hc
    unfold tapR at h ⊢
    split at h
    · cases h
    · rename_i h1
      rw [if_neg h1]
      simp only [Bool.not_eq_false, wi_iff] at h1
      obtain ⟨q, rfl⟩ : ∃ q : Nat, n = q := ⟨n.toNat, by omega⟩
      obtain ⟨g, hg⟩ : ∃ g, G[q]? = some g := ⟨_, List.getElem?_eq_getElem (by omega)⟩
      rw [gAt_of hg] at h ⊢
      unfold tapK at h ⊢
      split at h
      · cases h
      · rename_i h2
        rw [if_neg h2]
        obtain ⟨k, x, hk, hx⟩ := idxT_at h2
        have ht : tAt T id = x := by rw [tAt, hk, Int.toNat_natCast, List.getD_eq_getElem?_getD, hx]; rfl
        refine ⟨q, g, k, x, rfl, by omega, hg, hk, hx, ht, ?_⟩
        have ht' : T.getD (idxT T id).toNat tk0 = x := ht
        rw [ht'] at h ⊢
        split at h
        · rename_i h3
          rw [if_pos h3]
          exact Or.inl ⟨h3, rfl, h⟩
        · rename_i h3
          rw [if_neg h3]
          obtain ⟨e1, e2, e3, e4⟩ := ent_right h
          have hb : alB W g.A = false := by
            cases hb : alB W g.A with
            | false => rfl
            | true => exact absurd hb h3
          refine Or.inr ⟨hb, ?_, e1, e2, e3, e4⟩
          rw [e4]
          exact enter_verd e3
  · rename_i hc
    exact absurd h hc
theorem al_nil {W : List VW} {A : List TP} (h : alB W A = false) : A = [] := by
  cases A with
  | nil => rfl
  | cons p L => simp [alB] at h
theorem ticket_of {id : Int} {k : Nat} {x : TK} (hk : idxT T id = k) (hx : T[k]? = some x) : x.i = id := by
  unfold idxT at hk
  cases hf : T.findIdx? (fun p => p.i == id) with
  | none => rw [hf] at hk; simp at hk
  | some n =>
    rw [hf] at hk
    obtain ⟨hlt, he, -⟩ := List.findIdx?_eq_some_iff_getElem.1 hf
    obtain rfl : n = k := by simp at hk; omega
    obtain ⟨_, rfl⟩ := List.getElem?_eq_some_iff.1 hx
    simpa using he
theorem not_denied {id : Int} {k : Nat} {x : TK} (hD : chkD dv D = 0) (hL : chkL T P V = 0) (hk : idxT T id = k) (hx : T[k]? = some x) (h : (decide (unfD dv D id = 0) && hasI D id) = false) : hasI D id = false := by
  have hi := ticket_of hk hx
  have hc := checked_of (chkL_right hL).2.2.2.1 x (List.mem_of_getElem? hx)
  have hw : wi id 1 9999 = true := by
    rw [← hi]
    unfold chkK chk at hc
    by_cases hr : inR x.i x.f x.t x.z = false
    · rw [if_pos hr] at hc
      omega
    · simp only [inR, Bool.not_eq_false, Bool.and_eq_true] at hr
      exact hr.1.1.1
  have hu : unfD dv D id = 0 := by rw [unfD, if_pos hD, if_pos hw]
  rw [hu] at h
  simpa using h
theorem gatePE_of {n : Nat} {g : GP} (h1 : chkG g.i g.z g.s g.A g.v g.D g.l g.u = 0) (h2 : g.i = n) (h3 : ¬ dv < g.v) (h4 : P.any (twiG g.i g.s g.A) = false) : gatePE dv P n g = 0 := by
  rw [gatePE, if_pos h1, if_pos ⟨h2, h3⟩, h4]
  rfl
theorem chkPS_of {L : List GP} (h1 : chkL T P V = 0) (h2 : chkD dv D = 0) (h3 : L.length = 3) (h4 : ∀ q g, L[q]? = some g → gatePE dv P q g = 0) (h5 : chkVs W = 0) : chkPS T P V dv D L W = 0 := by
  have hz : ∀ (M : List GP) (n : Nat), (∀ q g, M[q]? = some g → gatePE dv P (n + q) g = 0) → gatesPF dv P n M = 0 := by
    intro M
    induction M with
    | nil => intro n _; rfl
    | cons x M ih =>
      intro n h
      rw [gatesPF, if_pos (show gatePE dv P n x = 0 from h 0 x rfl)]
      exact ih (n + 1) (fun q g hg => by
        have := h (q + 1) g (by simpa using hg)
        rwa [show n + (q + 1) = n + 1 + q from by omega] at this)
  have hg : gatesPE dv P L = 0 := by
    rw [gatesPE, if_pos h3]
    exact hz L 0 (fun q g hq => by rw [Nat.zero_add]; exact h4 q g hq)
  rw [chkPS, if_pos h1, if_pos h2, if_pos hg]
  exact h5
theorem any_twi {i sq : Int} {A : List TP} (h : P.any (twiG i sq A) = false) {p : TP} (hp : p ∈ P) (hi : p.g = i) : ¬ sq < p.s ∧ ∀ y ∈ A, y.s ≠ p.s := by
  rw [List.any_eq_false] at h
  have := h p hp
  simp only [twiG, hi, beq_self_eq_true, Bool.true_and, Bool.or_eq_true, decide_eq_true_eq, List.any_eq_true, beq_iff_eq, not_or, not_exists, not_and] at this
  exact this
theorem twi_of {i sq : Int} {A : List TP} (h : ∀ p ∈ P, p.g = i → ¬ sq < p.s ∧ ∀ y ∈ A, y.s ≠ p.s) : P.any (twiG i sq A) = false := by
  rw [List.any_eq_false]
  intro p hp
  simp only [twiG, Bool.and_eq_true, beq_iff_eq, Bool.or_eq_true, decide_eq_true_eq, List.any_eq_true, not_and, not_or, not_exists]
  exact fun e => h p hp e
theorem tap_chk {id n m : Int} (h : (tapS T P V dv D G W id n m).2 = 0) : chkPS T (pTap W (gAt (G.map GT.p) n) P id n m) (vTap W (gAt (G.map GT.p) n) V (tapS T P V dv D G W id n m).1) dv D ((G.map GT.p).set n.toNat (gTap W (gAt (G.map GT.p) n) (tAt T id) m)) W = 0 := by
  obtain ⟨hc, q, g, k, x, rfl, hq3, hg, hk, hx, ht, hw⟩ := tap_right h
  obtain ⟨hL, hD, hG3, hGs, hW0, -⟩ := chkS_right hc
  obtain ⟨g1, g2, g3, g4⟩ := gateE_right (hGs q g hg)
  have hxi := ticket_of hk hx
  rw [gAt_of hg, ht, Int.toNat_natCast]
  have hset : ∀ (L : List TP) (y : GP), gatePE dv L q y = 0 → (∀ j e, j ≠ q → G[j]? = some e → gatePE dv L j e.p = 0) → ∀ j e, ((G.map GT.p).set q y)[j]? = some e → gatePE dv L j e = 0 := by
    intro L y h1 h2 j e hj
    by_cases hjq : j = q
    · subst hjq
      rw [List.getElem?_set_self (by simp; omega)] at hj
      obtain rfl := Option.some.inj hj
      exact h1
    · rw [List.getElem?_set_ne (fun e => hjq e.symm), List.getElem?_map, Option.map_eq_some_iff] at hj
      obtain ⟨e', he, rfl⟩ := hj
      exact h2 j e' hjq he
  rcases hw with ⟨w1, w2, w3⟩ | ⟨w1, w2, w3, w4, w5, w6⟩
  · have w1' : alB W g.p.A = true := w1
    rw [pTap, if_pos w1', vTap, if_pos w1', gTap, if_pos w1']
    refine chkPS_of hL hD (by simp [hG3]) (hset P _ ?_ (fun j e hj he => ?_)) hW0
    · refine gatePE_of (chkG_tap w3) g2 g3 (twi_of (fun p hp hpi => ?_))
      obtain ⟨a1, a2⟩ := any_twi g4 hp hpi
      refine ⟨by show ¬ g.s + 1 < p.s; omega, fun y hy => ?_⟩
      rcases List.mem_append.1 hy with hy | hy
      · exact a2 y hy
      · obtain rfl := List.mem_singleton.1 hy
        show g.s + 1 ≠ p.s
        omega
    · obtain ⟨b1, b2, b3, b4⟩ := gateE_right (hGs j e he)
      exact gatePE_of b1 b2 b3 b4
  · have w1' : alB W g.p.A ≠ true := by
      show alB W g.A ≠ true
      rw [w1]
      decide
    have hA : g.A = [] := al_nil w1
    rw [pTap, if_neg w1', vTap, if_neg w1', gTap, if_neg w1', w6]
    have hqi : ((q : Int)) = g.i := g2.symm
    refine chkPS_of (enter_chk w5) hD (by simp [hG3]) (hset _ _ ?_ (fun j e hj he => ?_)) hW0
    · refine gatePE_of ?_ g2 g3 (twi_of (fun p hp hpi => ?_))
      · show chkG g.i g.z (g.s + 1) g.A g.v g.D g.l g.u = 0
        obtain ⟨c1, c2, c3, c4⟩ := chkG_right g1
        rw [hA] at c1 c2 ⊢
        refine chkG_of ?_ rfl c3 c4
        unfold errS at c1 ⊢
        have : (wi g.i 0 2 && wi (g.s + 1) 0 99) = (wi g.i 0 2 && wi g.s 0 99) := by
          by_cases hs : (wi g.i 0 2 && wi g.s 0 99) = true
          · rw [hs]
            simp only [Bool.and_eq_true, wi_iff] at hs ⊢
            omega
          · simp only [Bool.not_eq_true] at hs
            rw [if_pos hs] at c1
            omega
        rw [this]
        exact c1
      · refine ⟨?_, fun y hy => ?_⟩
        · show ¬ g.s + 1 < p.s
          rcases List.mem_append.1 hp with hp | hp
          · have := (any_twi g4 hp hpi).1
            omega
          · obtain rfl := List.mem_singleton.1 hp
            show ¬ g.s + 1 < g.s + 1
            omega
        · have hy' : y ∈ g.A := hy
          rw [hA] at hy'
          cases hy'
    · obtain ⟨b1, b2, b3, b4⟩ := gateE_right (hGs j e he)
      refine gatePE_of b1 b2 b3 (twi_of (fun p hp hpi => ?_))
      rcases List.mem_append.1 hp with hp | hp
      · exact any_twi b4 hp hpi
      · obtain rfl := List.mem_singleton.1 hp
        have : ((q : Nat) : Int) = e.i := hpi
        omega
end
end Go.Proofs.YtcjfmbeemdcklaaGreat

/-
  'post', 'gateBegun' (package leeboardlaw).
-/
namespace Go.Proofs.YtcjfmbeemdcklaaGreat
open Go.RowKit
theorem post_any (w : World) : Calls Tryz.prog 76 #[] w fun e w' => (∃ b, e = .returned (gtV 1 2 4 none 0 0 1 (some ⟨b, 0, none⟩) 1 1 2 90) ∧ IntsAt w' (some ⟨b, 0, none⟩) [7]) ∧ Below w.heap.size w w' := by
  go_enter Tryz.func76, Tryz.ntmps76
  go_wp2_with fail
  refine bodyPost_ret (v := gtV 1 2 4 none 0 0 1 (some ⟨w.heap.size + 1, 0, none⟩) 1 1 2 90) (by simp [results, Tryz.results76, go_sem]) rfl ⟨⟨w.heap.size + 1, rfl, intsAt_single (by simp [go_sem])⟩, ?_⟩
  repeat (first | with_reducible exact Below.refl _ _ | with_reducible refine Below.alloc ?_ (by simp) _ | with_reducible refine Below.setCell ?_ (by simp) _)
theorem t1 : tapG 1 2 4 [] 1 [7] 2 90 ⟨1, 1, 10, 500, 15, 0⟩ 50 = 0 := by decide +kernel
theorem t2 : tapG 1 2 5 [⟨1, 1, 5, 50, 2⟩] 1 [7] 1 90 ⟨1, 1, 10, 500, 15, 0⟩ 60 = 10 := by decide +kernel
theorem t3 : tapG 1 2 4 [] 1 [7] 2 90 ⟨7, 1, 10, 500, 15, 0⟩ 50 = 11 := by decide +kernel
theorem t4 : tapG 1 2 4 [] 1 [7] 2 90 ⟨1, 1, 10, 500, 15, 0⟩ 91 = 8 := by decide +kernel
theorem t5 : syncG 1 2 5 [⟨1, 1, 5, 50, 2⟩] 1 [7] 1 90 5 [] 60 = 0 := by decide +kernel
theorem t6 : chkG 1 2 5 [⟨1, 1, 5, 50, 2⟩] 1 [7] 1 90 = 0 := by decide +kernel
set_option maxHeartbeats 1600000 in
theorem gateBegun_any (w : World) : Calls Tryz.prog 27 #[] w fun e w' => e = .returned (.bool true) ∧ Below w.heap.size w w' := by
  have HT1 := hide (fun W o c (h : IntsAt W o [7]) => gateTap_ok 1 2 4 none [] 0 1 o [7] c 2 90 1 1 10 500 15 0 50 W (tapsAt_nil W none) h (by simp) (by simp) (fun _ => rfl) t1)
  have HT2 := hide (fun W oa ca o c (h' : TapsAt W oa [⟨1, 1, 5, 50, 2⟩]) (h : IntsAt W o [7]) => gateTap_err 1 2 5 oa [⟨1, 1, 5, 50, 2⟩] ca 1 o [7] c 1 90 1 1 10 500 15 0 60 W h' h (by simp) (by simp) (by rw [t2]; decide))
  have HT3 := hide (fun W o c (h : IntsAt W o [7]) => gateTap_err 1 2 4 none [] 0 1 o [7] c 2 90 7 1 10 500 15 0 50 W (tapsAt_nil W none) h (by simp) (by simp) (by rw [t3]; decide))
  have HT4 := hide (fun W o c (h : IntsAt W o [7]) => gateTap_err 1 2 4 none [] 0 1 o [7] c 2 90 1 1 10 500 15 0 91 W (tapsAt_nil W none) h (by simp) (by simp) (by rw [t4]; decide))
  have HS := hide (fun W oa ca o c (h' : TapsAt W oa [⟨1, 1, 5, 50, 2⟩]) (h : IntsAt W o [7]) => gateSync_ok 1 2 5 oa [⟨1, 1, 5, 50, 2⟩] ca 1 o [7] c 1 90 5 none [] 0 60 W h' h (fun i p h => by simp at h) (by simp) (by simp) (by simp) t5)
  have HC := hide (fun W oa ca o c (h' : TapsAt W oa [⟨1, 1, 5, 50, 2⟩]) (h : IntsAt W o [7]) => gateCheck_any 1 2 5 oa [⟨1, 1, 5, 50, 2⟩] ca 1 o [7] c 1 90 W h' h (by simp))
  rw [t2] at HT2
  rw [t3] at HT3
  rw [t4] at HT4
  rw [t6] at HC
  rw [if_pos (by decide), if_pos (by decide)] at HS
  go_enter Tryz.func27, Tryz.ntmps27
  go_wp2_with fail
  refine (post_any _).mono ?_
  rintro e w1 ⟨⟨b1, rfl, hI⟩, hb⟩
  have HB1 := hide hb
  have HI1 := hide hI
  clear hb hI
  go_wp2_with fail
  refine (single_any 1 _).mono ?_
  rintro e w2 ⟨rfl, hb⟩
  have HB2 := hide (HB1.out.trans (hb.mono HB1.out.size))
  have HI2 := hide (HI1.out.below hb)
  clear hb HB1 HI1
  go_wp2_with fail
  refine (HT1.out _ _ _ HI2.out).mono ?_
  rintro e w3 ⟨⟨x, rfl, ⟨oa, ca, od, cd, rfl, hT, -, hI, -⟩⟩, hb⟩
  have HB3 := hide (HB2.out.trans (hb.mono HB2.out.size))
  have HV3 := hide (And.intro hT hI)
  clear hb hT hI HB2 HI2
  go_wp2_with fail
  have HG : Hid (Blks w3 _ ([] ++ [.cells #[.int .i64 1, .int .i64 2, .int .i64 5, .slice oa 1 ca, .int .i64 1, .slice od 1 cd, .int .i64 1, .int .i64 90] 49] ++ [.cells #[.int .i64 1, .int .i64 1, .int .i64 5, .int .i64 50, .int .i64 2] 58])) := hide (((Blks.nil w3).more (.cells #[.int .i64 1, .int .i64 2, .int .i64 5, .slice oa 1 ca, .int .i64 1, .slice od 1 cd, .int .i64 1, .int .i64 90] 49) (by simp)).more (.cells #[.int .i64 1, .int .i64 1, .int .i64 5, .int .i64 50, .int .i64 2] 58) (by simp))
  have HTa := hide (fun W (h : Below w3.heap.size w3 W) => HT2.out W oa ca od cd (by obtain ⟨o, c, e, h'⟩ := HV3.out.1.below h; simp at e; obtain ⟨rfl, rfl⟩ := e; exact h'.1) (by obtain ⟨o, c, e, h'⟩ := HV3.out.2.below h; simp at e; obtain ⟨rfl, rfl⟩ := e; exact h'.1))
  have HSa := hide (fun W (h : Below w3.heap.size w3 W) => HS.out W oa ca od cd (by obtain ⟨o, c, e, h'⟩ := HV3.out.1.below h; simp at e; obtain ⟨rfl, rfl⟩ := e; exact h'.1) (by obtain ⟨o, c, e, h'⟩ := HV3.out.2.below h; simp at e; obtain ⟨rfl, rfl⟩ := e; exact h'.1))
  have HCa := hide (fun W (h : Below w3.heap.size w3 W) => HC.out W oa ca od cd (by obtain ⟨o, c, e, h'⟩ := HV3.out.1.below h; simp at e; obtain ⟨rfl, rfl⟩ := e; exact h'.1) (by obtain ⟨o, c, e, h'⟩ := HV3.out.2.below h; simp at e; obtain ⟨rfl, rfl⟩ := e; exact h'.1))
  clear HT2 HS HC HV3 HT1
  rename_i K0 hK0
  have key : ∀ (b4 b5 : Nat) (W : World), Hid (Blks w3 W ([] ++ [.cells #[.int .i64 1, .int .i64 2, .int .i64 5, .slice oa 1 ca, .int .i64 1, .slice od 1 cd, .int .i64 1, .int .i64 90] 49] ++ [.cells #[.int .i64 1, .int .i64 1, .int .i64 5, .int .i64 50, .int .i64 2] 58])) → K0 ⟨#[.bool false, .pointer (some ⟨w3.heap.size, 0, none⟩), .pointer (some ⟨w3.heap.size + 1, 0, none⟩), .int .i64 0, .pointer (some ⟨b4, 0, none⟩), .pointer (some ⟨b5, 0, none⟩), .int .i64 10, undef, undef, undef, undef, undef, undef, undef, undef, undef, .tuple #[gtV 1 2 5 oa 1 ca 1 od 1 cd 1 90, tp 1 1 5 50 2, .int .i64 0], gtV 1 2 4 none 0 0 1 (some ⟨b1, 0, none⟩) 1 1 2 90, tk 1 1 10 500 15 0, .tuple #[gtV 1 2 5 oa 1 ca 1 od 1 cd 1 90, tp 1 1 5 50 2, .int .i64 0], gtV 1 2 5 oa 1 ca 1 od 1 cd 1 90, tp 1 1 5 50 2, .int .i64 0, .tuple #[gtV 0 0 0 none 0 0 0 none 0 0 0 0, tp 0 0 0 0 0, .int .i64 10], gtV 1 2 5 oa 1 ca 1 od 1 cd 1 90, tk 1 1 10 500 15 0, .tuple #[gtV 0 0 0 none 0 0 0 none 0 0 0 0, tp 0 0 0 0 0, .int .i64 10], gtV 0 0 0 none 0 0 0 none 0 0 0 0, tp 0 0 0 0 0, .int .i64 10, undef, undef, undef, undef, undef, undef, undef, undef, undef, undef, undef, undef, undef, undef, undef, undef, undef, undef, undef, undef, undef, undef, undef, undef, undef, undef, undef, undef, undef, undef, undef, undef, undef, undef, undef, undef, undef, undef, undef, undef, undef, undef, undef, undef, undef, undef, undef, undef, undef, undef, undef, undef, undef, undef, undef, undef, undef, undef, undef, undef, undef, undef, undef, undef, undef, undef, undef, undef, undef, undef, undef, undef, undef, undef, undef, undef, undef, undef], []⟩ W := by
    intro b4 b5 w6 HG
    refine hK0 _ _ ?_
    go_wp2_with fail
    refine (post_any _).mono ?_
    rintro e w7 ⟨⟨b7, rfl, hI⟩, hb⟩
    have HGw7 := hide (HG.out.on hb)
    have HI7 := hide hI
    clear hI
    clear hb HG
    have lG_0 := HGw7.out.lt 0 w3.heap.size (by simp) rfl
    obtain ⟨cG_0_0, cG_0_1, cG_0_2, cG_0_3, cG_0_4, cG_0_5, cG_0_6, cG_0_7⟩ := HGw7.out.c8 0 w3.heap.size rfl rfl rfl rfl rfl rfl rfl rfl rfl rfl
    have lG_1 := HGw7.out.lt 1 (w3.heap.size + 1) (by simp) rfl
    obtain ⟨cG_1_0, cG_1_1, cG_1_2, cG_1_3, cG_1_4⟩ := HGw7.out.c5 1 (w3.heap.size + 1) rfl rfl rfl rfl rfl rfl rfl
    go_wp2_with fail
    refine (single_any 7 _).mono ?_
    rintro e w8 ⟨rfl, hb⟩
    have HGw8 := hide (HGw7.out.on hb)
    have HI8 := hide (HI7.out.below hb)
    clear HI7
    clear lG_0 cG_0_0 cG_0_1 cG_0_2 cG_0_3 cG_0_4 cG_0_5 cG_0_6 cG_0_7 lG_1 cG_1_0 cG_1_1 cG_1_2 cG_1_3 cG_1_4
    clear hb HGw7
    have lG_0 := HGw8.out.lt 0 w3.heap.size (by simp) rfl
    obtain ⟨cG_0_0, cG_0_1, cG_0_2, cG_0_3, cG_0_4, cG_0_5, cG_0_6, cG_0_7⟩ := HGw8.out.c8 0 w3.heap.size rfl rfl rfl rfl rfl rfl rfl rfl rfl rfl
    have lG_1 := HGw8.out.lt 1 (w3.heap.size + 1) (by simp) rfl
    obtain ⟨cG_1_0, cG_1_1, cG_1_2, cG_1_3, cG_1_4⟩ := HGw8.out.c5 1 (w3.heap.size + 1) rfl rfl rfl rfl rfl rfl rfl
    go_wp2_with fail
    refine (HT3.out _ _ _ HI8.out).mono ?_
    rintro e w9 ⟨rfl, hb⟩
    have HGw9 := hide (HGw8.out.on hb)
    clear HI8
    clear lG_0 cG_0_0 cG_0_1 cG_0_2 cG_0_3 cG_0_4 cG_0_5 cG_0_6 cG_0_7 lG_1 cG_1_0 cG_1_1 cG_1_2 cG_1_3 cG_1_4
    clear hb HGw8
    have lG_0 := HGw9.out.lt 0 w3.heap.size (by simp) rfl
    obtain ⟨cG_0_0, cG_0_1, cG_0_2, cG_0_3, cG_0_4, cG_0_5, cG_0_6, cG_0_7⟩ := HGw9.out.c8 0 w3.heap.size rfl rfl rfl rfl rfl rfl rfl rfl rfl rfl
    have lG_1 := HGw9.out.lt 1 (w3.heap.size + 1) (by simp) rfl
    obtain ⟨cG_1_0, cG_1_1, cG_1_2, cG_1_3, cG_1_4⟩ := HGw9.out.c5 1 (w3.heap.size + 1) rfl rfl rfl rfl rfl rfl rfl
    go_wp2_with fail
    have HA := hide (((Blks.nil w9).more (.cells #[.int .i64 0, .int .i64 0, .int .i64 0, .slice none 0 0, .int .i64 0, .slice none 0 0, .int .i64 0, .int .i64 0] 49) (by simp)).more (.cells #[.int .i64 0, .int .i64 0, .int .i64 0, .int .i64 0, .int .i64 0] 58) (by simp))
    refine (post_any _).mono ?_
    rintro e w10 ⟨⟨b10, rfl, hI⟩, hb⟩
    have HAw10 := hide (HA.out.on hb)
    have HGw10 := hide (HGw9.out.on HAw10.out.2.2)
    have HI10 := hide hI
    clear hI
    clear lG_0 cG_0_0 cG_0_1 cG_0_2 cG_0_3 cG_0_4 cG_0_5 cG_0_6 cG_0_7 lG_1 cG_1_0 cG_1_1 cG_1_2 cG_1_3 cG_1_4
    clear hb HGw9 HA
    have lG_0 := HGw10.out.lt 0 w3.heap.size (by simp) rfl
    obtain ⟨cG_0_0, cG_0_1, cG_0_2, cG_0_3, cG_0_4, cG_0_5, cG_0_6, cG_0_7⟩ := HGw10.out.c8 0 w3.heap.size rfl rfl rfl rfl rfl rfl rfl rfl rfl rfl
    have lG_1 := HGw10.out.lt 1 (w3.heap.size + 1) (by simp) rfl
    obtain ⟨cG_1_0, cG_1_1, cG_1_2, cG_1_3, cG_1_4⟩ := HGw10.out.c5 1 (w3.heap.size + 1) rfl rfl rfl rfl rfl rfl rfl
    go_wp2_with fail
    refine (single_any 1 _).mono ?_
    rintro e w11 ⟨rfl, hb⟩
    have HGw11 := hide (HGw10.out.on hb)
    have HAw11 := hide (HAw10.out.on hb)
    have HI11 := hide (HI10.out.below hb)
    clear HI10
    clear lG_0 cG_0_0 cG_0_1 cG_0_2 cG_0_3 cG_0_4 cG_0_5 cG_0_6 cG_0_7 lG_1 cG_1_0 cG_1_1 cG_1_2 cG_1_3 cG_1_4
    clear hb HGw10 HAw10
    have lG_0 := HGw11.out.lt 0 w3.heap.size (by simp) rfl
    obtain ⟨cG_0_0, cG_0_1, cG_0_2, cG_0_3, cG_0_4, cG_0_5, cG_0_6, cG_0_7⟩ := HGw11.out.c8 0 w3.heap.size rfl rfl rfl rfl rfl rfl rfl rfl rfl rfl
    have lG_1 := HGw11.out.lt 1 (w3.heap.size + 1) (by simp) rfl
    obtain ⟨cG_1_0, cG_1_1, cG_1_2, cG_1_3, cG_1_4⟩ := HGw11.out.c5 1 (w3.heap.size + 1) rfl rfl rfl rfl rfl rfl rfl
    go_wp2_with fail
    refine (HT4.out _ _ _ HI11.out).mono ?_
    rintro e w12 ⟨rfl, hb⟩
    have HGw12 := hide (HGw11.out.on hb)
    have HAw12 := hide (HAw11.out.on hb)
    clear HI11
    clear lG_0 cG_0_0 cG_0_1 cG_0_2 cG_0_3 cG_0_4 cG_0_5 cG_0_6 cG_0_7 lG_1 cG_1_0 cG_1_1 cG_1_2 cG_1_3 cG_1_4
    clear hb HGw11 HAw11
    have lG_0 := HGw12.out.lt 0 w3.heap.size (by simp) rfl
    obtain ⟨cG_0_0, cG_0_1, cG_0_2, cG_0_3, cG_0_4, cG_0_5, cG_0_6, cG_0_7⟩ := HGw12.out.c8 0 w3.heap.size rfl rfl rfl rfl rfl rfl rfl rfl rfl rfl
    have lG_1 := HGw12.out.lt 1 (w3.heap.size + 1) (by simp) rfl
    obtain ⟨cG_1_0, cG_1_1, cG_1_2, cG_1_3, cG_1_4⟩ := HGw12.out.c5 1 (w3.heap.size + 1) rfl rfl rfl rfl rfl rfl rfl
    go_wp2_with fail
    have HB := hide (((Blks.nil w12).more (.cells #[.int .i64 0, .int .i64 0, .int .i64 0, .slice none 0 0, .int .i64 0, .slice none 0 0, .int .i64 0, .int .i64 0] 49) (by simp)).more (.cells #[.int .i64 0, .int .i64 0, .int .i64 0, .int .i64 0, .int .i64 0] 58) (by simp))
    refine (HSa.out _ (HGw12.out.on HB.out.2.2).2.2).mono ?_
    rintro e w13 ⟨⟨on, cn, x, rfl, hI, -, ⟨ox, cx, rfl, hx⟩, -⟩, hb⟩
    have HBw13 := hide (HB.out.on hb)
    have HGw13 := hide (HGw12.out.on HBw13.out.2.2)
    have HAw13 := hide (HAw12.out.on HBw13.out.2.2)
    clear hI hx
    clear lG_0 cG_0_0 cG_0_1 cG_0_2 cG_0_3 cG_0_4 cG_0_5 cG_0_6 cG_0_7 lG_1 cG_1_0 cG_1_1 cG_1_2 cG_1_3 cG_1_4
    clear hb HGw12 HAw12 HB
    have lG_0 := HGw13.out.lt 0 w3.heap.size (by simp) rfl
    obtain ⟨cG_0_0, cG_0_1, cG_0_2, cG_0_3, cG_0_4, cG_0_5, cG_0_6, cG_0_7⟩ := HGw13.out.c8 0 w3.heap.size rfl rfl rfl rfl rfl rfl rfl rfl rfl rfl
    have lG_1 := HGw13.out.lt 1 (w3.heap.size + 1) (by simp) rfl
    obtain ⟨cG_1_0, cG_1_1, cG_1_2, cG_1_3, cG_1_4⟩ := HGw13.out.c5 1 (w3.heap.size + 1) rfl rfl rfl rfl rfl rfl rfl
    go_wp2_with fail
    have HC := hide ((Blks.nil w13).more (.cells #[.int .i64 1, .int .i64 2, .int .i64 5, .slice none 0 0, .int .i64 5, .slice on 0 cn, .int .i64 9, .int .i64 160] 49) (by simp))
    refine (HCa.out _ (HGw13.out.on HC.out.2.2).2.2).mono ?_
    rintro e w14 ⟨rfl, hb⟩
    have HCw14 := hide (HC.out.on hb)
    have HGw14 := hide (HGw13.out.on HCw14.out.2.2)
    have HAw14 := hide (HAw13.out.on HCw14.out.2.2)
    have HBw14 := hide (HBw13.out.on HCw14.out.2.2)
    clear lG_0 cG_0_0 cG_0_1 cG_0_2 cG_0_3 cG_0_4 cG_0_5 cG_0_6 cG_0_7 lG_1 cG_1_0 cG_1_1 cG_1_2 cG_1_3 cG_1_4
    clear hb HGw13 HAw13 HBw13 HC
    have lG_0 := HGw14.out.lt 0 w3.heap.size (by simp) rfl
    obtain ⟨cG_0_0, cG_0_1, cG_0_2, cG_0_3, cG_0_4, cG_0_5, cG_0_6, cG_0_7⟩ := HGw14.out.c8 0 w3.heap.size rfl rfl rfl rfl rfl rfl rfl rfl rfl rfl
    have lG_1 := HGw14.out.lt 1 (w3.heap.size + 1) (by simp) rfl
    obtain ⟨cG_1_0, cG_1_1, cG_1_2, cG_1_3, cG_1_4⟩ := HGw14.out.c5 1 (w3.heap.size + 1) rfl rfl rfl rfl rfl rfl rfl
    have lC_0 := HCw14.out.lt 0 w13.heap.size (by simp) rfl
    obtain ⟨cC_0_0, cC_0_1, cC_0_2, cC_0_3, cC_0_4, cC_0_5, cC_0_6, cC_0_7⟩ := HCw14.out.c8 0 w13.heap.size rfl rfl rfl rfl rfl rfl rfl rfl rfl rfl
    go_wp2_with fail
    go_ret
    exact ⟨rfl, HB3.out.trans ((HGw14.out.2.2).mono HB3.out.size)⟩
  clear hK0 HT3 HT4 HSa HCa HB3
  refine wp_region_reads (fun w' => Blks w3 w' ([] ++ [.cells #[.int .i64 1, .int .i64 2, .int .i64 5, .slice oa 1 ca, .int .i64 1, .slice od 1 cd, .int .i64 1, .int .i64 90] 49] ++ [.cells #[.int .i64 1, .int .i64 1, .int .i64 5, .int .i64 50, .int .i64 2] 58])) [0] 11 (by rfl) (by kernel_rfl) (by kernel_rfl) (by kernel_rfl) (fun c d v a w h => by cases d <;> exact h) ?_ ?_
  · exact HG.out.on (Below.refl _ _).drew
  refine wpPureH_step (gtV 1 2 5 oa 1 ca 1 od 1 cd 1 90) rfl rfl (fun w' hS => ?_) ?_
  · have k0 := hS.cell 0 0 w3.heap.size _ _ _ rfl rfl rfl
    have k1 := hS.cell 0 1 w3.heap.size _ _ _ rfl rfl rfl
    have k2 := hS.cell 0 2 w3.heap.size _ _ _ rfl rfl rfl
    have k3 := hS.cell 0 3 w3.heap.size _ _ _ rfl rfl rfl
    have k4 := hS.cell 0 4 w3.heap.size _ _ _ rfl rfl rfl
    have k5 := hS.cell 0 5 w3.heap.size _ _ _ rfl rfl rfl
    have k6 := hS.cell 0 6 w3.heap.size _ _ _ rfl rfl rfl
    have k7 := hS.cell 0 7 w3.heap.size _ _ _ rfl rfl rfl
    go_simp
  refine wpPureH_nil ?_
  have HGx : Hid (Blks w3 _ ([] ++ [.cells #[.int .i64 1, .int .i64 2, .int .i64 5, .slice oa 1 ca, .int .i64 1, .slice od 1 cd, .int .i64 1, .int .i64 90] 49] ++ [.cells #[.int .i64 1, .int .i64 1, .int .i64 5, .int .i64 50, .int .i64 2] 58])) := hide (HG.out.on (Below.refl _ _).drew)
  clear HG
  generalize World.drew _ = x at *
  refine three_readyH (i := 1) (j := 7) (k := 8) (by kernel_rfl) rfl rfl rfl rfl rfl rfl (fun K hK => ?_) (fun K hK => ?_) (fun K hK => ?_)
  · skip
    go_simp
    refine (single_any 1 _).mono ?_
    rintro e x1 ⟨rfl, hb⟩
    have HGx1 := hide (HGx.out.on hb)
    refine hK _ _ HGx1.out ?_
    clear hK K hb HGx
    refine three_readyH (i := 2) (j := 7) (k := 8) (by kernel_rfl) rfl rfl rfl rfl rfl rfl (fun K hK => ?_) (fun K hK => ?_) (fun K hK => ?_)
    · skip
      go_simp
      refine (HTa.out _ HGx1.out.2.2).mono ?_
      rintro e x2 ⟨rfl, hb⟩
      have HGx2 := hide (HGx1.out.on hb)
      refine hK _ _ HGx2.out ?_
      clear hK K hb HGx1
      refine takesH (fuel := 5) (by kernel_rfl) (fun c d v a w h => by cases d <;> exact h) HGx2.out [3, 4, 5, 6] _ _ (by kernel_rfl) ?_
      refine wpPureH_step (.tuple #[gtV 0 0 0 none 0 0 0 none 0 0 0 0, tp 0 0 0 0 0, .int .i64 10]) rfl rfl (fun w' hS => ?_) ?_
      · go_simp
      refine wpPureH_step (gtV 0 0 0 none 0 0 0 none 0 0 0 0) rfl rfl (fun w' hS => ?_) ?_
      · go_simp
      refine wpPureH_step (tp 0 0 0 0 0) rfl rfl (fun w' hS => ?_) ?_
      · go_simp
      refine wpPureH_step (.int .i64 10) rfl rfl (fun w' hS => ?_) ?_
      · go_simp
      refine wpPureH_nil ?_
      refine two_readyH (i := 7) (j := 8) (by kernel_rfl) rfl rfl rfl rfl (fun K hK => ?_) (fun K hK => ?_)
      · skip
        go_simp
        have HA3 := hide ((Blks.nil x2).more (.cells #[.int .i64 0, .int .i64 0, .int .i64 0, .slice none 0 0, .int .i64 0, .slice none 0 0, .int .i64 0, .int .i64 0] 49) (by simp))
        have HGx3 := hide (HGx2.out.on HA3.out.2.2)
        have hx7 := HGx2.out.2.1
        simp only [List.length_append, List.length_cons, List.length_nil] at hx7
        refine hK _ _ HGx3.out ?_
        clear hK K HGx2
        generalize x2.alloc (.cells #[.int .i64 0, .int .i64 0, .int .i64 0, .slice none 0 0, .int .i64 0, .slice none 0 0, .int .i64 0, .int .i64 0] 49) = x3 at *
        refine one_readyH (i := 8) (by kernel_rfl) rfl rfl (fun K hK => ?_)
        go_simp
        have HB4 := hide ((Blks.nil x3).more (.cells #[.int .i64 0, .int .i64 0, .int .i64 0, .int .i64 0, .int .i64 0] 58) (by simp))
        have HGx4 := hide (HGx3.out.on HB4.out.2.2)
        have hn45 := HA3.out.2.1
        simp only [List.length_append, List.length_cons, List.length_nil] at hn45
        have HA4 := hide (HA3.out.on HB4.out.2.2)
        have hx8 := HGx3.out.2.1
        simp only [List.length_append, List.length_cons, List.length_nil] at hx8
        refine hK _ _ HGx4.out ?_
        clear hK K HGx3 HA3
        generalize x3.alloc (.cells #[.int .i64 0, .int .i64 0, .int .i64 0, .int .i64 0, .int .i64 0] 58) = x4 at *
        obtain ⟨r0, r1, r2, r3, r4, r5, r6, r7⟩ := HA4.out.c8 0 x2.heap.size rfl rfl rfl rfl rfl rfl rfl rfl rfl rfl
        obtain ⟨f0, f1, f2, f3, f4, f5, f6, f7⟩ := HA4.out.z8 0 x2.heap.size rfl rfl
        obtain ⟨s0, s1, s2, s3, s4⟩ := HB4.out.c5 0 x3.heap.size rfl rfl rfl rfl rfl rfl rfl
        obtain ⟨g0, g1, g2, g3, g4⟩ := HB4.out.z5 0 x3.heap.size rfl rfl
        have hn : x2.heap.size ≠ x3.heap.size := by
          omega
        have hn' : x3.heap.size ≠ x2.heap.size := fun h => hn h.symm
        refine one_readyH (i := 9) (by kernel_rfl) rfl rfl (fun K hK => ?_)
        go_simp
        refine hK _ _ ?_ ?_
        · repeat (first | with_reducible exact HGx4.out | with_reducible refine Blks.set ?_ _ (by simp; omega) _)
        clear hK K
        refine one_readyH (i := 10) (by kernel_rfl) rfl rfl (fun K hK => ?_)
        go_simp
        have HGz : Hid (Blks w3 (((((((((((((x4.setCell ⟨x2.heap.size, 0, none⟩ (.int .i64 0)).setCell ⟨x2.heap.size, 1, none⟩ (.int .i64 0)).setCell ⟨x2.heap.size, 2, none⟩ (.int .i64 0)).setCell ⟨x2.heap.size, 3, none⟩ (.slice none 0 0)).setCell ⟨x2.heap.size, 4, none⟩ (.int .i64 0)).setCell ⟨x2.heap.size, 5, none⟩ (.slice none 0 0)).setCell ⟨x2.heap.size, 6, none⟩ (.int .i64 0)).setCell ⟨x2.heap.size, 7, none⟩ (.int .i64 0)).setCell ⟨x3.heap.size, 0, none⟩ (.int .i64 0)).setCell ⟨x3.heap.size, 1, none⟩ (.int .i64 0)).setCell ⟨x3.heap.size, 2, none⟩ (.int .i64 0)).setCell ⟨x3.heap.size, 3, none⟩ (.int .i64 0)).setCell ⟨x3.heap.size, 4, none⟩ (.int .i64 0)) ([] ++ [.cells #[.int .i64 1, .int .i64 2, .int .i64 5, .slice oa 1 ca, .int .i64 1, .slice od 1 cd, .int .i64 1, .int .i64 90] 49] ++ [.cells #[.int .i64 1, .int .i64 1, .int .i64 5, .int .i64 50, .int .i64 2] 58])) := by
          refine hide ?_
          repeat (first | with_reducible exact HGx4.out | with_reducible refine Blks.set ?_ _ (by simp; omega) _)
        refine hK _ _ HGz.out ?_
        clear hK K
        refine one_readyH (i := 11) (by kernel_rfl) rfl rfl (fun K hK => ?_)
        go_simp
        refine hK _ _ HGz.out ?_
        clear hK K
        refine wpAnyH_done (by kernel_rfl) ?_ _
        exact key _ _ _ HGz
      · skip
        go_simp
        have HB5 := hide ((Blks.nil x2).more (.cells #[.int .i64 0, .int .i64 0, .int .i64 0, .int .i64 0, .int .i64 0] 58) (by simp))
        have HGx5 := hide (HGx2.out.on HB5.out.2.2)
        have hx8 := HGx2.out.2.1
        simp only [List.length_append, List.length_cons, List.length_nil] at hx8
        refine hK _ _ HGx5.out ?_
        clear hK K HGx2
        generalize x2.alloc (.cells #[.int .i64 0, .int .i64 0, .int .i64 0, .int .i64 0, .int .i64 0] 58) = x5 at *
        refine one_readyH (i := 7) (by kernel_rfl) rfl rfl (fun K hK => ?_)
        go_simp
        have HA6 := hide ((Blks.nil x5).more (.cells #[.int .i64 0, .int .i64 0, .int .i64 0, .slice none 0 0, .int .i64 0, .slice none 0 0, .int .i64 0, .int .i64 0] 49) (by simp))
        have HGx6 := hide (HGx5.out.on HA6.out.2.2)
        have hn45 := HB5.out.2.1
        simp only [List.length_append, List.length_cons, List.length_nil] at hn45
        have HB6 := hide (HB5.out.on HA6.out.2.2)
        have hx7 := HGx5.out.2.1
        simp only [List.length_append, List.length_cons, List.length_nil] at hx7
        refine hK _ _ HGx6.out ?_
        clear hK K HGx5 HB5
        generalize x5.alloc (.cells #[.int .i64 0, .int .i64 0, .int .i64 0, .slice none 0 0, .int .i64 0, .slice none 0 0, .int .i64 0, .int .i64 0] 49) = x6 at *
        obtain ⟨r0, r1, r2, r3, r4, r5, r6, r7⟩ := HA6.out.c8 0 x5.heap.size rfl rfl rfl rfl rfl rfl rfl rfl rfl rfl
        obtain ⟨f0, f1, f2, f3, f4, f5, f6, f7⟩ := HA6.out.z8 0 x5.heap.size rfl rfl
        obtain ⟨s0, s1, s2, s3, s4⟩ := HB6.out.c5 0 x2.heap.size rfl rfl rfl rfl rfl rfl rfl
        obtain ⟨g0, g1, g2, g3, g4⟩ := HB6.out.z5 0 x2.heap.size rfl rfl
        have hn : x5.heap.size ≠ x2.heap.size := by
          omega
        have hn' : x2.heap.size ≠ x5.heap.size := fun h => hn h.symm
        refine one_readyH (i := 9) (by kernel_rfl) rfl rfl (fun K hK => ?_)
        go_simp
        refine hK _ _ ?_ ?_
        · repeat (first | with_reducible exact HGx6.out | with_reducible refine Blks.set ?_ _ (by simp; omega) _)
        clear hK K
        refine one_readyH (i := 10) (by kernel_rfl) rfl rfl (fun K hK => ?_)
        go_simp
        have HGz : Hid (Blks w3 (((((((((((((x6.setCell ⟨x5.heap.size, 0, none⟩ (.int .i64 0)).setCell ⟨x5.heap.size, 1, none⟩ (.int .i64 0)).setCell ⟨x5.heap.size, 2, none⟩ (.int .i64 0)).setCell ⟨x5.heap.size, 3, none⟩ (.slice none 0 0)).setCell ⟨x5.heap.size, 4, none⟩ (.int .i64 0)).setCell ⟨x5.heap.size, 5, none⟩ (.slice none 0 0)).setCell ⟨x5.heap.size, 6, none⟩ (.int .i64 0)).setCell ⟨x5.heap.size, 7, none⟩ (.int .i64 0)).setCell ⟨x2.heap.size, 0, none⟩ (.int .i64 0)).setCell ⟨x2.heap.size, 1, none⟩ (.int .i64 0)).setCell ⟨x2.heap.size, 2, none⟩ (.int .i64 0)).setCell ⟨x2.heap.size, 3, none⟩ (.int .i64 0)).setCell ⟨x2.heap.size, 4, none⟩ (.int .i64 0)) ([] ++ [.cells #[.int .i64 1, .int .i64 2, .int .i64 5, .slice oa 1 ca, .int .i64 1, .slice od 1 cd, .int .i64 1, .int .i64 90] 49] ++ [.cells #[.int .i64 1, .int .i64 1, .int .i64 5, .int .i64 50, .int .i64 2] 58])) := by
          refine hide ?_
          repeat (first | with_reducible exact HGx6.out | with_reducible refine Blks.set ?_ _ (by simp; omega) _)
        refine hK _ _ HGz.out ?_
        clear hK K
        refine one_readyH (i := 11) (by kernel_rfl) rfl rfl (fun K hK => ?_)
        go_simp
        refine hK _ _ HGz.out ?_
        clear hK K
        refine wpAnyH_done (by kernel_rfl) ?_ _
        exact key _ _ _ HGz
    · skip
      go_simp
      have HA7 := hide ((Blks.nil x1).more (.cells #[.int .i64 0, .int .i64 0, .int .i64 0, .slice none 0 0, .int .i64 0, .slice none 0 0, .int .i64 0, .int .i64 0] 49) (by simp))
      have HGx7 := hide (HGx1.out.on HA7.out.2.2)
      have hx7 := HGx1.out.2.1
      simp only [List.length_append, List.length_cons, List.length_nil] at hx7
      refine hK _ _ HGx7.out ?_
      clear hK K HGx1
      generalize x1.alloc (.cells #[.int .i64 0, .int .i64 0, .int .i64 0, .slice none 0 0, .int .i64 0, .slice none 0 0, .int .i64 0, .int .i64 0] 49) = x7 at *
      refine two_readyH (i := 2) (j := 8) (by kernel_rfl) rfl rfl rfl rfl (fun K hK => ?_) (fun K hK => ?_)
      · skip
        go_simp
        refine (HTa.out _ HGx7.out.2.2).mono ?_
        rintro e x8 ⟨rfl, hb⟩
        have HGx8 := hide (HGx7.out.on hb)
        have HA8 := hide (HA7.out.on hb)
        refine hK _ _ HGx8.out ?_
        clear hK K hb HGx7 HA7
        refine takesH (fuel := 4) (by kernel_rfl) (fun c d v a w h => by cases d <;> exact h) HGx8.out [3, 4, 5, 6] _ _ (by kernel_rfl) ?_
        refine wpPureH_step (.tuple #[gtV 0 0 0 none 0 0 0 none 0 0 0 0, tp 0 0 0 0 0, .int .i64 10]) rfl rfl (fun w' hS => ?_) ?_
        · go_simp
        refine wpPureH_step (gtV 0 0 0 none 0 0 0 none 0 0 0 0) rfl rfl (fun w' hS => ?_) ?_
        · go_simp
        refine wpPureH_step (tp 0 0 0 0 0) rfl rfl (fun w' hS => ?_) ?_
        · go_simp
        refine wpPureH_step (.int .i64 10) rfl rfl (fun w' hS => ?_) ?_
        · go_simp
        refine wpPureH_nil ?_
        refine one_readyH (i := 8) (by kernel_rfl) rfl rfl (fun K hK => ?_)
        go_simp
        have HB9 := hide ((Blks.nil x8).more (.cells #[.int .i64 0, .int .i64 0, .int .i64 0, .int .i64 0, .int .i64 0] 58) (by simp))
        have HGx9 := hide (HGx8.out.on HB9.out.2.2)
        have hn45 := HA8.out.2.1
        simp only [List.length_append, List.length_cons, List.length_nil] at hn45
        have HA9 := hide (HA8.out.on HB9.out.2.2)
        have hx8 := HGx8.out.2.1
        simp only [List.length_append, List.length_cons, List.length_nil] at hx8
        refine hK _ _ HGx9.out ?_
        clear hK K HGx8 HA8
        generalize x8.alloc (.cells #[.int .i64 0, .int .i64 0, .int .i64 0, .int .i64 0, .int .i64 0] 58) = x9 at *
        obtain ⟨r0, r1, r2, r3, r4, r5, r6, r7⟩ := HA9.out.c8 0 x1.heap.size rfl rfl rfl rfl rfl rfl rfl rfl rfl rfl
        obtain ⟨f0, f1, f2, f3, f4, f5, f6, f7⟩ := HA9.out.z8 0 x1.heap.size rfl rfl
        obtain ⟨s0, s1, s2, s3, s4⟩ := HB9.out.c5 0 x8.heap.size rfl rfl rfl rfl rfl rfl rfl
        obtain ⟨g0, g1, g2, g3, g4⟩ := HB9.out.z5 0 x8.heap.size rfl rfl
        have hn : x1.heap.size ≠ x8.heap.size := by
          omega
        have hn' : x8.heap.size ≠ x1.heap.size := fun h => hn h.symm
        refine one_readyH (i := 9) (by kernel_rfl) rfl rfl (fun K hK => ?_)
        go_simp
        refine hK _ _ ?_ ?_
        · repeat (first | with_reducible exact HGx9.out | with_reducible refine Blks.set ?_ _ (by simp; omega) _)
        clear hK K
        refine one_readyH (i := 10) (by kernel_rfl) rfl rfl (fun K hK => ?_)
        go_simp
        have HGz : Hid (Blks w3 (((((((((((((x9.setCell ⟨x1.heap.size, 0, none⟩ (.int .i64 0)).setCell ⟨x1.heap.size, 1, none⟩ (.int .i64 0)).setCell ⟨x1.heap.size, 2, none⟩ (.int .i64 0)).setCell ⟨x1.heap.size, 3, none⟩ (.slice none 0 0)).setCell ⟨x1.heap.size, 4, none⟩ (.int .i64 0)).setCell ⟨x1.heap.size, 5, none⟩ (.slice none 0 0)).setCell ⟨x1.heap.size, 6, none⟩ (.int .i64 0)).setCell ⟨x1.heap.size, 7, none⟩ (.int .i64 0)).setCell ⟨x8.heap.size, 0, none⟩ (.int .i64 0)).setCell ⟨x8.heap.size, 1, none⟩ (.int .i64 0)).setCell ⟨x8.heap.size, 2, none⟩ (.int .i64 0)).setCell ⟨x8.heap.size, 3, none⟩ (.int .i64 0)).setCell ⟨x8.heap.size, 4, none⟩ (.int .i64 0)) ([] ++ [.cells #[.int .i64 1, .int .i64 2, .int .i64 5, .slice oa 1 ca, .int .i64 1, .slice od 1 cd, .int .i64 1, .int .i64 90] 49] ++ [.cells #[.int .i64 1, .int .i64 1, .int .i64 5, .int .i64 50, .int .i64 2] 58])) := by
          refine hide ?_
          repeat (first | with_reducible exact HGx9.out | with_reducible refine Blks.set ?_ _ (by simp; omega) _)
        refine hK _ _ HGz.out ?_
        clear hK K
        refine one_readyH (i := 11) (by kernel_rfl) rfl rfl (fun K hK => ?_)
        go_simp
        refine hK _ _ HGz.out ?_
        clear hK K
        refine wpAnyH_done (by kernel_rfl) ?_ _
        exact key _ _ _ HGz
      · skip
        go_simp
        have HB10 := hide ((Blks.nil x7).more (.cells #[.int .i64 0, .int .i64 0, .int .i64 0, .int .i64 0, .int .i64 0] 58) (by simp))
        have HGx10 := hide (HGx7.out.on HB10.out.2.2)
        have hn45 := HA7.out.2.1
        simp only [List.length_append, List.length_cons, List.length_nil] at hn45
        have HA10 := hide (HA7.out.on HB10.out.2.2)
        have hx8 := HGx7.out.2.1
        simp only [List.length_append, List.length_cons, List.length_nil] at hx8
        refine hK _ _ HGx10.out ?_
        clear hK K HGx7 HA7
        generalize x7.alloc (.cells #[.int .i64 0, .int .i64 0, .int .i64 0, .int .i64 0, .int .i64 0] 58) = x10 at *
        refine one_readyH (i := 2) (by kernel_rfl) rfl rfl (fun K hK => ?_)
        go_simp
        refine (HTa.out _ HGx10.out.2.2).mono ?_
        rintro e x11 ⟨rfl, hb⟩
        have HGx11 := hide (HGx10.out.on hb)
        have HA11 := hide (HA10.out.on hb)
        have HB11 := hide (HB10.out.on hb)
        refine hK _ _ HGx11.out ?_
        clear hK K hb HGx10 HA10 HB10
        refine takesH (fuel := 3) (by kernel_rfl) (fun c d v a w h => by cases d <;> exact h) HGx11.out [3, 4, 5, 6] _ _ (by kernel_rfl) ?_
        refine wpPureH_step (.tuple #[gtV 0 0 0 none 0 0 0 none 0 0 0 0, tp 0 0 0 0 0, .int .i64 10]) rfl rfl (fun w' hS => ?_) ?_
        · go_simp
        refine wpPureH_step (gtV 0 0 0 none 0 0 0 none 0 0 0 0) rfl rfl (fun w' hS => ?_) ?_
        · go_simp
        refine wpPureH_step (tp 0 0 0 0 0) rfl rfl (fun w' hS => ?_) ?_
        · go_simp
        refine wpPureH_step (.int .i64 10) rfl rfl (fun w' hS => ?_) ?_
        · go_simp
        refine wpPureH_nil ?_
        obtain ⟨r0, r1, r2, r3, r4, r5, r6, r7⟩ := HA11.out.c8 0 x1.heap.size rfl rfl rfl rfl rfl rfl rfl rfl rfl rfl
        obtain ⟨f0, f1, f2, f3, f4, f5, f6, f7⟩ := HA11.out.z8 0 x1.heap.size rfl rfl
        obtain ⟨s0, s1, s2, s3, s4⟩ := HB11.out.c5 0 x7.heap.size rfl rfl rfl rfl rfl rfl rfl
        obtain ⟨g0, g1, g2, g3, g4⟩ := HB11.out.z5 0 x7.heap.size rfl rfl
        have hn : x1.heap.size ≠ x7.heap.size := by
          omega
        have hn' : x7.heap.size ≠ x1.heap.size := fun h => hn h.symm
        refine one_readyH (i := 9) (by kernel_rfl) rfl rfl (fun K hK => ?_)
        go_simp
        refine hK _ _ ?_ ?_
        · repeat (first | with_reducible exact HGx11.out | with_reducible refine Blks.set ?_ _ (by simp; omega) _)
        clear hK K
        refine one_readyH (i := 10) (by kernel_rfl) rfl rfl (fun K hK => ?_)
        go_simp
        have HGz : Hid (Blks w3 (((((((((((((x11.setCell ⟨x1.heap.size, 0, none⟩ (.int .i64 0)).setCell ⟨x1.heap.size, 1, none⟩ (.int .i64 0)).setCell ⟨x1.heap.size, 2, none⟩ (.int .i64 0)).setCell ⟨x1.heap.size, 3, none⟩ (.slice none 0 0)).setCell ⟨x1.heap.size, 4, none⟩ (.int .i64 0)).setCell ⟨x1.heap.size, 5, none⟩ (.slice none 0 0)).setCell ⟨x1.heap.size, 6, none⟩ (.int .i64 0)).setCell ⟨x1.heap.size, 7, none⟩ (.int .i64 0)).setCell ⟨x7.heap.size, 0, none⟩ (.int .i64 0)).setCell ⟨x7.heap.size, 1, none⟩ (.int .i64 0)).setCell ⟨x7.heap.size, 2, none⟩ (.int .i64 0)).setCell ⟨x7.heap.size, 3, none⟩ (.int .i64 0)).setCell ⟨x7.heap.size, 4, none⟩ (.int .i64 0)) ([] ++ [.cells #[.int .i64 1, .int .i64 2, .int .i64 5, .slice oa 1 ca, .int .i64 1, .slice od 1 cd, .int .i64 1, .int .i64 90] 49] ++ [.cells #[.int .i64 1, .int .i64 1, .int .i64 5, .int .i64 50, .int .i64 2] 58])) := by
          refine hide ?_
          repeat (first | with_reducible exact HGx11.out | with_reducible refine Blks.set ?_ _ (by simp; omega) _)
        refine hK _ _ HGz.out ?_
        clear hK K
        refine one_readyH (i := 11) (by kernel_rfl) rfl rfl (fun K hK => ?_)
        go_simp
        refine hK _ _ HGz.out ?_
        clear hK K
        refine wpAnyH_done (by kernel_rfl) ?_ _
        exact key _ _ _ HGz
    · skip
      go_simp
      have HB12 := hide ((Blks.nil x1).more (.cells #[.int .i64 0, .int .i64 0, .int .i64 0, .int .i64 0, .int .i64 0] 58) (by simp))
      have HGx12 := hide (HGx1.out.on HB12.out.2.2)
      have hx8 := HGx1.out.2.1
      simp only [List.length_append, List.length_cons, List.length_nil] at hx8
      refine hK _ _ HGx12.out ?_
      clear hK K HGx1
      generalize x1.alloc (.cells #[.int .i64 0, .int .i64 0, .int .i64 0, .int .i64 0, .int .i64 0] 58) = x12 at *
      refine two_readyH (i := 2) (j := 7) (by kernel_rfl) rfl rfl rfl rfl (fun K hK => ?_) (fun K hK => ?_)
      · skip
        go_simp
        refine (HTa.out _ HGx12.out.2.2).mono ?_
        rintro e x13 ⟨rfl, hb⟩
        have HGx13 := hide (HGx12.out.on hb)
        have HB13 := hide (HB12.out.on hb)
        refine hK _ _ HGx13.out ?_
        clear hK K hb HGx12 HB12
        refine takesH (fuel := 4) (by kernel_rfl) (fun c d v a w h => by cases d <;> exact h) HGx13.out [3, 4, 5, 6] _ _ (by kernel_rfl) ?_
        refine wpPureH_step (.tuple #[gtV 0 0 0 none 0 0 0 none 0 0 0 0, tp 0 0 0 0 0, .int .i64 10]) rfl rfl (fun w' hS => ?_) ?_
        · go_simp
        refine wpPureH_step (gtV 0 0 0 none 0 0 0 none 0 0 0 0) rfl rfl (fun w' hS => ?_) ?_
        · go_simp
        refine wpPureH_step (tp 0 0 0 0 0) rfl rfl (fun w' hS => ?_) ?_
        · go_simp
        refine wpPureH_step (.int .i64 10) rfl rfl (fun w' hS => ?_) ?_
        · go_simp
        refine wpPureH_nil ?_
        refine one_readyH (i := 7) (by kernel_rfl) rfl rfl (fun K hK => ?_)
        go_simp
        have HA14 := hide ((Blks.nil x13).more (.cells #[.int .i64 0, .int .i64 0, .int .i64 0, .slice none 0 0, .int .i64 0, .slice none 0 0, .int .i64 0, .int .i64 0] 49) (by simp))
        have HGx14 := hide (HGx13.out.on HA14.out.2.2)
        have hn45 := HB13.out.2.1
        simp only [List.length_append, List.length_cons, List.length_nil] at hn45
        have HB14 := hide (HB13.out.on HA14.out.2.2)
        have hx7 := HGx13.out.2.1
        simp only [List.length_append, List.length_cons, List.length_nil] at hx7
        refine hK _ _ HGx14.out ?_
        clear hK K HGx13 HB13
        generalize x13.alloc (.cells #[.int .i64 0, .int .i64 0, .int .i64 0, .slice none 0 0, .int .i64 0, .slice none 0 0, .int .i64 0, .int .i64 0] 49) = x14 at *
        obtain ⟨r0, r1, r2, r3, r4, r5, r6, r7⟩ := HA14.out.c8 0 x13.heap.size rfl rfl rfl rfl rfl rfl rfl rfl rfl rfl
        obtain ⟨f0, f1, f2, f3, f4, f5, f6, f7⟩ := HA14.out.z8 0 x13.heap.size rfl rfl
        obtain ⟨s0, s1, s2, s3, s4⟩ := HB14.out.c5 0 x1.heap.size rfl rfl rfl rfl rfl rfl rfl
        obtain ⟨g0, g1, g2, g3, g4⟩ := HB14.out.z5 0 x1.heap.size rfl rfl
        have hn : x13.heap.size ≠ x1.heap.size := by
          omega
        have hn' : x1.heap.size ≠ x13.heap.size := fun h => hn h.symm
        refine one_readyH (i := 9) (by kernel_rfl) rfl rfl (fun K hK => ?_)
        go_simp
        refine hK _ _ ?_ ?_
        · repeat (first | with_reducible exact HGx14.out | with_reducible refine Blks.set ?_ _ (by simp; omega) _)
        clear hK K
        refine one_readyH (i := 10) (by kernel_rfl) rfl rfl (fun K hK => ?_)
        go_simp
        have HGz : Hid (Blks w3 (((((((((((((x14.setCell ⟨x13.heap.size, 0, none⟩ (.int .i64 0)).setCell ⟨x13.heap.size, 1, none⟩ (.int .i64 0)).setCell ⟨x13.heap.size, 2, none⟩ (.int .i64 0)).setCell ⟨x13.heap.size, 3, none⟩ (.slice none 0 0)).setCell ⟨x13.heap.size, 4, none⟩ (.int .i64 0)).setCell ⟨x13.heap.size, 5, none⟩ (.slice none 0 0)).setCell ⟨x13.heap.size, 6, none⟩ (.int .i64 0)).setCell ⟨x13.heap.size, 7, none⟩ (.int .i64 0)).setCell ⟨x1.heap.size, 0, none⟩ (.int .i64 0)).setCell ⟨x1.heap.size, 1, none⟩ (.int .i64 0)).setCell ⟨x1.heap.size, 2, none⟩ (.int .i64 0)).setCell ⟨x1.heap.size, 3, none⟩ (.int .i64 0)).setCell ⟨x1.heap.size, 4, none⟩ (.int .i64 0)) ([] ++ [.cells #[.int .i64 1, .int .i64 2, .int .i64 5, .slice oa 1 ca, .int .i64 1, .slice od 1 cd, .int .i64 1, .int .i64 90] 49] ++ [.cells #[.int .i64 1, .int .i64 1, .int .i64 5, .int .i64 50, .int .i64 2] 58])) := by
          refine hide ?_
          repeat (first | with_reducible exact HGx14.out | with_reducible refine Blks.set ?_ _ (by simp; omega) _)
        refine hK _ _ HGz.out ?_
        clear hK K
        refine one_readyH (i := 11) (by kernel_rfl) rfl rfl (fun K hK => ?_)
        go_simp
        refine hK _ _ HGz.out ?_
        clear hK K
        refine wpAnyH_done (by kernel_rfl) ?_ _
        exact key _ _ _ HGz
      · skip
        go_simp
        have HA15 := hide ((Blks.nil x12).more (.cells #[.int .i64 0, .int .i64 0, .int .i64 0, .slice none 0 0, .int .i64 0, .slice none 0 0, .int .i64 0, .int .i64 0] 49) (by simp))
        have HGx15 := hide (HGx12.out.on HA15.out.2.2)
        have hn45 := HB12.out.2.1
        simp only [List.length_append, List.length_cons, List.length_nil] at hn45
        have HB15 := hide (HB12.out.on HA15.out.2.2)
        have hx7 := HGx12.out.2.1
        simp only [List.length_append, List.length_cons, List.length_nil] at hx7
        refine hK _ _ HGx15.out ?_
        clear hK K HGx12 HB12
        generalize x12.alloc (.cells #[.int .i64 0, .int .i64 0, .int .i64 0, .slice none 0 0, .int .i64 0, .slice none 0 0, .int .i64 0, .int .i64 0] 49) = x15 at *
        refine one_readyH (i := 2) (by kernel_rfl) rfl rfl (fun K hK => ?_)
        go_simp
        refine (HTa.out _ HGx15.out.2.2).mono ?_
        rintro e x16 ⟨rfl, hb⟩
        have HGx16 := hide (HGx15.out.on hb)
        have HA16 := hide (HA15.out.on hb)
        have HB16 := hide (HB15.out.on hb)
        refine hK _ _ HGx16.out ?_
        clear hK K hb HGx15 HA15 HB15
        refine takesH (fuel := 3) (by kernel_rfl) (fun c d v a w h => by cases d <;> exact h) HGx16.out [3, 4, 5, 6] _ _ (by kernel_rfl) ?_
        refine wpPureH_step (.tuple #[gtV 0 0 0 none 0 0 0 none 0 0 0 0, tp 0 0 0 0 0, .int .i64 10]) rfl rfl (fun w' hS => ?_) ?_
        · go_simp
        refine wpPureH_step (gtV 0 0 0 none 0 0 0 none 0 0 0 0) rfl rfl (fun w' hS => ?_) ?_
        · go_simp
        refine wpPureH_step (tp 0 0 0 0 0) rfl rfl (fun w' hS => ?_) ?_
        · go_simp
        refine wpPureH_step (.int .i64 10) rfl rfl (fun w' hS => ?_) ?_
        · go_simp
        refine wpPureH_nil ?_
        obtain ⟨r0, r1, r2, r3, r4, r5, r6, r7⟩ := HA16.out.c8 0 x12.heap.size rfl rfl rfl rfl rfl rfl rfl rfl rfl rfl
        obtain ⟨f0, f1, f2, f3, f4, f5, f6, f7⟩ := HA16.out.z8 0 x12.heap.size rfl rfl
        obtain ⟨s0, s1, s2, s3, s4⟩ := HB16.out.c5 0 x1.heap.size rfl rfl rfl rfl rfl rfl rfl
        obtain ⟨g0, g1, g2, g3, g4⟩ := HB16.out.z5 0 x1.heap.size rfl rfl
        have hn : x12.heap.size ≠ x1.heap.size := by
          omega
        have hn' : x1.heap.size ≠ x12.heap.size := fun h => hn h.symm
        refine one_readyH (i := 9) (by kernel_rfl) rfl rfl (fun K hK => ?_)
        go_simp
        refine hK _ _ ?_ ?_
        · repeat (first | with_reducible exact HGx16.out | with_reducible refine Blks.set ?_ _ (by simp; omega) _)
        clear hK K
        refine one_readyH (i := 10) (by kernel_rfl) rfl rfl (fun K hK => ?_)
        go_simp
        have HGz : Hid (Blks w3 (((((((((((((x16.setCell ⟨x12.heap.size, 0, none⟩ (.int .i64 0)).setCell ⟨x12.heap.size, 1, none⟩ (.int .i64 0)).setCell ⟨x12.heap.size, 2, none⟩ (.int .i64 0)).setCell ⟨x12.heap.size, 3, none⟩ (.slice none 0 0)).setCell ⟨x12.heap.size, 4, none⟩ (.int .i64 0)).setCell ⟨x12.heap.size, 5, none⟩ (.slice none 0 0)).setCell ⟨x12.heap.size, 6, none⟩ (.int .i64 0)).setCell ⟨x12.heap.size, 7, none⟩ (.int .i64 0)).setCell ⟨x1.heap.size, 0, none⟩ (.int .i64 0)).setCell ⟨x1.heap.size, 1, none⟩ (.int .i64 0)).setCell ⟨x1.heap.size, 2, none⟩ (.int .i64 0)).setCell ⟨x1.heap.size, 3, none⟩ (.int .i64 0)).setCell ⟨x1.heap.size, 4, none⟩ (.int .i64 0)) ([] ++ [.cells #[.int .i64 1, .int .i64 2, .int .i64 5, .slice oa 1 ca, .int .i64 1, .slice od 1 cd, .int .i64 1, .int .i64 90] 49] ++ [.cells #[.int .i64 1, .int .i64 1, .int .i64 5, .int .i64 50, .int .i64 2] 58])) := by
          refine hide ?_
          repeat (first | with_reducible exact HGx16.out | with_reducible refine Blks.set ?_ _ (by simp; omega) _)
        refine hK _ _ HGz.out ?_
        clear hK K
        refine one_readyH (i := 11) (by kernel_rfl) rfl rfl (fun K hK => ?_)
        go_simp
        refine hK _ _ HGz.out ?_
        clear hK K
        refine wpAnyH_done (by kernel_rfl) ?_ _
        exact key _ _ _ HGz
  · skip
    go_simp
    have HA17 := hide ((Blks.nil x).more (.cells #[.int .i64 0, .int .i64 0, .int .i64 0, .slice none 0 0, .int .i64 0, .slice none 0 0, .int .i64 0, .int .i64 0] 49) (by simp))
    have HGx17 := hide (HGx.out.on HA17.out.2.2)
    have hx7 := HGx.out.2.1
    simp only [List.length_append, List.length_cons, List.length_nil] at hx7
    refine hK _ _ HGx17.out ?_
    clear hK K HGx
    generalize x.alloc (.cells #[.int .i64 0, .int .i64 0, .int .i64 0, .slice none 0 0, .int .i64 0, .slice none 0 0, .int .i64 0, .int .i64 0] 49) = x17 at *
    refine two_readyH (i := 1) (j := 8) (by kernel_rfl) rfl rfl rfl rfl (fun K hK => ?_) (fun K hK => ?_)
    · skip
      go_simp
      refine (single_any 1 _).mono ?_
      rintro e x18 ⟨rfl, hb⟩
      have HGx18 := hide (HGx17.out.on hb)
      have HA18 := hide (HA17.out.on hb)
      refine hK _ _ HGx18.out ?_
      clear hK K hb HGx17 HA17
      refine two_readyH (i := 2) (j := 8) (by kernel_rfl) rfl rfl rfl rfl (fun K hK => ?_) (fun K hK => ?_)
      · skip
        go_simp
        refine (HTa.out _ HGx18.out.2.2).mono ?_
        rintro e x19 ⟨rfl, hb⟩
        have HGx19 := hide (HGx18.out.on hb)
        have HA19 := hide (HA18.out.on hb)
        refine hK _ _ HGx19.out ?_
        clear hK K hb HGx18 HA18
        refine takesH (fuel := 4) (by kernel_rfl) (fun c d v a w h => by cases d <;> exact h) HGx19.out [3, 4, 5, 6] _ _ (by kernel_rfl) ?_
        refine wpPureH_step (.tuple #[gtV 0 0 0 none 0 0 0 none 0 0 0 0, tp 0 0 0 0 0, .int .i64 10]) rfl rfl (fun w' hS => ?_) ?_
        · go_simp
        refine wpPureH_step (gtV 0 0 0 none 0 0 0 none 0 0 0 0) rfl rfl (fun w' hS => ?_) ?_
        · go_simp
        refine wpPureH_step (tp 0 0 0 0 0) rfl rfl (fun w' hS => ?_) ?_
        · go_simp
        refine wpPureH_step (.int .i64 10) rfl rfl (fun w' hS => ?_) ?_
        · go_simp
        refine wpPureH_nil ?_
        refine one_readyH (i := 8) (by kernel_rfl) rfl rfl (fun K hK => ?_)
        go_simp
        have HB20 := hide ((Blks.nil x19).more (.cells #[.int .i64 0, .int .i64 0, .int .i64 0, .int .i64 0, .int .i64 0] 58) (by simp))
        have HGx20 := hide (HGx19.out.on HB20.out.2.2)
        have hn45 := HA19.out.2.1
        simp only [List.length_append, List.length_cons, List.length_nil] at hn45
        have HA20 := hide (HA19.out.on HB20.out.2.2)
        have hx8 := HGx19.out.2.1
        simp only [List.length_append, List.length_cons, List.length_nil] at hx8
        refine hK _ _ HGx20.out ?_
        clear hK K HGx19 HA19
        generalize x19.alloc (.cells #[.int .i64 0, .int .i64 0, .int .i64 0, .int .i64 0, .int .i64 0] 58) = x20 at *
        obtain ⟨r0, r1, r2, r3, r4, r5, r6, r7⟩ := HA20.out.c8 0 x.heap.size rfl rfl rfl rfl rfl rfl rfl rfl rfl rfl
        obtain ⟨f0, f1, f2, f3, f4, f5, f6, f7⟩ := HA20.out.z8 0 x.heap.size rfl rfl
        obtain ⟨s0, s1, s2, s3, s4⟩ := HB20.out.c5 0 x19.heap.size rfl rfl rfl rfl rfl rfl rfl
        obtain ⟨g0, g1, g2, g3, g4⟩ := HB20.out.z5 0 x19.heap.size rfl rfl
        have hn : x.heap.size ≠ x19.heap.size := by
          omega
        have hn' : x19.heap.size ≠ x.heap.size := fun h => hn h.symm
        refine one_readyH (i := 9) (by kernel_rfl) rfl rfl (fun K hK => ?_)
        go_simp
        refine hK _ _ ?_ ?_
        · repeat (first | with_reducible exact HGx20.out | with_reducible refine Blks.set ?_ _ (by simp; omega) _)
        clear hK K
        refine one_readyH (i := 10) (by kernel_rfl) rfl rfl (fun K hK => ?_)
        go_simp
        have HGz : Hid (Blks w3 (((((((((((((x20.setCell ⟨x.heap.size, 0, none⟩ (.int .i64 0)).setCell ⟨x.heap.size, 1, none⟩ (.int .i64 0)).setCell ⟨x.heap.size, 2, none⟩ (.int .i64 0)).setCell ⟨x.heap.size, 3, none⟩ (.slice none 0 0)).setCell ⟨x.heap.size, 4, none⟩ (.int .i64 0)).setCell ⟨x.heap.size, 5, none⟩ (.slice none 0 0)).setCell ⟨x.heap.size, 6, none⟩ (.int .i64 0)).setCell ⟨x.heap.size, 7, none⟩ (.int .i64 0)).setCell ⟨x19.heap.size, 0, none⟩ (.int .i64 0)).setCell ⟨x19.heap.size, 1, none⟩ (.int .i64 0)).setCell ⟨x19.heap.size, 2, none⟩ (.int .i64 0)).setCell ⟨x19.heap.size, 3, none⟩ (.int .i64 0)).setCell ⟨x19.heap.size, 4, none⟩ (.int .i64 0)) ([] ++ [.cells #[.int .i64 1, .int .i64 2, .int .i64 5, .slice oa 1 ca, .int .i64 1, .slice od 1 cd, .int .i64 1, .int .i64 90] 49] ++ [.cells #[.int .i64 1, .int .i64 1, .int .i64 5, .int .i64 50, .int .i64 2] 58])) := by
          refine hide ?_
          repeat (first | with_reducible exact HGx20.out | with_reducible refine Blks.set ?_ _ (by simp; omega) _)
        refine hK _ _ HGz.out ?_
        clear hK K
        refine one_readyH (i := 11) (by kernel_rfl) rfl rfl (fun K hK => ?_)
        go_simp
        refine hK _ _ HGz.out ?_
        clear hK K
        refine wpAnyH_done (by kernel_rfl) ?_ _
        exact key _ _ _ HGz
      · skip
        go_simp
        have HB21 := hide ((Blks.nil x18).more (.cells #[.int .i64 0, .int .i64 0, .int .i64 0, .int .i64 0, .int .i64 0] 58) (by simp))
        have HGx21 := hide (HGx18.out.on HB21.out.2.2)
        have hn45 := HA18.out.2.1
        simp only [List.length_append, List.length_cons, List.length_nil] at hn45
        have HA21 := hide (HA18.out.on HB21.out.2.2)
        have hx8 := HGx18.out.2.1
        simp only [List.length_append, List.length_cons, List.length_nil] at hx8
        refine hK _ _ HGx21.out ?_
        clear hK K HGx18 HA18
        generalize x18.alloc (.cells #[.int .i64 0, .int .i64 0, .int .i64 0, .int .i64 0, .int .i64 0] 58) = x21 at *
        refine one_readyH (i := 2) (by kernel_rfl) rfl rfl (fun K hK => ?_)
        go_simp
        refine (HTa.out _ HGx21.out.2.2).mono ?_
        rintro e x22 ⟨rfl, hb⟩
        have HGx22 := hide (HGx21.out.on hb)
        have HA22 := hide (HA21.out.on hb)
        have HB22 := hide (HB21.out.on hb)
        refine hK _ _ HGx22.out ?_
        clear hK K hb HGx21 HA21 HB21
        refine takesH (fuel := 3) (by kernel_rfl) (fun c d v a w h => by cases d <;> exact h) HGx22.out [3, 4, 5, 6] _ _ (by kernel_rfl) ?_
        refine wpPureH_step (.tuple #[gtV 0 0 0 none 0 0 0 none 0 0 0 0, tp 0 0 0 0 0, .int .i64 10]) rfl rfl (fun w' hS => ?_) ?_
        · go_simp
        refine wpPureH_step (gtV 0 0 0 none 0 0 0 none 0 0 0 0) rfl rfl (fun w' hS => ?_) ?_
        · go_simp
        refine wpPureH_step (tp 0 0 0 0 0) rfl rfl (fun w' hS => ?_) ?_
        · go_simp
        refine wpPureH_step (.int .i64 10) rfl rfl (fun w' hS => ?_) ?_
        · go_simp
        refine wpPureH_nil ?_
        obtain ⟨r0, r1, r2, r3, r4, r5, r6, r7⟩ := HA22.out.c8 0 x.heap.size rfl rfl rfl rfl rfl rfl rfl rfl rfl rfl
        obtain ⟨f0, f1, f2, f3, f4, f5, f6, f7⟩ := HA22.out.z8 0 x.heap.size rfl rfl
        obtain ⟨s0, s1, s2, s3, s4⟩ := HB22.out.c5 0 x18.heap.size rfl rfl rfl rfl rfl rfl rfl
        obtain ⟨g0, g1, g2, g3, g4⟩ := HB22.out.z5 0 x18.heap.size rfl rfl
        have hn : x.heap.size ≠ x18.heap.size := by
          omega
        have hn' : x18.heap.size ≠ x.heap.size := fun h => hn h.symm
        refine one_readyH (i := 9) (by kernel_rfl) rfl rfl (fun K hK => ?_)
        go_simp
        refine hK _ _ ?_ ?_
        · repeat (first | with_reducible exact HGx22.out | with_reducible refine Blks.set ?_ _ (by simp; omega) _)
        clear hK K
        refine one_readyH (i := 10) (by kernel_rfl) rfl rfl (fun K hK => ?_)
        go_simp
        have HGz : Hid (Blks w3 (((((((((((((x22.setCell ⟨x.heap.size, 0, none⟩ (.int .i64 0)).setCell ⟨x.heap.size, 1, none⟩ (.int .i64 0)).setCell ⟨x.heap.size, 2, none⟩ (.int .i64 0)).setCell ⟨x.heap.size, 3, none⟩ (.slice none 0 0)).setCell ⟨x.heap.size, 4, none⟩ (.int .i64 0)).setCell ⟨x.heap.size, 5, none⟩ (.slice none 0 0)).setCell ⟨x.heap.size, 6, none⟩ (.int .i64 0)).setCell ⟨x.heap.size, 7, none⟩ (.int .i64 0)).setCell ⟨x18.heap.size, 0, none⟩ (.int .i64 0)).setCell ⟨x18.heap.size, 1, none⟩ (.int .i64 0)).setCell ⟨x18.heap.size, 2, none⟩ (.int .i64 0)).setCell ⟨x18.heap.size, 3, none⟩ (.int .i64 0)).setCell ⟨x18.heap.size, 4, none⟩ (.int .i64 0)) ([] ++ [.cells #[.int .i64 1, .int .i64 2, .int .i64 5, .slice oa 1 ca, .int .i64 1, .slice od 1 cd, .int .i64 1, .int .i64 90] 49] ++ [.cells #[.int .i64 1, .int .i64 1, .int .i64 5, .int .i64 50, .int .i64 2] 58])) := by
          refine hide ?_
          repeat (first | with_reducible exact HGx22.out | with_reducible refine Blks.set ?_ _ (by simp; omega) _)
        refine hK _ _ HGz.out ?_
        clear hK K
        refine one_readyH (i := 11) (by kernel_rfl) rfl rfl (fun K hK => ?_)
        go_simp
        refine hK _ _ HGz.out ?_
        clear hK K
        refine wpAnyH_done (by kernel_rfl) ?_ _
        exact key _ _ _ HGz
    · skip
      go_simp
      have HB23 := hide ((Blks.nil x17).more (.cells #[.int .i64 0, .int .i64 0, .int .i64 0, .int .i64 0, .int .i64 0] 58) (by simp))
      have HGx23 := hide (HGx17.out.on HB23.out.2.2)
      have hn45 := HA17.out.2.1
      simp only [List.length_append, List.length_cons, List.length_nil] at hn45
      have HA23 := hide (HA17.out.on HB23.out.2.2)
      have hx8 := HGx17.out.2.1
      simp only [List.length_append, List.length_cons, List.length_nil] at hx8
      refine hK _ _ HGx23.out ?_
      clear hK K HGx17 HA17
      generalize x17.alloc (.cells #[.int .i64 0, .int .i64 0, .int .i64 0, .int .i64 0, .int .i64 0] 58) = x23 at *
      refine one_readyH (i := 1) (by kernel_rfl) rfl rfl (fun K hK => ?_)
      go_simp
      refine (single_any 1 _).mono ?_
      rintro e x24 ⟨rfl, hb⟩
      have HGx24 := hide (HGx23.out.on hb)
      have HA24 := hide (HA23.out.on hb)
      have HB24 := hide (HB23.out.on hb)
      refine hK _ _ HGx24.out ?_
      clear hK K hb HGx23 HA23 HB23
      refine one_readyH (i := 2) (by kernel_rfl) rfl rfl (fun K hK => ?_)
      go_simp
      refine (HTa.out _ HGx24.out.2.2).mono ?_
      rintro e x25 ⟨rfl, hb⟩
      have HGx25 := hide (HGx24.out.on hb)
      have HA25 := hide (HA24.out.on hb)
      have HB25 := hide (HB24.out.on hb)
      refine hK _ _ HGx25.out ?_
      clear hK K hb HGx24 HA24 HB24
      refine takesH (fuel := 3) (by kernel_rfl) (fun c d v a w h => by cases d <;> exact h) HGx25.out [3, 4, 5, 6] _ _ (by kernel_rfl) ?_
      refine wpPureH_step (.tuple #[gtV 0 0 0 none 0 0 0 none 0 0 0 0, tp 0 0 0 0 0, .int .i64 10]) rfl rfl (fun w' hS => ?_) ?_
      · go_simp
      refine wpPureH_step (gtV 0 0 0 none 0 0 0 none 0 0 0 0) rfl rfl (fun w' hS => ?_) ?_
      · go_simp
      refine wpPureH_step (tp 0 0 0 0 0) rfl rfl (fun w' hS => ?_) ?_
      · go_simp
      refine wpPureH_step (.int .i64 10) rfl rfl (fun w' hS => ?_) ?_
      · go_simp
      refine wpPureH_nil ?_
      obtain ⟨r0, r1, r2, r3, r4, r5, r6, r7⟩ := HA25.out.c8 0 x.heap.size rfl rfl rfl rfl rfl rfl rfl rfl rfl rfl
      obtain ⟨f0, f1, f2, f3, f4, f5, f6, f7⟩ := HA25.out.z8 0 x.heap.size rfl rfl
      obtain ⟨s0, s1, s2, s3, s4⟩ := HB25.out.c5 0 x17.heap.size rfl rfl rfl rfl rfl rfl rfl
      obtain ⟨g0, g1, g2, g3, g4⟩ := HB25.out.z5 0 x17.heap.size rfl rfl
      have hn : x.heap.size ≠ x17.heap.size := by
        omega
      have hn' : x17.heap.size ≠ x.heap.size := fun h => hn h.symm
      refine one_readyH (i := 9) (by kernel_rfl) rfl rfl (fun K hK => ?_)
      go_simp
      refine hK _ _ ?_ ?_
      · repeat (first | with_reducible exact HGx25.out | with_reducible refine Blks.set ?_ _ (by simp; omega) _)
      clear hK K
      refine one_readyH (i := 10) (by kernel_rfl) rfl rfl (fun K hK => ?_)
      go_simp
      have HGz : Hid (Blks w3 (((((((((((((x25.setCell ⟨x.heap.size, 0, none⟩ (.int .i64 0)).setCell ⟨x.heap.size, 1, none⟩ (.int .i64 0)).setCell ⟨x.heap.size, 2, none⟩ (.int .i64 0)).setCell ⟨x.heap.size, 3, none⟩ (.slice none 0 0)).setCell ⟨x.heap.size, 4, none⟩ (.int .i64 0)).setCell ⟨x.heap.size, 5, none⟩ (.slice none 0 0)).setCell ⟨x.heap.size, 6, none⟩ (.int .i64 0)).setCell ⟨x.heap.size, 7, none⟩ (.int .i64 0)).setCell ⟨x17.heap.size, 0, none⟩ (.int .i64 0)).setCell ⟨x17.heap.size, 1, none⟩ (.int .i64 0)).setCell ⟨x17.heap.size, 2, none⟩ (.int .i64 0)).setCell ⟨x17.heap.size, 3, none⟩ (.int .i64 0)).setCell ⟨x17.heap.size, 4, none⟩ (.int .i64 0)) ([] ++ [.cells #[.int .i64 1, .int .i64 2, .int .i64 5, .slice oa 1 ca, .int .i64 1, .slice od 1 cd, .int .i64 1, .int .i64 90] 49] ++ [.cells #[.int .i64 1, .int .i64 1, .int .i64 5, .int .i64 50, .int .i64 2] 58])) := by
        refine hide ?_
        repeat (first | with_reducible exact HGx25.out | with_reducible refine Blks.set ?_ _ (by simp; omega) _)
      refine hK _ _ HGz.out ?_
      clear hK K
      refine one_readyH (i := 11) (by kernel_rfl) rfl rfl (fun K hK => ?_)
      go_simp
      refine hK _ _ HGz.out ?_
      clear hK K
      refine wpAnyH_done (by kernel_rfl) ?_ _
      exact key _ _ _ HGz
  · skip
    go_simp
    have HB26 := hide ((Blks.nil x).more (.cells #[.int .i64 0, .int .i64 0, .int .i64 0, .int .i64 0, .int .i64 0] 58) (by simp))
    have HGx26 := hide (HGx.out.on HB26.out.2.2)
    have hx8 := HGx.out.2.1
    simp only [List.length_append, List.length_cons, List.length_nil] at hx8
    refine hK _ _ HGx26.out ?_
    clear hK K HGx
    generalize x.alloc (.cells #[.int .i64 0, .int .i64 0, .int .i64 0, .int .i64 0, .int .i64 0] 58) = x26 at *
    refine two_readyH (i := 1) (j := 7) (by kernel_rfl) rfl rfl rfl rfl (fun K hK => ?_) (fun K hK => ?_)
    · skip
      go_simp
      refine (single_any 1 _).mono ?_
      rintro e x27 ⟨rfl, hb⟩
      have HGx27 := hide (HGx26.out.on hb)
      have HB27 := hide (HB26.out.on hb)
      refine hK _ _ HGx27.out ?_
      clear hK K hb HGx26 HB26
      refine two_readyH (i := 2) (j := 7) (by kernel_rfl) rfl rfl rfl rfl (fun K hK => ?_) (fun K hK => ?_)
      · skip
        go_simp
        refine (HTa.out _ HGx27.out.2.2).mono ?_
        rintro e x28 ⟨rfl, hb⟩
        have HGx28 := hide (HGx27.out.on hb)
        have HB28 := hide (HB27.out.on hb)
        refine hK _ _ HGx28.out ?_
        clear hK K hb HGx27 HB27
        refine takesH (fuel := 4) (by kernel_rfl) (fun c d v a w h => by cases d <;> exact h) HGx28.out [3, 4, 5, 6] _ _ (by kernel_rfl) ?_
        refine wpPureH_step (.tuple #[gtV 0 0 0 none 0 0 0 none 0 0 0 0, tp 0 0 0 0 0, .int .i64 10]) rfl rfl (fun w' hS => ?_) ?_
        · go_simp
        refine wpPureH_step (gtV 0 0 0 none 0 0 0 none 0 0 0 0) rfl rfl (fun w' hS => ?_) ?_
        · go_simp
        refine wpPureH_step (tp 0 0 0 0 0) rfl rfl (fun w' hS => ?_) ?_
        · go_simp
        refine wpPureH_step (.int .i64 10) rfl rfl (fun w' hS => ?_) ?_
        · go_simp
        refine wpPureH_nil ?_
        refine one_readyH (i := 7) (by kernel_rfl) rfl rfl (fun K hK => ?_)
        go_simp
        have HA29 := hide ((Blks.nil x28).more (.cells #[.int .i64 0, .int .i64 0, .int .i64 0, .slice none 0 0, .int .i64 0, .slice none 0 0, .int .i64 0, .int .i64 0] 49) (by simp))
        have HGx29 := hide (HGx28.out.on HA29.out.2.2)
        have hn45 := HB28.out.2.1
        simp only [List.length_append, List.length_cons, List.length_nil] at hn45
        have HB29 := hide (HB28.out.on HA29.out.2.2)
        have hx7 := HGx28.out.2.1
        simp only [List.length_append, List.length_cons, List.length_nil] at hx7
        refine hK _ _ HGx29.out ?_
        clear hK K HGx28 HB28
        generalize x28.alloc (.cells #[.int .i64 0, .int .i64 0, .int .i64 0, .slice none 0 0, .int .i64 0, .slice none 0 0, .int .i64 0, .int .i64 0] 49) = x29 at *
        obtain ⟨r0, r1, r2, r3, r4, r5, r6, r7⟩ := HA29.out.c8 0 x28.heap.size rfl rfl rfl rfl rfl rfl rfl rfl rfl rfl
        obtain ⟨f0, f1, f2, f3, f4, f5, f6, f7⟩ := HA29.out.z8 0 x28.heap.size rfl rfl
        obtain ⟨s0, s1, s2, s3, s4⟩ := HB29.out.c5 0 x.heap.size rfl rfl rfl rfl rfl rfl rfl
        obtain ⟨g0, g1, g2, g3, g4⟩ := HB29.out.z5 0 x.heap.size rfl rfl
        have hn : x28.heap.size ≠ x.heap.size := by
          omega
        have hn' : x.heap.size ≠ x28.heap.size := fun h => hn h.symm
        refine one_readyH (i := 9) (by kernel_rfl) rfl rfl (fun K hK => ?_)
        go_simp
        refine hK _ _ ?_ ?_
        · repeat (first | with_reducible exact HGx29.out | with_reducible refine Blks.set ?_ _ (by simp; omega) _)
        clear hK K
        refine one_readyH (i := 10) (by kernel_rfl) rfl rfl (fun K hK => ?_)
        go_simp
        have HGz : Hid (Blks w3 (((((((((((((x29.setCell ⟨x28.heap.size, 0, none⟩ (.int .i64 0)).setCell ⟨x28.heap.size, 1, none⟩ (.int .i64 0)).setCell ⟨x28.heap.size, 2, none⟩ (.int .i64 0)).setCell ⟨x28.heap.size, 3, none⟩ (.slice none 0 0)).setCell ⟨x28.heap.size, 4, none⟩ (.int .i64 0)).setCell ⟨x28.heap.size, 5, none⟩ (.slice none 0 0)).setCell ⟨x28.heap.size, 6, none⟩ (.int .i64 0)).setCell ⟨x28.heap.size, 7, none⟩ (.int .i64 0)).setCell ⟨x.heap.size, 0, none⟩ (.int .i64 0)).setCell ⟨x.heap.size, 1, none⟩ (.int .i64 0)).setCell ⟨x.heap.size, 2, none⟩ (.int .i64 0)).setCell ⟨x.heap.size, 3, none⟩ (.int .i64 0)).setCell ⟨x.heap.size, 4, none⟩ (.int .i64 0)) ([] ++ [.cells #[.int .i64 1, .int .i64 2, .int .i64 5, .slice oa 1 ca, .int .i64 1, .slice od 1 cd, .int .i64 1, .int .i64 90] 49] ++ [.cells #[.int .i64 1, .int .i64 1, .int .i64 5, .int .i64 50, .int .i64 2] 58])) := by
          refine hide ?_
          repeat (first | with_reducible exact HGx29.out | with_reducible refine Blks.set ?_ _ (by simp; omega) _)
        refine hK _ _ HGz.out ?_
        clear hK K
        refine one_readyH (i := 11) (by kernel_rfl) rfl rfl (fun K hK => ?_)
        go_simp
        refine hK _ _ HGz.out ?_
        clear hK K
        refine wpAnyH_done (by kernel_rfl) ?_ _
        exact key _ _ _ HGz
      · skip
        go_simp
        have HA30 := hide ((Blks.nil x27).more (.cells #[.int .i64 0, .int .i64 0, .int .i64 0, .slice none 0 0, .int .i64 0, .slice none 0 0, .int .i64 0, .int .i64 0] 49) (by simp))
        have HGx30 := hide (HGx27.out.on HA30.out.2.2)
        have hn45 := HB27.out.2.1
        simp only [List.length_append, List.length_cons, List.length_nil] at hn45
        have HB30 := hide (HB27.out.on HA30.out.2.2)
        have hx7 := HGx27.out.2.1
        simp only [List.length_append, List.length_cons, List.length_nil] at hx7
        refine hK _ _ HGx30.out ?_
        clear hK K HGx27 HB27
        generalize x27.alloc (.cells #[.int .i64 0, .int .i64 0, .int .i64 0, .slice none 0 0, .int .i64 0, .slice none 0 0, .int .i64 0, .int .i64 0] 49) = x30 at *
        refine one_readyH (i := 2) (by kernel_rfl) rfl rfl (fun K hK => ?_)
        go_simp
        refine (HTa.out _ HGx30.out.2.2).mono ?_
        rintro e x31 ⟨rfl, hb⟩
        have HGx31 := hide (HGx30.out.on hb)
        have HA31 := hide (HA30.out.on hb)
        have HB31 := hide (HB30.out.on hb)
        refine hK _ _ HGx31.out ?_
        clear hK K hb HGx30 HA30 HB30
        refine takesH (fuel := 3) (by kernel_rfl) (fun c d v a w h => by cases d <;> exact h) HGx31.out [3, 4, 5, 6] _ _ (by kernel_rfl) ?_
        refine wpPureH_step (.tuple #[gtV 0 0 0 none 0 0 0 none 0 0 0 0, tp 0 0 0 0 0, .int .i64 10]) rfl rfl (fun w' hS => ?_) ?_
        · go_simp
        refine wpPureH_step (gtV 0 0 0 none 0 0 0 none 0 0 0 0) rfl rfl (fun w' hS => ?_) ?_
        · go_simp
        refine wpPureH_step (tp 0 0 0 0 0) rfl rfl (fun w' hS => ?_) ?_
        · go_simp
        refine wpPureH_step (.int .i64 10) rfl rfl (fun w' hS => ?_) ?_
        · go_simp
        refine wpPureH_nil ?_
        obtain ⟨r0, r1, r2, r3, r4, r5, r6, r7⟩ := HA31.out.c8 0 x27.heap.size rfl rfl rfl rfl rfl rfl rfl rfl rfl rfl
        obtain ⟨f0, f1, f2, f3, f4, f5, f6, f7⟩ := HA31.out.z8 0 x27.heap.size rfl rfl
        obtain ⟨s0, s1, s2, s3, s4⟩ := HB31.out.c5 0 x.heap.size rfl rfl rfl rfl rfl rfl rfl
        obtain ⟨g0, g1, g2, g3, g4⟩ := HB31.out.z5 0 x.heap.size rfl rfl
        have hn : x27.heap.size ≠ x.heap.size := by
          omega
        have hn' : x.heap.size ≠ x27.heap.size := fun h => hn h.symm
        refine one_readyH (i := 9) (by kernel_rfl) rfl rfl (fun K hK => ?_)
        go_simp
        refine hK _ _ ?_ ?_
        · repeat (first | with_reducible exact HGx31.out | with_reducible refine Blks.set ?_ _ (by simp; omega) _)
        clear hK K
        refine one_readyH (i := 10) (by kernel_rfl) rfl rfl (fun K hK => ?_)
        go_simp
        have HGz : Hid (Blks w3 (((((((((((((x31.setCell ⟨x27.heap.size, 0, none⟩ (.int .i64 0)).setCell ⟨x27.heap.size, 1, none⟩ (.int .i64 0)).setCell ⟨x27.heap.size, 2, none⟩ (.int .i64 0)).setCell ⟨x27.heap.size, 3, none⟩ (.slice none 0 0)).setCell ⟨x27.heap.size, 4, none⟩ (.int .i64 0)).setCell ⟨x27.heap.size, 5, none⟩ (.slice none 0 0)).setCell ⟨x27.heap.size, 6, none⟩ (.int .i64 0)).setCell ⟨x27.heap.size, 7, none⟩ (.int .i64 0)).setCell ⟨x.heap.size, 0, none⟩ (.int .i64 0)).setCell ⟨x.heap.size, 1, none⟩ (.int .i64 0)).setCell ⟨x.heap.size, 2, none⟩ (.int .i64 0)).setCell ⟨x.heap.size, 3, none⟩ (.int .i64 0)).setCell ⟨x.heap.size, 4, none⟩ (.int .i64 0)) ([] ++ [.cells #[.int .i64 1, .int .i64 2, .int .i64 5, .slice oa 1 ca, .int .i64 1, .slice od 1 cd, .int .i64 1, .int .i64 90] 49] ++ [.cells #[.int .i64 1, .int .i64 1, .int .i64 5, .int .i64 50, .int .i64 2] 58])) := by
          refine hide ?_
          repeat (first | with_reducible exact HGx31.out | with_reducible refine Blks.set ?_ _ (by simp; omega) _)
        refine hK _ _ HGz.out ?_
        clear hK K
        refine one_readyH (i := 11) (by kernel_rfl) rfl rfl (fun K hK => ?_)
        go_simp
        refine hK _ _ HGz.out ?_
        clear hK K
        refine wpAnyH_done (by kernel_rfl) ?_ _
        exact key _ _ _ HGz
    · skip
      go_simp
      have HA32 := hide ((Blks.nil x26).more (.cells #[.int .i64 0, .int .i64 0, .int .i64 0, .slice none 0 0, .int .i64 0, .slice none 0 0, .int .i64 0, .int .i64 0] 49) (by simp))
      have HGx32 := hide (HGx26.out.on HA32.out.2.2)
      have hn45 := HB26.out.2.1
      simp only [List.length_append, List.length_cons, List.length_nil] at hn45
      have HB32 := hide (HB26.out.on HA32.out.2.2)
      have hx7 := HGx26.out.2.1
      simp only [List.length_append, List.length_cons, List.length_nil] at hx7
      refine hK _ _ HGx32.out ?_
      clear hK K HGx26 HB26
      generalize x26.alloc (.cells #[.int .i64 0, .int .i64 0, .int .i64 0, .slice none 0 0, .int .i64 0, .slice none 0 0, .int .i64 0, .int .i64 0] 49) = x32 at *
      refine one_readyH (i := 1) (by kernel_rfl) rfl rfl (fun K hK => ?_)
      go_simp
      refine (single_any 1 _).mono ?_
      rintro e x33 ⟨rfl, hb⟩
      have HGx33 := hide (HGx32.out.on hb)
      have HA33 := hide (HA32.out.on hb)
      have HB33 := hide (HB32.out.on hb)
      refine hK _ _ HGx33.out ?_
      clear hK K hb HGx32 HA32 HB32
      refine one_readyH (i := 2) (by kernel_rfl) rfl rfl (fun K hK => ?_)
      go_simp
      refine (HTa.out _ HGx33.out.2.2).mono ?_
      rintro e x34 ⟨rfl, hb⟩
      have HGx34 := hide (HGx33.out.on hb)
      have HA34 := hide (HA33.out.on hb)
      have HB34 := hide (HB33.out.on hb)
      refine hK _ _ HGx34.out ?_
      clear hK K hb HGx33 HA33 HB33
      refine takesH (fuel := 3) (by kernel_rfl) (fun c d v a w h => by cases d <;> exact h) HGx34.out [3, 4, 5, 6] _ _ (by kernel_rfl) ?_
      refine wpPureH_step (.tuple #[gtV 0 0 0 none 0 0 0 none 0 0 0 0, tp 0 0 0 0 0, .int .i64 10]) rfl rfl (fun w' hS => ?_) ?_
      · go_simp
      refine wpPureH_step (gtV 0 0 0 none 0 0 0 none 0 0 0 0) rfl rfl (fun w' hS => ?_) ?_
      · go_simp
      refine wpPureH_step (tp 0 0 0 0 0) rfl rfl (fun w' hS => ?_) ?_
      · go_simp
      refine wpPureH_step (.int .i64 10) rfl rfl (fun w' hS => ?_) ?_
      · go_simp
      refine wpPureH_nil ?_
      obtain ⟨r0, r1, r2, r3, r4, r5, r6, r7⟩ := HA34.out.c8 0 x26.heap.size rfl rfl rfl rfl rfl rfl rfl rfl rfl rfl
      obtain ⟨f0, f1, f2, f3, f4, f5, f6, f7⟩ := HA34.out.z8 0 x26.heap.size rfl rfl
      obtain ⟨s0, s1, s2, s3, s4⟩ := HB34.out.c5 0 x.heap.size rfl rfl rfl rfl rfl rfl rfl
      obtain ⟨g0, g1, g2, g3, g4⟩ := HB34.out.z5 0 x.heap.size rfl rfl
      have hn : x26.heap.size ≠ x.heap.size := by
        omega
      have hn' : x.heap.size ≠ x26.heap.size := fun h => hn h.symm
      refine one_readyH (i := 9) (by kernel_rfl) rfl rfl (fun K hK => ?_)
      go_simp
      refine hK _ _ ?_ ?_
      · repeat (first | with_reducible exact HGx34.out | with_reducible refine Blks.set ?_ _ (by simp; omega) _)
      clear hK K
      refine one_readyH (i := 10) (by kernel_rfl) rfl rfl (fun K hK => ?_)
      go_simp
      have HGz : Hid (Blks w3 (((((((((((((x34.setCell ⟨x26.heap.size, 0, none⟩ (.int .i64 0)).setCell ⟨x26.heap.size, 1, none⟩ (.int .i64 0)).setCell ⟨x26.heap.size, 2, none⟩ (.int .i64 0)).setCell ⟨x26.heap.size, 3, none⟩ (.slice none 0 0)).setCell ⟨x26.heap.size, 4, none⟩ (.int .i64 0)).setCell ⟨x26.heap.size, 5, none⟩ (.slice none 0 0)).setCell ⟨x26.heap.size, 6, none⟩ (.int .i64 0)).setCell ⟨x26.heap.size, 7, none⟩ (.int .i64 0)).setCell ⟨x.heap.size, 0, none⟩ (.int .i64 0)).setCell ⟨x.heap.size, 1, none⟩ (.int .i64 0)).setCell ⟨x.heap.size, 2, none⟩ (.int .i64 0)).setCell ⟨x.heap.size, 3, none⟩ (.int .i64 0)).setCell ⟨x.heap.size, 4, none⟩ (.int .i64 0)) ([] ++ [.cells #[.int .i64 1, .int .i64 2, .int .i64 5, .slice oa 1 ca, .int .i64 1, .slice od 1 cd, .int .i64 1, .int .i64 90] 49] ++ [.cells #[.int .i64 1, .int .i64 1, .int .i64 5, .int .i64 50, .int .i64 2] 58])) := by
        refine hide ?_
        repeat (first | with_reducible exact HGx34.out | with_reducible refine Blks.set ?_ _ (by simp; omega) _)
      refine hK _ _ HGz.out ?_
      clear hK K
      refine one_readyH (i := 11) (by kernel_rfl) rfl rfl (fun K hK => ?_)
      go_simp
      refine hK _ _ HGz.out ?_
      clear hK K
      refine wpAnyH_done (by kernel_rfl) ?_ _
      exact key _ _ _ HGz
end Go.Proofs.YtcjfmbeemdcklaaGreat

/-
  'SameInts' (package leeboardref), of the same ones.
-/
namespace Go.Proofs.YtcjfmbeemdcklaaGreat
open Go.RowKit
set_option maxHeartbeats 3200000 in
set_option maxRecDepth 100000 in
theorem sameInts_same (L : List Int) (o o' : Option Addr) (c c' : Nat) (w : World) (hL : IntsAt w o L) (hM : IntsAt w o' L) (hlen : L.length ≤ 100) :
    Calls Tryz.prog 73 #[.slice o L.length c, .slice o' L.length c'] w fun e w' => e = .returned (.bool true) ∧ Below w.heap.size w w' := by
  have HL := hide hL
  have HM := hide hM
  clear hL hM
  go_enter Tryz.func73, Tryz.ntmps73
  go_wp2_with fail
  go_loopw [5] (fun j wr => ∃ (q : Nat), q ≤ L.length ∧ j = .int .i64 q ∧ Below w.heap.size w wr) (fun j _ => L.length - (intOf j).toNat)
  case atStart => exact ⟨0, Nat.zero_le _, rfl, Below.refl _ _⟩
  case round =>
    obtain ⟨q, hq, rfl, hbr⟩ := hrel
    by_cases hgo : q < L.length
    · obtain ⟨p, hp⟩ : ∃ p, L[q]? = some p := ⟨L[q], by simp [hgo]⟩
      obtain ⟨A, rfl, c0⟩ := (HL.out.below hbr) q p hp
      obtain ⟨A', rfl, d0⟩ := (HM.out.below hbr) q p hp
      clear hp
      go_wp2_with fail
      go_region
      go_wp2_with fail
      exact ⟨⟨q + 1, by omega, by simp, hbr.drew⟩, by simp [intOf]; omega⟩
    · go_wp2_with fail
      go_ret
      exact ⟨rfl, hbr⟩
end Go.Proofs.YtcjfmbeemdcklaaGreat

/-
  'SameDenied' (package leeboardref) of the same ones; 'deniedBegun' (package leeboardlaw).
-/
namespace Go.Proofs.YtcjfmbeemdcklaaGreat
open Go.RowKit
theorem sameDenied_same (v : Int) (L : List Int) (o o' : Option Addr) (c c' : Nat) (w : World) (hL : IntsAt w o L) (hM : IntsAt w o' L) (hlen : L.length ≤ 100) :
    Calls Tryz.prog 25 #[dn v o L.length c, dn v o' L.length c'] w fun e w' => e = .returned (.bool true) ∧ Below w.heap.size w w' := by
  have HB := hide (((Blks.nil w).more (.cells #[.int .i64 v, .slice o L.length c] 28) (by simp)).more (.cells #[.int .i64 v, .slice o' L.length c'] 28) (by simp))
  have HL := hide hL
  have HM := hide hM
  clear hL hM
  go_enter Tryz.func25, Tryz.ntmps25
  go_wp2_with fail
  refine (sameInts_same L o o' c c' _ (HL.out.below HB.out.2.2) (HM.out.below HB.out.2.2) hlen).mono ?_
  rintro e w1 ⟨rfl, hb⟩
  have HB1 := hide (HB.out.on hb)
  clear hb HB
  go_wp2_with fail
  go_ret
  exact ⟨rfl, HB1.out.2.2⟩
end Go.Proofs.YtcjfmbeemdcklaaGreat

/-
  'SameTaps' (package leeboardref), of the same taps.
-/
namespace Go.Proofs.YtcjfmbeemdcklaaGreat
open Go.RowKit
set_option maxHeartbeats 3200000 in
set_option maxRecDepth 100000 in
theorem sameTaps_same (L : List TP) (o o' : Option Addr) (c c' : Nat) (w : World) (hL : TapsAt w o L) (hM : TapsAt w o' L) (hlen : L.length ≤ 100) :
    Calls Tryz.prog 66 #[.slice o L.length c, .slice o' L.length c'] w fun e w' => e = .returned (.bool true) ∧ Below w.heap.size w w' := by
  have HL := hide hL
  have HM := hide hM
  clear hL hM
  go_enter Tryz.func66, Tryz.ntmps66
  go_wp2_with fail
  go_loopw [5] (fun j wr => ∃ (q : Nat), q ≤ L.length ∧ j = .int .i64 q ∧ Below w.heap.size w wr) (fun j _ => L.length - (intOf j).toNat)
  case atStart => exact ⟨0, Nat.zero_le _, rfl, Below.refl _ _⟩
  case round =>
    obtain ⟨q, hq, rfl, hbr⟩ := hrel
    by_cases hgo : q < L.length
    · obtain ⟨p, hp⟩ : ∃ p, L[q]? = some p := ⟨L[q], by simp [hgo]⟩
      obtain ⟨A, rfl, c0, c1, c2, c3, c4⟩ := (HL.out.below hbr) q p hp
      obtain ⟨A', rfl, d0, d1, d2, d3, d4⟩ := (HM.out.below hbr) q p hp
      clear hp
      go_wp2_with fail
      go_region
      go_wp2_with fail
      exact ⟨⟨q + 1, by omega, by simp, hbr.drew⟩, by simp [intOf]; omega⟩
    · go_wp2_with fail
      go_ret
      exact ⟨rfl, hbr⟩
end Go.Proofs.YtcjfmbeemdcklaaGreat

/-
  'SameGate' (package leeboardref) of the same ones; the walk of GateTold.
-/
namespace Go.Proofs.YtcjfmbeemdcklaaGreat
open Go.RowKit
set_option maxHeartbeats 1600000 in
theorem sameGate_same (i z s : Int) (P : List TP) (v : Int) (D : List Int) (l u : Int) (oa oa' od od' : Option Addr) (ca ca' cd cd' : Nat) (w : World) (h1 : TapsAt w oa P) (h2 : TapsAt w oa' P) (h3 : IntsAt w od D) (h4 : IntsAt w od' D) (hP : P.length ≤ 100) (hD : D.length ≤ 100) :
    Calls Tryz.prog 29 #[gtV i z s oa P.length ca v od D.length cd l u, gtV i z s oa' P.length ca' v od' D.length cd' l u] w fun e w' => e = .returned (.bool true) ∧ Below w.heap.size w w' := by
  have HA := hide (fun W (h : TapsAt W oa P) (h' : TapsAt W oa' P) => sameTaps_same P oa oa' ca ca' W h h' hP)
  have HB := hide (fun W (h : IntsAt W od D) (h' : IntsAt W od' D) => sameDenied_same v D od od' cd cd' W h h' hD)
  have H1 := hide h1
  have H2 := hide h2
  have H3 := hide h3
  have H4 := hide h4
  clear h1 h2 h3 h4
  go_enter Tryz.func29, Tryz.ntmps29
  go_wp2_with fail
  have HG1 := hide (((Blks.nil w).more (.cells #[.int .i64 i, .int .i64 z, .int .i64 s, .slice oa P.length ca, .int .i64 v, .slice od D.length cd, .int .i64 l, .int .i64 u] 49) (by simp)).more (.cells #[.int .i64 i, .int .i64 z, .int .i64 s, .slice oa' P.length ca', .int .i64 v, .slice od' D.length cd', .int .i64 l, .int .i64 u] 49) (by simp))
  refine (HA.out _ (H1.out.below HG1.out.2.2) (H2.out.below HG1.out.2.2)).mono ?_
  rintro e w1 ⟨rfl, hb⟩
  have HG1w1 := hide (HG1.out.on hb)
  clear hb HG1
  have lG1_0 := HG1w1.out.lt 0 w.heap.size (by simp) rfl
  obtain ⟨cG1_0_0, cG1_0_1, cG1_0_2, cG1_0_3, cG1_0_4, cG1_0_5, cG1_0_6, cG1_0_7⟩ := HG1w1.out.c8 0 w.heap.size rfl rfl rfl rfl rfl rfl rfl rfl rfl rfl
  have lG1_1 := HG1w1.out.lt 1 (w.heap.size + 1) (by simp) rfl
  obtain ⟨cG1_1_0, cG1_1_1, cG1_1_2, cG1_1_3, cG1_1_4, cG1_1_5, cG1_1_6, cG1_1_7⟩ := HG1w1.out.c8 1 (w.heap.size + 1) rfl rfl rfl rfl rfl rfl rfl rfl rfl rfl
  go_wp2_with fail
  refine (HB.out _ (H3.out.below HG1w1.out.2.2) (H4.out.below HG1w1.out.2.2)).mono ?_
  rintro e w2 ⟨rfl, hb⟩
  have HG1w2 := hide (HG1w1.out.on hb)
  clear lG1_0 cG1_0_0 cG1_0_1 cG1_0_2 cG1_0_3 cG1_0_4 cG1_0_5 cG1_0_6 cG1_0_7 lG1_1 cG1_1_0 cG1_1_1 cG1_1_2 cG1_1_3 cG1_1_4 cG1_1_5 cG1_1_6 cG1_1_7
  clear hb HG1w1
  have lG1_0 := HG1w2.out.lt 0 w.heap.size (by simp) rfl
  obtain ⟨cG1_0_0, cG1_0_1, cG1_0_2, cG1_0_3, cG1_0_4, cG1_0_5, cG1_0_6, cG1_0_7⟩ := HG1w2.out.c8 0 w.heap.size rfl rfl rfl rfl rfl rfl rfl rfl rfl rfl
  have lG1_1 := HG1w2.out.lt 1 (w.heap.size + 1) (by simp) rfl
  obtain ⟨cG1_1_0, cG1_1_1, cG1_1_2, cG1_1_3, cG1_1_4, cG1_1_5, cG1_1_6, cG1_1_7⟩ := HG1w2.out.c8 1 (w.heap.size + 1) rfl rfl rfl rfl rfl rfl rfl rfl rfl rfl
  go_wp2_with fail
  go_ret
  exact ⟨rfl, HG1w2.out.2.2⟩
end Go.Proofs.YtcjfmbeemdcklaaGreat

/-
  Views: 'Set' (package lead), 'SetOf', 'SameViews' (package leeboardref), 'viewsAre' (package leeboardlaw).
-/
namespace Go.Proofs.YtcjfmbeemdcklaaGreat
open Go.RowKit
set_option maxHeartbeats 1600000 in
set_option maxRecDepth 100000 in
theorem sameViews_same (L : List VW) (o o' : Option Addr) (c c' : Nat) (w : World) (hL : VwsAt w o L) (hM : VwsAt w o' L) (hlen : L.length ≤ 100) :
    Calls Tryz.prog 28 #[.slice o L.length c, .slice o' L.length c'] w fun e w' => e = .returned (.bool true) ∧ Below w.heap.size w w' := by
  have HL := hide hL
  have HM := hide hM
  clear hL hM
  go_enter Tryz.func28, Tryz.ntmps28
  go_wp2_with fail
  go_loopw [5] (fun j wr => ∃ (q : Nat), q ≤ L.length ∧ j = .int .i64 q ∧ Below w.heap.size w wr) (fun j _ => L.length - (intOf j).toNat)
  case atStart => exact ⟨0, Nat.zero_le _, rfl, Below.refl _ _⟩
  case round =>
    obtain ⟨q, hq, rfl, hbr⟩ := hrel
    by_cases hgo : q < L.length
    · obtain ⟨p, hp⟩ : ∃ p, L[q]? = some p := ⟨L[q], by simp [hgo]⟩
      obtain ⟨A, rfl, c0, c1, c2⟩ := (HL.out.below hbr) q p hp
      obtain ⟨A', rfl, d0, d1, d2⟩ := (HM.out.below hbr) q p hp
      clear hp
      go_wp2_with fail
      go_region
      go_wp2_with fail
      exact ⟨⟨q + 1, by omega, by simp, hbr.drew⟩, by simp [intOf]; omega⟩
    · go_wp2_with fail
      go_ret
      exact ⟨rfl, hbr⟩
end Go.Proofs.YtcjfmbeemdcklaaGreat

/-
  What is wrong with a list of what is denied: 'CheckDenied' (the document's answer).
-/
namespace Go.Proofs.YtcjfmbeemdcklaaGreat
open Go.RowKit
end Go.Proofs.YtcjfmbeemdcklaaGreat

/-
  'HasInt', 'NewerOf' (the document's answer), 'deniedIs' (package leeboardlaw).
-/
namespace Go.Proofs.YtcjfmbeemdcklaaGreat
open Go.RowKit
set_option maxHeartbeats 1600000 in
theorem hasInt_any (L : List Int) (id : Int) (o : Option Addr) (c : Nat) (w : World) (hL : IntsAt w o L) (hlen : L.length ≤ 9223372036854775807) :
    Calls Tryz.prog 33 #[.slice o L.length c, .int .i64 id] w fun e w' => e = .returned (.bool (hasI L id)) ∧ w' = w := by
  have HL := hide hL
  clear hL
  go_enter Tryz.func33, Tryz.ntmps33
  go_wp2_with fail
  go_loopw [5] (fun j wr => ∃ (q : Nat), q ≤ L.length ∧ j = .int .i64 q ∧ Hid (hasI (L.take q) id = false) ∧ wr = w) (fun j _ => L.length - (intOf j).toNat)
  case atStart => exact ⟨0, Nat.zero_le _, rfl, by show _ = _; simp [hasI], rfl⟩
  case round =>
    obtain ⟨q, hq, rfl, hF, hw⟩ := hrel
    subst hw
    by_cases hgo : q < L.length
    · obtain ⟨x, hx⟩ : ∃ x, L[q]? = some x := ⟨L[q], by simp [hgo]⟩
      have HS : Hid (hasI (L.take (q + 1)) id = (x == id)) := by
        show _ = _
        have h0 := hF.out
        unfold hasI at h0 ⊢
        rw [List.take_add_one, hx, Option.toList_some, List.any_append, h0]
        simp
      obtain ⟨A, rfl, c0⟩ := HL.out q x hx
      have HX := hide hx
      clear hx hF
      cases h : (x == id)
      · rw [h] at HS
        go_wp2_with fail
        exact ⟨⟨q + 1, by omega, by simp, HS, by first | rfl | trivial⟩, by simp [intOf]; omega⟩
      · have HR : Hid (hasI L id = true) := by
          show _ = _
          unfold hasI
          rw [List.any_eq_true]
          exact ⟨x, List.mem_of_getElem? HX.out, h⟩
        go_wp2_with fail
        go_ret
        exact ⟨by rw [HR.out]; rfl, rfl⟩
    · have HR : Hid (hasI L id = false) := by
        have h1 := hF.out
        rw [List.take_of_length_le (by omega)] at h1
        exact h1
      clear hF
      go_wp2_with fail
      go_ret
      exact ⟨by rw [HR.out]; rfl, rfl⟩
end Go.Proofs.YtcjfmbeemdcklaaGreat
