/-
  The contracts of 'code.check', 'code.put', 'code.digits'.
-/
import Derived.Test.YtcakfmpckbmdeabC2
namespace Go.Proofs.Ytcakfmpckbmdeab
open Go.RowKit

/-- the weighted sum of values: the first weight is 2 -/
def wsp (l : List Nat) : Nat × Nat := l.foldl (fun p v => (p.1 + v * (p.2 + 2), p.2 + 1)) (0, 0)
def ws (l : List Nat) : Nat := (wsp l).1
theorem wsp_snd (l : List Nat) : (wsp l).2 = l.length := by
  have h : ∀ (l : List Nat) (p : Nat × Nat), (l.foldl (fun p v => (p.1 + v * (p.2 + 2), p.2 + 1)) p).2 = p.2 + l.length := by
    intro l
    induction l with
    | nil => intro p; simp
    | cons a l ih => intro p; rw [List.foldl_cons, ih]; simp; omega
  simp [wsp, h]
theorem ws_snoc (l : List Nat) (v : Nat) : ws (l ++ [v]) = ws l + v * (l.length + 2) := by
  have h := wsp_snd l
  simp only [ws, wsp, List.foldl_append, List.foldl_cons, List.foldl_nil] at h ⊢
  rw [h]
def mk (l : List Nat) : Nat := (31 - ws l % 31) % 31

theorem ws_le (l : List Nat) (h : ∀ v ∈ l, v < 31) (k : Nat) (hk : k ≤ 20) (hl : k ≤ l.length) : ws (l.take k) ≤ k * 660 := by
  induction k with
  | zero => simp [ws, wsp]
  | succ k ih =>
    have hlt : k < l.length := by omega
    rw [List.take_succ_eq_append_getElem hlt, ws_snoc]
    have h1 := ih (by omega) (by omega)
    have h2 := h l[k] (List.getElem_mem _)
    have h3 : (l.take k).length = k := by simp; omega
    rw [h3]
    have h4 : l[k] * (k + 2) ≤ 30 * 22 := Nat.mul_le_mul (by omega) (by omega)
    omega

theorem ret_int {k : IntKind} {a b : Int} (h : a = b) : Ending.returned (.int k a) = .returned (.int k b) := by rw [h]

set_option maxHeartbeats 1600000 in
set_option maxRecDepth 100000 in
theorem check37 (a : Addr) (n c : Nat) (vs : List Nat) (w : World) (hn : vs.length = n) (hn20 : n ≤ 20) (hlt : ∀ v ∈ vs, v < 31)
    (hcell : ∀ (j : Nat) (v : Nat), vs[j]? = some v → w.cell? (a.add j) = some (.int .i64 (v : Int))) :
    Calls Try.prog 34 #[.slice (some a) n c] w fun e w' => e = .returned (.int .i64 (mk vs : Int)) ∧ w' = w := by
  have HN := hide hn
  have HL := hide hlt
  have HCE := hide hcell
  clear hn hlt hcell
  go_enter Try.func34, Try.ntmps34
  go_wp2
  go_loop [3, 8] (fun t i => ∃ k : Nat, k ≤ n ∧ i = .int .i64 k ∧ t = .int .i64 (ws (vs.take k) : Int)) (fun _ i => n - (intOf i).toNat)
  case atStart => exact ⟨0, Nat.zero_le _, rfl, rfl⟩
  case round =>
    obtain ⟨k, hk, rfl, rfl⟩ := hrel
    have hb := ws_le vs HL.out k (by omega) (by have := HN.out; omega)
    have hb' : ws (vs.take k) ≤ 13200 := by omega
    clear hb
    by_cases hkn : k < n
    · have hkl : k < vs.length := by have := HN.out; omega
      have hc := HCE.out k vs[k] (List.getElem?_eq_getElem hkl)
      have hv := HL.out vs[k] (List.getElem_mem _)
      have hws : ws (vs.take (k + 1)) = ws (vs.take k) + vs[k] * (k + 2) := by
        rw [List.take_succ_eq_append_getElem hkl, ws_snoc, show (vs.take k).length = k by simp; omega]
      generalize hx : vs[k] = x at *
      generalize hy : ws (vs.take k) = y at *
      have h4 : x * (k + 2) ≤ 30 * 22 := Nat.mul_le_mul (by omega) (by omega)
      generalize hp : x * (k + 2) = p at *
      have hmul : (x : Int) * ((k : Int) + 2) = (p : Int) := by rw [← hp]; simp
      have HW := hide hws
      have HX := hide hx
      have HY := hide hy
      have HP := hide hp
      clear hws hx hy hp
      go_wp2
      refine ⟨⟨k + 1, by omega, by go_num, ?_⟩, by simp [intOf]; omega⟩
      rw [HW.out]
      go_num
    · have hke : k = n := by omega
      generalize hy : ws (vs.take k) = y at *
      have HY := hide hy
      clear hy
      go_wp2
      go_ret
      refine ⟨?_, rfl⟩
      rw [List.take_of_length_le (by have := HN.out; omega)] at HY
      rw [show mk vs = (31 - y % 31) % 31 by unfold mk; rw [HY.out]]
      exact ret_int (by omega)

theorem sg_get : ∀ v : Fin 31, (⟨#[48, 49, 50, 51, 52, 53, 54, 55, 56, 57, 65, 66, 67, 68, 69, 70, 71, 72, 74, 75, 76, 77, 78, 80, 81, 82, 83, 84, 85, 86, 87]⟩ : ByteArray)[v.val]'(v.isLt) = sgn v.val := by decide +kernel

set_option maxHeartbeats 1600000 in
set_option maxRecDepth 100000 in
theorem put36 (a : Addr) (n c : Nat) (vs : List Nat) (w : World) (hn : vs.length = n) (hn20 : n ≤ 20) (hlt : ∀ v ∈ vs, v < 31)
    (hcell : ∀ (j : Nat) (v : Nat), vs[j]? = some v → w.cell? (a.add j) = some (.int .i64 (v : Int))) :
    Calls Try.prog 33 #[.slice (some a) n c] w fun e w' => e = .returned (S (vs.map sgn)) ∧ Below w.heap.size w w' := by
  obtain ⟨i0, hi, hz0, hz1, hz2⟩ := info_parts info5
  have HN := hide hn
  have HL := hide hlt
  have HCE := hide hcell
  clear hn hlt hcell
  go_enter Try.func33, Try.ntmps33
  go_wp2_with (first
    | (at_make; refine wpList_make_own _ rfl _ _ 95 rfl w.heap.size 5 i0 (.int .u8 0) 1 Try.underlying95 hi hz0 hz1 .i64 .i64 _ n rfl rfl (by first | rfl | omega) (by rw [hz2]; omega) (by unfold maxLen; omega) (Nat.le_refl _) ?_; intro w0 hown0 hgrow0))
  go_loopw [3, 11] (fun v i wr => ∃ k : Nat, k ≤ n ∧ i = .int .i64 (k : Int) ∧ v = .slice (some ⟨w.heap.size, 0, none⟩) k n ∧ wr.ownsRow w.heap.size 5 1 v k (bv ((vs.take k).map sgn)) ∧ Below w.heap.size w wr)
    (fun _ i _ => n - (intOf i).toNat)
  case atStart => exact ⟨0, by omega, rfl, rfl, by simpa [bv] using hown0, (Below.refl _ _).grown hgrow0 (Nat.le_refl _) (fun k h => by cases h)⟩
  case round =>
    obtain ⟨k, hk, rfl, rfl, hown, hb⟩ := hrel
    by_cases hlt : k < n
    · have hsz := hb.size
      have hkl : k < vs.length := by have := HN.out; omega
      have h0 := HCE.out k vs[k] (List.getElem?_eq_getElem hkl)
      have hc : wr.cell? (a.add k) = some (.int .i64 ((vs[k] : Nat) : Int)) := by
        rw [hb.cell (World.block_lt_of_cell? w _ h0)]; exact h0
      clear h0
      have hv := HL.out vs[k] (List.getElem_mem _)
      generalize hx : vs[k] = x at *
      have HX := hide hx
      clear hx
      have hidx : ∀ h, (⟨#[48, 49, 50, 51, 52, 53, 54, 55, 56, 57, 65, 66, 67, 68, 69, 70, 71, 72, 74, 75, 76, 77, 78, 80, 81, 82, 83, 84, 85, 86, 87]⟩ : ByteArray)[x]'h = sgn x := fun h => sg_get ⟨x, hv⟩
      have hvI : (x : Int) < 31 := by omega
      go_wp2_with (at_builtin; refine wpList_append_own_spare _ rfl (.tmp 15) (.tmp 18) 95 rfl w.heap.size 5 i0 1 Try.underlying95 hi hz1 w.heap.size k n _ rfl (hown.alloc _) ⟨wr.heap.size, 0, none⟩ 1 1 [.int .u8 ((sgn x).toNat : Int)] rfl rfl (cell_one_new _ _ _) (by intro u hu; simp at hu; subst hu; rfl) (by omega) ?_; intro w2 hown2 hgrow2)
      go_roundw
      case rel =>
        exact ⟨k + 1, by omega, by go_num, rfl, by rw [List.take_succ_eq_append_getElem hkl, List.map_append, List.map_singleton, bv_snoc, HX.out]; exact hown2, (hb.alloc (by omega) _).grown hgrow2 (by simp; omega) (fun q hq => by cases hq; exact Nat.le_refl _)⟩
      case measure => simp [intOf]; omega
    · have hke : k = n := by omega
      subst hke
      have hs := run_str wr w.heap.size k k w.heap.size _ hown
      go_wp2_with fail
      go_ret
      refine ⟨?_, hb⟩
      rw [List.take_of_length_le (by rw [List.length_map]; have := HN.out; omega)]; rfl
end Go.Proofs.Ytcakfmpckbmdeab
