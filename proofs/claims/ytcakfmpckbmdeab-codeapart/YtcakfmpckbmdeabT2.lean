/-
  The contract of 'octet.Put': numbers as bytes, one behind another.
-/
import Derived.Test.YtcakfmpckbmdeabT1
import Derived.Deep.DeepAppendRoom
import Derived.Laws.BytesString
import Derived.Laws.IdiomStrings
import Derived.Maps.AppendAt
namespace Go.Proofs.Ytcakfmpckbmdeab
open Go.RowKit

theorem info5 : (Try.prog.info? 5).map (fun i => (i.zero, i.size, i.bytes)) = some (some (.int .u8 0), 1, 1) := by kernel_rfl

/-- the first k of wd bytes of n, the greatest first -/
def digs (n wd k : Nat) : List UInt8 := (List.range k).map fun q => UInt8.ofNat (n / 256 ^ (wd - 1 - q))
theorem digs_succ (n wd k : Nat) : digs n wd (k + 1) = digs n wd k ++ [UInt8.ofNat (n / 256 ^ (wd - 1 - k))] := by simp [digs, List.range_succ]
theorem digs_len (n wd k : Nat) : (digs n wd k).length = k := by simp [digs]

def putL (wd : Nat) (ns : List Nat) : List UInt8 := ns.flatMap fun n => digs n wd wd

def bv (l : List UInt8) : List Value := l.map fun b => Value.int .u8 (b.toNat : Int)
theorem bv_snoc (l : List UInt8) (b : UInt8) : bv (l ++ [b]) = bv l ++ [Value.int .u8 (b.toNat : Int)] := by simp [bv]
theorem bv_app (l r : List UInt8) : bv (l ++ r) = bv l ++ bv r := by simp [bv]

theorem putL_take (wd : Nat) (ns : List Nat) (j n : Nat) (h : ns[j]? = some n) : putL wd (ns.take (j + 1)) = putL wd (ns.take j) ++ digs n wd wd := by
  rw [List.take_add_one, h]; simp [putL]

theorem run_str (W : World) (g n cap base : Nat) (l : List UInt8) (hown : W.ownsRow base 5 1 (.slice (some ⟨g, 0, none⟩) n cap) n (bv l)) :
    (convert 95 9 (.slice (some ⟨g, 0, none⟩) n cap)).run Try.prog W = .ok (.string ⟨l.toArray⟩) W := by
  have hn : l.length = n := by have := hown.1; simpa [bv] using this
  subst hn
  exact run_convert_bytes_back W 95 9 5 ⟨g, 0, none⟩ cap l Try.underlying95 Try.underlying5 Try.underlying9 (fun j hj => by
    exact hown.cells rfl j _ (by simp [bv, List.getElem?_eq_getElem hj]))

theorem byteOf (n e : Nat) : ((n : Int) / 2 ^ (8 * e) % 256) = ((UInt8.ofNat (n / 256 ^ e)).toNat : Int) := by
  have h : (2 : Nat) ^ (8 * e) = 256 ^ e := by rw [Nat.pow_mul]
  have h2 : ((2 : Int) ^ (8 * e)) = ((256 ^ e : Nat) : Int) := by rw [← h]; simp
  rw [h2]
  simp only [UInt8.toNat_ofNat']
  omega

set_option maxHeartbeats 800000 in
set_option maxRecDepth 100000 in
theorem put_any (wd m c cc : Nat) (ad : Addr) (ns : List Nat) (w : World) (hwd : wd ≤ 8) (hm : ns.length = m) (hm3 : m ≤ 3) (hc : wd * m = c)
    (hcell : ∀ (j n : Nat), ns[j]? = some n → w.cell? (ad.add j) = some (.int .u64 (n : Int))) (hlt : ∀ n ∈ ns, n < 18446744073709551616) :
    Calls Try.prog 67 #[.int .i64 (wd : Int), .slice (some ad) m cc] w fun e w' => e = .returned (.string ⟨(putL wd ns).toArray⟩) ∧ Below w.heap.size w w' := by
  obtain ⟨i0, hi, hz0, hz1, hz2⟩ := info_parts info5
  have hmul : (wd : Int) * (m : Int) = (c : Int) := by rw [← hc]; simp
  have hc24 : c ≤ 24 := by have := Nat.mul_le_mul hwd hm3; omega
  have HC : Hid (wd * m = c) := hc
  have HM : Hid (ns.length = m) := hm
  have HL := (show Hid (∀ n ∈ ns, n < 18446744073709551616) from hlt)
  have HN := (show Hid (∀ (j n : Nat), ns[j]? = some n → w.cell? (ad.add j) = some (.int .u64 (n : Int))) from hcell)
  clear hc hm hlt hcell
  go_enter Try.func67, Try.ntmps67
  go_wp2_with (first
    | (at_make; refine wpList_make_own _ rfl _ _ 95 rfl w.heap.size 5 i0 (.int .u8 0) 1 Try.underlying95 hi hz0 hz1 .i64 .i64 _ c rfl rfl (by first | rfl | omega) (by rw [hz2]; omega) (by unfold maxLen; omega) (Nat.le_refl _) ?_; intro w0 hown0 hgrow0))
  clear hmul
  go_loopw [5, 16] (fun v i wr => ∃ j : Nat, j ≤ m ∧ i = .int .i64 (j : Int) ∧ v = .slice (some ⟨w.heap.size, 0, none⟩) (wd * j) c ∧ wr.ownsRow w.heap.size 5 1 v (wd * j) (bv (putL wd (ns.take j))) ∧ Below w.heap.size w wr)
    (fun _ i _ => m - (intOf i).toNat)
  case atStart => exact ⟨0, by omega, rfl, by simp, by simpa [putL, bv] using hown0, (Below.refl _ _).grown hgrow0 (Nat.le_refl _) (fun k h => by cases h)⟩
  case round =>
    obtain ⟨j, hj, rfl, rfl, hown, hb⟩ := hrel
    by_cases hlt : j < m
    · obtain ⟨n, hn⟩ : ∃ n, ns[j]? = some n := ⟨_, List.getElem?_eq_getElem (by have := HM.out; omega)⟩
      have hcj : wr.cell? (ad.add j) = some (.int .u64 (n : Int)) := by
        have h0 := HN.out j n hn
        rw [hb.cell (World.block_lt_of_cell? w _ h0)]
        exact h0
      have hn64 : n < 18446744073709551616 := HL.out n (List.mem_of_getElem? hn)
      have hroom : wd * j + wd ≤ c := by rw [← HC.out, ← Nat.mul_succ]; exact Nat.mul_le_mul_left _ hlt
      have HNJ := (show Hid (ns[j]? = some n) from hn)
      clear hn
      go_wp2_with fail
      go_loopw [5, 8] (fun v l wq => ∃ k : Nat, k ≤ wd ∧ l = .int .i64 ((wd : Int) - 1 - k) ∧ v = .slice (some ⟨w.heap.size, 0, none⟩) (wd * j + k) c ∧ wq.ownsRow w.heap.size 5 1 v (wd * j + k) (bv (putL wd (ns.take j) ++ digs n wd k)) ∧ Below w.heap.size w wq)
        (fun _ l _ => (intOf l + 1).toNat)
      case atStart => exact ⟨0, by omega, by simp, by simp, by simpa [digs] using hown, hb⟩
      case round =>
        obtain ⟨k, hk, rfl, rfl, hownk, hbk⟩ := hrel
        by_cases hkt : k < wd
        · have hsz := hbk.size
          go_wp2_with (at_builtin; refine wpList_append_own_spare _ rfl (.tmp 26) (.tmp 32) 95 rfl w.heap.size 5 i0 1 Try.underlying95 hi hz1 w.heap.size (wd * j + k) c _ rfl (hownk.alloc _) ⟨wr.heap.size, 0, none⟩ 1 1 [.int .u8 ((n : Int) / 2 ^ (8 * (wd - 1 - k)) % 256)] rfl rfl (cell_one_new _ _ _) (by intro u hu; simp at hu; subst hu; rfl) (by omega) ?_; intro w1 hown1 hgrow1)
          go_roundw
          case rel =>
            exact ⟨k + 1, by omega, by go_num, rfl, by rw [digs_succ, ← List.append_assoc, bv_snoc, ← byteOf]; exact hown1, (hbk.alloc (by omega) _).grown hgrow1 (by simp; omega) (fun q hq => by cases hq; exact Nat.le_refl _)⟩
          case measure => simp [intOf]; omega
        · have hke : k = wd := by omega
          subst hke
          go_wp2_with fail
          go_roundw
          case rel =>
            exact ⟨j + 1, by omega, by go_num, by rw [Nat.mul_succ], by rw [putL_take _ _ _ _ HNJ.out, Nat.mul_succ]; exact hownk, hbk⟩
          case measure => simp [intOf]; omega
    · have hje : j = m := by omega
      subst hje
      have hs := run_str wr w.heap.size (wd * j) c w.heap.size _ hown
      go_wp2_with fail
      go_ret
      exact ⟨by rw [List.take_of_length_le (by have := HM.out; omega)]; rfl, hb⟩
end Go.Proofs.Ytcakfmpckbmdeab
