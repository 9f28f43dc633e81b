/-
  Views, as lists: what is wrong with them, who leads, who wins.
-/
import Derived.Test.YtcakfmpckbmdeaeV1
namespace Go.Proofs.Ytcakfmpckbmdeae
open Go.RowKit

/-- what is wrong with a view -/
def chkW (p : VW) : Int := if (wi p.e 0 99 && wi p.l 0 1) = false then 3 else if p.e = 0 ∧ p.l ≠ 0 then 4 else 0
/-- two views of one epoch with two leaders -/
def twoW (v w : VW) : Bool := v.e == w.e && v.l != w.l
def splW (L : List VW) : Bool := L.any fun v => L.any fun w => twoW v w
/-- what is wrong with views -/
def chkVs (L : List VW) : Int := if L.length = 3 then (if firstE (L.map chkW) = 0 then (if splW L = true then 4 else 0) else firstE (L.map chkW)) else 1

/-- the first of those of the greatest epoch -/
def topW : List VW → VW
  | [] => ⟨0, 0, false⟩
  | x :: r => r.foldl (fun m y => if m.e < y.e then y else m) x

def mostW (g : VW → Bool) (L : List VW) : Bool := decide (3 < 2 * (L.countP g : Int))
def upG (v : VW) : Bool := v.u
def upAt (L : List VW) (i : Int) : Bool := ((L[i.toNat]?).map VW.u).getD false
def lastG (p : VW) : VW → Bool := fun v => v.u && v.e == p.e
def leadsW (L : List VW) : Bool := (topW L).e != 0 && upAt L (topW L).l && mostW (lastG (topW L)) L
def whoW (L : List VW) : Int := if leadsW L = true then (topW L).l else 0
def winsW (L : List VW) (who : Int) : Bool := upAt L who && mostW upG L
def unfW (L : List VW) (who n : Int) : Int := if chkVs L = 0 then (if wi who 0 n = true then 0 else 3) else chkVs L
def winE (L : List VW) (who : Int) : Int := if unfW L who 1 = 0 then (if winsW L who = true ∧ (topW L).e = 99 then 2 else 0) else unfW L who 1
def promW (L : List VW) (e who : Int) : List VW := L.map fun v => if v.u = true then ⟨e, who, true⟩ else v
def winB (L : List VW) (who : Int) : Bool := decide (winE L who = 0) && winsW L who
def winL (L : List VW) (who : Int) : List VW := if winsW L who = true then promW L ((topW L).e + 1) who else L
def setL (L : List VW) (who : Int) (up : Bool) : List VW := L.modify who.toNat fun v => ⟨v.e, v.l, up⟩

theorem chkW_zero {p : VW} : chkW p = 0 ↔ (0 ≤ p.e ∧ p.e ≤ 99 ∧ (p.l = 0 ∨ p.l = 1) ∧ (p.e = 0 → p.l = 0)) := by
  rw [chkW]
  simp only [wi, Bool.and_eq_false_iff, decide_eq_false_iff_not]
  split
  · simp; omega
  · split
    · simp; omega
    · simp; omega

theorem chkVs_three {L : List VW} (h : chkVs L ≠ 1) : ∃ a b c, L = [a, b, c] := by
  rw [chkVs] at h
  split at h
  · rename_i hl
    match L, hl with
    | [a, b, c], _ => exact ⟨a, b, c, rfl⟩
  · exact absurd rfl h

theorem chkVs_right {L : List VW} (h : chkVs L = 0) : ∃ a b c, L = [a, b, c] ∧ chkW a = 0 ∧ chkW b = 0 ∧ chkW c = 0 ∧ splW L = false := by
  obtain ⟨a, b, c, rfl⟩ := chkVs_three (L := L) (by omega)
  refine ⟨a, b, c, rfl, ?_⟩
  rw [chkVs] at h
  simp only [List.length_cons, List.length_nil, List.map_cons, List.map_nil, firstE] at h
  by_cases ha : chkW a = 0
  · by_cases hb : chkW b = 0
    · by_cases hc : chkW c = 0
      · simp [ha, hb, hc] at h
        exact ⟨ha, hb, hc, h⟩
      · simp [ha, hb, hc] at h
    · simp [ha, hb] at h
  · simp [ha] at h

theorem chkVs_of {a b c : VW} (ha : chkW a = 0) (hb : chkW b = 0) (hc : chkW c = 0) (hs : splW [a, b, c] = false) : chkVs [a, b, c] = 0 := by
  rw [chkVs]
  simp [firstE, ha, hb, hc, hs]

theorem splW_three {a b c : VW} : splW [a, b, c] = false ↔ ((a.e = b.e → a.l = b.l) ∧ (a.e = c.e → a.l = c.l) ∧ (b.e = c.e → b.l = c.l)) := by
  simp only [splW, twoW, List.any_cons, List.any_nil, Bool.or_false, Bool.or_eq_false_iff, Bool.and_eq_false_iff, beq_eq_false_iff_ne, bne_eq_false_iff_eq]
  constructor
  · rintro ⟨⟨-, h1, h2⟩, ⟨-, -, h3⟩, -⟩
    exact ⟨fun h => by rcases h1 with h1 | h1 <;> simp_all, fun h => by rcases h2 with h2 | h2 <;> simp_all, fun h => by rcases h3 with h3 | h3 <;> simp_all⟩
  · rintro ⟨h1, h2, h3⟩
    refine ⟨⟨Or.inr trivial, ?_, ?_⟩, ⟨?_, Or.inr trivial, ?_⟩, ?_, ?_, Or.inr trivial⟩
    · by_cases h : a.e = b.e <;> simp_all
    · by_cases h : a.e = c.e <;> simp_all
    · by_cases h : a.e = b.e
      · right; simp_all
      · left; omega
    · by_cases h : b.e = c.e <;> simp_all
    · by_cases h : a.e = c.e
      · right; simp_all
      · left; omega
    · by_cases h : b.e = c.e
      · right; simp_all
      · left; omega

theorem topW_three (a b c : VW) : topW [a, b, c] = if (if a.e < b.e then b else a).e < c.e then c else (if a.e < b.e then b else a) := rfl
end Go.Proofs.Ytcakfmpckbmdeae
