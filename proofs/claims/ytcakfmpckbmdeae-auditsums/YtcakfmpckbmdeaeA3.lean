/-
  'auditBegun' (package leeboardlaw).
-/
import Derived.Test.YtcakfmpckbmdeaeA2
import Derived.Test.YtcakfmpckbmdeaeW2
namespace Go.Proofs.Ytcakfmpckbmdeae
open Go.RowKit

theorem abegun_g : gateV bookT bookP bookV 1 = (0, 1, 0) := by decide +kernel
theorem abegun_l : leftV bookT bookP bookV 4 = (2, 0) := by decide +kernel
theorem abegun_b : betwV bookT bookP bookV 0 59 = (1, 0) := by decide +kernel

set_option maxHeartbeats 6400000 in
set_option maxRecDepth 100000 in
theorem auditBegun_any (w : World) : Calls Try.prog 15 #[] w fun e w' => e = .returned (.bool true) ∧ Below w.heap.size w w' := by
  go_enter Try.func15, Try.ntmps15
  go_wp2_with fail
  refine (book_any _).mono ?_
  rintro e w1 ⟨⟨vb, rfl, hvb⟩, hb⟩
  have HB := hide hb
  clear hb
  obtain ⟨ob1, cb1, ob2, cb2, ob3, cb3, rfl, hvb'⟩ := hvb.parts
  have HAb := hide hvb'
  clear hvb hvb'
  go_wp2_with fail
  refine (gateVv HAb.out book_lens 1).mono ?_
  rintro e w2 ⟨rfl, hb⟩
  have HB' := hide (HB.out.trans (hb.mono HB.out.size))
  clear HB
  have HB := HB'
  clear HB' hb
  rw [abegun_g]
  clear HAb
  go_wp2_with fail
  refine (book_any _).mono ?_
  rintro e w3 ⟨⟨vb, rfl, hvb⟩, hb⟩
  have HB' := hide (HB.out.trans (hb.mono HB.out.size))
  clear HB
  have HB := HB'
  clear HB' hb
  obtain ⟨ob1, cb1, ob2, cb2, ob3, cb3, rfl, hvb'⟩ := hvb.parts
  have HAb := hide hvb'
  clear hvb hvb'
  go_wp2_with fail
  refine (leftVv HAb.out book_lens 4).mono ?_
  rintro e w4 ⟨rfl, hb⟩
  have HB' := hide (HB.out.trans (hb.mono HB.out.size))
  clear HB
  have HB := HB'
  clear HB' hb
  rw [abegun_l]
  clear HAb
  go_wp2_with fail
  refine (book_any _).mono ?_
  rintro e w5 ⟨⟨vb, rfl, hvb⟩, hb⟩
  have HB' := hide (HB.out.trans (hb.mono HB.out.size))
  clear HB
  have HB := HB'
  clear HB' hb
  obtain ⟨ob1, cb1, ob2, cb2, ob3, cb3, rfl, hvb'⟩ := hvb.parts
  have HAb := hide hvb'
  clear hvb hvb'
  go_wp2_with fail
  refine (betwVv HAb.out book_lens 0 59).mono ?_
  rintro e w6 ⟨rfl, hb⟩
  have HB' := hide (HB.out.trans (hb.mono HB.out.size))
  clear HB
  have HB := HB'
  clear HB' hb
  rw [abegun_b]
  clear HAb
  go_wp2_with fail
  go_ret
  exact ⟨rfl, HB.out⟩

end Go.Proofs.Ytcakfmpckbmdeae
