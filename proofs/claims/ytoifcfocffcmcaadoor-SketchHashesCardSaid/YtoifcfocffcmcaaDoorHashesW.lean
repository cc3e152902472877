/- SketchHashes in plain words. -/
import Derived.Test.YtoifcfocffcmcaaDoorSkHead
namespace Go.Proofs.YtoifcfocffcmcaaDoor
open Go.RowKit

theorem hashes_law (t : List UInt8) (seed : Int) (h0 : -9223372036854775808 ≤ seed) (h1 : seed ≤ 9223372036854775807) (w : World) (ht : Tab w) :
    Calls Tryd.prog 8 #[str t, .int .i64 seed] w fun e w' => e = .returned (.bool true) ∧ Below w.heap.size w w' := by
  by_cases hl : 500 < t.length
  · go_enter Tryd.func8, Tryd.ntmps8
    go_wp2_with fail
    refine (head_any w ht).mono ?_
    rintro e w1 ⟨rfl, hb⟩
    go_wp2_with fail
    go_ret
    exact ⟨rfl, hb⟩
  by_cases hs : seed < -1000000000000
  · go_enter Tryd.func8, Tryd.ntmps8
    go_wp2_with fail
    refine (head_any w ht).mono ?_
    rintro e w1 ⟨rfl, hb⟩
    go_wp2_with fail
    go_ret
    exact ⟨rfl, hb⟩
  have HH := Lib.hid (hash_any t seed (by omega))
  have HK := Lib.hid (hash_any t (seed - 2147483647) (by omega))
  rw [hash_less] at HK
  obtain ⟨r0, r1⟩ := hash_range t seed
  obtain ⟨r, hr⟩ : ∃ r, hashT t seed = r := ⟨_, rfl⟩
  rw [hr] at HH HK r0 r1
  clear hr
  go_enter Tryd.func8, Tryd.ntmps8
  go_wp2_with fail
  refine (head_any w ht).mono ?_
  rintro e w1 ⟨rfl, hb⟩
  go_wp2_with fail
  refine (HH.out _).mono ?_
  rintro e w2 ⟨rfl, hb2⟩
  have HB2 := Lib.hid (below_up hb hb2 hb.size)
  clear hb hb2
  go_wp2_with fail
  refine (HK.out _).mono ?_
  rintro e w3 ⟨rfl, hb3⟩
  have HB3 := Lib.hid (below_up HB2.out hb3 HB2.out.size)
  go_wp2_with fail
  go_ret
  exact ⟨rfl, HB3.out⟩
end Go.Proofs.YtoifcfocffcmcaaDoor
