/- ParserOperations, walked. -/
import Derived.Test.YtcgkaecaddpenaaGreatDoorPsOpB
import Derived.Test.YtcgkaecaddpenaaGreatDoorPsOpC
namespace Go.Proofs.YtcgkaecaddpenaaGreatDoor
open Go.RowKit
open L7 (Tk lexT lx gap)
open L8
set_option linter.unusedSimpArgs false

theorem ops_law (one two : Txt) (w : World) : Calls Tryz.prog 6 #[str one, str two] w (fun e w' => e = .returned (.bool true) ∧ Below w.heap.size w w') := by
  by_cases h : 1000 < one.length
  · exact ops_long one two h w
  · by_cases h2 : 1000 < two.length
    · exact ops_long2 one two (by omega) h2 w
    · obtain ⟨⟨a, er, x⟩, hp⟩ : ∃ z, parseT (qpre ++ (one ++ [10, 59])) = z := ⟨_, rfl⟩
      obtain ⟨⟨b, er2, y⟩, hp2⟩ : ∃ z, parseT (qpre ++ (two ++ [10, 59])) = z := ⟨_, rfl⟩
      by_cases he : er = 0
      · by_cases he2 : er2 = 0
        · by_cases hn : a.length = 1
          · by_cases hn2 : b.length = 1
            · obtain ⟨i, rfl⟩ := List.length_eq_one_iff.1 hn
              obtain ⟨j, rfl⟩ := List.length_eq_one_iff.1 hn2
              subst he he2
              by_cases hd1 : 11 < depE i.ex
              · exact ops_deep one two (by omega) (by omega) hp hp2 hd1 w
              · by_cases hd2 : 11 < depE j.ex
                · exact ops_deep2 one two (by omega) (by omega) hp hp2 (by omega) hd2 w
                · exact ops_ok one two (by omega) (by omega) hp hp2 (by omega) (by omega) w
            · exact ops_len2 one two (by omega) (by omega) hp hp2 he he2 hn hn2 w
          · exact ops_len one two (by omega) (by omega) hp hp2 he he2 hn w
        · exact ops_err2 one two (by omega) (by omega) hp hp2 he he2 w
      · exact ops_err one two (by omega) (by omega) hp hp2 he w
end Go.Proofs.YtcgkaecaddpenaaGreatDoor
