/- Divide and Ratio of the program at every input, in plain numbers: no statement of the seat is proved here. -/
import Derived.Test.YtpmgbagnaaahoabDiv2
import Derived.Test.YtpmgbagnaaahoabOff
namespace Go.Proofs.Ytpmgbagnaaahoab
open Go.RowKit
set_option linter.unusedVariables false

/-- What is answered: the number, the reason. -/
def ratV (m n d : Int) : Int := if d ≤ 0 then 0 else if fitB (rnd m n d) then rnd m n d else 0
def ratE (m n d : Int) : Int := if d ≤ 0 then 1 else if fitB (rnd m n d) then 0 else 3

theorem rat_below (m n d : Int) (h : d ≤ 0) : ratV m n d = 0 ∧ ratE m n d = 1 := by simp [ratV, ratE, h]
theorem rat_fit (m n d : Int) (h : ¬ d ≤ 0) (k : Fit (rnd m n d)) : ratV m n d = rnd m n d ∧ ratE m n d = 0 := by
  have : fitB (rnd m n d) = true := (fitB_iff _).2 k
  simp [ratV, ratE, h, this]
theorem rat_big (m n d : Int) (h : ¬ d ≤ 0) (k : ¬ Fit (rnd m n d)) : ratV m n d = 0 ∧ ratE m n d = 3 := by
  have : fitB (rnd m n d) = false := by
    cases e : fitB (rnd m n d)
    · rfl
    · exact absurd ((fitB_iff _).1 e) k
  simp [ratV, ratE, h, this]

theorem of_any' (m : Int) (w : World) (hm : m = 1 ∨ m = 2 ∨ m = 3) :
    Calls Try.prog 4 #[.int .i64 m] w fun e w' => e = .returned (.tuple #[.agg #[.int .i64 m], .int .i64 0]) ∧ Ext w w' := by
  rcases hm with rfl | rfl | rfl
  · exact of_1 w
  · exact of_2 w
  · exact of_3 w

theorem divide_any (m n d : Int) (w : World) (hm : m = 1 ∨ m = 2 ∨ m = 3) (hn : I64 n) (hd2 : d ≤ 9223372036854775807) :
    Calls Try.prog 7 #[.agg #[.int .i64 m], .int .i64 n, .int .i64 d] w fun e w' => e = .returned (.tuple #[.int .i64 (ratV m n d), .int .i64 (ratE m n d)]) ∧ Ext w w' := by
  by_cases h : d ≤ 0
  · rw [(rat_below m n d h).1, (rat_below m n d h).2]; exact divide_below m n d w hm h
  · by_cases k : Fit (rnd m n d)
    · rw [(rat_fit m n d h k).1, (rat_fit m n d h k).2]
      exact divide_ok m n d w hm hn (by omega) hd2 (fun hh => divAt_full _ d (by omega) hd2 hh) k
    · rw [(rat_big m n d h k).1, (rat_big m n d h k).2]
      exact divide_no m n d w hm hn (by omega) hd2 (fun hh => divAt_full _ d (by omega) hd2 hh) k

theorem ratio_any (m a b d : Int) (w : World) (hm : m = 1 ∨ m = 2 ∨ m = 3) (ha : I64 a) (hb : I64 b) (hd2 : d ≤ 9223372036854775807) :
    Calls Try.prog 5 #[.agg #[.int .i64 m], .int .i64 a, .int .i64 b, .int .i64 d] w fun e w' => e = .returned (.tuple #[.int .i64 (ratV m (a * b) d), .int .i64 (ratE m (a * b) d)]) ∧ Ext w w' := by
  by_cases h : d ≤ 0
  · rw [(rat_below m (a * b) d h).1, (rat_below m (a * b) d h).2]; exact ratio_below m a b d w hm h
  · by_cases k : Fit (rnd m (a * b) d)
    · rw [(rat_fit m (a * b) d h k).1, (rat_fit m (a * b) d h k).2]
      exact ratio_ok m a b d w hm ha hb (by omega) hd2 (fun hh => divAt_full _ d (by omega) hd2 hh) k
    · rw [(rat_big m (a * b) d h k).1, (rat_big m (a * b) d h k).2]
      exact ratio_no m a b d w hm ha hb (by omega) hd2 (fun hh => divAt_full _ d (by omega) hd2 hh) k

end Go.Proofs.Ytpmgbagnaaahoab
