/- What the four calls of package decimal answer, whole: no statement of the seat is proved here. -/
import Derived.Test.YtpmgbagnaaahoabDoorTaker
import Derived.Test.YtpmgbagnaaahoabDoorPure2
namespace Go.Proofs.YtpmgbagnaaahoabDoor
open Go.RowKit Go.Lib
set_option linter.unusedVariables false

theorem takeMoney_c (l : List UInt8) (w : World) (hl : l.length ≤ 1000) (he : Env w) :
    Calls Tryd.prog 9 #[.string ⟨l.toArray⟩] w fun e w' => e = .returned (.tuple #[.int .i64 (takeM l).1, .int .i64 (takeM l).2]) ∧ Ext w w' := by
  rcases hcd : cutD (trimPrefix l [45]) with ⟨W, P, B⟩
  have h3 : cut (trimPrefix l [45]) [46] = (W, P, B) := (cut_dot _).trans hcd
  have hr : (trimPrefix l [45]).length ≤ 1000 := Nat.le_trans (Lib.trimPrefix_le _ _) hl
  obtain ⟨hW, hP⟩ := cutD_len _ _ _ _ hcd
  replace hW := Nat.le_trans hW hr
  replace hP := Nat.le_trans hP hr
  unfold takeM
  rw [hcd]
  dsimp only
  cases ho : okWhole W 20
  · exact tm_whole l _ _ W P B w rfl rfl h3 hr hW hP he ho
  · obtain ⟨o1, o2, o3, o4⟩ := okWhole_spec W 20 ho
    by_cases hl2 : P.length = 2
    · cases hd : digOnly P
      · simpa [hl2] using tm_part l _ _ W P B w rfl rfl h3 hr hW hP he ho hl2 hd
      · have hPa : P.all isD = true := by unfold digOnly at hd; simp only [Bool.and_eq_true] at hd; exact hd.2
        have hall : (W ++ P).all isD = true := by rw [List.all_append, o3, hPa]; rfl
        simp only [hl2, decide_true, Bool.and_self, if_true]
        by_cases hv : valL (W ++ P) ≤ 1000000000000000
        · rw [if_pos hv]
          unfold sgnV
          cases hp : hasPrefix l [45]
          · have hc : cutL l = [] := by unfold cutL; rw [hp]; rfl
            exact tm_pos l _ W P B w hc rfl h3 hr hW hP he ho hl2 hd o1 hall _ rfl hv
          · have hc : cutL l = [45] := by unfold cutL; rw [hp]; rfl
            by_cases h0 : valL (W ++ P) = 0
            · simp only [h0, if_true]
              exact tm_nil l _ W P B w hc rfl h3 hr hW hP he ho hl2 hd o1 hall h0
            · simp only [if_true, h0, if_false]
              exact tm_neg l _ W P B w hc rfl h3 hr hW hP he ho hl2 hd o1 hall _ rfl hv (by omega)
        · rw [if_neg hv]
          exact tm_range l _ _ W P B w rfl rfl h3 hr hW hP he ho hl2 hd o1 hall (by omega)
    · have hne : ((P.length : Int) == 2) = false := by simp; omega
      simpa [hl2] using tm_len l _ _ W P B w rfl rfl h3 hr hW hP he ho hne

theorem takeRate_c (l : List UInt8) (w : World) (hl : l.length ≤ 1000) (he : Env w) :
    Calls Tryd.prog 11 #[.string ⟨l.toArray⟩] w fun e w' => e = .returned (.tuple #[.int .i64 (takeR l).1, .int .i64 (takeR l).2]) ∧ Ext w w' := by
  cases hf : hasSuffix l [37]
  · have := tr_form l _ w rfl hf hl
    unfold takeR
    simpa [hf] using this
  · generalize hp : trimSuffix l [37] = p
    have hpl : p.length ≤ 1000 := by rw [← hp]; exact Nat.le_trans (Lib.trimSuffix_le _ _) hl
    rcases hcd : cutD (trimPrefix p [45]) with ⟨W, P, B⟩
    have h3 : cut (trimPrefix p [45]) [46] = (W, P, B) := (cut_dot _).trans hcd
    have hr : (trimPrefix p [45]).length ≤ 1000 := Nat.le_trans (Lib.trimPrefix_le _ _) hpl
    obtain ⟨hW, hP⟩ := cutD_len _ _ _ _ hcd
    replace hW := Nat.le_trans hW hr
    replace hP := Nat.le_trans hP hr
    unfold takeR
    dsimp only
    rw [hp, hf, hcd]
    dsimp only
    cases ho : okWhole W 4
    · exact tr_whole l p _ _ W P B w hp hf hl rfl rfl h3 hr hW hP he ho
    · obtain ⟨o1, o2, o3, o4⟩ := okWhole_spec W 4 ho
      obtain ⟨_, j1, j2⟩ := cutD_join _ _ _ _ hcd
      have hfin : ∀ (hP7 : P.length ≤ 7) (hPa : P.all isD = true),
          (W ++ (P ++ zeros (7 - P.length))).all isD = true ∧ valL (W ++ (P ++ zeros (7 - P.length))) ≤ 100000000000 := by
        intro hP7 hPa
        have ha : (W ++ (P ++ zeros (7 - P.length))).all isD = true := by rw [List.all_append, List.all_append, o3, hPa, zeros_all]; rfl
        refine ⟨ha, ?_⟩
        have := valL_lt _ ha
        have hlen : (W ++ (P ++ zeros (7 - P.length))).length ≤ 11 := by
          rw [List.length_append, List.length_append, zeros_len]; omega
        have := Nat.pow_le_pow_right (n := 10) (by omega) hlen
        omega
      have hZ : ∀ (hP7 : P.length ≤ 7), zeros (7 - (P.length : Int)).toNat = zeros (7 - P.length) := by
        intro hP7; congr 1; omega
      cases B
      · obtain ⟨_, rP⟩ := j2 rfl
        have hP7 : P.length ≤ 7 := by rw [rP]; simp
        have hPa : P.all isD = true := by rw [rP]; rfl
        obtain ⟨ha, hb⟩ := hfin hP7 hPa
        have hZ := hZ hP7
        have hzl := zeros_len (7 - P.length)
        simp only [Bool.not_false, Bool.true_or, Bool.and_self, if_true]
        by_cases hv : valL (W ++ (P ++ zeros (7 - P.length))) ≤ 10000000000
        · rw [if_pos hv]
          unfold sgnV
          cases hn : hasPrefix p [45]
          · have hc : cutL p = [] := by unfold cutL; rw [hn]; rfl
            exact tr_pos_f l p _ W P w hp hf hl hc rfl h3 hr hW hP he ho _ hZ hzl ha o1 (by omega) _ rfl hb (by omega)
          · have hc : cutL p = [45] := by unfold cutL; rw [hn]; rfl
            by_cases h0 : valL (W ++ (P ++ zeros (7 - P.length))) = 0
            · simp only [h0, if_true]
              exact tr_nil_f l p _ W P w hp hf hl hc rfl h3 hr hW hP he ho _ hZ hzl ha o1 (by omega) h0
            · simp only [if_true, h0, if_false]
              exact tr_neg_f l p _ W P w hp hf hl hc rfl h3 hr hW hP he ho _ hZ hzl ha o1 (by omega) _ rfl hb (by omega) (by omega)
        · rw [if_neg hv]
          exact tr_over_f l p _ _ W P w hp hf hl rfl rfl h3 hr hW hP he ho _ hZ hzl ha o1 (by omega) _ rfl hb (by omega)
      · by_cases hP7 : P.length ≤ 7
        · cases hd : digOnly P
          · simpa [hP7] using tr_part l p _ _ W P w hp hf hl rfl rfl h3 hr hW hP he ho (by omega) hd
          · have hPa : P.all isD = true := by unfold digOnly at hd; simp only [Bool.and_eq_true] at hd; exact hd.2
            cases hs : hasSuffix P [48]
            · obtain ⟨ha, hb⟩ := hfin hP7 hPa
              have hZ := hZ hP7
              have hzl := zeros_len (7 - P.length)
              simp only [hP7, decide_true, Bool.not_true, Bool.not_false, Bool.false_or, Bool.and_self, if_true]
              by_cases hv : valL (W ++ (P ++ zeros (7 - P.length))) ≤ 10000000000
              · rw [if_pos hv]
                unfold sgnV
                cases hn : hasPrefix p [45]
                · have hc : cutL p = [] := by unfold cutL; rw [hn]; rfl
                  exact tr_pos_t l p _ W P w hp hf hl hc rfl h3 hr hW hP he ho hd hs _ hZ hzl ha o1 (by omega) _ rfl hb (by omega)
                · have hc : cutL p = [45] := by unfold cutL; rw [hn]; rfl
                  by_cases h0 : valL (W ++ (P ++ zeros (7 - P.length))) = 0
                  · simp only [h0, if_true]
                    exact tr_nil_t l p _ W P w hp hf hl hc rfl h3 hr hW hP he ho hd hs _ hZ hzl ha o1 (by omega) h0
                  · simp only [if_true, h0, if_false]
                    exact tr_neg_t l p _ W P w hp hf hl hc rfl h3 hr hW hP he ho hd hs _ hZ hzl ha o1 (by omega) _ rfl hb (by omega) (by omega)
              · rw [if_neg hv]
                exact tr_over_t l p _ _ W P w hp hf hl rfl rfl h3 hr hW hP he ho hd hs _ hZ hzl ha o1 (by omega) _ rfl hb (by omega)
            · simpa [hP7] using tr_nought l p _ _ W P w hp hf hl rfl rfl h3 hr hW hP he ho (by omega) hd hs
        · simpa [hP7] using tr_long l p _ _ W P w hp hf hl rfl rfl h3 hr hW hP he ho (by omega)
end Go.Proofs.YtpmgbagnaaahoabDoor
