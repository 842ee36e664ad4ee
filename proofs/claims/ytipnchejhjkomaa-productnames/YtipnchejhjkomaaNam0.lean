/- Names that are made of bytes, by themselves and in the law of names: no statement of the seat is proved here. -/
import Derived.Test.YtipnchejhjkomaaFrame
import Derived.Lib.ConvBytes
import Derived.Laws.IdiomStrings
namespace Go.Proofs.Ytipnchejhjkomaa
open Go.RowKit Go.Lib
set_option linter.unusedVariables false

def alphL : List UInt8 := [97, 98, 99, 100, 101, 102, 103, 104, 105, 106, 107, 108, 109, 110, 111, 112, 113, 114, 115, 116, 117, 118, 119, 120, 121, 122, 48, 49, 50, 51, 52, 53, 54, 55, 56, 57, 45]
theorem alph_in : alphL.all inB = true := by decide +kernel
theorem alph_at (j : Nat) (h : j < 37) : ∃ c, alphL[j]? = some c ∧ inB c = true := by
  have hl : j < alphL.length := h
  exact ⟨alphL[j], List.getElem?_eq_getElem hl, List.all_eq_true.1 alph_in _ (List.getElem_mem hl)⟩
theorem nmb_made {T : List UInt8} (h : T.all inB = true) : nmb (110 :: T) = (decide ((110 :: T).length ≤ 20) && !(decide (110 :: T ∈ wordsL))) := by
  unfold nmb
  rw [List.all_cons, h, show inB 110 = true by decide +kernel, show headB (110 :: T) = true from (show lowB 110 = true by decide +kernel)]
  simp only [Bool.true_and, Bool.and_true]
  congr 1
  unfold lz
  rw [decide_eq_true (show (1 : Int) ≤ ((110 :: T).length : Int) by simp; omega), Bool.true_and]
  by_cases hl : (110 :: T).length ≤ 20
  · rw [decide_eq_true hl, decide_eq_true (by omega)]
  · rw [decide_eq_false hl, decide_eq_false (by omega)]
theorem nmb_head {c : UInt8} {T : List UInt8} (h : lowB c = false) : nmb (c :: T) = false := by
  unfold nmb
  rw [show headB (c :: T) = lowB c from rfl, h]; simp
theorem words_no : ∀ V ∈ wordsL, nmb V = false ∧ nmb (V ++ [120]) = true ∧ V.length ≤ 9 := by decide +kernel
theorem word_at (r : Nat) (h : r < 34) : ∃ V, wordsL[r]? = some V ∧ nmb V = false ∧ nmb (V ++ [120]) = true ∧ V.length ≤ 9 := by
  have hl : r < wordsL.length := h
  exact ⟨wordsL[r], List.getElem?_eq_getElem hl, words_no _ (List.getElem_mem hl)⟩
theorem one_byte (W : World) (b : Nat) (c : UInt8) (h : W.cell? ⟨b, 0, none⟩ = some (.int .u8 (c.toNat : Int))) :
    (convert 48 9 (.slice (some ⟨b, 0, none⟩) 1 1)).run Try.prog W = .ok (.string ⟨#[c]⟩) W :=
  run_convert_bytes_back (P := Try.prog) W 48 9 5 ⟨b, 0, none⟩ 1 [c] Try.underlying48 Try.underlying5 Try.underlying9 (fun j hj => by
    obtain rfl : j = 0 := by simpa using hj
    exact h)
end Go.Proofs.Ytipnchejhjkomaa
