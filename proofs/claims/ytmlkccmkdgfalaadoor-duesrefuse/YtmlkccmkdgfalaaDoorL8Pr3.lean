
/- What the document's Words, In (of texts) and Name answer, as contracts: no statement of the seat is proved here. -/
import Derived.Test.YtmlkccmkdgfalaaDoorL8Pr2
namespace Go.Proofs.YtmlkccmkdgfalaaDoor.L8
open Go.RowKit
set_option linter.unusedVariables false

/-- These texts lie in a block. -/
def Strs (w : World) (b : Nat) (ws : List (List UInt8)) : Prop := ∀ (k : Nat) (x : List UInt8), ws[k]? = some x → w.cell? ⟨b, k, none⟩ = some (.string ⟨x.toArray⟩)
theorem Strs.ext {w w' : World} {b : Nat} {ws : List (List UInt8)} (h : Strs w b ws) (hx : Ext w w') : Strs w' b ws := fun k x hk => hx.cell_of (h k x hk)
theorem strs_new (w : World) (ws : List (List UInt8)) (t : TypeId) : Strs (w.alloc (.cells (ws.map fun x => .string ⟨x.toArray⟩).toArray t)) w.heap.size ws := fun k x hk => by
  simp [go_sem, hk]
/-- A name's bytes, as the document goes through them. -/
def okF : Nat → List UInt8 → Bool
  | _, [] => true
  | k, c :: m => (lowB c || (decide (k ≠ 0) && (digB c || ((c.toNat : Int) == 45)))) && okF (k + 1) m
theorem okF_all : ∀ (m : List UInt8) (k : Nat), okF (k + 1) m = m.all inB
  | [], _ => rfl
  | c :: m, k => by
    show ((lowB c || (decide (k + 1 ≠ 0) && (digB c || ((c.toNat : Int) == 45)))) && okF (k + 1 + 1) m) = _
    rw [okF_all m (k + 1), List.all_cons]
    rfl
theorem nmb_ref (l : List UInt8) : nmb l = (okF 0 l && (lz l.length 1 20 && !(decide (l ∈ wordsL)))) := by
  unfold nmb
  cases l with
  | nil => rfl
  | cons c m =>
    have h1 : headB (c :: m) = lowB c := rfl
    have h2 : okF 0 (c :: m) = ((lowB c || false) && okF 1 m) := rfl
    rw [h1, h2, okF_all m 0, List.all_cons]
    have h3 : inB c = (lowB c || (digB c || ((c.toNat : Int) == 45))) := rfl
    rw [h3]
    cases lowB c <;> cases m.all inB <;> cases lz (c :: m).length 1 20 <;> simp
theorem okF_yes {k : Nat} {c : UInt8} {m : List UInt8} (h : lowB c = true ∨ k ≠ 0 ∧ (digB c || ((c.toNat : Int) == 45)) = true) : okF k (c :: m) = okF (k + 1) m := by
  show ((lowB c || (decide (k ≠ 0) && (digB c || ((c.toNat : Int) == 45)))) && okF (k + 1) m) = _
  rcases h with h | ⟨h1, h2⟩
  · rw [h]; simp
  · rw [h2, decide_eq_true h1]; simp
theorem okF_no {k : Nat} {c : UInt8} {m : List UInt8} (h : lowB c = false) (h2 : k = 0 ∨ (digB c || ((c.toNat : Int) == 45)) = false) : okF k (c :: m) = false := by
  show ((lowB c || (decide (k ≠ 0) && (digB c || ((c.toNat : Int) == 45)))) && okF (k + 1) m) = _
  rw [h]
  rcases h2 with h2 | h2
  · rw [decide_eq_false (by omega)]; simp
  · rw [h2]; simp
end Go.Proofs.YtmlkccmkdgfalaaDoor.L8