/- The products of the law that refuses, and why there are no days: by themselves; no statement of the seat is proved here. -/
import Derived.Test.YtmlkccmkdgfalaaDoorDu7
namespace Go.Proofs.YtmlkccmkdgfalaaDoor
open Go.RowKit
open L3 (yOf mOf dOf mi st Has)
set_option linter.unusedVariables false

def prA : Prd := { pl0 with tm := 300 }
def prB (f : Int) (k : Nat) : Prd := { pl0 with rl := 2, hd := fst k fun j => f + (j : Int) }
def prZ : Prd := ⟨[], 0, 0, 0, 0, 0, 0, 0, [], 0, 0, 0, 0, 0, 0, [], 0, 0, []⟩
theorem due_z : Due prZ 19723 9 := .bad (by decide +kernel)
theorem due_a (n : Int) (h1 : 81371 ≤ n) (h2 : n ≤ 84370) : Due prA n 5 := by
  refine .day (by decide +kernel) fun hD => ?_
  have h := L3.has_of (hD.all 299 (by decide))
  have t2 := h.t2
  have y := L6.yOf_sp n (by omega) h2
  have s : st 2192 = 81084 := by decide
  have hy : ¬ yOf n < 2192 := fun k => by
    have := L3.st_mono (yOf n + 1) 2192 (by omega)
    omega
  have v := (L3.ofDay n (by omega) h2).1
  have := v.m1
  have e : prA.ev = 1 := rfl
  rw [e] at t2
  unfold mi at t2
  omega
theorem due_b0 : Due (prB 19748 45) 19723 11 := .dates (by decide +kernel) ⟨by decide, by decide, by decide +kernel⟩ (by decide +kernel) (by decide +kernel)
theorem due_b1 : Due (prB 19749 45) 19723 11 := .dates (by decide +kernel) ⟨by decide, by decide, by decide +kernel⟩ (by decide +kernel) (by decide +kernel)
theorem due_b2 : Due (prB 19750 45) 19723 11 := .dates (by decide +kernel) ⟨by decide, by decide, by decide +kernel⟩ (by decide +kernel) (by decide +kernel)
theorem due_b (R : Int) (h1 : 0 ≤ R) (h2 : R < 3) : Due (prB (19748 + R) 45) 19723 11 := by
  obtain rfl | rfl | rfl : R = 0 ∨ R = 1 ∨ R = 2 := by omega
  · exact due_b0
  · exact due_b1
  · exact due_b2
theorem own_put {w : World} {B : Nat} {e : TypeId} {z : Nat} {v : Value} {T : Nat} {xs : List Value} (h : w.ownsRow B e z v T xs) {b : Nat} (hb : b < B) (i : Nat) (x : Value) : (w.setCell ⟨b, i, none⟩ x).ownsRow B e z v T xs := by
  have hl := h.lt
  refine ⟨h.1, ?_⟩
  rcases h.2 with h0 | ⟨g, c, cur, h1, h2, h3, h4⟩
  · exact Or.inl h0
  · refine Or.inr ⟨g, c, cur, h1, h2, ?_, h4⟩
    rw [heap_setCell_other _ _ _ _ (fun hc => by have h5 := (hl g (by rw [h1]; rfl)).1; dsimp only at hc; omega)]
    exact h3
theorem inp_of (w : World) (q : Prd) (v : Value) (hn : q.nm.length ≤ 9223372036854775807) (h1 : q.rs = []) (h2 : q.lt = []) (h3 : q.hd.length ≤ 9223372036854775807) (hv : L8.Slc w v q.hd) : Inp w q (.slice none 0 0) (.slice none 0 0) v :=
  ⟨hn, by rw [h1]; exact Nat.zero_le _, by rw [h2]; exact Nat.zero_le _, h3, by rw [h1]; exact L8.nilr w, by rw [h2]; exact L8.nilr w, hv⟩
end Go.Proofs.YtmlkccmkdgfalaaDoor
