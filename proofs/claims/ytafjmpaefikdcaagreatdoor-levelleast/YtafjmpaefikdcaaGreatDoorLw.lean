
/- What the laws of products want (layer 13): no statement of the seat is proved here. -/
import Derived.Test.YtafjmpaefikdcaaGreatDoorLv8
import Derived.Test.YtafjmpaefikdcaaGreatDoorGap
import Derived.Test.YtafjmpaefikdcaaGreatDoorDu6
import Derived.Test.YtafjmpaefikdcaaGreatDoorPl24
namespace Go.Proofs.YtafjmpaefikdcaaGreatDoor
open Go.RowKit
open L8 (Slc)
set_option linter.unusedVariables false

/-- The document's parts may be asked of. -/
theorem parts_okl {q : Prd} {s A : Int} (h : okP q = true) (hd : Due q s 0) (a1 : 1 ≤ A) (a2 : A ≤ 10000000000000) : Okl q.tm (fst (duT q) (paF q.cn s (duF q s))) A := by
  refine ⟨by rw [fst_length]; exact (tm_T h).1.symm, fun n hn => ?_, a1, a2⟩
  obtain ⟨k, hk⟩ := List.getElem?_of_mem hn
  obtain ⟨h1, h2⟩ := fst_at hk
  rw [← h2]
  exact paF_bd q s hd k h1
theorem ask_of {q : Prd} {l : List Int} {A : Int} (h : okP q = true) (hO : Okl q.tm l A) : askE q l A 0 := Or.inr (Or.inr ⟨h, hO, rfl⟩)
theorem ok_down {q : Prd} (h : okP q = true) : okP { q with rd := 3 } = true := by
  obtain ⟨a0, a1, a2, a3, a4, a5, a6, a7, a8, a9, a10⟩ := ok_parts h
  obtain ⟨b0, b1, b2, b3, b4⟩ := r1_parts a1
  exact ok_of ⟨a0, r1_of ⟨b0, rfl, b2, b3, b4⟩, a2, a3, a4, a5, a6, a7, a8, a9, a10⟩
theorem ok_ann {q : Prd} (h : okP q = true) : okP { q with kd := 1 } = true := by
  obtain ⟨a0, a1, a2, a3, a4, a5, a6, a7, a8, a9, a10⟩ := ok_parts h
  obtain ⟨b0, b1, b2, b3, b4⟩ := r1_parts a1
  refine ok_of ⟨a0, r1_of ⟨b0, b1, rfl, b3, b4⟩, a2, a3, ?_, a5, a6, a7, a8, a9, a10⟩
  show L8.r4B 1 q.tm q.gr = true
  unfold L8.r4B at a4 ⊢
  rw [Bool.or_eq_true] at a4
  rcases a4 with h | h
  · rw [h]; rfl
  · rw [Bool.and_eq_true] at h
    rw [h.2]; simp
/-- A remainder that bears a sign. -/
theorem rem_s (x : Int) : ∃ R : Int, x.tmod 1000 = R ∧ -1000 < R ∧ R < 1000 ∧ IntKind.i64.wrap R = R := by
  have h : -1000 < x.tmod 1000 ∧ x.tmod 1000 < 1000 := by
    by_cases c : 0 ≤ x
    · have h1 := Int.tmod_nonneg 1000 c
      have h2 := Int.tmod_lt_of_pos x (show (0 : Int) < 1000 by decide)
      omega
    · have h1 := Int.tmod_nonneg 1000 (show 0 ≤ -x by omega)
      have h2 := Int.tmod_lt_of_pos (-x) (show (0 : Int) < 1000 by decide)
      rw [Int.neg_tmod] at h1 h2
      omega
  exact ⟨_, rfl, h.1, h.2, by rw [IntKind.wrap_i64]; omega⟩
theorem Inp.of {w : World} {q : Prd} {ur ul uh : Value} (s1 : L8.Slp w ur q.rs) (s2 : L8.Slp w ul q.lt) (s3 : L8.Slc w uh q.hd) (n1 : q.nm.length ≤ 30000) (n2 : q.rs.length + q.lt.length + q.hd.length ≤ 30000) : Inp w q ur ul uh :=
  ⟨by omega, by omega, by omega, by omega, s1, s2, s3⟩
end Go.Proofs.YtafjmpaefikdcaaGreatDoor
