/- A row of bytes that is filled with one byte, and its text: no statement of the seat is proved here. -/
import Derived.Test.YtocdkgmmnkmlpaaDoorLex8
import Derived.Lib.SlBytesRow
namespace Go.Proofs.YtocdkgmmnkmlpaaDoor
open Go.RowKit Go.Lib
set_option linter.unusedVariables false

/-- A row of n bytes: the first k are x, the others 0. -/
structure Fil (w : World) (g n k : Nat) (x : Int) : Prop where
  cell : ∀ j, j < n → w.cell? ⟨g, j, none⟩ = some (.int .u8 (if j < k then x else 0))
  free : ∀ j, j < n → w.frozen? ⟨g, j, none⟩ = false
theorem Fil.made {w' : World} {B g n : Nat} {e : TypeId} {x : Int} (h : w'.ownsRow B e 1 (.slice (some ⟨g, 0, none⟩) n n) n (madeCells #[Value.int .u8 0] n).toList) : Fil w' g n 0 x := by
  refine ⟨fun j hj => ?_, fun j _ => h.frozenAt j⟩
  rw [h.cellAt j (by omega)]
  have : (madeCells #[Value.int .u8 0] n).toList = List.replicate n (.int .u8 0) := toList_madeCells_one _ _
  rw [this]
  simp [hj]
theorem Fil.store {w : World} {g n k : Nat} {x : Int} (h : Fil w g n k x) : Fil (w.setCell ⟨g, k, none⟩ (.int .u8 x)) g n (k + 1) x := by
  refine ⟨fun j hj => ?_, fun j hj => by simpa using h.free j hj⟩
  by_cases hjk : j = k
  · subst hjk
    rw [same (h.cell j hj)]
    simp
  · rw [other _ (Or.inr (fun e => hjk e.symm)), h.cell j hj]
    by_cases c : j < k
    · rw [if_pos c, if_pos (by omega)]
    · rw [if_neg c, if_neg (by omega)]
theorem Fil.bytes {w : World} {g n : Nat} {c : UInt8} (h : Fil w g n n c.toNat) : Bytes w g 0 ⟨(List.replicate n c).toArray⟩ := by
  intro i hi
  have hi' : i < n := by rw [Lib.size_mk, List.length_replicate] at hi; exact hi
  rw [Nat.zero_add, h.cell i hi', if_pos hi']
  have : (⟨(List.replicate n c).toArray⟩ : ByteArray)[i]'hi = c := by
    have h1 : (⟨(List.replicate n c).toArray⟩ : ByteArray)[i]'hi = (List.replicate n c)[i]'(by rw [List.length_replicate]; exact hi') := rfl
    rw [h1, List.getElem_replicate]
  rw [this]
theorem conv_fil {w : World} {g n : Nat} {c : UInt8} (h : Fil w g n n c.toNat) (cap : Nat) : (convert 32 9 (.slice (some ⟨g, 0, none⟩) n cap)).run Tryd.prog w = .ok (.string ⟨(List.replicate n c).toArray⟩) w := by
  have := run_convert_whole (P := Tryd.prog) w 32 5 9 Tryd.underlying32 Tryd.underlying5 Tryd.underlying9 g 0 ⟨(List.replicate n c).toArray⟩ h.bytes cap
  rwa [Lib.size_mk, List.length_replicate] at this
theorem info_u8 : (Tryd.prog.info? 5).map (fun i => (i.zero, i.size, i.bytes)) = some (some (.int .u8 0), 1, 1) := by kernel_rfl
theorem Ext.grown {w w' : World} (hg : w.grownBy w' none) : Ext w w' := ⟨(Below.refl _ _).grown hg (Nat.le_refl _) (fun k h => by cases h)⟩
theorem rn_rep (n : Nat) (c : UInt8) (h : letL.contains c = true) : rn (List.replicate n c) inWL = n := by
  induction n with
  | zero => rfl
  | succ n ih => rw [List.replicate_succ, rn_in (let_inW c h), ih]
theorem lex_rep (n : Nat) (c : UInt8) (h : letL.contains c = true) : lex 0 (List.replicate (n + 1) c) = ([⟨1, 0, List.replicate (n + 1) c⟩], none) := by
  rw [List.replicate_succ]
  exact lex_word h (by rw [rn_rep n c h, List.length_replicate])
theorem rep_ok (c : UInt8) (h : letL.contains c = true) : aP (List.replicate 20000 c) = 0 ∧ aE (List.replicate 20000 c) = 0 ∧ aT (List.replicate 20000 c) = [⟨1, 0, List.replicate 20000 c⟩, ⟨0, 20000, []⟩] := by
  obtain ⟨h1, h2, h3⟩ := a_fin (l := List.replicate (19999 + 1) c) (by rw [List.length_replicate]; omega) (lex_rep 19999 c h)
  rw [List.length_replicate] at h3
  exact ⟨h1, h2, h3⟩
theorem rep_no (c : UInt8) : aP (List.replicate 20001 c) = 0 ∧ aE (List.replicate 20001 c) = 3 ∧ aT (List.replicate 20001 c) = [] := by
  have h : 20000 < (List.replicate 20001 c).length := by rw [List.length_replicate]; omega
  unfold aP aE aT
  rw [if_pos h, if_pos h, if_pos h]
  exact ⟨rfl, rfl, rfl⟩
theorem let_of (a : Int) (h0 : 0 ≤ a) : ∃ c : UInt8, (c.toNat : Int) = 97 + a % 26 ∧ letL.contains c = true := by
  refine ⟨UInt8.ofNat (97 + a % 26).toNat, ?_, ?_⟩
  · simp; omega
  · rw [let_iff]
    have : ((UInt8.ofNat (97 + a % 26).toNat).toNat : Int) = 97 + a % 26 := by simp; omega
    rw [this]
    have h1 : 97 ≤ 97 + a % 26 := by omega
    have h2 : 97 + a % 26 ≤ 122 := by omega
    simp [h1, h2]
end Go.Proofs.YtocdkgmmnkmlpaaDoor
