/- Texts that are nearly days, by themselves, and bytes of a text in a new block: no statement of the seat is proved here. -/
import Derived.Test.YtbdninnopfdnbaaDoorCiv8
namespace Go.Proofs.YtbdninnopfdnbaaDoor
open Go.RowKit Go.Lib
set_option linter.unusedVariables false

theorem set_form (l : List UInt8) (k : Nat) (c : UInt8) (hl : l.length = 10) (hk : k < 10) (hc : isD c = false) (h45 : c ≠ 45) : formL (l.set k c) = false := by
  have : (List.range 10).all (okAt (l.set k c)) = false := by
    rw [List.all_eq_false]
    refine ⟨k, by simpa using hk, ?_⟩
    have e : (l.set k c).getD k 0 = c := by simp [List.getD, hl, hk]
    unfold okAt
    rw [e]
    split
    · simpa using h45
    · rw [hc]; decide
  unfold formL
  rw [this]; simp
/-- A month thirteen. -/
def bent (l : List UInt8) : List UInt8 := (l.take 4 ++ [45, 49, 51]) ++ l.drop 7
theorem bent_len (l : List UInt8) (hl : l.length = 10) : (bent l).length = 10 := by simp [bent, hl]
theorem bent_no (y m d : Int) : takA (bent (textL y m d)) = 0 ∧ takE (bent (textL y m d)) = 5 := by
  rw [text_ten]
  show takA [_, _, _, _, 45, 49, 51, 45, _, _] = 0 ∧ takE [_, _, _, _, 45, 49, 51, 45, _, _] = 5
  have f := (form_iff (dgt (y.toNat / 10 / 10 / 10)) (dgt (y.toNat / 10 / 10)) (dgt (y.toNat / 10)) (dgt y.toNat) 45 49 51 45 (dgt (d.toNat / 10)) (dgt d.toNat)).2
    ⟨isD_dgt _, isD_dgt _, isD_dgt _, isD_dgt _, rfl, by decide, by decide, rfl, isD_dgt _, isD_dgt _⟩
  obtain ⟨p, q⟩ := tak_form _ f
  rw [p, q]
  have e : ∀ t0 t1 t2 t3 t8 t9 : UInt8, pM [t0, t1, t2, t3, 45, 49, 51, 45, t8, t9] = 13 := fun _ _ _ _ _ _ => rfl
  rw [e]
  refine numA_no _ _ _ fun h => ?_
  have := h.m2
  omega
/-- A text's bytes, laid in a new block that may be written. -/
theorem bytes_of (l : List UInt8) (w : World) : ∃ W b cap, (convert 9 38 (.string ⟨l.toArray⟩)).run Tryd.prog w = .ok (.slice (some ⟨b, 0, none⟩) l.length cap) W ∧ Ext w W ∧ w.heap.size ≤ b ∧
    (∀ j (hj : j < l.length), W.cell? ⟨b, j, none⟩ = some (.int .u8 (l[j].toNat : Int))) ∧ (∀ j, j < l.length → W.frozen? ⟨b, j, none⟩ = false) := by
  have h := run_bytes_of_string (P := Tryd.prog) w 9 38 5 ⟨l.toArray⟩ Tryd.underlying9 Tryd.underlying38 Tryd.underlying5
  have hs : (⟨l.toArray⟩ : ByteArray).size = l.length := by rw [Lib.size_mk]
  rw [hs] at h
  refine ⟨_, _, _, h, ⟨((Ext.refl w).drew.below.alloc (Ext.refl w).drew.below.size _)⟩, Nat.le_refl _, fun j hj => ?_, fun j hj => ?_⟩
  · have e : w.heap.size = w.drew.heap.size := rfl
    rw [e, World.cell?_alloc_mark, bytesRow_at _ _ j (by simpa using hj)]
    simp
  · have e : w.heap.size = w.drew.heap.size := rfl
    rw [e, World.frozen?_alloc_mark]
    have : j < (bytesRow ⟨l.toArray⟩ (grownCap w l.length 0 5)).size := by simp [bytesRow]; omega
    simp; omega
/-- Those bytes, one of them turned, are a text again. -/
theorem back_of (l : List UInt8) (W : World) (b cap k : Nat) (c : UInt8) (hk : k < l.length) (h : ∀ j (hj : j < l.length), W.cell? ⟨b, j, none⟩ = some (.int .u8 (l[j].toNat : Int))) :
    (convert 38 9 (.slice (some ⟨b, 0, none⟩) l.length cap)).run Tryd.prog (W.setCell ⟨b, k, none⟩ (.int .u8 (c.toNat : Int))) = .ok (.string ⟨(l.set k c).toArray⟩) (W.setCell ⟨b, k, none⟩ (.int .u8 (c.toNat : Int))) := by
  have := run_convert_bytes_back (P := Tryd.prog) (W.setCell ⟨b, k, none⟩ (.int .u8 (c.toNat : Int))) 38 9 5 ⟨b, 0, none⟩ cap (l.set k c) Tryd.underlying38 Tryd.underlying5 Tryd.underlying9 (fun j hj => by
    have hj' : j < l.length := by simpa using hj
    have ea : (⟨b, 0, none⟩ : Addr).add j = ⟨b, j, none⟩ := by simp [Addr.add]; omega
    rw [ea]
    by_cases e : k = j
    · subst e
      rw [same (h k hk)]
      simp
    · rw [other _ (by omega), h j hj']
      simp [e])
  simpa using this
end Go.Proofs.YtbdninnopfdnbaaDoor
