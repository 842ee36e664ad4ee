/- What a program that does nothing does not answer (awake), as a contract: no statement of the seat is proved here. -/
import Derived.Test.YtkkpnhcodaijeaaDoorBiz3
namespace Go.Proofs.YtkkpnhcodaijeaaDoor
open Go.RowKit
set_option linter.unusedVariables false

theorem aw_roll : rlA [19725] 19725 2 = 19726 ∧ rlE [19725] 19725 2 = 0 := by
  have h1 : inD 19725 = true := by decide
  have h2 : opn [19725] 19725 = false := by decide
  have h3 : opn [19725] 19726 = true := by decide
  have h4 : rolP [19725] 19725 2 = (19726, true) := by
    unfold rolP
    rw [if_neg (by decide), if_pos (Or.inl rfl), sk_step _ _ _ (Or.inl rfl) h1 h2]
    exact sk_hit _ _ _ h3
  refine ⟨?_, ?_⟩
  · unfold rlA
    rw [if_pos ⟨h1, by decide, by decide⟩, if_neg (by decide), h4]; rfl
  · unfold rlE
    rw [if_pos h1, if_pos ⟨by decide, by decide⟩, if_neg (by decide), h4]; rfl
theorem box1 (w : World) (x : Int) (t : TypeId) : ∃ W b, w.alloc (.cells #[.int .i64 x] t) = W ∧ w.heap.size = b ∧ Ext w W ∧ Slc W (.slice (some ⟨b, 0, none⟩) 1 1) [x] := by
  refine ⟨_, _, rfl, rfl, (Ext.refl w).alloc _ _, Or.inr ⟨_, 0, 1, rfl, fun k v hk => ?_⟩⟩
  match k, hk with
  | 0, hk => simp at hk; subst hk; simp [go_sem]
theorem awake_c (w : World) (he : Hid (Env w)) :
    Calls Tryd.prog 8 #[] w fun e w' => e = .returned (.bool true) ∧ Ext w w' := by
  have hN : Hid (∀ (v : Value) (w : World), Slc w v [19725] → Calls Tryd.prog 10 #[v] w fun e w' => ∃ p, e = .returned (.tuple #[.pointer (some ⟨p, 0, none⟩), .int .i64 0]) ∧ Made w w' p [19725]) := fun v w h => New_ok v _ w h (by decide)
  have hR : Hid (∀ (p : Nat) (w : World), Hid (Cld w p [19725]) → Hid (Env w) → Calls Tryd.prog 14 #[.pointer (some ⟨p, 0, none⟩), .int .i64 19725, .int .i64 2] w fun e w' => e = .returned (.tuple #[.int .i64 19726, .int .i64 0]) ∧ Ext w w') := fun p w hc he => by
    have := Roll_c p [19725] 19725 2 w hc he
    rwa [aw_roll.1, aw_roll.2] at this
  have hA : Hid (∀ (p : Nat) (w : World), Hid (Cld w p [19725]) → Calls Tryd.prog 18 #[.pointer (some ⟨p, 0, none⟩), .int .i64 19724] w fun e w' => e = .returned (.bool true) ∧ w' = w) := fun p w hc => by
    have := Open_c p [19725] 19724 w (by unfold I64; omega) hc
    rwa [show opn [19725] 19724 = true by decide] at this
  have hB : Hid (∀ (p : Nat) (w : World), Hid (Cld w p [19725]) → Calls Tryd.prog 18 #[.pointer (some ⟨p, 0, none⟩), .int .i64 19725] w fun e w' => e = .returned (.bool false) ∧ w' = w) := fun p w hc => by
    have := Open_c p [19725] 19725 w (by unfold I64; omega) hc
    rwa [show opn [19725] 19725 = false by decide] at this
  go_enter Tryd.func8, Tryd.ntmps8
  go_wp2_with fail
  obtain ⟨W, b, hW, hb, hx, hs⟩ := box1 w 19725 3
  rw [hW, hb]
  clear hW hb
  replace he : Hid (Env W) := he.out.ext hx
  replace hx := show Hid _ from hx
  refine (hN.out _ _ hs).mono ?_
  rintro e w1 ⟨p, rfl, hm⟩
  have hc := show Hid _ from hm.cld
  replace he : Hid (Env w1) := he.out.ext hm.ext
  replace hx : Hid (Ext w w1) := hx.out.trans hm.ext
  clear hm hs hN
  go_wp2_with fail
  refine (hR.out _ _ hc he).mono ?_
  rintro e w2 ⟨rfl, hx1⟩
  replace hc := show Hid _ from hc.out.ext hx1
  replace he : Hid (Env w2) := he.out.ext hx1
  replace hx : Hid (Ext w w2) := hx.out.trans hx1
  clear hx1 hR
  go_wp2_with fail
  refine (hA.out _ _ hc).mono ?_
  rintro e w3 ⟨rfl, rfl⟩
  go_wp2_with fail
  refine (hB.out _ _ hc).mono ?_
  rintro e w4 ⟨rfl, rfl⟩
  go_wp2
  go_ret
  exact ⟨rfl, hx.out⟩
end Go.Proofs.YtkkpnhcodaijeaaDoor
