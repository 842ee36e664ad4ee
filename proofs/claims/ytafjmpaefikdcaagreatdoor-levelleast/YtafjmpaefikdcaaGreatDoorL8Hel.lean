
/- A region that draws its order and may throw: what is asked behind a throw speaks of some slots of the frame alone; no program of its own is spoken of here. -/
import Derived.Test.YtafjmpaefikdcaaGreatDoorLate
import Derived.Deep.RegionHeld3
namespace Go.Proofs.YtafjmpaefikdcaaGreatDoor.L8
open Go.RowKit
set_option linter.unusedVariables false

/-- What is asked behind a region; behind a throw: of what is deferred, of some slots, and of the world. -/
def ThrowQ (Q : Exit → Act → World → Prop) (D : Act → Prop) (keep : List Nat) (T : Nat → Option Value) (R : List PanicEntry → World → Prop) : Exit → Act → World → Prop
  | .panic c, a, w => D { a with tmps := #[] } ∧ (∀ t ∈ keep, a.tmps[t]? = T t) ∧ R c w
  | e, a, w => Q e a w
theorem ThrowQ.imp {Q : Exit → Act → World → Prop} {D : Act → Prop} {keep : List Nat} {T : Nat → Option Value} {R : List PanicEntry → World → Prop}
    (h : ∀ c a w, D { a with tmps := #[] } → (∀ t ∈ keep, a.tmps[t]? = T t) → R c w → Q (.panic c) a w) : ∀ e a w, ThrowQ Q D keep T R e a w → Q e a w := fun e a w k => by
  cases e <;> first | exact k | exact h _ _ _ k.1 k.2.1 k.2.2
theorem ThrowQ.normal {Q : Exit → Act → World → Prop} {D : Act → Prop} {keep : List Nat} {T : Nat → Option Value} {R : List PanicEntry → World → Prop} {a : Act} {w : World} (h : Q .normal a w) : ThrowQ Q D keep T R .normal a w := h
theorem put_defers (a : Act) (d : Option Tmp) (v : Value) : ({ a.put d v with tmps := #[] } : Act) = { a with tmps := #[] } := by cases d <;> rfl
theorem put_tmps (a : Act) (d : Option Tmp) (v : Value) (t : Nat) (h : d ≠ some t) : (a.put d v).tmps[t]? = a.tmps[t]? := by
  cases d with
  | none => rfl
  | some k => exact Array.getElem?_setIfInBounds_ne (fun e => h (by rw [e]))
section
variable {P : Program} {ops : Array Oper} {md : Region.Mode} {S : World → Prop} {Q : Exit → Act → World → Prop} {D : Act → Prop} {keep : List Nat} {T : Nat → Option Value} {R : List PanicEntry → World → Prop}
theorem takeT (i : Nat) {oi : Oper} {v : Value} {fuel : Nat} {listed : Array Bool} {a : Act} {w : World} (hi : ops[i]? = some oi)
    (hs : Region.noSelect ops = true) (hf : Region.free md ops listed i = true) (hr : (Region.ready md ops listed).contains i = true) (hd : ∀ t ∈ keep, oi.dst ≠ some t)
    (hy : YieldsIf P ops S oi v a) (hS : S w)
    (h : wpAnyH P md ops (ThrowQ Q D keep T R) S fuel (listed.setIfInBounds i true) (a.put oi.dst v) w) : wpAnyH P md ops (ThrowQ Q D keep T R) S (fuel + 1) listed a w :=
  wpAnyH_take hi hs hf hr (fun c a w ⟨h1, h2, h3⟩ => ⟨put_defers a oi.dst v ▸ h1, fun t ht => (put_tmps a oi.dst v t (hd t ht)) ▸ h2 t ht, h3⟩) hy hS h
end
theorem wp_region_thrown {P : Program} {id : Nat} {Q : Exit → Act → World → Prop} {a : Act} {w : World} {l : List Oper} (S : World → Prop) (D : Act → Prop) (keep : List Nat) (T : Nat → Option Value) (R : List PanicEntry → World → Prop) (hm : P.follows .mixedOrders = true)
    (hp : ∀ c a w, D { a with tmps := #[] } → (∀ t ∈ keep, a.tmps[t]? = T t) → R c w → Q (.panic c) a w) (hS : S w.drew)
    (h : S w.drew → wpAnyH P .any l.toArray (ThrowQ Q D keep T R) S l.toArray.size (Array.replicate l.toArray.size false) a w.drew) : (Code.region id l.toArray true).wp P Q a w :=
  Code.wp_mono (ThrowQ.imp hp) (wp_region_held_drew hm hS h)
end Go.Proofs.YtafjmpaefikdcaaGreatDoor.L8