/- Contracts that the proof of this law leans on: no statement of the seat is proved here. -/
import Derived.Carry
import Derived.ChangeSame
import Derived.ChangeSlices
import Derived.Deep.AppendSrc
import Derived.Deep.Cut
import Derived.Deep.RegionHeld3
import Derived.Deep.SlicePairs
import Derived.OpenShut
import Derived.ProofKit
import Derived.ShutString
import Derived.Test.YtlbodoggfbdnjabGreatDoorRows
import Derived.Test.YtlbodoggfbdnjabGreatDoorW1
import Derived.Test.YtlbodoggfbdnjabGreatDoorW6

namespace Go.Proofs.YtlbodoggfbdnjabGreatDoor.L8
open Go.RowKit Go.ChangeShapes Go.WideShapes Go.ChangeAt
theorem own : ownKnob Tryz.prog.godebug = none := by kernel_rfl
end Go.Proofs.YtlbodoggfbdnjabGreatDoor.L8

namespace Go.Proofs.YtlbodoggfbdnjabGreatDoor.L8
open Go.RowKit
set_option linter.unusedVariables false
end Go.Proofs.YtlbodoggfbdnjabGreatDoor.L8

namespace Go.Proofs.YtlbodoggfbdnjabGreatDoor.L8
open Go.RowKit
set_option linter.unusedVariables false
/-- A whole product out of its block, where it is wanted. -/
theorem load27 {ops : Array Oper} {rest : List Oper} {o : Oper} {a : Act} {w : World} {Q : Exit → Act → World → Prop} {x : Operand} {g : Nat} {cs : Array Value} (hg : Blk w g cs) (hn : cs.size = 19) (ho : o.op = .load 28 x)
    (hx : a.eval x = .pointer (some ⟨g, 0, none⟩)) (hw : Region.wanted o (yielded ops a.tmps) = true)
    (h : wpList Tryz.prog ops Q rest (a.put o.dst (.agg cs)) w) : wpList Tryz.prog ops Q (o :: rest) a w :=
  wpList_step fun K hK => by
    rw [if_pos hw]
    exact wp_load_row _ x ho g hx _ cs (0, 0) _ hg Tryz.underlying28 rfl (by rw [hn]; kernel_rfl) (hK _ _ h)
end Go.Proofs.YtlbodoggfbdnjabGreatDoor.L8

namespace Go.Proofs.YtlbodoggfbdnjabGreatDoor.L8
open Go.RowKit
set_option linter.unusedVariables false
end Go.Proofs.YtlbodoggfbdnjabGreatDoor.L8

namespace Go.Proofs.YtlbodoggfbdnjabGreatDoor.L8
open Go.RowKit
set_option linter.unusedVariables false
/-- These numbers lie in a block's first cells, and may be written. -/
structure Lst (w : World) (g : Nat) (L : List Int) : Prop where
  cell : ∀ (k : Nat) (x : Int), L[k]? = some x → w.cell? ⟨g, k, none⟩ = some (.int .i64 x)
  free : ∀ (k : Nat) (x : Int), L[k]? = some x → w.frozen? ⟨g, k, none⟩ = false
theorem Lst.ext {w w' : World} {g : Nat} {L : List Int} (h : Lst w g L) (hx : Ext w w') : Lst w' g L :=
  ⟨fun k x hk => hx.cell_of (h.cell k x hk), fun k x hk => hx.froz_of (h.cell k x hk) (h.free k x hk)⟩
theorem Lst.front {w : World} {g : Nat} {L M : List Int} (h : Lst w g (L ++ M)) : Lst w g L :=
  ⟨fun k x hk => h.cell k x (by rw [List.getElem?_append_left (List.getElem?_eq_some_iff.1 hk).1]; exact hk), fun k x hk => h.free k x (by rw [List.getElem?_append_left (List.getElem?_eq_some_iff.1 hk).1]; exact hk)⟩
/-- A block of so many cells that may be written. -/
def Cells (w : World) (g T : Nat) : Prop := ∀ k, k < T → (∃ u, w.cell? ⟨g, k, none⟩ = some u) ∧ w.frozen? ⟨g, k, none⟩ = false
theorem Cells.set {w : World} {g T : Nat} (h : Cells w g T) (j : Nat) (v : Value) : Cells (w.setCell ⟨g, j, none⟩ v) g T := by
  intro k hk
  obtain ⟨⟨u, hu⟩, hf⟩ := h k hk
  refine ⟨?_, by simpa using hf⟩
  by_cases e : k = j
  · subst e; exact ⟨v, same hu⟩
  · exact ⟨u, by rw [other _ (Or.inr (fun h => e h.symm))]; exact hu⟩
theorem Lst.put {w : World} {g T : Nat} {L : List Int} (h : Lst w g L) (hc : Cells w g T) (hT : L.length < T) (v : Int) : Lst (w.setCell ⟨g, L.length, none⟩ (.int .i64 v)) g (L ++ [v]) := by
  have key : ∀ (k : Nat) (x : Int), (L ++ [v])[k]? = some x → (w.setCell ⟨g, L.length, none⟩ (.int .i64 v)).cell? ⟨g, k, none⟩ = some (.int .i64 x) := by
    intro k x hk
    by_cases e : k = L.length
    · subst e
      simp at hk
      subst hk
      obtain ⟨⟨u, hu⟩, _⟩ := hc _ hT
      exact same hu
    · have hlt : k < L.length := by
        have := (List.getElem?_eq_some_iff.1 hk).1
        simp at this; omega
      rw [other _ (Or.inr (fun h => e h.symm))]
      rw [List.getElem?_append_left hlt] at hk
      exact h.cell k x hk
  refine ⟨key, fun k x hk => ?_⟩
  have : k < T := by
    have := (List.getElem?_eq_some_iff.1 hk).1
    simp at this; omega
  simpa using (hc k this).2
theorem oneI_t (x : Int) (w : World) :
    Calls Tryz.prog 34 #[.int .i64 x, .int .i64 x] w fun e w' => e = .returned (.bool true) ∧ w' = w := by
  go_enter Tryz.func34, Tryz.ntmps34
  go_wp2
  go_ret
  exact ⟨ret_bool (by simp), rfl⟩
theorem SameI_nil (a : Option Addr) (c d : Nat) (x : Option Addr) (w : World) :
    Calls Tryz.prog 33 #[.slice x 0 d, .slice a 0 c, .func (.func 34) #[] #[]] w fun e w' => e = .returned (.bool true) ∧ w' = w := by
  go_enter Tryz.func33, Tryz.ntmps33
  go_wp2_with fail
  refine wp_loop_rounds 1 ?_
  rw [rounds_succ]
  go_wp2
  go_ret
  exact ⟨rfl, rfl⟩
theorem Lst.slc {w : World} {g n c : Nat} {l M : List Int} (h : Lst w g (l ++ M)) (hn : l.length = n) : Slc w (.slice (some ⟨g, 0, none⟩) n c) l := by
  subst hn
  exact Or.inr ⟨g, 0, c, rfl, fun k x hk => by rw [Nat.zero_add]; exact h.front.cell k x hk⟩
/-- The cells of pairs. -/
def cellsP (l : List (Int × Int)) : List Value := l.flatMap fun p => [.int .i64 p.1, .int .i64 p.2]
theorem cellsP_at : ∀ (l : List (Int × Int)) (k : Nat) (x y : Int), l[k]? = some (x, y) → (cellsP l)[k * 2]? = some (.int .i64 x) ∧ (cellsP l)[k * 2 + 1]? = some (.int .i64 y)
  | [], k, x, y, h => by simp at h
  | p :: l, 0, x, y, h => by
    obtain rfl : p = (x, y) := by simpa using h
    exact ⟨rfl, rfl⟩
  | p :: l, k + 1, x, y, h => by
    have ih := cellsP_at l k x y (by simpa using h)
    have e : (k + 1) * 2 = k * 2 + 2 := by omega
    rw [e]
    exact ih
/-- These pairs lie in a block's first cells, and may be written. -/
structure Lsp (w : World) (g : Nat) (L : List (Int × Int)) : Prop where
  cell : ∀ (k : Nat) (x y : Int), L[k]? = some (x, y) → w.cell? ⟨g, k * 2, none⟩ = some (.int .i64 x) ∧ w.cell? ⟨g, k * 2 + 1, none⟩ = some (.int .i64 y)
theorem Lsp.ext {w w' : World} {g : Nat} {L : List (Int × Int)} (h : Lsp w g L) (hx : Ext w w') : Lsp w' g L :=
  ⟨fun k x y hk => ⟨hx.cell_of (h.cell k x y hk).1, hx.cell_of (h.cell k x y hk).2⟩⟩
theorem Lsp.front {w : World} {g : Nat} {L M : List (Int × Int)} (h : Lsp w g (L ++ M)) : Lsp w g L :=
  ⟨fun k x y hk => h.cell k x y (by rw [List.getElem?_append_left (List.getElem?_eq_some_iff.1 hk).1]; exact hk)⟩
theorem Lsp.put {w : World} {g T : Nat} {L : List (Int × Int)} (h : Lsp w g L) (hc : Cells w g T) (hT : L.length * 2 + 1 < T) (x y : Int) : Lsp ((w.setCell ⟨g, L.length * 2, none⟩ (.int .i64 x)).setCell ⟨g, L.length * 2 + 1, none⟩ (.int .i64 y)) g (L ++ [(x, y)]) := by
  refine ⟨fun k u v hk => ?_⟩
  obtain ⟨⟨c0, hc0⟩, _⟩ := hc (L.length * 2) (by omega)
  obtain ⟨⟨c1, hc1⟩, _⟩ := hc (L.length * 2 + 1) hT
  by_cases e : k = L.length
  · subst e
    simp at hk
    obtain ⟨rfl, rfl⟩ := hk
    exact ⟨by rw [other _ (Or.inr (by omega))]; exact same hc0, same (by rw [other _ (Or.inr (by omega))]; exact hc1)⟩
  · have hlt : k < L.length := by
      have := (List.getElem?_eq_some_iff.1 hk).1
      simp at this; omega
    rw [List.getElem?_append_left hlt] at hk
    have := h.cell k u v hk
    refine ⟨?_, ?_⟩
    · rw [other _ (Or.inr (by omega)), other _ (Or.inr (by omega))]; exact this.1
    · rw [other _ (Or.inr (by omega)), other _ (Or.inr (by omega))]; exact this.2
theorem oneR_t (x y : Int) (w : World) :
    Calls Tryz.prog 30 #[.agg #[.int .i64 x, .int .i64 y], .agg #[.int .i64 x, .int .i64 y]] w fun e w' => e = .returned (.bool true) ∧ Ext w w' := by
  go_enter Tryz.func30, Tryz.ntmps30
  go_wp2
  go_ret
  exact ⟨rfl, ((Ext.refl w).alloc _ _).alloc _ _⟩
theorem SameR_nil (a : Option Addr) (c d : Nat) (x : Option Addr) (w : World) :
    Calls Tryz.prog 29 #[.slice x 0 d, .slice a 0 c, .func (.func 30) #[] #[]] w fun e w' => e = .returned (.bool true) ∧ w' = w := by
  go_enter Tryz.func29, Tryz.ntmps29
  go_wp2_with fail
  refine wp_loop_rounds 1 ?_
  rw [rounds_succ]
  go_wp2
  go_ret
  exact ⟨rfl, rfl⟩
theorem oneT_t (x y : Int) (w : World) :
    Calls Tryz.prog 32 #[.agg #[.int .i64 x, .int .i64 y], .agg #[.int .i64 x, .int .i64 y]] w fun e w' => e = .returned (.bool true) ∧ Ext w w' := by
  go_enter Tryz.func32, Tryz.ntmps32
  go_wp2
  go_ret
  exact ⟨rfl, ((Ext.refl w).alloc _ _).alloc _ _⟩
theorem SameT_nil (a : Option Addr) (c d : Nat) (x : Option Addr) (w : World) :
    Calls Tryz.prog 31 #[.slice x 0 d, .slice a 0 c, .func (.func 32) #[] #[]] w fun e w' => e = .returned (.bool true) ∧ w' = w := by
  go_enter Tryz.func31, Tryz.ntmps31
  go_wp2_with fail
  refine wp_loop_rounds 1 ?_
  rw [rounds_succ]
  go_wp2
  go_ret
  exact ⟨rfl, rfl⟩
end Go.Proofs.YtlbodoggfbdnjabGreatDoor.L8

namespace Go.Proofs.YtlbodoggfbdnjabGreatDoor.L8
open Go.RowKit Go.ChangeShapes Go.WideShapes Go.ChangeAt
end Go.Proofs.YtlbodoggfbdnjabGreatDoor.L8

namespace Go.Proofs.YtlbodoggfbdnjabGreatDoor.L8
open Go.RowKit
set_option linter.unusedVariables false
/-- What is asked behind a region; behind a throw: of what is deferred, of some slots, and of the world. -/
def ThrowQ (Q : Exit → Act → World → Prop) (D : Act → Prop) (keep : List Nat) (T : Nat → Option Value) (R : List PanicEntry → World → Prop) : Exit → Act → World → Prop
  | .panic c, a, w => D { a with tmps := #[] } ∧ (∀ t ∈ keep, a.tmps[t]? = T t) ∧ R c w
  | e, a, w => Q e a w
theorem ThrowQ.imp {Q : Exit → Act → World → Prop} {D : Act → Prop} {keep : List Nat} {T : Nat → Option Value} {R : List PanicEntry → World → Prop}
    (h : ∀ c a w, D { a with tmps := #[] } → (∀ t ∈ keep, a.tmps[t]? = T t) → R c w → Q (.panic c) a w) : ∀ e a w, ThrowQ Q D keep T R e a w → Q e a w := fun e a w k => by
  cases e <;> first | exact k | exact h _ _ _ k.1 k.2.1 k.2.2
theorem ThrowQ.normal {Q : Exit → Act → World → Prop} {D : Act → Prop} {keep : List Nat} {T : Nat → Option Value} {R : List PanicEntry → World → Prop} {a : Act} {w : World} (h : Q .normal a w) : ThrowQ Q D keep T R .normal a w := h
theorem put_defers (a : Act) (d : Option Tmp) (v : Value) : ({ a.put d v with tmps := #[] } : Act) = { a with tmps := #[] } := by cases d <;> rfl
theorem put_tmps (a : Act) (d : Option Tmp) (v : Value) (t : Nat) (h : d ≠ some t) : (a.put d v).tmps[t]? = a.tmps[t]? := by
  cases d with
  | none => rfl
  | some k => exact Array.getElem?_setIfInBounds_ne (fun e => h (by rw [e]))
section
variable {P : Program} {ops : Array Oper} {md : Region.Mode} {S : World → Prop} {Q : Exit → Act → World → Prop} {D : Act → Prop} {keep : List Nat} {T : Nat → Option Value} {R : List PanicEntry → World → Prop}
theorem takeT (i : Nat) {oi : Oper} {v : Value} {fuel : Nat} {listed : Array Bool} {a : Act} {w : World} (hi : ops[i]? = some oi)
    (hs : Region.noSelect ops = true) (hf : Region.free md ops listed i = true) (hr : (Region.ready md ops listed).contains i = true) (hd : ∀ t ∈ keep, oi.dst ≠ some t)
    (hy : YieldsIf P ops S oi v a) (hS : S w)
    (h : wpAnyH P md ops (ThrowQ Q D keep T R) S fuel (listed.setIfInBounds i true) (a.put oi.dst v) w) : wpAnyH P md ops (ThrowQ Q D keep T R) S (fuel + 1) listed a w :=
  wpAnyH_take hi hs hf hr (fun c a w ⟨h1, h2, h3⟩ => ⟨put_defers a oi.dst v ▸ h1, fun t ht => (put_tmps a oi.dst v t (hd t ht)) ▸ h2 t ht, h3⟩) hy hS h
end
theorem wp_region_thrown {P : Program} {id : Nat} {Q : Exit → Act → World → Prop} {a : Act} {w : World} {l : List Oper} (S : World → Prop) (D : Act → Prop) (keep : List Nat) (T : Nat → Option Value) (R : List PanicEntry → World → Prop) (hm : P.follows .mixedOrders = true)
    (hp : ∀ c a w, D { a with tmps := #[] } → (∀ t ∈ keep, a.tmps[t]? = T t) → R c w → Q (.panic c) a w) (hS : S w.drew)
    (h : S w.drew → wpAnyH P .any l.toArray (ThrowQ Q D keep T R) S l.toArray.size (Array.replicate l.toArray.size false) a w.drew) : (Code.region id l.toArray true).wp P Q a w :=
  Code.wp_mono (ThrowQ.imp hp) (wp_region_held_drew hm hS h)
end Go.Proofs.YtlbodoggfbdnjabGreatDoor.L8

namespace Go.Proofs.YtlbodoggfbdnjabGreatDoor.L8
open Go.RowKit
set_option linter.unusedVariables false
theorem Lsp.far {w : World} {g b : Nat} {L : List (Int × Int)} (h : Lsp w g L) (hb : b ≠ g) (i : Nat) (v : Value) : Lsp (w.setCell ⟨b, i, none⟩ v) g L :=
  ⟨fun k x y hk => ⟨by rw [other _ (Or.inl hb)]; exact (h.cell k x y hk).1, by rw [other _ (Or.inl hb)]; exact (h.cell k x y hk).2⟩⟩
theorem Lst.far {w : World} {g b : Nat} {L : List Int} (h : Lst w g L) (hb : b ≠ g) (i : Nat) (v : Value) : Lst (w.setCell ⟨b, i, none⟩ v) g L :=
  ⟨fun k x hk => by rw [other _ (Or.inl hb)]; exact h.cell k x hk, fun k x hk => by simpa using h.free k x hk⟩
end Go.Proofs.YtlbodoggfbdnjabGreatDoor.L8
