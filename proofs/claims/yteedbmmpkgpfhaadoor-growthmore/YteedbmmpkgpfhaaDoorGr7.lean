/- Bear of package growth for any call, and the statements' own awake, as contracts: no statement of the seat is proved here. -/
import Derived.Test.YteedbmmpkgpfhaaDoorRf2
namespace Go.Proofs.YteedbmmpkgpfhaaDoor
open Go.RowKit
set_option linter.unusedVariables false

theorem Bear_ok (B : Nat) (m W r b rt p : Int) (w : World) (hB : Brr w B m W r) (hr : Rst m W r) (hW : 0 < W) (hW2 : W ≤ 200000000000000) (ha : Ask b rt p) (hq : bq m W r (b * (rt * p)) ≤ 1000000000000000) :
    Calls Tryd.prog 12 #[.pointer (some ⟨B, 0, none⟩), .int .i64 b, .int .i64 rt, .int .i64 p] w fun e w' => e = .returned (.tuple #[.int .i64 (bq m W r (b * (rt * p))), .int .i64 0]) ∧ Ext (w.setCell ⟨B, 2, none⟩ (.int .i64 (br m W r (b * (rt * p))))) w' :=
  Bear_of_ok B b rt p _ _ w hB.lt fun X hx => bear_ok B m W r b rt p X (hB.ext hx) hr hW hW2 ha hq
theorem Bear_range (B : Nat) (m W r b rt p : Int) (w : World) (hB : Brr w B m W r) (hr : Rst m W r) (hW : 0 < W) (hW2 : W ≤ 200000000000000) (ha : Ask b rt p) (hq : ¬ bq m W r (b * (rt * p)) ≤ 1000000000000000) :
    Calls Tryd.prog 12 #[.pointer (some ⟨B, 0, none⟩), .int .i64 b, .int .i64 rt, .int .i64 p] w fun e w' => e = .returned (.tuple #[.int .i64 0, .int .i64 3]) ∧ Ext w w' :=
  Bear_of_no B b rt p 3 w fun X hx => bear_no B m W r b rt p X (hB.ext hx) hr hW hW2 ha hq
theorem Bear_arg (B : Nat) (m W r b rt p : Int) (w : World) (hB : Brr w B m W r) (hW : 0 < W) (ha : ¬ Ask b rt p) :
    Calls Tryd.prog 12 #[.pointer (some ⟨B, 0, none⟩), .int .i64 b, .int .i64 rt, .int .i64 p] w fun e w' => e = .returned (.tuple #[.int .i64 0, .int .i64 1]) ∧ Ext w w' :=
  Bear_of_no B b rt p 1 w fun X hx => bear_arg B m W r b rt p X (hB.ext hx) hW ha
/-- The same, with numbers that are named. -/
theorem Bear_v (B : Nat) (m W r b rt p v x : Int) (hr : Rst m W r) (hW : 0 < W) (hW2 : W ≤ 200000000000000) (ha : Ask b rt p) (hv : bq m W r (b * (rt * p)) = v) (hx : br m W r (b * (rt * p)) = x) (hq : v ≤ 1000000000000000) (w : World) (hB : Brr w B m W r) :
    Calls Tryd.prog 12 #[.pointer (some ⟨B, 0, none⟩), .int .i64 b, .int .i64 rt, .int .i64 p] w fun e w' => e = .returned (.tuple #[.int .i64 v, .int .i64 0]) ∧ Ext (w.setCell ⟨B, 2, none⟩ (.int .i64 x)) w' := by
  have := Bear_ok B m W r b rt p w hB hr hW hW2 ha (by rw [hv]; exact hq)
  rwa [hv, hx] at this
/-- Behind a call that has written a rest: what lies in other blocks, and what was there ahead. -/
theorem Ext.wrote {w0 w w' : World} {B : Nat} {x : Value} (hx : Ext w0 w) (hB : w0.heap.size ≤ B) (h : Ext (w.setCell ⟨B, 2, none⟩ x) w') : Ext w0 w' := (hx.setCell hB x).trans h
theorem Brr.wrote {w w' : World} {B : Nat} {m W r x : Int} (hB : Brr w B m W r) (h : Ext (w.setCell ⟨B, 2, none⟩ (.int .i64 x)) w') : Brr w' B m W x := (hB.put x).ext h
theorem Brr.beside {w w' : World} {B C : Nat} {m W r : Int} {x : Value} (hB : Brr w B m W r) (hn : C ≠ B) (h : Ext (w.setCell ⟨C, 2, none⟩ x) w') : Brr w' B m W r := (hB.far hn _ _).ext h
theorem Rbr.wrote {w w' : World} {C : Nat} {P r x : Int} {up : Bool} (hC : Rbr w C P up r) (h : Ext (w.setCell ⟨C, 2, none⟩ (.int .i64 x)) w') : Rbr w' C P up x := (hC.put x).ext h
theorem Rbr.beside {w w' : World} {B C : Nat} {P r : Int} {up : Bool} {x : Value} (hC : Rbr w C P up r) (hn : B ≠ C) (h : Ext (w.setCell ⟨B, 2, none⟩ x) w') : Rbr w' C P up r := (hC.far hn _ _).ext h
theorem awake_c (w : World) :
    Calls Tryd.prog 11 #[] w fun e w' => e = .returned (.bool true) ∧ Ext w w' := by
  have hN : Hid (∀ w : World, Calls Tryd.prog 9 #[.int .i64 2, .int .i64 1] w fun e w' => ∃ B, e = .returned (.tuple #[.pointer (some ⟨B, 0, none⟩), .int .i64 0]) ∧ Born w w' B 1 365000000000 0) := fun w => New_ok 2 1 w (by decide) (by decide) (Or.inl rfl)
  have hBr : Hid (∀ (B : Nat) (w : World), Brr w B 1 365000000000 0 → Calls Tryd.prog 12 #[.pointer (some ⟨B, 0, none⟩), .int .i64 365, .int .i64 1000000000, .int .i64 1] w fun e w' => e = .returned (.tuple #[.int .i64 1, .int .i64 0]) ∧ Ext (w.setCell ⟨B, 2, none⟩ (.int .i64 0)) w') := fun B w hB =>
    Bear_v B 1 365000000000 0 365 1000000000 1 1 0 (rst_zero (Or.inl rfl) (by decide)) (by decide) (by decide) ⟨by decide, by decide, by decide⟩ (by decide) (by decide) (by decide) w hB
  go_enter Tryd.func11, Tryd.ntmps11
  go_wp2_with fail
  refine (hN.out _).mono ?_
  rintro e w1 ⟨B, rfl, hb⟩
  have hx : Hid (Ext w w1) := hb.ext
  have hlo := hb.lo
  go_wp2_with fail
  refine (hBr.out _ _ hb.brr).mono ?_
  rintro e w2 ⟨rfl, hx1⟩
  replace hx : Hid (Ext w w2) := hx.out.wrote hlo hx1
  have hb2 : Brr w2 B 1 365000000000 0 := hb.brr.wrote hx1
  clear hx1 hb
  go_wp2_with fail
  refine (Rest_c _ _ _ _ _ hb2).mono ?_
  rintro e w2 ⟨rfl, rfl⟩
  clear hb2
  go_wp2
  go_ret
  exact ⟨rfl, hx.out⟩
theorem u64_mod (x M : Int) (hM : 0 < M) : 0 ≤ IntKind.u64.wrap x % M ∧ IntKind.u64.wrap x % M < M := ⟨Int.emod_nonneg _ (by omega), Int.emod_lt_of_pos _ hM⟩
theorem cut_x (x y z a b c : Int) (w : World) (ha : IntKind.u64.wrap x % 10000000000000 = a) (hb : IntKind.u64.wrap y % 1000000000 = b) (hc : IntKind.u64.wrap z % 3000 = c) :
    Calls Tryd.prog 17 #[.agg #[.int .i64 x, .int .i64 y, .int .i64 z]] w fun e w' => e = .returned (.agg #[.int .i64 a, .int .i64 b, .int .i64 c]) ∧ Ext w w' := by
  obtain ⟨u0, hu0⟩ : ∃ u, IntKind.u64.wrap x = u := ⟨_, rfl⟩
  obtain ⟨u1, hu1⟩ : ∃ u, IntKind.u64.wrap y = u := ⟨_, rfl⟩
  obtain ⟨u2, hu2⟩ : ∃ u, IntKind.u64.wrap z = u := ⟨_, rfl⟩
  rw [hu0] at ha
  rw [hu1] at hb
  rw [hu2] at hc
  have p0 : 0 ≤ u0 ∧ u0 < 18446744073709551616 := by rw [← hu0, IntKind.wrap_u64]; omega
  have p1 : 0 ≤ u1 ∧ u1 < 18446744073709551616 := by rw [← hu1, IntKind.wrap_u64]; omega
  have p2 : 0 ≤ u2 ∧ u2 < 18446744073709551616 := by rw [← hu2, IntKind.wrap_u64]; omega
  obtain ⟨p00, p01⟩ := p0
  obtain ⟨p10, p11⟩ := p1
  obtain ⟨p20, p21⟩ := p2
  have a0 : 0 ≤ a := by omega
  have a1 : a < 10000000000000 := by omega
  have b0 : 0 ≤ b := by omega
  have b1 : b < 1000000000 := by omega
  have c0 : 0 ≤ c := by omega
  have c1 : c < 3000 := by omega
  go_enter Tryd.func17, Tryd.ntmps17
  go_wp2
  exact bodyPost_ret (v := .agg #[.int .i64 a, .int .i64 b, .int .i64 c]) (by simp [results, Tryd.results17, go_sem]) rfl ⟨rfl, by repeat (first | exact Ext.refl _ | apply Ext.alloc)⟩
/-- What cut makes of a balance, a rate, parts. -/
theorem cut_f : ∃ f g h : Int → Int, (∀ x, 0 ≤ f x ∧ f x < 10000000000000) ∧ (∀ x, 0 ≤ g x ∧ g x < 1000000000) ∧ (∀ x, 0 ≤ h x ∧ h x < 3000) ∧ ∀ (x y z : Int) (w : World),
    Calls Tryd.prog 17 #[.agg #[.int .i64 x, .int .i64 y, .int .i64 z]] w fun e w' => e = .returned (.agg #[.int .i64 (f x), .int .i64 (g y), .int .i64 (h z)]) ∧ Ext w w' :=
  ⟨fun x => IntKind.u64.wrap x % 10000000000000, fun x => IntKind.u64.wrap x % 1000000000, fun x => IntKind.u64.wrap x % 3000, fun x => u64_mod x _ (by decide), fun x => u64_mod x _ (by decide), fun x => u64_mod x _ (by decide),
    fun x y z w => cut_x x y z _ _ _ w rfl rfl rfl⟩
end Go.Proofs.YteedbmmpkgpfhaaDoor
