/- What TakeRate of the program answers, as contracts: no statement of the seat is proved here. -/
import Derived.Test.YtpmgbagnaaahoabDoorTake
namespace Go.Proofs.YtpmgbagnaaahoabDoor
open Go.RowKit Go.Lib
set_option linter.unusedVariables false

theorem noughts_x (n : Int) (Z : List UInt8) (hz : zeros n.toNat = Z) (w : World) (hn : n ≤ 100) (hn0 : -100 ≤ n) :
    Calls Tryd.prog 30 #[.int .i64 n] w fun e w' => e = .returned (.string ⟨Z.toArray⟩) ∧ Ext w w' := hz ▸ noughts_c n w hn hn0

theorem tr_form (l p : List UInt8) (w : World) (g1 : trimSuffix l [37] = p) (g2 : hasSuffix l [37] = false) (hl : l.length ≤ 1000) :
    Calls Tryd.prog 11 #[.string ⟨l.toArray⟩] w fun e w' => e = .returned (.tuple #[.int .i64 0, .int .i64 4]) ∧ Ext w w' := by
  have hmf := make_func
  replace g1 := show Hid _ from g1
  replace g2 := show Hid _ from g2
  replace hl := show Hid _ from hl
  go_enter_defers Tryd.func11, Tryd.ntmps11
  go_wp2_with fail
  refine (cutSuffix_c l p false g1.out g2.out hl.out _).mono ?_
  rintro e w1 ⟨rfl, hx⟩
  have hF : Hid (Fr w w1) := Fr.start hx
  clear hx
  go_wp2_with fail
  refine (needForm_nox _).mono ?_
  rintro e w2 ⟨rfl, hx⟩
  replace hF : Hid (Fr w w2) := hF.out.step hx
  clear hx
  obtain ⟨hx0, gp, gq, gpz, gqz⟩ := hF.out
  clear hF
  replace hx0 : Hid (Ext _ _) := hx0
  go_wp2
  replace hx0 := hx0.out
  refine leaves_cons (f := 27) (args := #[.pointer (some ⟨w.heap.size, 0, none⟩), .pointer (some ⟨w.heap.size + 1, 0, none⟩)]) (by simp) (by simp [go_sem]) ?_
  refine (tr_catch w.heap.size 4 0 0 [] _ ?_ ?_ ?_ ?_).mono ?_
  · simp [go_sem, gp]
  · simp [go_sem, gq]
  · simp [go_sem, gpz]
  · simp [go_sem, gqz]
  rintro e u' w'' ⟨rfl, rfl, w3, hy, rfl⟩
  have hs1 := lt_of_cell gp
  have hs := lt_of_cell gq
  have hp2 : (w3.cell? ⟨w.heap.size, 0, none⟩).isSome = true := by rw [hy.cell _ _ (by simpa [World.setCell] using hs1)]; simp [go_sem, gp]
  have hq2 : (w3.cell? ⟨w.heap.size + 1, 0, none⟩).isSome = true := by rw [hy.cell _ _ (by simpa [World.setCell] using hs)]; simp [go_sem, gq]
  obtain ⟨vp, hp2⟩ := Option.isSome_iff_exists.1 hp2
  obtain ⟨vq, hq2⟩ := Option.isSome_iff_exists.1 hq2
  simp [Leaves, Go.settle, results, Tryd.results11, go_sem, hp2, hq2]
  refine ((Ext.trans ?_ hy).setCell (Nat.le_refl _) _).setCell (by show w.heap.size ≤ w.heap.size + 1; omega) _
  exact hx0

theorem tr_whole (l p sg r W P : List UInt8) (B : Bool) (w : World) (g1 : trimSuffix l [37] = p) (g2 : hasSuffix l [37] = true) (hl : l.length ≤ 1000) (h1 : cutL p = sg) (h2 : trimPrefix p [45] = r) (h3 : cut r [46] = (W, P, B)) (hr : r.length ≤ 1000) (hW : W.length ≤ 1000) (hP : P.length ≤ 1000) (he : Env w) (ho : okWhole W 4 = false) :
    Calls Tryd.prog 11 #[.string ⟨l.toArray⟩] w fun e w' => e = .returned (.tuple #[.int .i64 0, .int .i64 4]) ∧ Ext w w' := by
  have hmf := make_func
  replace g1 := show Hid _ from g1
  replace g2 := show Hid _ from g2
  replace hl := show Hid _ from hl
  replace h1 := show Hid _ from h1
  replace h2 := show Hid _ from h2
  replace h3 := show Hid _ from h3
  replace hr := show Hid _ from hr
  replace hW := show Hid _ from hW
  replace hP := show Hid _ from hP
  replace he := show Hid _ from he
  replace ho := show Hid _ from ho
  go_enter_defers Tryd.func11, Tryd.ntmps11
  go_wp2_with fail
  refine (cutSuffix_c l p true g1.out g2.out hl.out _).mono ?_
  rintro e w1 ⟨rfl, hx⟩
  have hF : Hid (Fr w w1) := Fr.start hx
  clear hx
  go_wp2_with fail
  refine (needForm_okx _).mono ?_
  rintro e w2 ⟨rfl, hx⟩
  replace hF : Hid (Fr w w2) := hF.out.step hx
  clear hx
  go_wp2_with fail
  refine (cutSign_x p sg r h1.out h2.out _).mono ?_
  rintro e w2 ⟨rfl, hx⟩
  replace hF : Hid (Fr w w2) := hF.out.step hx
  clear hx
  go_wp2_with fail
  refine (cut_c r W P B h3.out _ hr.out (Env.ext he.out hF.out.ext)).mono ?_
  rintro e w2 ⟨rfl, hx⟩
  replace hF : Hid (Fr w w2) := hF.out.step hx
  clear hx
  go_wp2_with fail
  refine (needWhole_no W 4 _ hW.out (by omega) ho.out).mono ?_
  rintro e w2 ⟨rfl, hx⟩
  replace hF : Hid (Fr w w2) := hF.out.step hx
  clear hx
  obtain ⟨hx0, gp, gq, gpz, gqz⟩ := hF.out
  clear hF
  replace hx0 : Hid (Ext _ _) := hx0
  go_wp2
  replace hx0 := hx0.out
  refine leaves_cons (f := 27) (args := #[.pointer (some ⟨w.heap.size, 0, none⟩), .pointer (some ⟨w.heap.size + 1, 0, none⟩)]) (by simp) (by simp [go_sem]) ?_
  refine (tr_catch w.heap.size 4 0 0 [] _ ?_ ?_ ?_ ?_).mono ?_
  · simp [go_sem, gp]
  · simp [go_sem, gq]
  · simp [go_sem, gpz]
  · simp [go_sem, gqz]
  rintro e u' w'' ⟨rfl, rfl, w3, hy, rfl⟩
  have hs1 := lt_of_cell gp
  have hs := lt_of_cell gq
  have hp2 : (w3.cell? ⟨w.heap.size, 0, none⟩).isSome = true := by rw [hy.cell _ _ (by simpa [World.setCell] using hs1)]; simp [go_sem, gp]
  have hq2 : (w3.cell? ⟨w.heap.size + 1, 0, none⟩).isSome = true := by rw [hy.cell _ _ (by simpa [World.setCell] using hs)]; simp [go_sem, gq]
  obtain ⟨vp, hp2⟩ := Option.isSome_iff_exists.1 hp2
  obtain ⟨vq, hq2⟩ := Option.isSome_iff_exists.1 hq2
  simp [Leaves, Go.settle, results, Tryd.results11, go_sem, hp2, hq2]
  refine ((Ext.trans ?_ hy).setCell (Nat.le_refl _) _).setCell (by show w.heap.size ≤ w.heap.size + 1; omega) _
  exact hx0

theorem tr_long (l p sg r W P : List UInt8) (w : World) (g1 : trimSuffix l [37] = p) (g2 : hasSuffix l [37] = true) (hl : l.length ≤ 1000) (h1 : cutL p = sg) (h2 : trimPrefix p [45] = r) (h3 : cut r [46] = (W, P, true)) (hr : r.length ≤ 1000) (hW : W.length ≤ 1000) (hP : P.length ≤ 1000) (he : Env w) (ho : okWhole W 4 = true) (hlen : ¬ (P.length : Int) ≤ 7) :
    Calls Tryd.prog 11 #[.string ⟨l.toArray⟩] w fun e w' => e = .returned (.tuple #[.int .i64 0, .int .i64 4]) ∧ Ext w w' := by
  have hmf := make_func
  replace g1 := show Hid _ from g1
  replace g2 := show Hid _ from g2
  replace hl := show Hid _ from hl
  replace h1 := show Hid _ from h1
  replace h2 := show Hid _ from h2
  replace h3 := show Hid _ from h3
  replace hr := show Hid _ from hr
  replace hW := show Hid _ from hW
  replace hP := show Hid _ from hP
  replace he := show Hid _ from he
  replace ho := show Hid _ from ho
  go_enter_defers Tryd.func11, Tryd.ntmps11
  go_wp2_with fail
  refine (cutSuffix_c l p true g1.out g2.out hl.out _).mono ?_
  rintro e w1 ⟨rfl, hx⟩
  have hF : Hid (Fr w w1) := Fr.start hx
  clear hx
  go_wp2_with fail
  refine (needForm_okx _).mono ?_
  rintro e w2 ⟨rfl, hx⟩
  replace hF : Hid (Fr w w2) := hF.out.step hx
  clear hx
  go_wp2_with fail
  refine (cutSign_x p sg r h1.out h2.out _).mono ?_
  rintro e w2 ⟨rfl, hx⟩
  replace hF : Hid (Fr w w2) := hF.out.step hx
  clear hx
  go_wp2_with fail
  refine (cut_c r W P true h3.out _ hr.out (Env.ext he.out hF.out.ext)).mono ?_
  rintro e w2 ⟨rfl, hx⟩
  replace hF : Hid (Fr w w2) := hF.out.step hx
  clear hx
  go_wp2_with fail
  refine (needWhole_ok W 4 _ hW.out (by omega) ho.out).mono ?_
  rintro e w2 ⟨rfl, hx⟩
  replace hF : Hid (Fr w w2) := hF.out.step hx
  clear hx
  go_wp2_with fail
  refine (needForm_nox _).mono ?_
  rintro e w2 ⟨rfl, hx⟩
  replace hF : Hid (Fr w w2) := hF.out.step hx
  clear hx
  obtain ⟨hx0, gp, gq, gpz, gqz⟩ := hF.out
  clear hF
  replace hx0 : Hid (Ext _ _) := hx0
  go_wp2
  replace hx0 := hx0.out
  refine leaves_cons (f := 27) (args := #[.pointer (some ⟨w.heap.size, 0, none⟩), .pointer (some ⟨w.heap.size + 1, 0, none⟩)]) (by simp) (by simp [go_sem]) ?_
  refine (tr_catch w.heap.size 4 0 0 [] _ ?_ ?_ ?_ ?_).mono ?_
  · simp [go_sem, gp]
  · simp [go_sem, gq]
  · simp [go_sem, gpz]
  · simp [go_sem, gqz]
  rintro e u' w'' ⟨rfl, rfl, w3, hy, rfl⟩
  have hs1 := lt_of_cell gp
  have hs := lt_of_cell gq
  have hp2 : (w3.cell? ⟨w.heap.size, 0, none⟩).isSome = true := by rw [hy.cell _ _ (by simpa [World.setCell] using hs1)]; simp [go_sem, gp]
  have hq2 : (w3.cell? ⟨w.heap.size + 1, 0, none⟩).isSome = true := by rw [hy.cell _ _ (by simpa [World.setCell] using hs)]; simp [go_sem, gq]
  obtain ⟨vp, hp2⟩ := Option.isSome_iff_exists.1 hp2
  obtain ⟨vq, hq2⟩ := Option.isSome_iff_exists.1 hq2
  simp [Leaves, Go.settle, results, Tryd.results11, go_sem, hp2, hq2]
  refine ((Ext.trans ?_ hy).setCell (Nat.le_refl _) _).setCell (by show w.heap.size ≤ w.heap.size + 1; omega) _
  exact hx0

theorem tr_part (l p sg r W P : List UInt8) (w : World) (g1 : trimSuffix l [37] = p) (g2 : hasSuffix l [37] = true) (hl : l.length ≤ 1000) (h1 : cutL p = sg) (h2 : trimPrefix p [45] = r) (h3 : cut r [46] = (W, P, true)) (hr : r.length ≤ 1000) (hW : W.length ≤ 1000) (hP : P.length ≤ 1000) (he : Env w) (ho : okWhole W 4 = true) (hlen : (P.length : Int) ≤ 7) (hd : digOnly P = false) :
    Calls Tryd.prog 11 #[.string ⟨l.toArray⟩] w fun e w' => e = .returned (.tuple #[.int .i64 0, .int .i64 4]) ∧ Ext w w' := by
  have hmf := make_func
  replace g1 := show Hid _ from g1
  replace g2 := show Hid _ from g2
  replace hl := show Hid _ from hl
  replace h1 := show Hid _ from h1
  replace h2 := show Hid _ from h2
  replace h3 := show Hid _ from h3
  replace hr := show Hid _ from hr
  replace hW := show Hid _ from hW
  replace hP := show Hid _ from hP
  replace he := show Hid _ from he
  replace ho := show Hid _ from ho
  replace hd := show Hid _ from hd
  go_enter_defers Tryd.func11, Tryd.ntmps11
  go_wp2_with fail
  refine (cutSuffix_c l p true g1.out g2.out hl.out _).mono ?_
  rintro e w1 ⟨rfl, hx⟩
  have hF : Hid (Fr w w1) := Fr.start hx
  clear hx
  go_wp2_with fail
  refine (needForm_okx _).mono ?_
  rintro e w2 ⟨rfl, hx⟩
  replace hF : Hid (Fr w w2) := hF.out.step hx
  clear hx
  go_wp2_with fail
  refine (cutSign_x p sg r h1.out h2.out _).mono ?_
  rintro e w2 ⟨rfl, hx⟩
  replace hF : Hid (Fr w w2) := hF.out.step hx
  clear hx
  go_wp2_with fail
  refine (cut_c r W P true h3.out _ hr.out (Env.ext he.out hF.out.ext)).mono ?_
  rintro e w2 ⟨rfl, hx⟩
  replace hF : Hid (Fr w w2) := hF.out.step hx
  clear hx
  go_wp2_with fail
  refine (needWhole_ok W 4 _ hW.out (by omega) ho.out).mono ?_
  rintro e w2 ⟨rfl, hx⟩
  replace hF : Hid (Fr w w2) := hF.out.step hx
  clear hx
  go_wp2_with fail
  refine (digitsOnly_x P false hd.out _ hP.out).mono ?_
  rintro e w2 ⟨rfl, hx⟩
  replace hF : Hid (Fr w w2) := hF.out.step hx
  clear hx
  go_wp2_with fail
  refine (needForm_nox _).mono ?_
  rintro e w2 ⟨rfl, hx⟩
  replace hF : Hid (Fr w w2) := hF.out.step hx
  clear hx
  obtain ⟨hx0, gp, gq, gpz, gqz⟩ := hF.out
  clear hF
  replace hx0 : Hid (Ext _ _) := hx0
  go_wp2
  replace hx0 := hx0.out
  refine leaves_cons (f := 27) (args := #[.pointer (some ⟨w.heap.size, 0, none⟩), .pointer (some ⟨w.heap.size + 1, 0, none⟩)]) (by simp) (by simp [go_sem]) ?_
  refine (tr_catch w.heap.size 4 0 0 [] _ ?_ ?_ ?_ ?_).mono ?_
  · simp [go_sem, gp]
  · simp [go_sem, gq]
  · simp [go_sem, gpz]
  · simp [go_sem, gqz]
  rintro e u' w'' ⟨rfl, rfl, w3, hy, rfl⟩
  have hs1 := lt_of_cell gp
  have hs := lt_of_cell gq
  have hp2 : (w3.cell? ⟨w.heap.size, 0, none⟩).isSome = true := by rw [hy.cell _ _ (by simpa [World.setCell] using hs1)]; simp [go_sem, gp]
  have hq2 : (w3.cell? ⟨w.heap.size + 1, 0, none⟩).isSome = true := by rw [hy.cell _ _ (by simpa [World.setCell] using hs)]; simp [go_sem, gq]
  obtain ⟨vp, hp2⟩ := Option.isSome_iff_exists.1 hp2
  obtain ⟨vq, hq2⟩ := Option.isSome_iff_exists.1 hq2
  simp [Leaves, Go.settle, results, Tryd.results11, go_sem, hp2, hq2]
  refine ((Ext.trans ?_ hy).setCell (Nat.le_refl _) _).setCell (by show w.heap.size ≤ w.heap.size + 1; omega) _
  exact hx0

theorem tr_nought (l p sg r W P : List UInt8) (w : World) (g1 : trimSuffix l [37] = p) (g2 : hasSuffix l [37] = true) (hl : l.length ≤ 1000) (h1 : cutL p = sg) (h2 : trimPrefix p [45] = r) (h3 : cut r [46] = (W, P, true)) (hr : r.length ≤ 1000) (hW : W.length ≤ 1000) (hP : P.length ≤ 1000) (he : Env w) (ho : okWhole W 4 = true) (hlen : (P.length : Int) ≤ 7) (hd : digOnly P = true) (hs : hasSuffix P [48] = true) :
    Calls Tryd.prog 11 #[.string ⟨l.toArray⟩] w fun e w' => e = .returned (.tuple #[.int .i64 0, .int .i64 4]) ∧ Ext w w' := by
  have hmf := make_func
  replace g1 := show Hid _ from g1
  replace g2 := show Hid _ from g2
  replace hl := show Hid _ from hl
  replace h1 := show Hid _ from h1
  replace h2 := show Hid _ from h2
  replace h3 := show Hid _ from h3
  replace hr := show Hid _ from hr
  replace hW := show Hid _ from hW
  replace hP := show Hid _ from hP
  replace he := show Hid _ from he
  replace ho := show Hid _ from ho
  replace hd := show Hid _ from hd
  replace hs := show Hid _ from hs
  go_enter_defers Tryd.func11, Tryd.ntmps11
  go_wp2_with fail
  refine (cutSuffix_c l p true g1.out g2.out hl.out _).mono ?_
  rintro e w1 ⟨rfl, hx⟩
  have hF : Hid (Fr w w1) := Fr.start hx
  clear hx
  go_wp2_with fail
  refine (needForm_okx _).mono ?_
  rintro e w2 ⟨rfl, hx⟩
  replace hF : Hid (Fr w w2) := hF.out.step hx
  clear hx
  go_wp2_with fail
  refine (cutSign_x p sg r h1.out h2.out _).mono ?_
  rintro e w2 ⟨rfl, hx⟩
  replace hF : Hid (Fr w w2) := hF.out.step hx
  clear hx
  go_wp2_with fail
  refine (cut_c r W P true h3.out _ hr.out (Env.ext he.out hF.out.ext)).mono ?_
  rintro e w2 ⟨rfl, hx⟩
  replace hF : Hid (Fr w w2) := hF.out.step hx
  clear hx
  go_wp2_with fail
  refine (needWhole_ok W 4 _ hW.out (by omega) ho.out).mono ?_
  rintro e w2 ⟨rfl, hx⟩
  replace hF : Hid (Fr w w2) := hF.out.step hx
  clear hx
  go_wp2_with fail
  refine (digitsOnly_x P true hd.out _ hP.out).mono ?_
  rintro e w2 ⟨rfl, hx⟩
  replace hF : Hid (Fr w w2) := hF.out.step hx
  clear hx
  go_wp2_with fail
  refine (hasSuffix_c P true hs.out hP.out _).mono ?_
  rintro e w2 ⟨rfl, hx⟩
  replace hF : Hid (Fr w w2) := hF.out.step hx
  clear hx
  go_wp2_with fail
  refine (needForm_nox _).mono ?_
  rintro e w2 ⟨rfl, hx⟩
  replace hF : Hid (Fr w w2) := hF.out.step hx
  clear hx
  obtain ⟨hx0, gp, gq, gpz, gqz⟩ := hF.out
  clear hF
  replace hx0 : Hid (Ext _ _) := hx0
  go_wp2
  replace hx0 := hx0.out
  refine leaves_cons (f := 27) (args := #[.pointer (some ⟨w.heap.size, 0, none⟩), .pointer (some ⟨w.heap.size + 1, 0, none⟩)]) (by simp) (by simp [go_sem]) ?_
  refine (tr_catch w.heap.size 4 0 0 [] _ ?_ ?_ ?_ ?_).mono ?_
  · simp [go_sem, gp]
  · simp [go_sem, gq]
  · simp [go_sem, gpz]
  · simp [go_sem, gqz]
  rintro e u' w'' ⟨rfl, rfl, w3, hy, rfl⟩
  have hs1 := lt_of_cell gp
  have hs := lt_of_cell gq
  have hp2 : (w3.cell? ⟨w.heap.size, 0, none⟩).isSome = true := by rw [hy.cell _ _ (by simpa [World.setCell] using hs1)]; simp [go_sem, gp]
  have hq2 : (w3.cell? ⟨w.heap.size + 1, 0, none⟩).isSome = true := by rw [hy.cell _ _ (by simpa [World.setCell] using hs)]; simp [go_sem, gq]
  obtain ⟨vp, hp2⟩ := Option.isSome_iff_exists.1 hp2
  obtain ⟨vq, hq2⟩ := Option.isSome_iff_exists.1 hq2
  simp [Leaves, Go.settle, results, Tryd.results11, go_sem, hp2, hq2]
  refine ((Ext.trans ?_ hy).setCell (Nat.le_refl _) _).setCell (by show w.heap.size ≤ w.heap.size + 1; omega) _
  exact hx0

theorem tr_over_f (l p sg r W P : List UInt8) (w : World) (g1 : trimSuffix l [37] = p) (g2 : hasSuffix l [37] = true) (hl : l.length ≤ 1000) (h1 : cutL p = sg) (h2 : trimPrefix p [45] = r) (h3 : cut r [46] = (W, P, false)) (hr : r.length ≤ 1000) (hW : W.length ≤ 1000) (hP : P.length ≤ 1000) (he : Env w) (ho : okWhole W 4 = true) (Z : List UInt8) (hz : zeros (7 - (P.length : Int)).toNat = Z) (hZl : Z.length = 7 - P.length) (hall : (W ++ (P ++ Z)).all isD = true) (hWl : W.length ≤ 4) (hlen : (P.length : Int) ≤ 7) (n : Nat) (hn : valL (W ++ (P ++ Z)) = n) (hnb : n ≤ 100000000000) (hv : ¬ (n : Int) ≤ 10000000000) :
    Calls Tryd.prog 11 #[.string ⟨l.toArray⟩] w fun e w' => e = .returned (.tuple #[.int .i64 0, .int .i64 4]) ∧ Ext w w' := by
  have hmf := make_func
  replace g1 := show Hid _ from g1
  replace g2 := show Hid _ from g2
  replace hl := show Hid _ from hl
  replace h1 := show Hid _ from h1
  replace h2 := show Hid _ from h2
  replace h3 := show Hid _ from h3
  replace hr := show Hid _ from hr
  replace hW := show Hid _ from hW
  replace hP := show Hid _ from hP
  replace he := show Hid _ from he
  replace ho := show Hid _ from ho
  replace hz := show Hid _ from hz
  replace hZl := show Hid _ from hZl
  replace hall := show Hid _ from hall
  replace hn := show Hid _ from hn
  go_enter_defers Tryd.func11, Tryd.ntmps11
  go_wp2_with fail
  refine (cutSuffix_c l p true g1.out g2.out hl.out _).mono ?_
  rintro e w1 ⟨rfl, hx⟩
  have hF : Hid (Fr w w1) := Fr.start hx
  clear hx
  go_wp2_with fail
  refine (needForm_okx _).mono ?_
  rintro e w2 ⟨rfl, hx⟩
  replace hF : Hid (Fr w w2) := hF.out.step hx
  clear hx
  go_wp2_with fail
  refine (cutSign_x p sg r h1.out h2.out _).mono ?_
  rintro e w2 ⟨rfl, hx⟩
  replace hF : Hid (Fr w w2) := hF.out.step hx
  clear hx
  go_wp2_with fail
  refine (cut_c r W P false h3.out _ hr.out (Env.ext he.out hF.out.ext)).mono ?_
  rintro e w2 ⟨rfl, hx⟩
  replace hF : Hid (Fr w w2) := hF.out.step hx
  clear hx
  go_wp2_with fail
  refine (needWhole_ok W 4 _ hW.out (by omega) ho.out).mono ?_
  rintro e w2 ⟨rfl, hx⟩
  replace hF : Hid (Fr w w2) := hF.out.step hx
  clear hx
  have hbig : ¬ 9223372036854775807 < W.length + P.length := by omega
  have hw : wrap64 (7 - (P.length : Int)) = 7 - (P.length : Int) := by unfold wrap64; omega
  go_wp2_with fail
  refine (noughts_x _ Z hz.out _ (by omega) (by omega)).mono ?_
  rintro e w2 ⟨rfl, hx⟩
  replace hF : Hid (Fr w w2) := hF.out.step hx
  clear hx
  have hbig2 : ¬ 9223372036854775807 < W.length + (P.length + Z.length) := by have := hZl.out; omega
  have hbig3 : ¬ 9223372036854775807 < W.length + P.length + Z.length := by have := hZl.out; omega
  have hv1 : decide ((n : Int) ≤ 10000000000) = false := decide_eq_false (by omega)
  have hv2 : ¬ n ≤ 10000000000 := by omega
  go_wp2_with fail
  refine (number_ok (W ++ (P ++ Z)) _ (by have := hZl.out; simp; omega) hall.out n hn.out (by omega)).mono ?_
  rintro e w2 ⟨rfl, hx⟩
  replace hF : Hid (Fr w w2) := hF.out.step hx
  clear hx
  go_wp2_with fail
  refine (needForm_nox _).mono ?_
  rintro e w2 ⟨rfl, hx⟩
  replace hF : Hid (Fr w w2) := hF.out.step hx
  clear hx
  obtain ⟨hx0, gp, gq, gpz, gqz⟩ := hF.out
  clear hF
  replace hx0 : Hid (Ext _ _) := hx0
  go_wp2
  replace hx0 := hx0.out
  refine leaves_cons (f := 27) (args := #[.pointer (some ⟨w.heap.size, 0, none⟩), .pointer (some ⟨w.heap.size + 1, 0, none⟩)]) (by simp) (by simp [go_sem]) ?_
  refine (tr_catch w.heap.size 4 0 0 [] _ ?_ ?_ ?_ ?_).mono ?_
  · simp [go_sem, gp]
  · simp [go_sem, gq]
  · simp [go_sem, gpz]
  · simp [go_sem, gqz]
  rintro e u' w'' ⟨rfl, rfl, w3, hy, rfl⟩
  have hs1 := lt_of_cell gp
  have hs := lt_of_cell gq
  have hp2 : (w3.cell? ⟨w.heap.size, 0, none⟩).isSome = true := by rw [hy.cell _ _ (by simpa [World.setCell] using hs1)]; simp [go_sem, gp]
  have hq2 : (w3.cell? ⟨w.heap.size + 1, 0, none⟩).isSome = true := by rw [hy.cell _ _ (by simpa [World.setCell] using hs)]; simp [go_sem, gq]
  obtain ⟨vp, hp2⟩ := Option.isSome_iff_exists.1 hp2
  obtain ⟨vq, hq2⟩ := Option.isSome_iff_exists.1 hq2
  simp [Leaves, Go.settle, results, Tryd.results11, go_sem, hp2, hq2]
  refine ((Ext.trans ?_ hy).setCell (Nat.le_refl _) _).setCell (by show w.heap.size ≤ w.heap.size + 1; omega) _
  exact hx0

theorem tr_pos_f (l p r W P : List UInt8) (w : World) (g1 : trimSuffix l [37] = p) (g2 : hasSuffix l [37] = true) (hl : l.length ≤ 1000) (h1 : cutL p = []) (h2 : trimPrefix p [45] = r) (h3 : cut r [46] = (W, P, false)) (hr : r.length ≤ 1000) (hW : W.length ≤ 1000) (hP : P.length ≤ 1000) (he : Env w) (ho : okWhole W 4 = true) (Z : List UInt8) (hz : zeros (7 - (P.length : Int)).toNat = Z) (hZl : Z.length = 7 - P.length) (hall : (W ++ (P ++ Z)).all isD = true) (hWl : W.length ≤ 4) (hlen : (P.length : Int) ≤ 7) (n : Nat) (hn : valL (W ++ (P ++ Z)) = n) (hnb : n ≤ 100000000000) (hv : (n : Int) ≤ 10000000000) :
    Calls Tryd.prog 11 #[.string ⟨l.toArray⟩] w fun e w' => e = .returned (.tuple #[.int .i64 (n : Int), .int .i64 0]) ∧ Ext w w' := by
  have hmf := make_func
  replace g1 := show Hid _ from g1
  replace g2 := show Hid _ from g2
  replace hl := show Hid _ from hl
  replace h1 := show Hid _ from h1
  replace h2 := show Hid _ from h2
  replace h3 := show Hid _ from h3
  replace hr := show Hid _ from hr
  replace hW := show Hid _ from hW
  replace hP := show Hid _ from hP
  replace he := show Hid _ from he
  replace ho := show Hid _ from ho
  replace hz := show Hid _ from hz
  replace hZl := show Hid _ from hZl
  replace hall := show Hid _ from hall
  replace hn := show Hid _ from hn
  go_enter_defers Tryd.func11, Tryd.ntmps11
  go_wp2_with fail
  refine (cutSuffix_c l p true g1.out g2.out hl.out _).mono ?_
  rintro e w1 ⟨rfl, hx⟩
  have hF : Hid (Fr w w1) := Fr.start hx
  clear hx
  go_wp2_with fail
  refine (needForm_okx _).mono ?_
  rintro e w2 ⟨rfl, hx⟩
  replace hF : Hid (Fr w w2) := hF.out.step hx
  clear hx
  go_wp2_with fail
  refine (cutSign_x p [] r h1.out h2.out _).mono ?_
  rintro e w2 ⟨rfl, hx⟩
  replace hF : Hid (Fr w w2) := hF.out.step hx
  clear hx
  go_wp2_with fail
  refine (cut_c r W P false h3.out _ hr.out (Env.ext he.out hF.out.ext)).mono ?_
  rintro e w2 ⟨rfl, hx⟩
  replace hF : Hid (Fr w w2) := hF.out.step hx
  clear hx
  go_wp2_with fail
  refine (needWhole_ok W 4 _ hW.out (by omega) ho.out).mono ?_
  rintro e w2 ⟨rfl, hx⟩
  replace hF : Hid (Fr w w2) := hF.out.step hx
  clear hx
  have hbig : ¬ 9223372036854775807 < W.length + P.length := by omega
  have hw : wrap64 (7 - (P.length : Int)) = 7 - (P.length : Int) := by unfold wrap64; omega
  go_wp2_with fail
  refine (noughts_x _ Z hz.out _ (by omega) (by omega)).mono ?_
  rintro e w2 ⟨rfl, hx⟩
  replace hF : Hid (Fr w w2) := hF.out.step hx
  clear hx
  have hbig2 : ¬ 9223372036854775807 < W.length + (P.length + Z.length) := by have := hZl.out; omega
  have hbig3 : ¬ 9223372036854775807 < W.length + P.length + Z.length := by have := hZl.out; omega
  go_wp2_with fail
  refine (number_ok (W ++ (P ++ Z)) _ (by have := hZl.out; simp; omega) hall.out n hn.out (by omega)).mono ?_
  rintro e w2 ⟨rfl, hx⟩
  replace hF : Hid (Fr w w2) := hF.out.step hx
  clear hx
  go_wp2_with fail
  refine (needForm_okx _).mono ?_
  rintro e w2 ⟨rfl, hx⟩
  replace hF : Hid (Fr w w2) := hF.out.step hx
  clear hx
  go_wp2_with fail
  refine (signed_posx _ _).mono ?_
  rintro e w2 ⟨rfl, hx⟩
  replace hF : Hid (Fr w w2) := hF.out.step hx
  clear hx
  obtain ⟨hx0, gp, gq, gpz, gqz⟩ := hF.out
  clear hF
  replace hx0 : Hid (Ext _ _) := hx0
  go_wp2
  replace hx0 := hx0.out
  refine leaves_cons (f := 27) (args := #[.pointer (some ⟨w.heap.size, 0, none⟩), .pointer (some ⟨w.heap.size + 1, 0, none⟩)]) (by simp) (by simp [go_sem]) ?_
  refine (tr_idle w.heap.size ((n : Int)) 0 _ ?_ ?_ ?_ ?_).mono ?_
  · simp [go_sem, gp]
  · simp [go_sem, gq]
  · simp [go_sem, gpz]
  · simp [go_sem, gqz]
  rintro e u' w'' ⟨rfl, rfl, w3, hy, rfl⟩
  have hs1 := lt_of_cell gp
  have hs := lt_of_cell gq
  have hp2 : (w3.cell? ⟨w.heap.size, 0, none⟩).isSome = true := by rw [hy.cell _ _ (by simpa [World.setCell] using hs1)]; simp [go_sem, gp]
  have hq2 : (w3.cell? ⟨w.heap.size + 1, 0, none⟩).isSome = true := by rw [hy.cell _ _ (by simpa [World.setCell] using hs)]; simp [go_sem, gq]
  obtain ⟨vp, hp2⟩ := Option.isSome_iff_exists.1 hp2
  obtain ⟨vq, hq2⟩ := Option.isSome_iff_exists.1 hq2
  simp [Leaves, Go.settle, results, Tryd.results11, go_sem, hp2, hq2]
  refine ((Ext.trans ?_ hy).setCell (Nat.le_refl _) _).setCell (by show w.heap.size ≤ w.heap.size + 1; omega) _
  exact (hx0.setCell (Nat.le_refl _) _).setCell (by show w.heap.size ≤ w.heap.size + 1; omega) _

theorem tr_neg_f (l p r W P : List UInt8) (w : World) (g1 : trimSuffix l [37] = p) (g2 : hasSuffix l [37] = true) (hl : l.length ≤ 1000) (h1 : cutL p = [45]) (h2 : trimPrefix p [45] = r) (h3 : cut r [46] = (W, P, false)) (hr : r.length ≤ 1000) (hW : W.length ≤ 1000) (hP : P.length ≤ 1000) (he : Env w) (ho : okWhole W 4 = true) (Z : List UInt8) (hz : zeros (7 - (P.length : Int)).toNat = Z) (hZl : Z.length = 7 - P.length) (hall : (W ++ (P ++ Z)).all isD = true) (hWl : W.length ≤ 4) (hlen : (P.length : Int) ≤ 7) (n : Nat) (hn : valL (W ++ (P ++ Z)) = n) (hnb : n ≤ 100000000000) (hv : (n : Int) ≤ 10000000000) (hn0 : 0 < n) :
    Calls Tryd.prog 11 #[.string ⟨l.toArray⟩] w fun e w' => e = .returned (.tuple #[.int .i64 (-(n : Int)), .int .i64 0]) ∧ Ext w w' := by
  have hmf := make_func
  replace g1 := show Hid _ from g1
  replace g2 := show Hid _ from g2
  replace hl := show Hid _ from hl
  replace h1 := show Hid _ from h1
  replace h2 := show Hid _ from h2
  replace h3 := show Hid _ from h3
  replace hr := show Hid _ from hr
  replace hW := show Hid _ from hW
  replace hP := show Hid _ from hP
  replace he := show Hid _ from he
  replace ho := show Hid _ from ho
  replace hz := show Hid _ from hz
  replace hZl := show Hid _ from hZl
  replace hall := show Hid _ from hall
  replace hn := show Hid _ from hn
  replace hn0 := show Hid _ from hn0
  go_enter_defers Tryd.func11, Tryd.ntmps11
  go_wp2_with fail
  refine (cutSuffix_c l p true g1.out g2.out hl.out _).mono ?_
  rintro e w1 ⟨rfl, hx⟩
  have hF : Hid (Fr w w1) := Fr.start hx
  clear hx
  go_wp2_with fail
  refine (needForm_okx _).mono ?_
  rintro e w2 ⟨rfl, hx⟩
  replace hF : Hid (Fr w w2) := hF.out.step hx
  clear hx
  go_wp2_with fail
  refine (cutSign_x p [45] r h1.out h2.out _).mono ?_
  rintro e w2 ⟨rfl, hx⟩
  replace hF : Hid (Fr w w2) := hF.out.step hx
  clear hx
  go_wp2_with fail
  refine (cut_c r W P false h3.out _ hr.out (Env.ext he.out hF.out.ext)).mono ?_
  rintro e w2 ⟨rfl, hx⟩
  replace hF : Hid (Fr w w2) := hF.out.step hx
  clear hx
  go_wp2_with fail
  refine (needWhole_ok W 4 _ hW.out (by omega) ho.out).mono ?_
  rintro e w2 ⟨rfl, hx⟩
  replace hF : Hid (Fr w w2) := hF.out.step hx
  clear hx
  have hbig : ¬ 9223372036854775807 < W.length + P.length := by omega
  have hw : wrap64 (7 - (P.length : Int)) = 7 - (P.length : Int) := by unfold wrap64; omega
  go_wp2_with fail
  refine (noughts_x _ Z hz.out _ (by omega) (by omega)).mono ?_
  rintro e w2 ⟨rfl, hx⟩
  replace hF : Hid (Fr w w2) := hF.out.step hx
  clear hx
  have hbig2 : ¬ 9223372036854775807 < W.length + (P.length + Z.length) := by have := hZl.out; omega
  have hbig3 : ¬ 9223372036854775807 < W.length + P.length + Z.length := by have := hZl.out; omega
  go_wp2_with fail
  refine (number_ok (W ++ (P ++ Z)) _ (by have := hZl.out; simp; omega) hall.out n hn.out (by omega)).mono ?_
  rintro e w2 ⟨rfl, hx⟩
  replace hF : Hid (Fr w w2) := hF.out.step hx
  clear hx
  go_wp2_with fail
  refine (needForm_okx _).mono ?_
  rintro e w2 ⟨rfl, hx⟩
  replace hF : Hid (Fr w w2) := hF.out.step hx
  clear hx
  go_wp2_with fail
  refine (signed_negx (n : Int) _ (by have := hn0.out; omega) (by omega)).mono ?_
  rintro e w2 ⟨rfl, hx⟩
  replace hF : Hid (Fr w w2) := hF.out.step hx
  clear hx
  obtain ⟨hx0, gp, gq, gpz, gqz⟩ := hF.out
  clear hF
  replace hx0 : Hid (Ext _ _) := hx0
  go_wp2
  replace hx0 := hx0.out
  refine leaves_cons (f := 27) (args := #[.pointer (some ⟨w.heap.size, 0, none⟩), .pointer (some ⟨w.heap.size + 1, 0, none⟩)]) (by simp) (by simp [go_sem]) ?_
  refine (tr_idle w.heap.size ((-(n : Int))) 0 _ ?_ ?_ ?_ ?_).mono ?_
  · simp [go_sem, gp]
  · simp [go_sem, gq]
  · simp [go_sem, gpz]
  · simp [go_sem, gqz]
  rintro e u' w'' ⟨rfl, rfl, w3, hy, rfl⟩
  have hs1 := lt_of_cell gp
  have hs := lt_of_cell gq
  have hp2 : (w3.cell? ⟨w.heap.size, 0, none⟩).isSome = true := by rw [hy.cell _ _ (by simpa [World.setCell] using hs1)]; simp [go_sem, gp]
  have hq2 : (w3.cell? ⟨w.heap.size + 1, 0, none⟩).isSome = true := by rw [hy.cell _ _ (by simpa [World.setCell] using hs)]; simp [go_sem, gq]
  obtain ⟨vp, hp2⟩ := Option.isSome_iff_exists.1 hp2
  obtain ⟨vq, hq2⟩ := Option.isSome_iff_exists.1 hq2
  simp [Leaves, Go.settle, results, Tryd.results11, go_sem, hp2, hq2]
  refine ((Ext.trans ?_ hy).setCell (Nat.le_refl _) _).setCell (by show w.heap.size ≤ w.heap.size + 1; omega) _
  exact (hx0.setCell (Nat.le_refl _) _).setCell (by show w.heap.size ≤ w.heap.size + 1; omega) _

theorem tr_nil_f (l p r W P : List UInt8) (w : World) (g1 : trimSuffix l [37] = p) (g2 : hasSuffix l [37] = true) (hl : l.length ≤ 1000) (h1 : cutL p = [45]) (h2 : trimPrefix p [45] = r) (h3 : cut r [46] = (W, P, false)) (hr : r.length ≤ 1000) (hW : W.length ≤ 1000) (hP : P.length ≤ 1000) (he : Env w) (ho : okWhole W 4 = true) (Z : List UInt8) (hz : zeros (7 - (P.length : Int)).toNat = Z) (hZl : Z.length = 7 - P.length) (hall : (W ++ (P ++ Z)).all isD = true) (hWl : W.length ≤ 4) (hlen : (P.length : Int) ≤ 7) (hn : valL (W ++ (P ++ Z)) = 0) :
    Calls Tryd.prog 11 #[.string ⟨l.toArray⟩] w fun e w' => e = .returned (.tuple #[.int .i64 0, .int .i64 4]) ∧ Ext w w' := by
  have hmf := make_func
  replace g1 := show Hid _ from g1
  replace g2 := show Hid _ from g2
  replace hl := show Hid _ from hl
  replace h1 := show Hid _ from h1
  replace h2 := show Hid _ from h2
  replace h3 := show Hid _ from h3
  replace hr := show Hid _ from hr
  replace hW := show Hid _ from hW
  replace hP := show Hid _ from hP
  replace he := show Hid _ from he
  replace ho := show Hid _ from ho
  replace hz := show Hid _ from hz
  replace hZl := show Hid _ from hZl
  replace hall := show Hid _ from hall
  replace hn := show Hid _ from hn
  go_enter_defers Tryd.func11, Tryd.ntmps11
  go_wp2_with fail
  refine (cutSuffix_c l p true g1.out g2.out hl.out _).mono ?_
  rintro e w1 ⟨rfl, hx⟩
  have hF : Hid (Fr w w1) := Fr.start hx
  clear hx
  go_wp2_with fail
  refine (needForm_okx _).mono ?_
  rintro e w2 ⟨rfl, hx⟩
  replace hF : Hid (Fr w w2) := hF.out.step hx
  clear hx
  go_wp2_with fail
  refine (cutSign_x p [45] r h1.out h2.out _).mono ?_
  rintro e w2 ⟨rfl, hx⟩
  replace hF : Hid (Fr w w2) := hF.out.step hx
  clear hx
  go_wp2_with fail
  refine (cut_c r W P false h3.out _ hr.out (Env.ext he.out hF.out.ext)).mono ?_
  rintro e w2 ⟨rfl, hx⟩
  replace hF : Hid (Fr w w2) := hF.out.step hx
  clear hx
  go_wp2_with fail
  refine (needWhole_ok W 4 _ hW.out (by omega) ho.out).mono ?_
  rintro e w2 ⟨rfl, hx⟩
  replace hF : Hid (Fr w w2) := hF.out.step hx
  clear hx
  have hbig : ¬ 9223372036854775807 < W.length + P.length := by omega
  have hw : wrap64 (7 - (P.length : Int)) = 7 - (P.length : Int) := by unfold wrap64; omega
  go_wp2_with fail
  refine (noughts_x _ Z hz.out _ (by omega) (by omega)).mono ?_
  rintro e w2 ⟨rfl, hx⟩
  replace hF : Hid (Fr w w2) := hF.out.step hx
  clear hx
  have hbig2 : ¬ 9223372036854775807 < W.length + (P.length + Z.length) := by have := hZl.out; omega
  have hbig3 : ¬ 9223372036854775807 < W.length + P.length + Z.length := by have := hZl.out; omega
  go_wp2_with fail
  refine (number_ok (W ++ (P ++ Z)) _ (by have := hZl.out; simp; omega) hall.out 0 hn.out (by omega)).mono ?_
  rintro e w2 ⟨rfl, hx⟩
  replace hF : Hid (Fr w w2) := hF.out.step hx
  clear hx
  go_wp2_with fail
  refine (needForm_okx _).mono ?_
  rintro e w2 ⟨rfl, hx⟩
  replace hF : Hid (Fr w w2) := hF.out.step hx
  clear hx
  go_wp2_with fail
  refine (signed_nilx _).mono ?_
  rintro e w2 ⟨rfl, hx⟩
  replace hF : Hid (Fr w w2) := hF.out.step hx
  clear hx
  obtain ⟨hx0, gp, gq, gpz, gqz⟩ := hF.out
  clear hF
  replace hx0 : Hid (Ext _ _) := hx0
  go_wp2
  replace hx0 := hx0.out
  refine leaves_cons (f := 27) (args := #[.pointer (some ⟨w.heap.size, 0, none⟩), .pointer (some ⟨w.heap.size + 1, 0, none⟩)]) (by simp) (by simp [go_sem]) ?_
  refine (tr_catch w.heap.size 4 0 0 [] _ ?_ ?_ ?_ ?_).mono ?_
  · simp [go_sem, gp]
  · simp [go_sem, gq]
  · simp [go_sem, gpz]
  · simp [go_sem, gqz]
  rintro e u' w'' ⟨rfl, rfl, w3, hy, rfl⟩
  have hs1 := lt_of_cell gp
  have hs := lt_of_cell gq
  have hp2 : (w3.cell? ⟨w.heap.size, 0, none⟩).isSome = true := by rw [hy.cell _ _ (by simpa [World.setCell] using hs1)]; simp [go_sem, gp]
  have hq2 : (w3.cell? ⟨w.heap.size + 1, 0, none⟩).isSome = true := by rw [hy.cell _ _ (by simpa [World.setCell] using hs)]; simp [go_sem, gq]
  obtain ⟨vp, hp2⟩ := Option.isSome_iff_exists.1 hp2
  obtain ⟨vq, hq2⟩ := Option.isSome_iff_exists.1 hq2
  simp [Leaves, Go.settle, results, Tryd.results11, go_sem, hp2, hq2]
  refine ((Ext.trans ?_ hy).setCell (Nat.le_refl _) _).setCell (by show w.heap.size ≤ w.heap.size + 1; omega) _
  exact hx0

theorem tr_over_t (l p sg r W P : List UInt8) (w : World) (g1 : trimSuffix l [37] = p) (g2 : hasSuffix l [37] = true) (hl : l.length ≤ 1000) (h1 : cutL p = sg) (h2 : trimPrefix p [45] = r) (h3 : cut r [46] = (W, P, true)) (hr : r.length ≤ 1000) (hW : W.length ≤ 1000) (hP : P.length ≤ 1000) (he : Env w) (ho : okWhole W 4 = true) (hd : digOnly P = true) (hs : hasSuffix P [48] = false) (Z : List UInt8) (hz : zeros (7 - (P.length : Int)).toNat = Z) (hZl : Z.length = 7 - P.length) (hall : (W ++ (P ++ Z)).all isD = true) (hWl : W.length ≤ 4) (hlen : (P.length : Int) ≤ 7) (n : Nat) (hn : valL (W ++ (P ++ Z)) = n) (hnb : n ≤ 100000000000) (hv : ¬ (n : Int) ≤ 10000000000) :
    Calls Tryd.prog 11 #[.string ⟨l.toArray⟩] w fun e w' => e = .returned (.tuple #[.int .i64 0, .int .i64 4]) ∧ Ext w w' := by
  have hmf := make_func
  replace g1 := show Hid _ from g1
  replace g2 := show Hid _ from g2
  replace hl := show Hid _ from hl
  replace h1 := show Hid _ from h1
  replace h2 := show Hid _ from h2
  replace h3 := show Hid _ from h3
  replace hr := show Hid _ from hr
  replace hW := show Hid _ from hW
  replace hP := show Hid _ from hP
  replace he := show Hid _ from he
  replace ho := show Hid _ from ho
  replace hd := show Hid _ from hd
  replace hs := show Hid _ from hs
  replace hz := show Hid _ from hz
  replace hZl := show Hid _ from hZl
  replace hall := show Hid _ from hall
  replace hn := show Hid _ from hn
  go_enter_defers Tryd.func11, Tryd.ntmps11
  go_wp2_with fail
  refine (cutSuffix_c l p true g1.out g2.out hl.out _).mono ?_
  rintro e w1 ⟨rfl, hx⟩
  have hF : Hid (Fr w w1) := Fr.start hx
  clear hx
  go_wp2_with fail
  refine (needForm_okx _).mono ?_
  rintro e w2 ⟨rfl, hx⟩
  replace hF : Hid (Fr w w2) := hF.out.step hx
  clear hx
  go_wp2_with fail
  refine (cutSign_x p sg r h1.out h2.out _).mono ?_
  rintro e w2 ⟨rfl, hx⟩
  replace hF : Hid (Fr w w2) := hF.out.step hx
  clear hx
  go_wp2_with fail
  refine (cut_c r W P true h3.out _ hr.out (Env.ext he.out hF.out.ext)).mono ?_
  rintro e w2 ⟨rfl, hx⟩
  replace hF : Hid (Fr w w2) := hF.out.step hx
  clear hx
  go_wp2_with fail
  refine (needWhole_ok W 4 _ hW.out (by omega) ho.out).mono ?_
  rintro e w2 ⟨rfl, hx⟩
  replace hF : Hid (Fr w w2) := hF.out.step hx
  clear hx
  go_wp2_with fail
  refine (digitsOnly_x P true hd.out _ hP.out).mono ?_
  rintro e w2 ⟨rfl, hx⟩
  replace hF : Hid (Fr w w2) := hF.out.step hx
  clear hx
  go_wp2_with fail
  refine (hasSuffix_c P false hs.out hP.out _).mono ?_
  rintro e w2 ⟨rfl, hx⟩
  replace hF : Hid (Fr w w2) := hF.out.step hx
  clear hx
  go_wp2_with fail
  refine (needForm_okx _).mono ?_
  rintro e w2 ⟨rfl, hx⟩
  replace hF : Hid (Fr w w2) := hF.out.step hx
  clear hx
  have hbig : ¬ 9223372036854775807 < W.length + P.length := by omega
  have hw : wrap64 (7 - (P.length : Int)) = 7 - (P.length : Int) := by unfold wrap64; omega
  go_wp2_with fail
  refine (noughts_x _ Z hz.out _ (by omega) (by omega)).mono ?_
  rintro e w2 ⟨rfl, hx⟩
  replace hF : Hid (Fr w w2) := hF.out.step hx
  clear hx
  have hbig2 : ¬ 9223372036854775807 < W.length + (P.length + Z.length) := by have := hZl.out; omega
  have hbig3 : ¬ 9223372036854775807 < W.length + P.length + Z.length := by have := hZl.out; omega
  have hv1 : decide ((n : Int) ≤ 10000000000) = false := decide_eq_false (by omega)
  have hv2 : ¬ n ≤ 10000000000 := by omega
  go_wp2_with fail
  refine (number_ok (W ++ (P ++ Z)) _ (by have := hZl.out; simp; omega) hall.out n hn.out (by omega)).mono ?_
  rintro e w2 ⟨rfl, hx⟩
  replace hF : Hid (Fr w w2) := hF.out.step hx
  clear hx
  go_wp2_with fail
  refine (needForm_nox _).mono ?_
  rintro e w2 ⟨rfl, hx⟩
  replace hF : Hid (Fr w w2) := hF.out.step hx
  clear hx
  obtain ⟨hx0, gp, gq, gpz, gqz⟩ := hF.out
  clear hF
  replace hx0 : Hid (Ext _ _) := hx0
  go_wp2
  replace hx0 := hx0.out
  refine leaves_cons (f := 27) (args := #[.pointer (some ⟨w.heap.size, 0, none⟩), .pointer (some ⟨w.heap.size + 1, 0, none⟩)]) (by simp) (by simp [go_sem]) ?_
  refine (tr_catch w.heap.size 4 0 0 [] _ ?_ ?_ ?_ ?_).mono ?_
  · simp [go_sem, gp]
  · simp [go_sem, gq]
  · simp [go_sem, gpz]
  · simp [go_sem, gqz]
  rintro e u' w'' ⟨rfl, rfl, w3, hy, rfl⟩
  have hs1 := lt_of_cell gp
  have hs := lt_of_cell gq
  have hp2 : (w3.cell? ⟨w.heap.size, 0, none⟩).isSome = true := by rw [hy.cell _ _ (by simpa [World.setCell] using hs1)]; simp [go_sem, gp]
  have hq2 : (w3.cell? ⟨w.heap.size + 1, 0, none⟩).isSome = true := by rw [hy.cell _ _ (by simpa [World.setCell] using hs)]; simp [go_sem, gq]
  obtain ⟨vp, hp2⟩ := Option.isSome_iff_exists.1 hp2
  obtain ⟨vq, hq2⟩ := Option.isSome_iff_exists.1 hq2
  simp [Leaves, Go.settle, results, Tryd.results11, go_sem, hp2, hq2]
  refine ((Ext.trans ?_ hy).setCell (Nat.le_refl _) _).setCell (by show w.heap.size ≤ w.heap.size + 1; omega) _
  exact hx0

theorem tr_pos_t (l p r W P : List UInt8) (w : World) (g1 : trimSuffix l [37] = p) (g2 : hasSuffix l [37] = true) (hl : l.length ≤ 1000) (h1 : cutL p = []) (h2 : trimPrefix p [45] = r) (h3 : cut r [46] = (W, P, true)) (hr : r.length ≤ 1000) (hW : W.length ≤ 1000) (hP : P.length ≤ 1000) (he : Env w) (ho : okWhole W 4 = true) (hd : digOnly P = true) (hs : hasSuffix P [48] = false) (Z : List UInt8) (hz : zeros (7 - (P.length : Int)).toNat = Z) (hZl : Z.length = 7 - P.length) (hall : (W ++ (P ++ Z)).all isD = true) (hWl : W.length ≤ 4) (hlen : (P.length : Int) ≤ 7) (n : Nat) (hn : valL (W ++ (P ++ Z)) = n) (hnb : n ≤ 100000000000) (hv : (n : Int) ≤ 10000000000) :
    Calls Tryd.prog 11 #[.string ⟨l.toArray⟩] w fun e w' => e = .returned (.tuple #[.int .i64 (n : Int), .int .i64 0]) ∧ Ext w w' := by
  have hmf := make_func
  replace g1 := show Hid _ from g1
  replace g2 := show Hid _ from g2
  replace hl := show Hid _ from hl
  replace h1 := show Hid _ from h1
  replace h2 := show Hid _ from h2
  replace h3 := show Hid _ from h3
  replace hr := show Hid _ from hr
  replace hW := show Hid _ from hW
  replace hP := show Hid _ from hP
  replace he := show Hid _ from he
  replace ho := show Hid _ from ho
  replace hd := show Hid _ from hd
  replace hs := show Hid _ from hs
  replace hz := show Hid _ from hz
  replace hZl := show Hid _ from hZl
  replace hall := show Hid _ from hall
  replace hn := show Hid _ from hn
  go_enter_defers Tryd.func11, Tryd.ntmps11
  go_wp2_with fail
  refine (cutSuffix_c l p true g1.out g2.out hl.out _).mono ?_
  rintro e w1 ⟨rfl, hx⟩
  have hF : Hid (Fr w w1) := Fr.start hx
  clear hx
  go_wp2_with fail
  refine (needForm_okx _).mono ?_
  rintro e w2 ⟨rfl, hx⟩
  replace hF : Hid (Fr w w2) := hF.out.step hx
  clear hx
  go_wp2_with fail
  refine (cutSign_x p [] r h1.out h2.out _).mono ?_
  rintro e w2 ⟨rfl, hx⟩
  replace hF : Hid (Fr w w2) := hF.out.step hx
  clear hx
  go_wp2_with fail
  refine (cut_c r W P true h3.out _ hr.out (Env.ext he.out hF.out.ext)).mono ?_
  rintro e w2 ⟨rfl, hx⟩
  replace hF : Hid (Fr w w2) := hF.out.step hx
  clear hx
  go_wp2_with fail
  refine (needWhole_ok W 4 _ hW.out (by omega) ho.out).mono ?_
  rintro e w2 ⟨rfl, hx⟩
  replace hF : Hid (Fr w w2) := hF.out.step hx
  clear hx
  go_wp2_with fail
  refine (digitsOnly_x P true hd.out _ hP.out).mono ?_
  rintro e w2 ⟨rfl, hx⟩
  replace hF : Hid (Fr w w2) := hF.out.step hx
  clear hx
  go_wp2_with fail
  refine (hasSuffix_c P false hs.out hP.out _).mono ?_
  rintro e w2 ⟨rfl, hx⟩
  replace hF : Hid (Fr w w2) := hF.out.step hx
  clear hx
  go_wp2_with fail
  refine (needForm_okx _).mono ?_
  rintro e w2 ⟨rfl, hx⟩
  replace hF : Hid (Fr w w2) := hF.out.step hx
  clear hx
  have hbig : ¬ 9223372036854775807 < W.length + P.length := by omega
  have hw : wrap64 (7 - (P.length : Int)) = 7 - (P.length : Int) := by unfold wrap64; omega
  go_wp2_with fail
  refine (noughts_x _ Z hz.out _ (by omega) (by omega)).mono ?_
  rintro e w2 ⟨rfl, hx⟩
  replace hF : Hid (Fr w w2) := hF.out.step hx
  clear hx
  have hbig2 : ¬ 9223372036854775807 < W.length + (P.length + Z.length) := by have := hZl.out; omega
  have hbig3 : ¬ 9223372036854775807 < W.length + P.length + Z.length := by have := hZl.out; omega
  go_wp2_with fail
  refine (number_ok (W ++ (P ++ Z)) _ (by have := hZl.out; simp; omega) hall.out n hn.out (by omega)).mono ?_
  rintro e w2 ⟨rfl, hx⟩
  replace hF : Hid (Fr w w2) := hF.out.step hx
  clear hx
  go_wp2_with fail
  refine (needForm_okx _).mono ?_
  rintro e w2 ⟨rfl, hx⟩
  replace hF : Hid (Fr w w2) := hF.out.step hx
  clear hx
  go_wp2_with fail
  refine (signed_posx _ _).mono ?_
  rintro e w2 ⟨rfl, hx⟩
  replace hF : Hid (Fr w w2) := hF.out.step hx
  clear hx
  obtain ⟨hx0, gp, gq, gpz, gqz⟩ := hF.out
  clear hF
  replace hx0 : Hid (Ext _ _) := hx0
  go_wp2
  replace hx0 := hx0.out
  refine leaves_cons (f := 27) (args := #[.pointer (some ⟨w.heap.size, 0, none⟩), .pointer (some ⟨w.heap.size + 1, 0, none⟩)]) (by simp) (by simp [go_sem]) ?_
  refine (tr_idle w.heap.size ((n : Int)) 0 _ ?_ ?_ ?_ ?_).mono ?_
  · simp [go_sem, gp]
  · simp [go_sem, gq]
  · simp [go_sem, gpz]
  · simp [go_sem, gqz]
  rintro e u' w'' ⟨rfl, rfl, w3, hy, rfl⟩
  have hs1 := lt_of_cell gp
  have hs := lt_of_cell gq
  have hp2 : (w3.cell? ⟨w.heap.size, 0, none⟩).isSome = true := by rw [hy.cell _ _ (by simpa [World.setCell] using hs1)]; simp [go_sem, gp]
  have hq2 : (w3.cell? ⟨w.heap.size + 1, 0, none⟩).isSome = true := by rw [hy.cell _ _ (by simpa [World.setCell] using hs)]; simp [go_sem, gq]
  obtain ⟨vp, hp2⟩ := Option.isSome_iff_exists.1 hp2
  obtain ⟨vq, hq2⟩ := Option.isSome_iff_exists.1 hq2
  simp [Leaves, Go.settle, results, Tryd.results11, go_sem, hp2, hq2]
  refine ((Ext.trans ?_ hy).setCell (Nat.le_refl _) _).setCell (by show w.heap.size ≤ w.heap.size + 1; omega) _
  exact (hx0.setCell (Nat.le_refl _) _).setCell (by show w.heap.size ≤ w.heap.size + 1; omega) _

theorem tr_neg_t (l p r W P : List UInt8) (w : World) (g1 : trimSuffix l [37] = p) (g2 : hasSuffix l [37] = true) (hl : l.length ≤ 1000) (h1 : cutL p = [45]) (h2 : trimPrefix p [45] = r) (h3 : cut r [46] = (W, P, true)) (hr : r.length ≤ 1000) (hW : W.length ≤ 1000) (hP : P.length ≤ 1000) (he : Env w) (ho : okWhole W 4 = true) (hd : digOnly P = true) (hs : hasSuffix P [48] = false) (Z : List UInt8) (hz : zeros (7 - (P.length : Int)).toNat = Z) (hZl : Z.length = 7 - P.length) (hall : (W ++ (P ++ Z)).all isD = true) (hWl : W.length ≤ 4) (hlen : (P.length : Int) ≤ 7) (n : Nat) (hn : valL (W ++ (P ++ Z)) = n) (hnb : n ≤ 100000000000) (hv : (n : Int) ≤ 10000000000) (hn0 : 0 < n) :
    Calls Tryd.prog 11 #[.string ⟨l.toArray⟩] w fun e w' => e = .returned (.tuple #[.int .i64 (-(n : Int)), .int .i64 0]) ∧ Ext w w' := by
  have hmf := make_func
  replace g1 := show Hid _ from g1
  replace g2 := show Hid _ from g2
  replace hl := show Hid _ from hl
  replace h1 := show Hid _ from h1
  replace h2 := show Hid _ from h2
  replace h3 := show Hid _ from h3
  replace hr := show Hid _ from hr
  replace hW := show Hid _ from hW
  replace hP := show Hid _ from hP
  replace he := show Hid _ from he
  replace ho := show Hid _ from ho
  replace hd := show Hid _ from hd
  replace hs := show Hid _ from hs
  replace hz := show Hid _ from hz
  replace hZl := show Hid _ from hZl
  replace hall := show Hid _ from hall
  replace hn := show Hid _ from hn
  replace hn0 := show Hid _ from hn0
  go_enter_defers Tryd.func11, Tryd.ntmps11
  go_wp2_with fail
  refine (cutSuffix_c l p true g1.out g2.out hl.out _).mono ?_
  rintro e w1 ⟨rfl, hx⟩
  have hF : Hid (Fr w w1) := Fr.start hx
  clear hx
  go_wp2_with fail
  refine (needForm_okx _).mono ?_
  rintro e w2 ⟨rfl, hx⟩
  replace hF : Hid (Fr w w2) := hF.out.step hx
  clear hx
  go_wp2_with fail
  refine (cutSign_x p [45] r h1.out h2.out _).mono ?_
  rintro e w2 ⟨rfl, hx⟩
  replace hF : Hid (Fr w w2) := hF.out.step hx
  clear hx
  go_wp2_with fail
  refine (cut_c r W P true h3.out _ hr.out (Env.ext he.out hF.out.ext)).mono ?_
  rintro e w2 ⟨rfl, hx⟩
  replace hF : Hid (Fr w w2) := hF.out.step hx
  clear hx
  go_wp2_with fail
  refine (needWhole_ok W 4 _ hW.out (by omega) ho.out).mono ?_
  rintro e w2 ⟨rfl, hx⟩
  replace hF : Hid (Fr w w2) := hF.out.step hx
  clear hx
  go_wp2_with fail
  refine (digitsOnly_x P true hd.out _ hP.out).mono ?_
  rintro e w2 ⟨rfl, hx⟩
  replace hF : Hid (Fr w w2) := hF.out.step hx
  clear hx
  go_wp2_with fail
  refine (hasSuffix_c P false hs.out hP.out _).mono ?_
  rintro e w2 ⟨rfl, hx⟩
  replace hF : Hid (Fr w w2) := hF.out.step hx
  clear hx
  go_wp2_with fail
  refine (needForm_okx _).mono ?_
  rintro e w2 ⟨rfl, hx⟩
  replace hF : Hid (Fr w w2) := hF.out.step hx
  clear hx
  have hbig : ¬ 9223372036854775807 < W.length + P.length := by omega
  have hw : wrap64 (7 - (P.length : Int)) = 7 - (P.length : Int) := by unfold wrap64; omega
  go_wp2_with fail
  refine (noughts_x _ Z hz.out _ (by omega) (by omega)).mono ?_
  rintro e w2 ⟨rfl, hx⟩
  replace hF : Hid (Fr w w2) := hF.out.step hx
  clear hx
  have hbig2 : ¬ 9223372036854775807 < W.length + (P.length + Z.length) := by have := hZl.out; omega
  have hbig3 : ¬ 9223372036854775807 < W.length + P.length + Z.length := by have := hZl.out; omega
  go_wp2_with fail
  refine (number_ok (W ++ (P ++ Z)) _ (by have := hZl.out; simp; omega) hall.out n hn.out (by omega)).mono ?_
  rintro e w2 ⟨rfl, hx⟩
  replace hF : Hid (Fr w w2) := hF.out.step hx
  clear hx
  go_wp2_with fail
  refine (needForm_okx _).mono ?_
  rintro e w2 ⟨rfl, hx⟩
  replace hF : Hid (Fr w w2) := hF.out.step hx
  clear hx
  go_wp2_with fail
  refine (signed_negx (n : Int) _ (by have := hn0.out; omega) (by omega)).mono ?_
  rintro e w2 ⟨rfl, hx⟩
  replace hF : Hid (Fr w w2) := hF.out.step hx
  clear hx
  obtain ⟨hx0, gp, gq, gpz, gqz⟩ := hF.out
  clear hF
  replace hx0 : Hid (Ext _ _) := hx0
  go_wp2
  replace hx0 := hx0.out
  refine leaves_cons (f := 27) (args := #[.pointer (some ⟨w.heap.size, 0, none⟩), .pointer (some ⟨w.heap.size + 1, 0, none⟩)]) (by simp) (by simp [go_sem]) ?_
  refine (tr_idle w.heap.size ((-(n : Int))) 0 _ ?_ ?_ ?_ ?_).mono ?_
  · simp [go_sem, gp]
  · simp [go_sem, gq]
  · simp [go_sem, gpz]
  · simp [go_sem, gqz]
  rintro e u' w'' ⟨rfl, rfl, w3, hy, rfl⟩
  have hs1 := lt_of_cell gp
  have hs := lt_of_cell gq
  have hp2 : (w3.cell? ⟨w.heap.size, 0, none⟩).isSome = true := by rw [hy.cell _ _ (by simpa [World.setCell] using hs1)]; simp [go_sem, gp]
  have hq2 : (w3.cell? ⟨w.heap.size + 1, 0, none⟩).isSome = true := by rw [hy.cell _ _ (by simpa [World.setCell] using hs)]; simp [go_sem, gq]
  obtain ⟨vp, hp2⟩ := Option.isSome_iff_exists.1 hp2
  obtain ⟨vq, hq2⟩ := Option.isSome_iff_exists.1 hq2
  simp [Leaves, Go.settle, results, Tryd.results11, go_sem, hp2, hq2]
  refine ((Ext.trans ?_ hy).setCell (Nat.le_refl _) _).setCell (by show w.heap.size ≤ w.heap.size + 1; omega) _
  exact (hx0.setCell (Nat.le_refl _) _).setCell (by show w.heap.size ≤ w.heap.size + 1; omega) _

theorem tr_nil_t (l p r W P : List UInt8) (w : World) (g1 : trimSuffix l [37] = p) (g2 : hasSuffix l [37] = true) (hl : l.length ≤ 1000) (h1 : cutL p = [45]) (h2 : trimPrefix p [45] = r) (h3 : cut r [46] = (W, P, true)) (hr : r.length ≤ 1000) (hW : W.length ≤ 1000) (hP : P.length ≤ 1000) (he : Env w) (ho : okWhole W 4 = true) (hd : digOnly P = true) (hs : hasSuffix P [48] = false) (Z : List UInt8) (hz : zeros (7 - (P.length : Int)).toNat = Z) (hZl : Z.length = 7 - P.length) (hall : (W ++ (P ++ Z)).all isD = true) (hWl : W.length ≤ 4) (hlen : (P.length : Int) ≤ 7) (hn : valL (W ++ (P ++ Z)) = 0) :
    Calls Tryd.prog 11 #[.string ⟨l.toArray⟩] w fun e w' => e = .returned (.tuple #[.int .i64 0, .int .i64 4]) ∧ Ext w w' := by
  have hmf := make_func
  replace g1 := show Hid _ from g1
  replace g2 := show Hid _ from g2
  replace hl := show Hid _ from hl
  replace h1 := show Hid _ from h1
  replace h2 := show Hid _ from h2
  replace h3 := show Hid _ from h3
  replace hr := show Hid _ from hr
  replace hW := show Hid _ from hW
  replace hP := show Hid _ from hP
  replace he := show Hid _ from he
  replace ho := show Hid _ from ho
  replace hd := show Hid _ from hd
  replace hs := show Hid _ from hs
  replace hz := show Hid _ from hz
  replace hZl := show Hid _ from hZl
  replace hall := show Hid _ from hall
  replace hn := show Hid _ from hn
  go_enter_defers Tryd.func11, Tryd.ntmps11
  go_wp2_with fail
  refine (cutSuffix_c l p true g1.out g2.out hl.out _).mono ?_
  rintro e w1 ⟨rfl, hx⟩
  have hF : Hid (Fr w w1) := Fr.start hx
  clear hx
  go_wp2_with fail
  refine (needForm_okx _).mono ?_
  rintro e w2 ⟨rfl, hx⟩
  replace hF : Hid (Fr w w2) := hF.out.step hx
  clear hx
  go_wp2_with fail
  refine (cutSign_x p [45] r h1.out h2.out _).mono ?_
  rintro e w2 ⟨rfl, hx⟩
  replace hF : Hid (Fr w w2) := hF.out.step hx
  clear hx
  go_wp2_with fail
  refine (cut_c r W P true h3.out _ hr.out (Env.ext he.out hF.out.ext)).mono ?_
  rintro e w2 ⟨rfl, hx⟩
  replace hF : Hid (Fr w w2) := hF.out.step hx
  clear hx
  go_wp2_with fail
  refine (needWhole_ok W 4 _ hW.out (by omega) ho.out).mono ?_
  rintro e w2 ⟨rfl, hx⟩
  replace hF : Hid (Fr w w2) := hF.out.step hx
  clear hx
  go_wp2_with fail
  refine (digitsOnly_x P true hd.out _ hP.out).mono ?_
  rintro e w2 ⟨rfl, hx⟩
  replace hF : Hid (Fr w w2) := hF.out.step hx
  clear hx
  go_wp2_with fail
  refine (hasSuffix_c P false hs.out hP.out _).mono ?_
  rintro e w2 ⟨rfl, hx⟩
  replace hF : Hid (Fr w w2) := hF.out.step hx
  clear hx
  go_wp2_with fail
  refine (needForm_okx _).mono ?_
  rintro e w2 ⟨rfl, hx⟩
  replace hF : Hid (Fr w w2) := hF.out.step hx
  clear hx
  have hbig : ¬ 9223372036854775807 < W.length + P.length := by omega
  have hw : wrap64 (7 - (P.length : Int)) = 7 - (P.length : Int) := by unfold wrap64; omega
  go_wp2_with fail
  refine (noughts_x _ Z hz.out _ (by omega) (by omega)).mono ?_
  rintro e w2 ⟨rfl, hx⟩
  replace hF : Hid (Fr w w2) := hF.out.step hx
  clear hx
  have hbig2 : ¬ 9223372036854775807 < W.length + (P.length + Z.length) := by have := hZl.out; omega
  have hbig3 : ¬ 9223372036854775807 < W.length + P.length + Z.length := by have := hZl.out; omega
  go_wp2_with fail
  refine (number_ok (W ++ (P ++ Z)) _ (by have := hZl.out; simp; omega) hall.out 0 hn.out (by omega)).mono ?_
  rintro e w2 ⟨rfl, hx⟩
  replace hF : Hid (Fr w w2) := hF.out.step hx
  clear hx
  go_wp2_with fail
  refine (needForm_okx _).mono ?_
  rintro e w2 ⟨rfl, hx⟩
  replace hF : Hid (Fr w w2) := hF.out.step hx
  clear hx
  go_wp2_with fail
  refine (signed_nilx _).mono ?_
  rintro e w2 ⟨rfl, hx⟩
  replace hF : Hid (Fr w w2) := hF.out.step hx
  clear hx
  obtain ⟨hx0, gp, gq, gpz, gqz⟩ := hF.out
  clear hF
  replace hx0 : Hid (Ext _ _) := hx0
  go_wp2
  replace hx0 := hx0.out
  refine leaves_cons (f := 27) (args := #[.pointer (some ⟨w.heap.size, 0, none⟩), .pointer (some ⟨w.heap.size + 1, 0, none⟩)]) (by simp) (by simp [go_sem]) ?_
  refine (tr_catch w.heap.size 4 0 0 [] _ ?_ ?_ ?_ ?_).mono ?_
  · simp [go_sem, gp]
  · simp [go_sem, gq]
  · simp [go_sem, gpz]
  · simp [go_sem, gqz]
  rintro e u' w'' ⟨rfl, rfl, w3, hy, rfl⟩
  have hs1 := lt_of_cell gp
  have hs := lt_of_cell gq
  have hp2 : (w3.cell? ⟨w.heap.size, 0, none⟩).isSome = true := by rw [hy.cell _ _ (by simpa [World.setCell] using hs1)]; simp [go_sem, gp]
  have hq2 : (w3.cell? ⟨w.heap.size + 1, 0, none⟩).isSome = true := by rw [hy.cell _ _ (by simpa [World.setCell] using hs)]; simp [go_sem, gq]
  obtain ⟨vp, hp2⟩ := Option.isSome_iff_exists.1 hp2
  obtain ⟨vq, hq2⟩ := Option.isSome_iff_exists.1 hq2
  simp [Leaves, Go.settle, results, Tryd.results11, go_sem, hp2, hq2]
  refine ((Ext.trans ?_ hy).setCell (Nat.le_refl _) _).setCell (by show w.heap.size ≤ w.heap.size + 1; omega) _
  exact hx0

end Go.Proofs.YtpmgbagnaaahoabDoor
