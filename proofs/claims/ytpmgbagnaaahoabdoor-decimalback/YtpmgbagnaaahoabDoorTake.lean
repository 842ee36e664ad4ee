/- What TakeMoney and TakeRate of the program answer, as contracts: no statement of the seat is proved here. -/
import Derived.Test.YtpmgbagnaaahoabDoorDec3
namespace Go.Proofs.YtpmgbagnaaahoabDoor
open Go.RowKit Go.Lib
set_option linter.unusedVariables false

/-- A face's two results have their cells, and nothing that was there has turned. -/
structure Fr (w w1 : World) : Prop where
  ext : Ext w w1
  gp : w1.cell? ⟨w.heap.size, 0, none⟩ = some (.int .i64 0)
  gq : w1.cell? ⟨w.heap.size + 1, 0, none⟩ = some (.int .i64 0)
  gpz : w1.frozen? ⟨w.heap.size, 0, none⟩ = false
  gqz : w1.frozen? ⟨w.heap.size + 1, 0, none⟩ = false
theorem Fr.step {w w1 w2 : World} (h : Fr w w1) (hx : Ext w1 w2) : Fr w w2 :=
  ⟨h.ext.trans hx, by rw [hx.cell _ _ (lt_of_cell h.gp)]; exact h.gp, by rw [hx.cell _ _ (lt_of_cell h.gq)]; exact h.gq,
    by rw [hx.froz _ _ (lt_of_cell h.gp)]; exact h.gpz, by rw [hx.froz _ _ (lt_of_cell h.gq)]; exact h.gqz⟩
theorem Fr.start {w w1 : World} {t t' : TypeId} (hx : Ext ((w.alloc (.cells #[.int .i64 0] t)).alloc (.cells #[.int .i64 0] t')) w1) : Fr w w1 :=
  ⟨(by exact ((Ext.refl w).alloc _ _).alloc _ _ : Ext w _).trans hx, by rw [hx.cell _ _ (by simp; omega)]; simp [go_sem], by rw [hx.cell _ _ (by simp)]; simp [go_sem],
    by rw [hx.froz _ _ (by simp; omega)]; simp [go_sem], by rw [hx.froz _ _ (by simp)]; simp [go_sem]⟩

theorem cutSign_x (l sg r : List UInt8) (h1 : cutL l = sg) (h2 : trimPrefix l [45] = r) (w : World) :
    Calls Tryd.prog 19 #[.string ⟨l.toArray⟩] w fun e w' => e = .returned (.tuple #[.string ⟨sg.toArray⟩, .string ⟨r.toArray⟩]) ∧ Ext w w' := by
  refine (cutSign_c l w).mono ?_
  rintro e w' ⟨rfl, rfl⟩
  rw [h1, h2]
  exact ⟨rfl, Ext.refl _⟩
theorem cut_c (r W P : List UInt8) (B : Bool) (h : cut r [46] = (W, P, B)) (w : World) (hl : r.length ≤ 1000) (he : Env w) :
    Calls Tryd.prog 20 #[.string ⟨r.toArray⟩, .string ⟨#[46]⟩] w fun e w' => e = .returned (.tuple #[.string ⟨W.toArray⟩, .string ⟨P.toArray⟩, .bool B]) ∧ Ext w w' := by
  obtain ⟨⟨m, hm⟩, _⟩ := he
  refine (Tryd.strings_Cut ⟨r.toArray⟩ ⟨#[46]⟩ m w (by rw [Lib.size_mk]; omega) hm).mono ?_
  rintro e w' ⟨rfl, n, rfl⟩
  have h' : cut (⟨r.toArray⟩ : ByteArray).data.toList (⟨#[46]⟩ : ByteArray).data.toList = (W, P, B) := h
  rw [h']
  exact ⟨rfl, (Ext.refl w).drewN n⟩
theorem cutSuffix_c (l p : List UInt8) (f : Bool) (h1 : trimSuffix l [37] = p) (h2 : hasSuffix l [37] = f) (hl : l.length ≤ 1000) (w : World) :
    Calls Tryd.prog 28 #[.string ⟨l.toArray⟩, .string ⟨#[37]⟩] w fun e w' => e = .returned (.tuple #[.string ⟨p.toArray⟩, .bool f]) ∧ Ext w w' := by
  refine (Tryd.strings_CutSuffix ⟨l.toArray⟩ ⟨#[37]⟩ w (by rw [Lib.size_mk]; omega)).mono ?_
  rintro e w' ⟨rfl, rfl⟩
  have h1' : trimSuffix (⟨l.toArray⟩ : ByteArray).data.toList (⟨#[37]⟩ : ByteArray).data.toList = p := h1
  have h2' : hasSuffix (⟨l.toArray⟩ : ByteArray).data.toList (⟨#[37]⟩ : ByteArray).data.toList = f := h2
  rw [h1', h2']
  exact ⟨rfl, Ext.refl _⟩
theorem hasSuffix_c (l : List UInt8) (f : Bool) (h2 : hasSuffix l [48] = f) (hl : l.length ≤ 1000) (w : World) :
    Calls Tryd.prog 29 #[.string ⟨l.toArray⟩, .string ⟨#[48]⟩] w fun e w' => e = .returned (.bool f) ∧ Ext w w' := by
  refine (Tryd.strings_HasSuffix ⟨l.toArray⟩ ⟨#[48]⟩ w (by rw [Lib.size_mk]; omega)).mono ?_
  rintro e w' ⟨rfl, rfl⟩
  have h2' : hasSuffix (⟨l.toArray⟩ : ByteArray).data.toList (⟨#[48]⟩ : ByteArray).data.toList = f := h2
  rw [h2']
  exact ⟨rfl, Ext.refl _⟩
theorem digitsOnly_x (l : List UInt8) (b : Bool) (h : digOnly l = b) (w : World) (hl : l.length ≤ 1000) :
    Calls Tryd.prog 23 #[.string ⟨l.toArray⟩] w fun e w' => e = .returned (.bool b) ∧ Ext w w' := h ▸ digitsOnly_c l w hl
theorem needForm_okx (w : World) : Calls Tryd.prog 22 #[.bool true] w fun e w' => e = .returned (.tuple #[]) ∧ Ext w w' :=
  (needForm_ok w).mono fun _ _ ⟨h, k⟩ => ⟨h, k ▸ Ext.refl _⟩
theorem needForm_nox (w : World) : Calls Tryd.prog 22 #[.bool false] w fun e w' => e = .panicked [{ v := .iface 23 (.int .i64 4), recovered := false }] ∧ Ext w w' :=
  (needForm_no w).mono fun _ _ ⟨h, k⟩ => ⟨h, k ▸ Ext.refl _⟩
theorem signed_posx (n : Int) (w : World) :
    Calls Tryd.prog 24 #[.string ⟨#[]⟩, .int .i64 n] w fun e w' => e = .returned (.int .i64 n) ∧ Ext w w' :=
  (signed_pos n w).mono fun _ _ ⟨h, k⟩ => ⟨h, k ▸ Ext.refl _⟩
theorem signed_negx (n : Int) (w : World) (h0 : 0 < n) (h1 : n ≤ 1000000000000000) :
    Calls Tryd.prog 24 #[.string ⟨#[45]⟩, .int .i64 n] w fun e w' => e = .returned (.int .i64 (-n)) ∧ Ext w w' :=
  (signed_neg n w h0 h1).mono fun _ _ ⟨h, k⟩ => ⟨h, k ▸ Ext.refl _⟩
theorem signed_nilx (w : World) :
    Calls Tryd.prog 24 #[.string ⟨#[45]⟩, .int .i64 0] w fun e w' => e = .panicked [{ v := .iface 23 (.int .i64 4), recovered := false }] ∧ Ext w w' :=
  (signed_nil w).mono fun _ _ ⟨h, k⟩ => ⟨h, k ▸ Ext.refl _⟩

theorem tm_whole (l sg r W P : List UInt8) (B : Bool) (w : World) (h1 : cutL l = sg) (h2 : trimPrefix l [45] = r) (h3 : cut r [46] = (W, P, B)) (hr : r.length ≤ 1000) (hW : W.length ≤ 1000) (hP : P.length ≤ 1000) (he : Env w) (ho : okWhole W 20 = false) :
    Calls Tryd.prog 9 #[.string ⟨l.toArray⟩] w fun e w' => e = .returned (.tuple #[.int .i64 0, .int .i64 4]) ∧ Ext w w' := by
  have hmf := make_func
  replace h1 := show Hid _ from h1
  replace h2 := show Hid _ from h2
  replace h3 := show Hid _ from h3
  replace hr := show Hid _ from hr
  replace hW := show Hid _ from hW
  replace hP := show Hid _ from hP
  replace he := show Hid _ from he
  replace ho := show Hid _ from ho
  go_enter_defers Tryd.func9, Tryd.ntmps9
  go_wp2_with fail
  refine (cutSign_x l sg r h1.out h2.out _).mono ?_
  rintro e w1 ⟨rfl, hx⟩
  have hF : Hid (Fr w w1) := Fr.start hx
  clear hx
  go_wp2_with fail
  refine (cut_c r W P B h3.out _ hr.out (Env.ext he.out hF.out.ext)).mono ?_
  rintro e w2 ⟨rfl, hx⟩
  replace hF : Hid (Fr w w2) := hF.out.step hx
  clear hx
  go_wp2_with fail
  refine (needWhole_no W 20 _ hW.out (by omega) ho.out).mono ?_
  rintro e w2 ⟨rfl, hx⟩
  replace hF : Hid (Fr w w2) := hF.out.step hx
  clear hx
  obtain ⟨hx0, gp, gq, gpz, gqz⟩ := hF.out
  clear hF
  replace hx0 : Hid (Ext _ _) := hx0
  go_wp2
  replace hx0 := hx0.out
  refine leaves_cons (f := 17) (args := #[.pointer (some ⟨w.heap.size, 0, none⟩), .pointer (some ⟨w.heap.size + 1, 0, none⟩)]) (by simp) (by simp [go_sem]) ?_
  refine (tm_catch w.heap.size 4 0 0 [] _ ?_ ?_ ?_ ?_).mono ?_
  · simp [go_sem, gp]
  · simp [go_sem, gq]
  · simp [go_sem, gpz]
  · simp [go_sem, gqz]
  rintro e u' w'' ⟨rfl, rfl, w3, hy, rfl⟩
  have hs1 := lt_of_cell gp
  have hs := lt_of_cell gq
  have hp2 : (w3.cell? ⟨w.heap.size, 0, none⟩).isSome = true := by rw [hy.cell _ _ (by simpa [World.setCell] using hs1)]; simp [go_sem, gp]
  have hq2 : (w3.cell? ⟨w.heap.size + 1, 0, none⟩).isSome = true := by rw [hy.cell _ _ (by simpa [World.setCell] using hs)]; simp [go_sem, gq]
  obtain ⟨vp, hp2⟩ := Option.isSome_iff_exists.1 hp2
  obtain ⟨vq, hq2⟩ := Option.isSome_iff_exists.1 hq2
  simp [Leaves, Go.settle, results, Tryd.results9, go_sem, hp2, hq2]
  refine ((Ext.trans ?_ hy).setCell (Nat.le_refl _) _).setCell (by show w.heap.size ≤ w.heap.size + 1; omega) _
  exact hx0

theorem tm_len (l sg r W P : List UInt8) (B : Bool) (w : World) (h1 : cutL l = sg) (h2 : trimPrefix l [45] = r) (h3 : cut r [46] = (W, P, B)) (hr : r.length ≤ 1000) (hW : W.length ≤ 1000) (hP : P.length ≤ 1000) (he : Env w) (ho : okWhole W 20 = true) (hne : ((P.length : Int) == 2) = false) :
    Calls Tryd.prog 9 #[.string ⟨l.toArray⟩] w fun e w' => e = .returned (.tuple #[.int .i64 0, .int .i64 4]) ∧ Ext w w' := by
  have hmf := make_func
  replace h1 := show Hid _ from h1
  replace h2 := show Hid _ from h2
  replace h3 := show Hid _ from h3
  replace hr := show Hid _ from hr
  replace hW := show Hid _ from hW
  replace hP := show Hid _ from hP
  replace he := show Hid _ from he
  replace ho := show Hid _ from ho
  go_enter_defers Tryd.func9, Tryd.ntmps9
  go_wp2_with fail
  refine (cutSign_x l sg r h1.out h2.out _).mono ?_
  rintro e w1 ⟨rfl, hx⟩
  have hF : Hid (Fr w w1) := Fr.start hx
  clear hx
  go_wp2_with fail
  refine (cut_c r W P B h3.out _ hr.out (Env.ext he.out hF.out.ext)).mono ?_
  rintro e w2 ⟨rfl, hx⟩
  replace hF : Hid (Fr w w2) := hF.out.step hx
  clear hx
  go_wp2_with fail
  refine (needWhole_ok W 20 _ hW.out (by omega) ho.out).mono ?_
  rintro e w2 ⟨rfl, hx⟩
  replace hF : Hid (Fr w w2) := hF.out.step hx
  clear hx
  go_wp2_with fail
  refine (needForm_nox _).mono ?_
  rintro e w2 ⟨rfl, hx⟩
  replace hF : Hid (Fr w w2) := hF.out.step hx
  clear hx
  obtain ⟨hx0, gp, gq, gpz, gqz⟩ := hF.out
  clear hF
  replace hx0 : Hid (Ext _ _) := hx0
  go_wp2
  replace hx0 := hx0.out
  refine leaves_cons (f := 17) (args := #[.pointer (some ⟨w.heap.size, 0, none⟩), .pointer (some ⟨w.heap.size + 1, 0, none⟩)]) (by simp) (by simp [go_sem]) ?_
  refine (tm_catch w.heap.size 4 0 0 [] _ ?_ ?_ ?_ ?_).mono ?_
  · simp [go_sem, gp]
  · simp [go_sem, gq]
  · simp [go_sem, gpz]
  · simp [go_sem, gqz]
  rintro e u' w'' ⟨rfl, rfl, w3, hy, rfl⟩
  have hs1 := lt_of_cell gp
  have hs := lt_of_cell gq
  have hp2 : (w3.cell? ⟨w.heap.size, 0, none⟩).isSome = true := by rw [hy.cell _ _ (by simpa [World.setCell] using hs1)]; simp [go_sem, gp]
  have hq2 : (w3.cell? ⟨w.heap.size + 1, 0, none⟩).isSome = true := by rw [hy.cell _ _ (by simpa [World.setCell] using hs)]; simp [go_sem, gq]
  obtain ⟨vp, hp2⟩ := Option.isSome_iff_exists.1 hp2
  obtain ⟨vq, hq2⟩ := Option.isSome_iff_exists.1 hq2
  simp [Leaves, Go.settle, results, Tryd.results9, go_sem, hp2, hq2]
  refine ((Ext.trans ?_ hy).setCell (Nat.le_refl _) _).setCell (by show w.heap.size ≤ w.heap.size + 1; omega) _
  exact hx0

theorem tm_part (l sg r W P : List UInt8) (B : Bool) (w : World) (h1 : cutL l = sg) (h2 : trimPrefix l [45] = r) (h3 : cut r [46] = (W, P, B)) (hr : r.length ≤ 1000) (hW : W.length ≤ 1000) (hP : P.length ≤ 1000) (he : Env w) (ho : okWhole W 20 = true) (hl2 : P.length = 2) (hd : digOnly P = false) :
    Calls Tryd.prog 9 #[.string ⟨l.toArray⟩] w fun e w' => e = .returned (.tuple #[.int .i64 0, .int .i64 4]) ∧ Ext w w' := by
  have hmf := make_func
  replace h1 := show Hid _ from h1
  replace h2 := show Hid _ from h2
  replace h3 := show Hid _ from h3
  replace hr := show Hid _ from hr
  replace hW := show Hid _ from hW
  replace hP := show Hid _ from hP
  replace he := show Hid _ from he
  replace ho := show Hid _ from ho
  replace hd := show Hid _ from hd
  go_enter_defers Tryd.func9, Tryd.ntmps9
  go_wp2_with fail
  refine (cutSign_x l sg r h1.out h2.out _).mono ?_
  rintro e w1 ⟨rfl, hx⟩
  have hF : Hid (Fr w w1) := Fr.start hx
  clear hx
  go_wp2_with fail
  refine (cut_c r W P B h3.out _ hr.out (Env.ext he.out hF.out.ext)).mono ?_
  rintro e w2 ⟨rfl, hx⟩
  replace hF : Hid (Fr w w2) := hF.out.step hx
  clear hx
  go_wp2_with fail
  refine (needWhole_ok W 20 _ hW.out (by omega) ho.out).mono ?_
  rintro e w2 ⟨rfl, hx⟩
  replace hF : Hid (Fr w w2) := hF.out.step hx
  clear hx
  go_wp2_with fail
  refine (digitsOnly_x P false hd.out _ hP.out).mono ?_
  rintro e w2 ⟨rfl, hx⟩
  replace hF : Hid (Fr w w2) := hF.out.step hx
  clear hx
  go_wp2_with fail
  refine (needForm_nox _).mono ?_
  rintro e w2 ⟨rfl, hx⟩
  replace hF : Hid (Fr w w2) := hF.out.step hx
  clear hx
  obtain ⟨hx0, gp, gq, gpz, gqz⟩ := hF.out
  clear hF
  replace hx0 : Hid (Ext _ _) := hx0
  go_wp2
  replace hx0 := hx0.out
  refine leaves_cons (f := 17) (args := #[.pointer (some ⟨w.heap.size, 0, none⟩), .pointer (some ⟨w.heap.size + 1, 0, none⟩)]) (by simp) (by simp [go_sem]) ?_
  refine (tm_catch w.heap.size 4 0 0 [] _ ?_ ?_ ?_ ?_).mono ?_
  · simp [go_sem, gp]
  · simp [go_sem, gq]
  · simp [go_sem, gpz]
  · simp [go_sem, gqz]
  rintro e u' w'' ⟨rfl, rfl, w3, hy, rfl⟩
  have hs1 := lt_of_cell gp
  have hs := lt_of_cell gq
  have hp2 : (w3.cell? ⟨w.heap.size, 0, none⟩).isSome = true := by rw [hy.cell _ _ (by simpa [World.setCell] using hs1)]; simp [go_sem, gp]
  have hq2 : (w3.cell? ⟨w.heap.size + 1, 0, none⟩).isSome = true := by rw [hy.cell _ _ (by simpa [World.setCell] using hs)]; simp [go_sem, gq]
  obtain ⟨vp, hp2⟩ := Option.isSome_iff_exists.1 hp2
  obtain ⟨vq, hq2⟩ := Option.isSome_iff_exists.1 hq2
  simp [Leaves, Go.settle, results, Tryd.results9, go_sem, hp2, hq2]
  refine ((Ext.trans ?_ hy).setCell (Nat.le_refl _) _).setCell (by show w.heap.size ≤ w.heap.size + 1; omega) _
  exact hx0

theorem tm_range (l sg r W P : List UInt8) (B : Bool) (w : World) (h1 : cutL l = sg) (h2 : trimPrefix l [45] = r) (h3 : cut r [46] = (W, P, B)) (hr : r.length ≤ 1000) (hW : W.length ≤ 1000) (hP : P.length ≤ 1000) (he : Env w) (ho : okWhole W 20 = true) (hl2 : P.length = 2) (hd : digOnly P = true) (hWl : W.length ≤ 20) (hall : (W ++ P).all isD = true) (hv : 1000000000000000 < valL (W ++ P)) :
    Calls Tryd.prog 9 #[.string ⟨l.toArray⟩] w fun e w' => e = .returned (.tuple #[.int .i64 0, .int .i64 3]) ∧ Ext w w' := by
  have hmf := make_func
  replace h1 := show Hid _ from h1
  replace h2 := show Hid _ from h2
  replace h3 := show Hid _ from h3
  replace hr := show Hid _ from hr
  replace hW := show Hid _ from hW
  replace hP := show Hid _ from hP
  replace he := show Hid _ from he
  replace ho := show Hid _ from ho
  replace hd := show Hid _ from hd
  replace hall := show Hid _ from hall
  replace hv := show Hid _ from hv
  go_enter_defers Tryd.func9, Tryd.ntmps9
  go_wp2_with fail
  refine (cutSign_x l sg r h1.out h2.out _).mono ?_
  rintro e w1 ⟨rfl, hx⟩
  have hF : Hid (Fr w w1) := Fr.start hx
  clear hx
  go_wp2_with fail
  refine (cut_c r W P B h3.out _ hr.out (Env.ext he.out hF.out.ext)).mono ?_
  rintro e w2 ⟨rfl, hx⟩
  replace hF : Hid (Fr w w2) := hF.out.step hx
  clear hx
  go_wp2_with fail
  refine (needWhole_ok W 20 _ hW.out (by omega) ho.out).mono ?_
  rintro e w2 ⟨rfl, hx⟩
  replace hF : Hid (Fr w w2) := hF.out.step hx
  clear hx
  go_wp2_with fail
  refine (digitsOnly_x P true hd.out _ hP.out).mono ?_
  rintro e w2 ⟨rfl, hx⟩
  replace hF : Hid (Fr w w2) := hF.out.step hx
  clear hx
  go_wp2_with fail
  refine (needForm_okx _).mono ?_
  rintro e w2 ⟨rfl, hx⟩
  replace hF : Hid (Fr w w2) := hF.out.step hx
  clear hx
  have hbig : ¬ 9223372036854775807 < W.length + 2 := by omega
  go_wp2_with fail
  refine (number_no (W ++ P) _ (by simp; omega) hall.out hv.out).mono ?_
  rintro e w2 ⟨rfl, hx⟩
  replace hF : Hid (Fr w w2) := hF.out.step hx
  clear hx
  obtain ⟨hx0, gp, gq, gpz, gqz⟩ := hF.out
  clear hF
  replace hx0 : Hid (Ext _ _) := hx0
  go_wp2
  replace hx0 := hx0.out
  refine leaves_cons (f := 17) (args := #[.pointer (some ⟨w.heap.size, 0, none⟩), .pointer (some ⟨w.heap.size + 1, 0, none⟩)]) (by simp) (by simp [go_sem]) ?_
  refine (tm_catch w.heap.size 3 0 0 [] _ ?_ ?_ ?_ ?_).mono ?_
  · simp [go_sem, gp]
  · simp [go_sem, gq]
  · simp [go_sem, gpz]
  · simp [go_sem, gqz]
  rintro e u' w'' ⟨rfl, rfl, w3, hy, rfl⟩
  have hs1 := lt_of_cell gp
  have hs := lt_of_cell gq
  have hp2 : (w3.cell? ⟨w.heap.size, 0, none⟩).isSome = true := by rw [hy.cell _ _ (by simpa [World.setCell] using hs1)]; simp [go_sem, gp]
  have hq2 : (w3.cell? ⟨w.heap.size + 1, 0, none⟩).isSome = true := by rw [hy.cell _ _ (by simpa [World.setCell] using hs)]; simp [go_sem, gq]
  obtain ⟨vp, hp2⟩ := Option.isSome_iff_exists.1 hp2
  obtain ⟨vq, hq2⟩ := Option.isSome_iff_exists.1 hq2
  simp [Leaves, Go.settle, results, Tryd.results9, go_sem, hp2, hq2]
  refine ((Ext.trans ?_ hy).setCell (Nat.le_refl _) _).setCell (by show w.heap.size ≤ w.heap.size + 1; omega) _
  exact hx0

theorem tm_pos (l r W P : List UInt8) (B : Bool) (w : World) (h1 : cutL l = []) (h2 : trimPrefix l [45] = r) (h3 : cut r [46] = (W, P, B)) (hr : r.length ≤ 1000) (hW : W.length ≤ 1000) (hP : P.length ≤ 1000) (he : Env w) (ho : okWhole W 20 = true) (hl2 : P.length = 2) (hd : digOnly P = true) (hWl : W.length ≤ 20) (hall : (W ++ P).all isD = true) (n : Nat) (hn : valL (W ++ P) = n) (hv : n ≤ 1000000000000000) :
    Calls Tryd.prog 9 #[.string ⟨l.toArray⟩] w fun e w' => e = .returned (.tuple #[.int .i64 (n : Int), .int .i64 0]) ∧ Ext w w' := by
  have hmf := make_func
  replace h1 := show Hid _ from h1
  replace h2 := show Hid _ from h2
  replace h3 := show Hid _ from h3
  replace hr := show Hid _ from hr
  replace hW := show Hid _ from hW
  replace hP := show Hid _ from hP
  replace he := show Hid _ from he
  replace ho := show Hid _ from ho
  replace hd := show Hid _ from hd
  replace hall := show Hid _ from hall
  replace hn := show Hid _ from hn
  replace hv := show Hid _ from hv
  go_enter_defers Tryd.func9, Tryd.ntmps9
  go_wp2_with fail
  refine (cutSign_x l [] r h1.out h2.out _).mono ?_
  rintro e w1 ⟨rfl, hx⟩
  have hF : Hid (Fr w w1) := Fr.start hx
  clear hx
  go_wp2_with fail
  refine (cut_c r W P B h3.out _ hr.out (Env.ext he.out hF.out.ext)).mono ?_
  rintro e w2 ⟨rfl, hx⟩
  replace hF : Hid (Fr w w2) := hF.out.step hx
  clear hx
  go_wp2_with fail
  refine (needWhole_ok W 20 _ hW.out (by omega) ho.out).mono ?_
  rintro e w2 ⟨rfl, hx⟩
  replace hF : Hid (Fr w w2) := hF.out.step hx
  clear hx
  go_wp2_with fail
  refine (digitsOnly_x P true hd.out _ hP.out).mono ?_
  rintro e w2 ⟨rfl, hx⟩
  replace hF : Hid (Fr w w2) := hF.out.step hx
  clear hx
  go_wp2_with fail
  refine (needForm_okx _).mono ?_
  rintro e w2 ⟨rfl, hx⟩
  replace hF : Hid (Fr w w2) := hF.out.step hx
  clear hx
  have hbig : ¬ 9223372036854775807 < W.length + 2 := by omega
  go_wp2_with fail
  refine (number_ok (W ++ P) _ (by simp; omega) hall.out n hn.out hv.out).mono ?_
  rintro e w2 ⟨rfl, hx⟩
  replace hF : Hid (Fr w w2) := hF.out.step hx
  clear hx
  go_wp2_with fail
  refine (signed_posx _ _).mono ?_
  rintro e w2 ⟨rfl, hx⟩
  replace hF : Hid (Fr w w2) := hF.out.step hx
  clear hx
  obtain ⟨hx0, gp, gq, gpz, gqz⟩ := hF.out
  clear hF
  replace hx0 : Hid (Ext _ _) := hx0
  go_wp2
  replace hx0 := hx0.out
  refine leaves_cons (f := 17) (args := #[.pointer (some ⟨w.heap.size, 0, none⟩), .pointer (some ⟨w.heap.size + 1, 0, none⟩)]) (by simp) (by simp [go_sem]) ?_
  refine (tm_idle w.heap.size ((n : Int)) 0 _ ?_ ?_ ?_ ?_).mono ?_
  · simp [go_sem, gp]
  · simp [go_sem, gq]
  · simp [go_sem, gpz]
  · simp [go_sem, gqz]
  rintro e u' w'' ⟨rfl, rfl, w3, hy, rfl⟩
  have hs1 := lt_of_cell gp
  have hs := lt_of_cell gq
  have hp2 : (w3.cell? ⟨w.heap.size, 0, none⟩).isSome = true := by rw [hy.cell _ _ (by simpa [World.setCell] using hs1)]; simp [go_sem, gp]
  have hq2 : (w3.cell? ⟨w.heap.size + 1, 0, none⟩).isSome = true := by rw [hy.cell _ _ (by simpa [World.setCell] using hs)]; simp [go_sem, gq]
  obtain ⟨vp, hp2⟩ := Option.isSome_iff_exists.1 hp2
  obtain ⟨vq, hq2⟩ := Option.isSome_iff_exists.1 hq2
  simp [Leaves, Go.settle, results, Tryd.results9, go_sem, hp2, hq2]
  refine ((Ext.trans ?_ hy).setCell (Nat.le_refl _) _).setCell (by show w.heap.size ≤ w.heap.size + 1; omega) _
  exact (hx0.setCell (Nat.le_refl _) _).setCell (by show w.heap.size ≤ w.heap.size + 1; omega) _

theorem tm_neg (l r W P : List UInt8) (B : Bool) (w : World) (h1 : cutL l = [45]) (h2 : trimPrefix l [45] = r) (h3 : cut r [46] = (W, P, B)) (hr : r.length ≤ 1000) (hW : W.length ≤ 1000) (hP : P.length ≤ 1000) (he : Env w) (ho : okWhole W 20 = true) (hl2 : P.length = 2) (hd : digOnly P = true) (hWl : W.length ≤ 20) (hall : (W ++ P).all isD = true) (n : Nat) (hn : valL (W ++ P) = n) (hv : n ≤ 1000000000000000) (hn0 : 0 < n) :
    Calls Tryd.prog 9 #[.string ⟨l.toArray⟩] w fun e w' => e = .returned (.tuple #[.int .i64 (-(n : Int)), .int .i64 0]) ∧ Ext w w' := by
  have hmf := make_func
  replace h1 := show Hid _ from h1
  replace h2 := show Hid _ from h2
  replace h3 := show Hid _ from h3
  replace hr := show Hid _ from hr
  replace hW := show Hid _ from hW
  replace hP := show Hid _ from hP
  replace he := show Hid _ from he
  replace ho := show Hid _ from ho
  replace hd := show Hid _ from hd
  replace hall := show Hid _ from hall
  replace hn := show Hid _ from hn
  replace hv := show Hid _ from hv
  replace hn0 := show Hid _ from hn0
  go_enter_defers Tryd.func9, Tryd.ntmps9
  go_wp2_with fail
  refine (cutSign_x l [45] r h1.out h2.out _).mono ?_
  rintro e w1 ⟨rfl, hx⟩
  have hF : Hid (Fr w w1) := Fr.start hx
  clear hx
  go_wp2_with fail
  refine (cut_c r W P B h3.out _ hr.out (Env.ext he.out hF.out.ext)).mono ?_
  rintro e w2 ⟨rfl, hx⟩
  replace hF : Hid (Fr w w2) := hF.out.step hx
  clear hx
  go_wp2_with fail
  refine (needWhole_ok W 20 _ hW.out (by omega) ho.out).mono ?_
  rintro e w2 ⟨rfl, hx⟩
  replace hF : Hid (Fr w w2) := hF.out.step hx
  clear hx
  go_wp2_with fail
  refine (digitsOnly_x P true hd.out _ hP.out).mono ?_
  rintro e w2 ⟨rfl, hx⟩
  replace hF : Hid (Fr w w2) := hF.out.step hx
  clear hx
  go_wp2_with fail
  refine (needForm_okx _).mono ?_
  rintro e w2 ⟨rfl, hx⟩
  replace hF : Hid (Fr w w2) := hF.out.step hx
  clear hx
  have hbig : ¬ 9223372036854775807 < W.length + 2 := by omega
  go_wp2_with fail
  refine (number_ok (W ++ P) _ (by simp; omega) hall.out n hn.out hv.out).mono ?_
  rintro e w2 ⟨rfl, hx⟩
  replace hF : Hid (Fr w w2) := hF.out.step hx
  clear hx
  go_wp2_with fail
  refine (signed_negx (n : Int) _ (by have := hn0.out; omega) (by have := hv.out; omega)).mono ?_
  rintro e w2 ⟨rfl, hx⟩
  replace hF : Hid (Fr w w2) := hF.out.step hx
  clear hx
  obtain ⟨hx0, gp, gq, gpz, gqz⟩ := hF.out
  clear hF
  replace hx0 : Hid (Ext _ _) := hx0
  go_wp2
  replace hx0 := hx0.out
  refine leaves_cons (f := 17) (args := #[.pointer (some ⟨w.heap.size, 0, none⟩), .pointer (some ⟨w.heap.size + 1, 0, none⟩)]) (by simp) (by simp [go_sem]) ?_
  refine (tm_idle w.heap.size ((-(n : Int))) 0 _ ?_ ?_ ?_ ?_).mono ?_
  · simp [go_sem, gp]
  · simp [go_sem, gq]
  · simp [go_sem, gpz]
  · simp [go_sem, gqz]
  rintro e u' w'' ⟨rfl, rfl, w3, hy, rfl⟩
  have hs1 := lt_of_cell gp
  have hs := lt_of_cell gq
  have hp2 : (w3.cell? ⟨w.heap.size, 0, none⟩).isSome = true := by rw [hy.cell _ _ (by simpa [World.setCell] using hs1)]; simp [go_sem, gp]
  have hq2 : (w3.cell? ⟨w.heap.size + 1, 0, none⟩).isSome = true := by rw [hy.cell _ _ (by simpa [World.setCell] using hs)]; simp [go_sem, gq]
  obtain ⟨vp, hp2⟩ := Option.isSome_iff_exists.1 hp2
  obtain ⟨vq, hq2⟩ := Option.isSome_iff_exists.1 hq2
  simp [Leaves, Go.settle, results, Tryd.results9, go_sem, hp2, hq2]
  refine ((Ext.trans ?_ hy).setCell (Nat.le_refl _) _).setCell (by show w.heap.size ≤ w.heap.size + 1; omega) _
  exact (hx0.setCell (Nat.le_refl _) _).setCell (by show w.heap.size ≤ w.heap.size + 1; omega) _

theorem tm_nil (l r W P : List UInt8) (B : Bool) (w : World) (h1 : cutL l = [45]) (h2 : trimPrefix l [45] = r) (h3 : cut r [46] = (W, P, B)) (hr : r.length ≤ 1000) (hW : W.length ≤ 1000) (hP : P.length ≤ 1000) (he : Env w) (ho : okWhole W 20 = true) (hl2 : P.length = 2) (hd : digOnly P = true) (hWl : W.length ≤ 20) (hall : (W ++ P).all isD = true) (hn : valL (W ++ P) = 0) :
    Calls Tryd.prog 9 #[.string ⟨l.toArray⟩] w fun e w' => e = .returned (.tuple #[.int .i64 0, .int .i64 4]) ∧ Ext w w' := by
  have hmf := make_func
  replace h1 := show Hid _ from h1
  replace h2 := show Hid _ from h2
  replace h3 := show Hid _ from h3
  replace hr := show Hid _ from hr
  replace hW := show Hid _ from hW
  replace hP := show Hid _ from hP
  replace he := show Hid _ from he
  replace ho := show Hid _ from ho
  replace hd := show Hid _ from hd
  replace hall := show Hid _ from hall
  replace hn := show Hid _ from hn
  go_enter_defers Tryd.func9, Tryd.ntmps9
  go_wp2_with fail
  refine (cutSign_x l [45] r h1.out h2.out _).mono ?_
  rintro e w1 ⟨rfl, hx⟩
  have hF : Hid (Fr w w1) := Fr.start hx
  clear hx
  go_wp2_with fail
  refine (cut_c r W P B h3.out _ hr.out (Env.ext he.out hF.out.ext)).mono ?_
  rintro e w2 ⟨rfl, hx⟩
  replace hF : Hid (Fr w w2) := hF.out.step hx
  clear hx
  go_wp2_with fail
  refine (needWhole_ok W 20 _ hW.out (by omega) ho.out).mono ?_
  rintro e w2 ⟨rfl, hx⟩
  replace hF : Hid (Fr w w2) := hF.out.step hx
  clear hx
  go_wp2_with fail
  refine (digitsOnly_x P true hd.out _ hP.out).mono ?_
  rintro e w2 ⟨rfl, hx⟩
  replace hF : Hid (Fr w w2) := hF.out.step hx
  clear hx
  go_wp2_with fail
  refine (needForm_okx _).mono ?_
  rintro e w2 ⟨rfl, hx⟩
  replace hF : Hid (Fr w w2) := hF.out.step hx
  clear hx
  have hbig : ¬ 9223372036854775807 < W.length + 2 := by omega
  go_wp2_with fail
  refine (number_ok (W ++ P) _ (by simp; omega) hall.out 0 hn.out (by omega)).mono ?_
  rintro e w2 ⟨rfl, hx⟩
  replace hF : Hid (Fr w w2) := hF.out.step hx
  clear hx
  go_wp2_with fail
  refine (signed_nilx _).mono ?_
  rintro e w2 ⟨rfl, hx⟩
  replace hF : Hid (Fr w w2) := hF.out.step hx
  clear hx
  obtain ⟨hx0, gp, gq, gpz, gqz⟩ := hF.out
  clear hF
  replace hx0 : Hid (Ext _ _) := hx0
  go_wp2
  replace hx0 := hx0.out
  refine leaves_cons (f := 17) (args := #[.pointer (some ⟨w.heap.size, 0, none⟩), .pointer (some ⟨w.heap.size + 1, 0, none⟩)]) (by simp) (by simp [go_sem]) ?_
  refine (tm_catch w.heap.size 4 0 0 [] _ ?_ ?_ ?_ ?_).mono ?_
  · simp [go_sem, gp]
  · simp [go_sem, gq]
  · simp [go_sem, gpz]
  · simp [go_sem, gqz]
  rintro e u' w'' ⟨rfl, rfl, w3, hy, rfl⟩
  have hs1 := lt_of_cell gp
  have hs := lt_of_cell gq
  have hp2 : (w3.cell? ⟨w.heap.size, 0, none⟩).isSome = true := by rw [hy.cell _ _ (by simpa [World.setCell] using hs1)]; simp [go_sem, gp]
  have hq2 : (w3.cell? ⟨w.heap.size + 1, 0, none⟩).isSome = true := by rw [hy.cell _ _ (by simpa [World.setCell] using hs)]; simp [go_sem, gq]
  obtain ⟨vp, hp2⟩ := Option.isSome_iff_exists.1 hp2
  obtain ⟨vq, hq2⟩ := Option.isSome_iff_exists.1 hq2
  simp [Leaves, Go.settle, results, Tryd.results9, go_sem, hp2, hq2]
  refine ((Ext.trans ?_ hy).setCell (Nat.le_refl _) _).setCell (by show w.heap.size ≤ w.heap.size + 1; omega) _
  exact hx0

end Go.Proofs.YtpmgbagnaaahoabDoor
