/- For all products p and all strings s, of the project's tree at the commit that COMMIT names, ProductTells returns true and leaves its arguments as they were. -/
import Derived.Test.YtipnchejhjkomaaFrame
import Derived.Test.YtipnchejhjkomaaTel
namespace Go.Proofs.Ytipnchejhjkomaa.productTells
open Go.ChangeShapes Go.WideShapes Go.ChangeAt Go.RowKit
set_option linter.unusedVariables false


theorem walk (nm : List UInt8) (cn rd kd ev tm gr rt : Int) (vr : Value) (rs : List (Int × Int)) (pn o0 o1 o2 o3 ov : Int) (vl : Value) (lt : List (Int × Int)) (cp rl : Int) (vh : Value) (hd : List Int) (hp : Fits nm rs lt hd) (a1 : ByteArray) (w1 : a1.size ≤ maxLen) (w : World) (sr : Slp w vr rs) (sl : Slp w vl lt) (sh : Slc w vh hd) :
    Calls Try.prog 3 #[.agg #[.string ⟨nm.toArray⟩, .int .i64 cn, .int .i64 rd, .int .i64 kd, .int .i64 ev, .int .i64 tm, .int .i64 gr, .int .i64 rt, vr, .int .i64 pn, .int .i64 o0, .int .i64 o1, .int .i64 o2, .int .i64 o3, .int .i64 ov, vl, .int .i64 cp, .int .i64 rl, vh], .string a1] w fun e w' => e = .returned (.bool true) ∧ Ext w w' := by
  obtain ⟨ar, cr, rfl⟩ := sr.len
  obtain ⟨al, cl, rfl⟩ := sl.len
  obtain ⟨ah, ch, rfl⟩ := sh.len
  obtain ⟨⟨s⟩⟩ := a1
  have hs : s.length ≤ maxLen := by simpa [ByteArray.size] using w1
  by_cases q0 : 100 < nm.length
  · exact long0 nm cn rd kd ev tm gr rt ar cr rs pn o0 o1 o2 o3 ov al cl lt cp rl ah ch hd s w hp hs q0
  by_cases q1 : 100 < s.length
  · exact long1 nm cn rd kd ev tm gr rt ar cr rs pn o0 o1 o2 o3 ov al cl lt cp rl ah ch hd s w hp hs (by omega) q1
  by_cases q2 : 50 < rs.length
  · exact long2 nm cn rd kd ev tm gr rt ar cr rs pn o0 o1 o2 o3 ov al cl lt cp rl ah ch hd s w hp hs (by omega) (by omega) q2
  by_cases q3 : 50 < lt.length
  · exact long3 nm cn rd kd ev tm gr rt ar cr rs pn o0 o1 o2 o3 ov al cl lt cp rl ah ch hd s w hp hs (by omega) (by omega) (by omega) q3
  by_cases q4 : 300 < hd.length
  · exact long4 nm cn rd kd ev tm gr rt ar cr rs pn o0 o1 o2 o3 ov al cl lt cp rl ah ch hd s w hp hs (by omega) (by omega) (by omega) (by omega) q4
  exact tells_x nm cn rd kd ev tm gr rt ar cr rs pn o0 o1 o2 o3 ov al cl lt cp rl ah ch hd s w hp hs (by omega) (by omega) (by omega) (by omega) (by omega) sr sl sh

set_option maxRecDepth 100000 in
theorem lifted (os : Os) (started : os.Started) (H : Type) (enc : TypeId × Value → H) :
    ReturnsInHanded {} Try.checked os 3 .any (Rows.productTellsSpec.pre6 enc Try.prog Try.f3 Rows.productTellsRow.domain false) (Rows.productTellsSpec.post enc Try.prog Try.f3 false true false false) := by
  refine returnsInHanded_of_change (C := Try.checked) own started (by kernel_rfl) Try.func3
    (ChangeSpec.witness6 (enc := enc) (C := Try.checked) false ⟨#[], #[.agg #[.string ⟨#[]⟩, .int .i64 0, .int .i64 0, .int .i64 0, .int .i64 0, .int .i64 0, .int .i64 0, .int .i64 0, .slice none 0 0, .int .i64 0, .int .i64 0, .int .i64 0, .int .i64 0, .int .i64 0, .int .i64 0, .slice none 0 0, .int .i64 0, .int .i64 0, .slice none 0 0], .string ⟨#[]⟩], []⟩ 8 (by kernel_rfl) (by kernel_rfl) (by kernel_rfl) (by kernel_rfl)) ?_
  intro W base args ds gs before hval0 hW hcnd _
  have hval : ∀ (j : Nat) t v, Try.f3.params[j]? = some t → args[j]? = some v → Value.okWide Try.prog W .any base t v := hval0
  have hW' := hW
  obtain ⟨p, q, hA0, hV, rfl, hfz, hnd⟩ := hW
  have hA : DataW.TrodAll enc Try.prog W 0 (fun _ => true) true Try.f3.params.toList args.toList ds p := hA0
  rw [Try.params3] at hA hval
  obtain ⟨v0, vs0, d0, ds0, p0, q0, hargs, rfl, rfl, h0, r0⟩ := trodAll_cons hA
  obtain ⟨v1, vs1, d1, ds1, p1, q1, rfl, rfl, rfl, h1, r1⟩ := trodAll_cons r0
  obtain ⟨rfl, rfl, rfl⟩ := trodAll_nil r1
  obtain rfl : args = #[v0, v1] := by cases args; simp_all
  obtain ⟨rfl, rfl⟩ := trodVars_none hV
  obtain ⟨nm, cn, rd, kd, ev, tm, gr, rt, vr, rs, pn, o0, o1, o2, o3, ov, vl, lt, cp, rl, vh, hd, rfl, hp, sr, sl, sh, t0⟩ := open_prod (hval 0 27 v0 rfl rfl) h0
  obtain ⟨a1, rfl, rfl, rfl, w1⟩ := Go.ChangeMaps.open_string Try.underlying9 (hval 1 9 v1 rfl rfl) h1
  clear hA0 hval0
  simp only [List.append_nil] at hW'
  refine (walk nm cn rd kd ev tm gr rt vr rs pn o0 o1 o2 o3 ov vl lt cp rl vh hd hp a1 w1 W sr sl sh).mono fun e W' ⟨he, hb⟩ => ?_
  subst he
  exact ⟨_, rfl, _, _, _, [], _, [], hW', (trodAll_cons_mk (shut_bool Try.underlying4 _) trodAll_mk0), (trodAll_cons_mk (t0 _ hb) (trodAll_cons_mk (Go.ChangeMaps.shut_string Try.underlying9 w1) trodAll_mk0)), rfl, hb.below.frame _, fun h => by cases h⟩

theorem over : Rows.productTellsRow.holds Try.pinned (OpenSpec.ofChange Rows.productTellsSpec) :=
  OpenClaim.holds_of_wide 3 Try.f3 rfl rfl rfl rfl rfl rfl rfl ⟨rfl, rfl, rfl, rfl, rfl⟩ rfl rfl rfl rfl rfl (by kernel_rfl) Try.func3 (by kernel_rfl)
    (of_decide_eq_true (by kernel_rfl)) (by unfold Func.isWrapper; first | (rw [if_pos (by decide +kernel)]; kernel_rfl) | (rw [if_neg (by decide +kernel)]; exact ⟨rfl, rfl⟩))
    (fun os started H enc _ => lifted os started H enc)
end Go.Proofs.Ytipnchejhjkomaa.productTells
namespace Go.Proofs.Ytipnchejhjkomaa
theorem productTells_holds : Rows.ProductTellsSaid := productTells.over
#print axioms productTells_holds
end Go.Proofs.Ytipnchejhjkomaa
