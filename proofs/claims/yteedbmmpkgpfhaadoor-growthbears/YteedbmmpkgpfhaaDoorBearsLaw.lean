/- For all ints count, round and fork and every list of spans, of the project's tree at the commit that COMMIT names, GrowthBears returns true and leaves its arguments as they were. -/
import Derived.Test.YteedbmmpkgpfhaaDoorFrame
import Derived.Test.YteedbmmpkgpfhaaDoorGr7
import Derived.Deep.RegionHeld3
namespace Go.Proofs.YteedbmmpkgpfhaaDoor.growthBears
open Go.ChangeShapes Go.WideShapes Go.ChangeAt Go.RowKit Go.Lib
set_option linter.unusedVariables false

theorem set_same {c : Array Value} {o : Nat} {v : Value} (h : c[o]? = some v) : c.setIfInBounds o v = c := by
  apply Array.ext_getElem?
  intro i
  rw [Array.getElem?_setIfInBounds]
  split
  · rename_i e
    subst e
    rw [h]
    have := (Array.getElem?_eq_some_iff.1 h).1
    rw [if_pos this]
  · rfl
theorem cell_same {w : World} {B o : Nat} {v : Value} (h : w.cell? ⟨B, o, none⟩ = some v) : w.setCell ⟨B, o, none⟩ v = w := by
  have e : (w.setCell ⟨B, o, none⟩ v).heap = w.heap := by
    apply Array.ext_getElem?
    intro i
    simp only [World.setCell, Array.getElem?_modify]
    split
    · rename_i e
      subst e
      unfold World.cell? at h
      cases hb : w.heap[B]? with
      | none => simp [hb] at h
      | some x =>
        cases x with
        | cells c e f =>
          simp [hb] at h
          simp [set_same h]
        | _ => simp
    · rfl
  show { w with heap := (w.setCell ⟨B, o, none⟩ v).heap } = w
  rw [e]
theorem Slt_any {w : World} {v : Value} {l : List (Int × Int × Int)} (h : Slt w v l) : ∃ a c, v = .slice a l.length c ∧ (0 < l.length → ∃ b off, a = some ⟨b, off, none⟩ ∧ ∀ (k : Nat) (x y z : Int), l[k]? = some (x, y, z) → w.cell? ⟨b, off + k * 3, none⟩ = some (.int .i64 x) ∧ w.cell? ⟨b, off + k * 3 + 1, none⟩ = some (.int .i64 y) ∧ w.cell? ⟨b, off + k * 3 + 2, none⟩ = some (.int .i64 z)) := by
  rcases h with ⟨a, c, rfl, rfl⟩ | ⟨b, off, c, rfl, hc⟩
  · exact ⟨a, c, rfl, fun h => absurd h (Nat.lt_irrefl 0)⟩
  · exact ⟨_, c, rfl, fun _ => ⟨b, off, rfl, hc⟩⟩
/-- May it be asked? -/
def askB (b rt p : Int) : Bool := (decide (0 ≤ b) && decide (b ≤ 1000000000000000)) && ((decide (0 ≤ rt) && decide (rt ≤ 1000000000)) && (decide (0 ≤ p) && decide (p ≤ 53436000)))
theorem askB_iff {b rt p : Int} : askB b rt p = true ↔ Ask b rt p := by simp [askB, Ask]
/-- What Bear answers of any call, and leaves: the answer, the error, the rest then. -/
def ansV (m W r b rt p : Int) : Int := if askB b rt p = true ∧ bq m W r (b * (rt * p)) ≤ 1000000000000000 then bq m W r (b * (rt * p)) else 0
def ansE (m W r b rt p : Int) : Int := if askB b rt p = true then (if bq m W r (b * (rt * p)) ≤ 1000000000000000 then 0 else 3) else 1
def ansR (m W r b rt p : Int) : Int := if askB b rt p = true ∧ bq m W r (b * (rt * p)) ≤ 1000000000000000 then br m W r (b * (rt * p)) else r
theorem ans_rst {m W r b rt p : Int} (hr : Rst m W r) (hW : 0 < W) : Rst m W (ansR m W r b rt p) := by
  unfold ansR; split
  · exact br_rst hr hW
  · exact hr
theorem ansV_bd {m W r b rt p : Int} (hr : Rst m W r) (hW : 0 < W) : 0 ≤ ansV m W r b rt p ∧ ansV m W r b rt p ≤ 1000000000000000 := by
  unfold ansV; split
  · rename_i h
    exact ⟨bq_nn hr hW (Int.mul_nonneg (askB_iff.1 h.1).1.1 (Int.mul_nonneg (askB_iff.1 h.1).2.1.1 (askB_iff.1 h.1).2.2.1)), h.2⟩
  · omega
/-- Behind such a call: the world as it was, but that rest, and new memory. -/
def Lft (w : World) (B : Nat) (x : Int) (w' : World) : Prop := Ext (w.setCell ⟨B, 2, none⟩ (.int .i64 x)) w'
theorem put_same {w : World} {B : Nat} {m W r : Int} (h : Brr w B m W r) {w' : World} (hx : Ext w w') : Lft w B r w' := by
  show Ext _ _
  have e : w.setCell ⟨B, 2, none⟩ (.int .i64 r) = w := cell_same h.c2
  rw [e]; exact hx
theorem put_sameR {w : World} {C : Nat} {P r : Int} {up : Bool} (h : Rbr w C P up r) {w' : World} (hx : Ext w w') : Lft w C r w' := by
  show Ext _ _
  have e : w.setCell ⟨C, 2, none⟩ (.int .i64 r) = w := cell_same h.c2
  rw [e]; exact hx
theorem Bear_any (B : Nat) (m W r b rt p : Int) (w : World) (hB : Brr w B m W r) (hr : Rst m W r) (hW : 0 < W) (hW2 : W ≤ 200000000000000) :
    Calls Tryd.prog 12 #[.pointer (some ⟨B, 0, none⟩), .int .i64 b, .int .i64 rt, .int .i64 p] w fun e w' => e = .returned (.tuple #[.int .i64 (ansV m W r b rt p), .int .i64 (ansE m W r b rt p)]) ∧ Lft w B (ansR m W r b rt p) w' := by
  unfold ansV ansE ansR
  by_cases ha : askB b rt p = true
  · by_cases hq : bq m W r (b * (rt * p)) ≤ 1000000000000000
    · rw [if_pos ⟨ha, hq⟩, if_pos ha, if_pos hq, if_pos ⟨ha, hq⟩]
      exact Bear_ok B m W r b rt p w hB hr hW hW2 (askB_iff.1 ha) hq
    · rw [if_neg (fun h => hq h.2), if_pos ha, if_neg hq, if_neg (fun h => hq h.2)]
      exact (Bear_range B m W r b rt p w hB hr hW hW2 (askB_iff.1 ha) hq).mono fun e w' ⟨h1, h2⟩ => ⟨h1, put_same hB h2⟩
  · rw [if_neg (fun h => ha h.1), if_neg ha, if_neg (fun h => ha h.1)]
    exact (Bear_arg B m W r b rt p w hB hW (fun h => ha (askB_iff.2 h))).mono fun e w' ⟨h1, h2⟩ => ⟨h1, put_same hB h2⟩
theorem rBear_any (C : Nat) (m P r b rt p : Int) (w : World) (hC : Rbr w C P (decide (m = 1)) r) (hr : Rst m (1000000000 * P) r) (P0 : 0 < P) (P1 : P ≤ 133590) :
    Calls Tryd.prog 13 #[.pointer (some ⟨C, 0, none⟩), .int .i64 b, .int .i64 rt, .int .i64 p] w fun e w' => e = .returned (.tuple #[.int .i64 (ansV m (1000000000 * P) r b rt p), .int .i64 (ansE m (1000000000 * P) r b rt p)]) ∧ Lft w C (ansR m (1000000000 * P) r b rt p) w' := by
  unfold ansV ansE ansR
  by_cases ha : askB b rt p = true
  · by_cases hq : bq m (1000000000 * P) r (b * (rt * p)) ≤ 1000000000000000
    · rw [if_pos ⟨ha, hq⟩, if_pos ha, if_pos hq, if_pos ⟨ha, hq⟩]
      exact (rBear_c C P r b rt p m w hC hr P0 P1 (askB_iff.1 ha)).mono fun e w' h => h.1 hq
    · rw [if_neg (fun h => hq h.2), if_pos ha, if_neg hq, if_neg (fun h => hq h.2)]
      exact (rBear_c C P r b rt p m w hC hr P0 P1 (askB_iff.1 ha)).mono fun e w' h => ⟨(h.2 hq).1, put_sameR hC (h.2 hq).2⟩
  · rw [if_neg (fun h => ha h.1), if_neg ha, if_neg (fun h => ha h.1)]
    exact (rBear_arg C b rt p w (fun h => ha (askB_iff.2 h))).mono fun e w' ⟨h1, h2⟩ => ⟨h1, put_sameR hC h2⟩
set_option maxRecDepth 100000 in
set_option maxHeartbeats 8000000 in

theorem walk (a0 : Int) (w0 : (Lit.int .i64 a0).wf = true) (a1 : Int) (w1 : (Lit.int .i64 a1).wf = true) (v2 : Value) (l2 : List (Int × Int × Int)) (n2 : l2.length ≤ maxLen) (b2 : ∀ x ∈ l2, J64 x.1 ∧ J64 x.2.1 ∧ J64 x.2.2) (a3 : Int) (w3 : (Lit.int .i64 a3).wf = true) (w : World) (s2 : Slt w v2 l2) :
    Calls Tryd.prog 3 #[.int .i64 a0, .int .i64 a1, v2, .int .i64 a3] w fun e w' => e = .returned (.bool true) ∧ Ext w w' := by
  clear w0 w1 w3
  obtain ⟨sa, sc, rfl, hcell⟩ := Slt_any s2
  clear s2
  replace hcell := show Hid _ from hcell
  obtain ⟨N, hlen⟩ : ∃ N, l2.length = N := ⟨_, rfl⟩
  rw [hlen]
  rw [hlen] at hcell n2
  replace hlen := show Hid _ from hlen
  replace b2 := show Hid _ from b2
  by_cases hok : (1 ≤ a0 ∧ a0 ≤ 3) ∧ (a1 = 1 ∨ a1 = 3)
  case neg =>
    have hN : Hid (∀ w : World, Calls Tryd.prog 9 #[.int .i64 a0, .int .i64 a1] w fun e w' => e = .returned (.tuple #[.pointer none, .int .i64 1]) ∧ Ext w w') := fun w => New_no a0 a1 w hok
    have hR : Hid (∀ w : World, Calls Tryd.prog 10 #[.int .i64 a0, .int .i64 a1] w fun e w' => e = .returned (.tuple #[.pointer none, .int .i64 1]) ∧ Ext w w') := fun w => rNew_no a0 a1 w hok
    clear hok hcell
    go_enter Tryd.func3, Tryd.ntmps3
    go_wp2_with fail
    refine (hN.out _).mono ?_
    rintro e w1 ⟨rfl, hx1⟩
    have hx : Hid (Ext w w1) := hx1
    clear hx1
    go_wp2_with fail
    refine (hR.out _).mono ?_
    rintro e w2 ⟨rfl, hx1⟩
    replace hx : Hid (Ext w w2) := hx.out.trans hx1
    clear hx1
    go_wp2_with fail
    refine (awake_c _).mono ?_
    rintro e w3 ⟨rfl, hx1⟩
    replace hx : Hid (Ext w w3) := hx.out.trans hx1
    clear hx1
    go_wp2
    go_ret
    exact ⟨rfl, hx.out⟩
  obtain ⟨⟨h1, h2⟩, hm⟩ := hok
  have hPb := pt_bd h1 h2
  obtain ⟨P, hP⟩ : ∃ P, ptA a0 = P := ⟨_, rfl⟩
  rw [hP] at hPb
  have P0 : 0 < P := by omega
  have P1 : P ≤ 133590 := by omega
  have hW : 0 < 1000000000 * P := by omega
  rcases hm with hm' | hm'
  · subst hm'
    have hr0 := rst_zero (m := 1) (W := 1000000000 * P) (by omega) hW
    have hN : Hid (∀ w : World, Calls Tryd.prog 9 #[.int .i64 a0, .int .i64 (1)] w fun e w' => ∃ B, e = .returned (.tuple #[.pointer (some ⟨B, 0, none⟩), .int .i64 0]) ∧ Born w w' B (1) (1000000000 * P) 0) := fun w => by rw [← hP]; exact New_ok a0 (1) w h1 h2 (by omega)
    have hR : Hid (∀ w : World, Calls Tryd.prog 10 #[.int .i64 a0, .int .i64 (1)] w fun e w' => ∃ C, e = .returned (.tuple #[.pointer (some ⟨C, 0, none⟩), .int .i64 0]) ∧ Rbr w' C P (decide (1 = (1 : Int))) 0 ∧ w.heap.size ≤ C ∧ Ext w w') := fun w => by rw [← hP]; exact rNew_ok a0 (1) w h1 h2 (by omega)
    have hcall : Hid (∀ (B : Nat) (r : Int) (w : World), Hid (Brr w B 1 (1000000000 * P) r) → Hid (Rst 1 (1000000000 * P) r) → ∀ b rt p : Int, Calls Tryd.prog 12 #[.pointer (some ⟨B, 0, none⟩), .int .i64 b, .int .i64 rt, .int .i64 p] w fun e w' => e = .returned (.tuple #[.int .i64 (ansV 1 (1000000000 * P) r b rt p), .int .i64 (ansE 1 (1000000000 * P) r b rt p)]) ∧ Lft w B (ansR 1 (1000000000 * P) r b rt p) w') := fun B r w hB hr b rt p => Bear_any B 1 _ r b rt p w hB.out hr.out hW (by omega)
    have hcallR : Hid (∀ (C : Nat) (r : Int) (w : World), Hid (Rbr w C P (decide (1 = (1 : Int))) r) → Hid (Rst 1 (1000000000 * P) r) → ∀ b rt p : Int, Calls Tryd.prog 13 #[.pointer (some ⟨C, 0, none⟩), .int .i64 b, .int .i64 rt, .int .i64 p] w fun e w' => e = .returned (.tuple #[.int .i64 (ansV 1 (1000000000 * P) r b rt p), .int .i64 (ansE 1 (1000000000 * P) r b rt p)]) ∧ Lft w C (ansR 1 (1000000000 * P) r b rt p) w') := fun C r w hC hr b rt p => rBear_any C 1 P r b rt p w hC.out hr.out P0 P1
    have hstep : Hid (∀ r b rt p : Int, Hid (Rst 1 (1000000000 * P) r) → Hid (Rst 1 (1000000000 * P) (ansR 1 (1000000000 * P) r b rt p))) := fun r b rt p hr => ans_rst hr.out hW
    replace hr0 : Hid (Rst 1 (1000000000 * P) 0) := hr0
    go_enter Tryd.func3, Tryd.ntmps3
    go_wp2_with fail
    refine (hN.out _).mono ?_
    rintro e w1 ⟨B, rfl, hb⟩
    have hx : Hid (Ext w w1) := hb.ext
    have hlo1 : w.heap.size ≤ B := hb.lo
    have hB : Hid (Brr w1 B 1 (1000000000 * P) 0) := hb.brr
    have hBs := hb.brr.lt
    clear hb
    go_wp2_with fail
    refine (hR.out _).mono ?_
    rintro e w2 ⟨C, rfl, hc, hcl, hx1⟩
    replace hx : Hid (Ext w w2) := hx.out.trans hx1
    replace hB : Hid (Brr w2 B 1 (1000000000 * P) 0) := hB.out.ext hx1
    replace hc : Hid (Rbr w2 C P (decide (1 = (1 : Int))) 0) := hc
    clear hx1
    go_wp2_with fail
    refine (awake_c _).mono ?_
    rintro e w3 ⟨rfl, hx1⟩
    replace hx : Hid (Ext w w3) := hx.out.trans hx1
    replace hB : Hid (Brr w3 B 1 (1000000000 * P) 0) := hB.out.ext hx1
    replace hc : Hid (Rbr w3 C P (decide (1 = (1 : Int))) 0) := hc.out.ext hx1
    have hloC : w.heap.size ≤ C := by omega
    have hne : B ≠ C := by omega
    clear hx1 hN hR hcl hBs
    go_wp2_with fail
    go_loopw [9, 13] (fun pv i wr => ∃ (k B : Nat) (r : Int), i = .int .i64 k ∧ pv = .pointer (some ⟨B, 0, none⟩) ∧ k ≤ N ∧ k ≤ 40 ∧ w.heap.size ≤ B ∧ B ≠ C ∧ Hid (Rst 1 (1000000000 * P) r) ∧ Hid (Brr wr B 1 (1000000000 * P) r) ∧ Hid (Rbr wr C P (decide (1 = (1 : Int))) r) ∧ Hid (Ext w wr)) (fun _ i _ => 40 - (RowKit.intOf i).toNat)
    case atStart => exact ⟨0, B, 0, rfl, rfl, by omega, by omega, hlo1, hne, hr0, hB, hc, hx⟩
    case round =>
      clear hx hB hc hr0 hlo1 hne
      obtain ⟨k, B, r, rfl, rfl, hkl, hk40, hlo1, hne, hr, hB, hc, hx⟩ := hrel
      by_cases hkN : k < N
      · by_cases hk3 : k < 40
        · obtain ⟨b, off, rfl, hcc⟩ := hcell.out (by omega)
          obtain ⟨⟨x, y, z⟩, hxk⟩ : ∃ x, l2[k]? = some x := ⟨_, List.getElem?_eq_getElem (by rw [hlen.out]; exact hkN)⟩
          obtain ⟨kc0, kd0, ke0⟩ := hcc k x y z hxk
          have kc := hx.out.cell_of kc0
          have kd := hx.out.cell_of kd0
          have ke := hx.out.cell_of ke0
          replace kc0 := show Hid _ from kc0
          replace kd0 := show Hid _ from kd0
          replace ke0 := show Hid _ from ke0
          have c1 := hcall.out B r
          have c2 := hcallR.out C r
          obtain ⟨V, hV⟩ : ∃ V, ansV 1 (1000000000 * P) r x y z = V := ⟨_, rfl⟩
          obtain ⟨G, hG⟩ : ∃ G, ansE 1 (1000000000 * P) r x y z = G := ⟨_, rfl⟩
          have hr2 := hstep.out r x y z hr
          obtain ⟨R, hR⟩ : ∃ R, ansR 1 (1000000000 * P) r x y z = R := ⟨_, rfl⟩
          have d1 : Hid (∀ w : World, Hid (Brr w B 1 (1000000000 * P) r) → Calls Tryd.prog 12 #[.pointer (some ⟨B, 0, none⟩), .int .i64 x, .int .i64 y, .int .i64 z] w fun e w' => e = .returned (.tuple #[.int .i64 V, .int .i64 G]) ∧ Lft w B R w') := fun w hB => by
            have := c1 w hB hr x y z
            rwa [hV, hG, hR] at this
          have d2 : Hid (∀ w : World, Hid (Rbr w C P (decide (1 = (1 : Int))) r) → Calls Tryd.prog 13 #[.pointer (some ⟨C, 0, none⟩), .int .i64 x, .int .i64 y, .int .i64 z] w fun e w' => e = .returned (.tuple #[.int .i64 V, .int .i64 G]) ∧ Lft w C R w') := fun w hC => by
            have := c2 w hC hr x y z
            rwa [hV, hG, hR] at this
          rw [hR] at hr2
          clear c1 c2 hV hG hR hcc hxk hcell
          go_wp2_with fail
          go_region_held3 (fun W => W.cell? ⟨b, off + k * 3, none⟩ = some (.int .i64 x) ∧ W.cell? ⟨b, off + k * 3 + 1, none⟩ = some (.int .i64 y) ∧ W.cell? ⟨b, off + k * 3 + 2, none⟩ = some (.int .i64 z)) (exact ⟨kc, kd, ke⟩) ((go_at_call 12; refine (d1.out _ (hB.out.ext (Ext.refl wr).drew)).mono ?_; rintro e w5 ⟨rfl, hx1⟩; have hxd : Ext w wr.drew := hx.out.trans (Ext.refl wr).drew; replace hx : Hid (Ext w w5) := hxd.wrote hlo1 hx1; have hc5 : Rbr w5 C P (decide (1 = (1 : Int))) r := (hc.out.ext (Ext.refl wr).drew).beside hne hx1; have hB5 : Hid (Brr w5 B 1 (1000000000 * P) R) := (hB.out.ext (Ext.refl wr).drew).wrote hx1; replace hc : Hid (Rbr w5 C P (decide (1 = (1 : Int))) r) := hc5; replace kc := hx.out.cell_of kc0.out; replace kd := hx.out.cell_of kd0.out; replace ke := hx.out.cell_of ke0.out))
          clear hx1 hxd hB hc5 d1
          go_wp2_with fail
          go_region_held3 (fun W => W.cell? ⟨b, off + k * 3, none⟩ = some (.int .i64 x) ∧ W.cell? ⟨b, off + k * 3 + 1, none⟩ = some (.int .i64 y) ∧ W.cell? ⟨b, off + k * 3 + 2, none⟩ = some (.int .i64 z)) (exact ⟨kc, kd, ke⟩) ((go_at_call 13; refine (d2.out _ (hc.out.ext (Ext.refl w5).drew)).mono ?_; rintro e w6 ⟨rfl, hx1⟩; have hxd : Ext w w5.drew := hx.out.trans (Ext.refl w5).drew; replace hx : Hid (Ext w w6) := hxd.wrote hloC hx1; have hB6 : Hid (Brr w6 B 1 (1000000000 * P) R) := (hB5.out.ext (Ext.refl w5).drew).beside (Ne.symm hne) hx1; have hc6 : Rbr w6 C P (decide (1 = (1 : Int))) R := (hc.out.ext (Ext.refl w5).drew).wrote hx1; replace hc : Hid (Rbr w6 C P (decide (1 = (1 : Int))) R) := hc6; replace kc := hx.out.cell_of kc0.out; replace kd := hx.out.cell_of kd0.out; replace ke := hx.out.cell_of ke0.out))
          replace kc := hc6.c2
          clear kd ke
          clear hx1 hxd hB5 hc6 d2 kc0 kd0 ke0
          have n1 : (V != V) = false := by simp
          have n2 : (G != G) = false := by simp
          have n3 : (R != R) = false := by simp
          have hRest : Hid (∀ s : Late w6, Calls Tryd.prog 14 #[.pointer (some ⟨B, 0, none⟩)] s.to fun e w' => e = .returned (.int .i64 R) ∧ w' = s.to) := fun s => Rest_c B _ _ R s.to (hB6.out.ext s.ext)
          have j2 := Late.cell kc
          have hNe1 : Nonempty (Late w6) := ⟨⟨_, Ext.refl _⟩⟩
          go_wp2_with fail
          refine wp_region_late (by kernel_rfl) (by kernel_rfl) ?_
          repeat (go_big_quiet_step ((first
            | (go_at_call 14; exact late_same (hRest.out _)))))
          refine wpQuiet_nil ?_
          intro w7 hw'
          have hx4 : Ext w6 w7 := late_ext hw'
          replace hx : Hid (Ext w w7) := hx.out.trans hx4
          have hB7 : Hid (Brr w7 B 1 (1000000000 * P) R) := hB6.out.ext hx4
          replace hc : Hid (Rbr w7 C P (decide (1 = (1 : Int))) R) := hc.out.ext hx4
          clear hw' j2 hNe1 kc hx4 hB6 hRest n1 n2 n3
          cases hfk : ((k : Int) == a3)
          · go_wp2
            go_roundw
            case rel => exact ⟨k + 1, B, R, by go_num, rfl, by omega, by omega, hlo1, hne, hr2, hB7, hc, hx⟩
            case measure => simp [RowKit.intOf]; omega
          · have d3 := hcall.out B R
            replace d3 := show Hid _ from d3
            go_wp2_with fail
            refine (Fork_c B _ _ _ _ hB7.out).mono ?_
            rintro e w8 ⟨D, rfl, hDl, hD, hx1⟩
            have hCl := hc.out.lt
            have hBl := hB7.out.lt
            have hxs := hx.out.size
            replace hx : Hid (Ext w w8) := hx.out.trans hx1
            replace hB7 : Hid (Brr w8 B 1 (1000000000 * P) R) := hB7.out.ext hx1
            replace hc : Hid (Rbr w8 C P (decide (1 = (1 : Int))) R) := hc.out.ext hx1
            replace hD : Hid (Brr w8 D 1 (1000000000 * P) R) := hD
            clear hx1
            go_wp2_with fail
            refine (d3.out _ hB7 hr2 7 1000000000 100).mono ?_
            rintro e w9 ⟨rfl, hx1⟩
            replace hx : Hid (Ext w w9) := hx.out.wrote hlo1 hx1
            replace hc : Hid (Rbr w9 C P (decide (1 = (1 : Int))) R) := hc.out.beside hne hx1
            replace hD : Hid (Brr w9 D 1 (1000000000 * P) R) := hD.out.beside (by omega) hx1
            clear hx1 hB7 d3
            go_wp2
            go_roundw
            case rel => exact ⟨k + 1, D, R, by go_num, rfl, by omega, by omega, by omega, by omega, hr2, hD, hc, hx⟩
            case measure => simp [RowKit.intOf]; omega
        · clear hB hc hcell hcall hcallR
          go_wp2
          go_ret
          exact ⟨rfl, hx.out⟩
      · clear hB hc hcell hcall hcallR
        go_wp2
        go_ret
        exact ⟨rfl, hx.out⟩
  · subst hm'
    have hr0 := rst_zero (m := 3) (W := 1000000000 * P) (by omega) hW
    have hN : Hid (∀ w : World, Calls Tryd.prog 9 #[.int .i64 a0, .int .i64 (3)] w fun e w' => ∃ B, e = .returned (.tuple #[.pointer (some ⟨B, 0, none⟩), .int .i64 0]) ∧ Born w w' B (3) (1000000000 * P) 0) := fun w => by rw [← hP]; exact New_ok a0 (3) w h1 h2 (by omega)
    have hR : Hid (∀ w : World, Calls Tryd.prog 10 #[.int .i64 a0, .int .i64 (3)] w fun e w' => ∃ C, e = .returned (.tuple #[.pointer (some ⟨C, 0, none⟩), .int .i64 0]) ∧ Rbr w' C P (decide (3 = (1 : Int))) 0 ∧ w.heap.size ≤ C ∧ Ext w w') := fun w => by rw [← hP]; exact rNew_ok a0 (3) w h1 h2 (by omega)
    have hcall : Hid (∀ (B : Nat) (r : Int) (w : World), Hid (Brr w B 3 (1000000000 * P) r) → Hid (Rst 3 (1000000000 * P) r) → ∀ b rt p : Int, Calls Tryd.prog 12 #[.pointer (some ⟨B, 0, none⟩), .int .i64 b, .int .i64 rt, .int .i64 p] w fun e w' => e = .returned (.tuple #[.int .i64 (ansV 3 (1000000000 * P) r b rt p), .int .i64 (ansE 3 (1000000000 * P) r b rt p)]) ∧ Lft w B (ansR 3 (1000000000 * P) r b rt p) w') := fun B r w hB hr b rt p => Bear_any B 3 _ r b rt p w hB.out hr.out hW (by omega)
    have hcallR : Hid (∀ (C : Nat) (r : Int) (w : World), Hid (Rbr w C P (decide (3 = (1 : Int))) r) → Hid (Rst 3 (1000000000 * P) r) → ∀ b rt p : Int, Calls Tryd.prog 13 #[.pointer (some ⟨C, 0, none⟩), .int .i64 b, .int .i64 rt, .int .i64 p] w fun e w' => e = .returned (.tuple #[.int .i64 (ansV 3 (1000000000 * P) r b rt p), .int .i64 (ansE 3 (1000000000 * P) r b rt p)]) ∧ Lft w C (ansR 3 (1000000000 * P) r b rt p) w') := fun C r w hC hr b rt p => rBear_any C 3 P r b rt p w hC.out hr.out P0 P1
    have hstep : Hid (∀ r b rt p : Int, Hid (Rst 3 (1000000000 * P) r) → Hid (Rst 3 (1000000000 * P) (ansR 3 (1000000000 * P) r b rt p))) := fun r b rt p hr => ans_rst hr.out hW
    replace hr0 : Hid (Rst 3 (1000000000 * P) 0) := hr0
    go_enter Tryd.func3, Tryd.ntmps3
    go_wp2_with fail
    refine (hN.out _).mono ?_
    rintro e w1 ⟨B, rfl, hb⟩
    have hx : Hid (Ext w w1) := hb.ext
    have hlo1 : w.heap.size ≤ B := hb.lo
    have hB : Hid (Brr w1 B 3 (1000000000 * P) 0) := hb.brr
    have hBs := hb.brr.lt
    clear hb
    go_wp2_with fail
    refine (hR.out _).mono ?_
    rintro e w2 ⟨C, rfl, hc, hcl, hx1⟩
    replace hx : Hid (Ext w w2) := hx.out.trans hx1
    replace hB : Hid (Brr w2 B 3 (1000000000 * P) 0) := hB.out.ext hx1
    replace hc : Hid (Rbr w2 C P (decide (3 = (1 : Int))) 0) := hc
    clear hx1
    go_wp2_with fail
    refine (awake_c _).mono ?_
    rintro e w3 ⟨rfl, hx1⟩
    replace hx : Hid (Ext w w3) := hx.out.trans hx1
    replace hB : Hid (Brr w3 B 3 (1000000000 * P) 0) := hB.out.ext hx1
    replace hc : Hid (Rbr w3 C P (decide (3 = (1 : Int))) 0) := hc.out.ext hx1
    have hloC : w.heap.size ≤ C := by omega
    have hne : B ≠ C := by omega
    clear hx1 hN hR hcl hBs
    go_wp2_with fail
    go_loopw [9, 13] (fun pv i wr => ∃ (k B : Nat) (r : Int), i = .int .i64 k ∧ pv = .pointer (some ⟨B, 0, none⟩) ∧ k ≤ N ∧ k ≤ 40 ∧ w.heap.size ≤ B ∧ B ≠ C ∧ Hid (Rst 3 (1000000000 * P) r) ∧ Hid (Brr wr B 3 (1000000000 * P) r) ∧ Hid (Rbr wr C P (decide (3 = (1 : Int))) r) ∧ Hid (Ext w wr)) (fun _ i _ => 40 - (RowKit.intOf i).toNat)
    case atStart => exact ⟨0, B, 0, rfl, rfl, by omega, by omega, hlo1, hne, hr0, hB, hc, hx⟩
    case round =>
      clear hx hB hc hr0 hlo1 hne
      obtain ⟨k, B, r, rfl, rfl, hkl, hk40, hlo1, hne, hr, hB, hc, hx⟩ := hrel
      by_cases hkN : k < N
      · by_cases hk3 : k < 40
        · obtain ⟨b, off, rfl, hcc⟩ := hcell.out (by omega)
          obtain ⟨⟨x, y, z⟩, hxk⟩ : ∃ x, l2[k]? = some x := ⟨_, List.getElem?_eq_getElem (by rw [hlen.out]; exact hkN)⟩
          obtain ⟨kc0, kd0, ke0⟩ := hcc k x y z hxk
          have kc := hx.out.cell_of kc0
          have kd := hx.out.cell_of kd0
          have ke := hx.out.cell_of ke0
          replace kc0 := show Hid _ from kc0
          replace kd0 := show Hid _ from kd0
          replace ke0 := show Hid _ from ke0
          have c1 := hcall.out B r
          have c2 := hcallR.out C r
          obtain ⟨V, hV⟩ : ∃ V, ansV 3 (1000000000 * P) r x y z = V := ⟨_, rfl⟩
          obtain ⟨G, hG⟩ : ∃ G, ansE 3 (1000000000 * P) r x y z = G := ⟨_, rfl⟩
          have hr2 := hstep.out r x y z hr
          obtain ⟨R, hR⟩ : ∃ R, ansR 3 (1000000000 * P) r x y z = R := ⟨_, rfl⟩
          have d1 : Hid (∀ w : World, Hid (Brr w B 3 (1000000000 * P) r) → Calls Tryd.prog 12 #[.pointer (some ⟨B, 0, none⟩), .int .i64 x, .int .i64 y, .int .i64 z] w fun e w' => e = .returned (.tuple #[.int .i64 V, .int .i64 G]) ∧ Lft w B R w') := fun w hB => by
            have := c1 w hB hr x y z
            rwa [hV, hG, hR] at this
          have d2 : Hid (∀ w : World, Hid (Rbr w C P (decide (3 = (1 : Int))) r) → Calls Tryd.prog 13 #[.pointer (some ⟨C, 0, none⟩), .int .i64 x, .int .i64 y, .int .i64 z] w fun e w' => e = .returned (.tuple #[.int .i64 V, .int .i64 G]) ∧ Lft w C R w') := fun w hC => by
            have := c2 w hC hr x y z
            rwa [hV, hG, hR] at this
          rw [hR] at hr2
          clear c1 c2 hV hG hR hcc hxk hcell
          go_wp2_with fail
          go_region_held3 (fun W => W.cell? ⟨b, off + k * 3, none⟩ = some (.int .i64 x) ∧ W.cell? ⟨b, off + k * 3 + 1, none⟩ = some (.int .i64 y) ∧ W.cell? ⟨b, off + k * 3 + 2, none⟩ = some (.int .i64 z)) (exact ⟨kc, kd, ke⟩) ((go_at_call 12; refine (d1.out _ (hB.out.ext (Ext.refl wr).drew)).mono ?_; rintro e w5 ⟨rfl, hx1⟩; have hxd : Ext w wr.drew := hx.out.trans (Ext.refl wr).drew; replace hx : Hid (Ext w w5) := hxd.wrote hlo1 hx1; have hc5 : Rbr w5 C P (decide (3 = (1 : Int))) r := (hc.out.ext (Ext.refl wr).drew).beside hne hx1; have hB5 : Hid (Brr w5 B 3 (1000000000 * P) R) := (hB.out.ext (Ext.refl wr).drew).wrote hx1; replace hc : Hid (Rbr w5 C P (decide (3 = (1 : Int))) r) := hc5; replace kc := hx.out.cell_of kc0.out; replace kd := hx.out.cell_of kd0.out; replace ke := hx.out.cell_of ke0.out))
          clear hx1 hxd hB hc5 d1
          go_wp2_with fail
          go_region_held3 (fun W => W.cell? ⟨b, off + k * 3, none⟩ = some (.int .i64 x) ∧ W.cell? ⟨b, off + k * 3 + 1, none⟩ = some (.int .i64 y) ∧ W.cell? ⟨b, off + k * 3 + 2, none⟩ = some (.int .i64 z)) (exact ⟨kc, kd, ke⟩) ((go_at_call 13; refine (d2.out _ (hc.out.ext (Ext.refl w5).drew)).mono ?_; rintro e w6 ⟨rfl, hx1⟩; have hxd : Ext w w5.drew := hx.out.trans (Ext.refl w5).drew; replace hx : Hid (Ext w w6) := hxd.wrote hloC hx1; have hB6 : Hid (Brr w6 B 3 (1000000000 * P) R) := (hB5.out.ext (Ext.refl w5).drew).beside (Ne.symm hne) hx1; have hc6 : Rbr w6 C P (decide (3 = (1 : Int))) R := (hc.out.ext (Ext.refl w5).drew).wrote hx1; replace hc : Hid (Rbr w6 C P (decide (3 = (1 : Int))) R) := hc6; replace kc := hx.out.cell_of kc0.out; replace kd := hx.out.cell_of kd0.out; replace ke := hx.out.cell_of ke0.out))
          replace kc := hc6.c2
          clear kd ke
          clear hx1 hxd hB5 hc6 d2 kc0 kd0 ke0
          have n1 : (V != V) = false := by simp
          have n2 : (G != G) = false := by simp
          have n3 : (R != R) = false := by simp
          have hRest : Hid (∀ s : Late w6, Calls Tryd.prog 14 #[.pointer (some ⟨B, 0, none⟩)] s.to fun e w' => e = .returned (.int .i64 R) ∧ w' = s.to) := fun s => Rest_c B _ _ R s.to (hB6.out.ext s.ext)
          have j2 := Late.cell kc
          have hNe1 : Nonempty (Late w6) := ⟨⟨_, Ext.refl _⟩⟩
          go_wp2_with fail
          refine wp_region_late (by kernel_rfl) (by kernel_rfl) ?_
          repeat (go_big_quiet_step ((first
            | (go_at_call 14; exact late_same (hRest.out _)))))
          refine wpQuiet_nil ?_
          intro w7 hw'
          have hx4 : Ext w6 w7 := late_ext hw'
          replace hx : Hid (Ext w w7) := hx.out.trans hx4
          have hB7 : Hid (Brr w7 B 3 (1000000000 * P) R) := hB6.out.ext hx4
          replace hc : Hid (Rbr w7 C P (decide (3 = (1 : Int))) R) := hc.out.ext hx4
          clear hw' j2 hNe1 kc hx4 hB6 hRest n1 n2 n3
          cases hfk : ((k : Int) == a3)
          · go_wp2
            go_roundw
            case rel => exact ⟨k + 1, B, R, by go_num, rfl, by omega, by omega, hlo1, hne, hr2, hB7, hc, hx⟩
            case measure => simp [RowKit.intOf]; omega
          · have d3 := hcall.out B R
            replace d3 := show Hid _ from d3
            go_wp2_with fail
            refine (Fork_c B _ _ _ _ hB7.out).mono ?_
            rintro e w8 ⟨D, rfl, hDl, hD, hx1⟩
            have hCl := hc.out.lt
            have hBl := hB7.out.lt
            have hxs := hx.out.size
            replace hx : Hid (Ext w w8) := hx.out.trans hx1
            replace hB7 : Hid (Brr w8 B 3 (1000000000 * P) R) := hB7.out.ext hx1
            replace hc : Hid (Rbr w8 C P (decide (3 = (1 : Int))) R) := hc.out.ext hx1
            replace hD : Hid (Brr w8 D 3 (1000000000 * P) R) := hD
            clear hx1
            go_wp2_with fail
            refine (d3.out _ hB7 hr2 7 1000000000 100).mono ?_
            rintro e w9 ⟨rfl, hx1⟩
            replace hx : Hid (Ext w w9) := hx.out.wrote hlo1 hx1
            replace hc : Hid (Rbr w9 C P (decide (3 = (1 : Int))) R) := hc.out.beside hne hx1
            replace hD : Hid (Brr w9 D 3 (1000000000 * P) R) := hD.out.beside (by omega) hx1
            clear hx1 hB7 d3
            go_wp2
            go_roundw
            case rel => exact ⟨k + 1, D, R, by go_num, rfl, by omega, by omega, by omega, by omega, hr2, hD, hc, hx⟩
            case measure => simp [RowKit.intOf]; omega
        · clear hB hc hcell hcall hcallR
          go_wp2
          go_ret
          exact ⟨rfl, hx.out⟩
      · clear hB hc hcell hcall hcallR
        go_wp2
        go_ret
        exact ⟨rfl, hx.out⟩

set_option maxRecDepth 100000 in
theorem lifted (os : Os) (started : os.Started) (H : Type) (enc : TypeId × Value → H) :
    ReturnsInHanded {} Tryd.checked os 3 .any (fun w args => (Rows.growthBearsSpec.pre enc Tryd.prog Tryd.f3 [] false w args ∧ laidMetH Tryd.prog laid w) ∧ sizedMet enc Tryd.prog Tryd.f3 (OpenSpec.ofChange Rows.growthBearsSpec) false w args)
      (Rows.growthBearsSpec.post enc Tryd.prog Tryd.f3 false true false false) := by
  refine wrap started (by kernel_rfl) Tryd.func3
    (ChangeSpec.witness_shaped (enc := enc) (C := Tryd.checked) (os := os) (X := fun w _ => laidMetH Tryd.prog laid w) false (World.laidAll Tryd.prog os laid) #[.int .i64 0, .int .i64 0, .slice none 0 0, .int .i64 0] 8 (World.laidAll_os _ _ _)
      (World.shaped_of_ZipB (by kernel_rfl) (by kernel_rfl)) (by kernel_rfl) (by kernel_rfl) (by kernel_rfl)
      (by rw [MakeChecks.laidMetH_plain _ _ _ (by kernel_rfl)]; exact laidMet_laidAll _ (by kernel_rfl) (by kernel_rfl))) ?_
  intro W base args ds gs before hval0 hW hE
  have hval : ∀ (j : Nat) t v, Tryd.f3.params[j]? = some t → args[j]? = some v → Value.okWide Tryd.prog W .any base t v := hval0
  have hW' := hW
  obtain ⟨p, q, hA0, hV, rfl, _, _⟩ := hW
  have hA : DataW.TrodAll enc Tryd.prog W 0 (fun _ => true) true Tryd.f3.params.toList args.toList ds p := hA0
  rw [Tryd.params3] at hA hval
  obtain ⟨v0, vs0, d0, ds0, p0, q0, hargs, rfl, rfl, h0, r0⟩ := trodAll_cons hA
  obtain ⟨v1, vs1, d1, ds1, p1, q1, rfl, rfl, rfl, h1, r1⟩ := trodAll_cons r0
  obtain ⟨v2, vs2, d2, ds2, p2, q2, rfl, rfl, rfl, h2, r2⟩ := trodAll_cons r1
  obtain ⟨v3, vs3, d3, ds3, p3, q3, rfl, rfl, rfl, h3, r3⟩ := trodAll_cons r2
  obtain ⟨rfl, rfl, rfl⟩ := trodAll_nil r3
  obtain rfl : args = #[v0, v1, v2, v3] := by cases args; simp_all
  obtain ⟨rfl, rfl⟩ := trodVars_none hV
  obtain ⟨a0, rfl, rfl, rfl, w0⟩ := open_int Tryd.underlying3 (hval 0 3 v0 rfl rfl) h0
  obtain ⟨a1, rfl, rfl, rfl, w1⟩ := open_int Tryd.underlying3 (hval 1 3 v1 rfl rfl) h1
  obtain ⟨l2, s2, n2, b2, t2⟩ := open_slt (hval 2 22 v2 rfl rfl) h2
  obtain ⟨a3, rfl, rfl, rfl, w3⟩ := open_int Tryd.underlying3 (hval 3 3 v3 rfl rfl) h3
  clear hA0 hval0
  simp only [List.append_nil] at hW'
  refine (walk a0 w0 a1 w1 v2 l2 n2 b2 a3 w3 W s2).mono fun e W' ⟨he, hb⟩ => ?_
  subst he
  exact ⟨_, rfl, _, _, _, [], _, [], hW', (trodAll_cons_mk (shut_bool Tryd.underlying4 _) trodAll_mk0), (trodAll_cons_mk (shut_int Tryd.underlying3 w0) (trodAll_cons_mk (shut_int Tryd.underlying3 w1) (trodAll_cons_mk (t2 _ hb) (trodAll_cons_mk (shut_int Tryd.underlying3 w3) trodAll_mk0)))), rfl, hb.below.frame _, fun h => by cases h⟩

theorem over : Rows.growthBearsRow.holds Tryd.pinned (OpenSpec.ofChange Rows.growthBearsSpec) :=
  OpenClaim.holds_of_wide 3 Tryd.f3 rfl rfl rfl rfl rfl rfl rfl ⟨rfl, rfl, rfl, rfl, rfl⟩ rfl rfl rfl rfl rfl (by kernel_rfl) Tryd.func3 (by kernel_rfl)
    (of_decide_eq_true (by kernel_rfl)) (by unfold Func.isWrapper; first | (rw [if_pos (by decide +kernel)]; kernel_rfl) | (rw [if_neg (by decide +kernel)]; exact ⟨rfl, rfl⟩))
    (fun os started H enc _ => lifted os started H enc)
end Go.Proofs.YteedbmmpkgpfhaaDoor.growthBears
namespace Go.Proofs.YteedbmmpkgpfhaaDoor
theorem growthBears_holds : Rows.GrowthBearsCardSaid :=
  Claim7.holds_tied_plain_at .later [] [.data] true (true, "225b0824fabe58f814383c228e1f1ee1b73c46497dda64b3ca6af21c7fd91e33") true growthBears.over (fun _ h => by cases h) (by kernel_rfl) (fun _ h => by cases h) growthBears_row_tie rfl ⟨rfl, rfl⟩ (by kernel_rfl) rfl
    (fun f fn hf hfn => by
      obtain rfl : f = 3 := Option.some.inj ((show Tryd.prog.funcNamed "quittance/quittancelaw12.GrowthBears" = some 3 by kernel_rfl).symm.trans hf) |>.symm
      obtain rfl : fn = Tryd.f3 := (Option.some.inj (Tryd.func3.symm.trans hfn)).symm
      exact ⟨by kernel_rfl, fun j t ht => by
        rw [Tryd.params3] at ht
        have hm : t ∈ [3, 3, 22, 3] := by simpa using Array.mem_of_getElem? ht
        have hall : ([3, 3, 22, 3].all fun u => !Tryd.prog.wantsStandIn u) = true := by kernel_rfl
        exact (show Tryd.prog.wantsStandIn t = false by simpa using List.all_eq_true.1 hall t hm)⟩)
    (by kernel_rfl)
#print axioms growthBears_holds
end Go.Proofs.YteedbmmpkgpfhaaDoor
