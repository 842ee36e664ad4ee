
/- From a plain row of the seat to its walk: a product among the arguments: no statement of the seat is proved here. -/
import Derived.Test.YtafjmpaefikdcaaGreatDoorL8Frame
import Derived.Test.YtafjmpaefikdcaaGreatDoorL8Pr13
import Derived.Deep.SlicePairs
import Derived.Carry
namespace Go.Proofs.YtafjmpaefikdcaaGreatDoor.L8
open Go.RowKit Go.ChangeShapes Go.WideShapes Go.ChangeAt

theorem laidOut : laidOutB Tryz.prog = true := by kernel_rfl
/-- The number in a cell. -/
def numV : Value → Int
  | .int _ n => n
  | _ => 0
theorem cells_i64 : Tryz.prog.cellsOf 2 = 1 := by kernel_rfl
theorem cells_str : Tryz.prog.cellsOf 9 = 1 := by kernel_rfl
theorem cells_rs : Tryz.prog.cellsOf 22 = 1 := by kernel_rfl
theorem cells_lt : Tryz.prog.cellsOf 24 = 1 := by kernel_rfl
theorem cells_hd : Tryz.prog.cellsOf 25 = 1 := by kernel_rfl
theorem cells_or : Tryz.prog.cellsOf 23 = 4 := by kernel_rfl
/-- A slice of pairs, read: its pairs. -/
theorem read_rs {H : Type} {enc : TypeId × Value → H} {W : World} {sp : Nat → Bool} {fuel : Nat} {v : Value} {x : DataW H × List MemPlace} (h : DataW.trod enc Tryz.prog W 0 sp true fuel 22 [v] = some x) :
    ∃ l : List (Int × Int), Slp W v l ∧ l.length ≤ maxLen := by
  rcases Go.Deep.open_slice_pairs (e := 89) Tryz.underlying22 Tryz.underlying89 (by kernel_rfl) rfl rfl (by kernel_rfl) (by kernel_rfl) h with ⟨hcs, _⟩ | ⟨a, len, cap, m, n, V0, V1, D0, D1, P0, P1, hcs, _, hl, hm, hmm, _, hx⟩
  · obtain rfl : v = .slice none 0 0 := by simpa using hcs
    exact ⟨[], Or.inl ⟨none, 0, rfl, (fun _ => rfl), rfl⟩, Nat.zero_le _⟩
  · obtain rfl : v = .slice (some a) len cap := by simpa using hcs
    have hlm : len ≤ m := by rw [hmm]; split <;> omega
    by_cases hl0 : len = 0
    · subst hl0
      exact ⟨[], Or.inl ⟨some a, cap, rfl, (fun h => by cases h), rfl⟩, Nat.zero_le _⟩
    · refine ⟨(List.range len).map fun i => (numV (V0 i), numV (V1 i)), ?_, by simp; omega⟩
      obtain ⟨b, off, spot⟩ := a
      have hspot : spot = none := by simpa [Addr.add] using World.cell?_spot (hx 0 (by omega)).1
      subst hspot
      refine Or.inr ⟨b, off, cap, by simp, fun k x y hk => ?_⟩
      have hk' : k < len := by
        have := (List.getElem?_eq_some_iff.1 hk).1
        simpa using this
      obtain ⟨c0, c1, t0, t1⟩ := hx k (by omega)
      obtain ⟨u0, e0, _, _⟩ := DataW.trod_int Tryz.underlying3 t0
      obtain ⟨u1, e1, _, _⟩ := DataW.trod_int Tryz.underlying2 t1
      have e0' : V0 k = .int .i64 u0 := by simpa using e0
      have e1' : V1 k = .int .i64 u1 := by simpa using e1
      have hxy : (numV (V0 k), numV (V1 k)) = (x, y) := by simpa [hk'] using hk
      rw [e0', e1'] at hxy
      obtain ⟨rfl, rfl⟩ : u0 = x ∧ u1 = y := by simpa [numV] using hxy
      rw [add_plain] at c0 c1
      rw [e0'] at c0
      rw [e1'] at c1
      exact ⟨c0, by simpa [Nat.add_assoc] using c1⟩
/-- A slice of pairs, read: its pairs. -/
theorem read_lt {H : Type} {enc : TypeId × Value → H} {W : World} {sp : Nat → Bool} {fuel : Nat} {v : Value} {x : DataW H × List MemPlace} (h : DataW.trod enc Tryz.prog W 0 sp true fuel 24 [v] = some x) :
    ∃ l : List (Int × Int), Slp W v l ∧ l.length ≤ maxLen := by
  rcases Go.Deep.open_slice_pairs (e := 91) Tryz.underlying24 Tryz.underlying91 (by kernel_rfl) rfl rfl (by kernel_rfl) (by kernel_rfl) h with ⟨hcs, _⟩ | ⟨a, len, cap, m, n, V0, V1, D0, D1, P0, P1, hcs, _, hl, hm, hmm, _, hx⟩
  · obtain rfl : v = .slice none 0 0 := by simpa using hcs
    exact ⟨[], Or.inl ⟨none, 0, rfl, (fun _ => rfl), rfl⟩, Nat.zero_le _⟩
  · obtain rfl : v = .slice (some a) len cap := by simpa using hcs
    have hlm : len ≤ m := by rw [hmm]; split <;> omega
    by_cases hl0 : len = 0
    · subst hl0
      exact ⟨[], Or.inl ⟨some a, cap, rfl, (fun h => by cases h), rfl⟩, Nat.zero_le _⟩
    · refine ⟨(List.range len).map fun i => (numV (V0 i), numV (V1 i)), ?_, by simp; omega⟩
      obtain ⟨b, off, spot⟩ := a
      have hspot : spot = none := by simpa [Addr.add] using World.cell?_spot (hx 0 (by omega)).1
      subst hspot
      refine Or.inr ⟨b, off, cap, by simp, fun k x y hk => ?_⟩
      have hk' : k < len := by
        have := (List.getElem?_eq_some_iff.1 hk).1
        simpa using this
      obtain ⟨c0, c1, t0, t1⟩ := hx k (by omega)
      obtain ⟨u0, e0, _, _⟩ := DataW.trod_int Tryz.underlying3 t0
      obtain ⟨u1, e1, _, _⟩ := DataW.trod_int Tryz.underlying2 t1
      have e0' : V0 k = .int .i64 u0 := by simpa using e0
      have e1' : V1 k = .int .i64 u1 := by simpa using e1
      have hxy : (numV (V0 k), numV (V1 k)) = (x, y) := by simpa [hk'] using hk
      rw [e0', e1'] at hxy
      obtain ⟨rfl, rfl⟩ : u0 = x ∧ u1 = y := by simpa [numV] using hxy
      rw [add_plain] at c0 c1
      rw [e0'] at c0
      rw [e1'] at c1
      exact ⟨c0, by simpa [Nat.add_assoc] using c1⟩
/-- A slice of ints, read: its numbers. -/
theorem read_hd {H : Type} {enc : TypeId × Value → H} {W : World} {sp : Nat → Bool} {fuel : Nat} {v : Value} {x : DataW H × List MemPlace} (h : DataW.trod enc Tryz.prog W 0 sp true fuel 25 [v] = some x) :
    ∃ l : List Int, Slc W v l ∧ l.length ≤ maxLen := by
  rcases open_ints Tryz.underlying25 Tryz.underlying3 cells_int h with ⟨hcs, _⟩ | ⟨a, len, cap, zs, hcs, _, hl, hm, hz, _, hcell, _⟩
  · obtain rfl : v = .slice none 0 0 := by simpa using hcs
    exact ⟨[], Or.inl ⟨none, 0, rfl, (fun _ => rfl), rfl⟩, Nat.zero_le _⟩
  · obtain rfl : v = .slice (some a) len cap := by simpa using hcs
    have hlz : len ≤ zs.length := by rw [hz]; split <;> omega
    by_cases hl0 : len = 0
    · subst hl0
      exact ⟨[], Or.inl ⟨some a, cap, rfl, (fun h => by cases h), rfl⟩, Nat.zero_le _⟩
    · refine ⟨zs.take len, ?_, by simp; omega⟩
      obtain ⟨b, off, spot⟩ := a
      have hspot : spot = none := by simpa [Addr.add] using World.cell?_spot (hcell 0 (by omega))
      subst hspot
      refine Or.inr ⟨b, off, cap, by rw [List.length_take, Nat.min_eq_left (by omega)], fun k x hk => ?_⟩
      have hk' : k < len := by
        have := (List.getElem?_eq_some_iff.1 hk).1
        simp at this; omega
      have := hcell k (by omega)
      rw [List.getElem?_take_of_lt hk'] at hk
      rw [add_plain] at this
      simpa [List.getD, hk] using this
/-- How long a product's parts may be. -/
structure Fits (nm : List UInt8) (rs lt : List (Int × Int)) (hd : List Int) : Prop where
  nm : nm.length ≤ maxLen
  rs : rs.length ≤ maxLen
  lt : lt.length ≤ maxLen
  hd : hd.length ≤ maxLen
set_option maxRecDepth 100000 in
set_option maxHeartbeats 1000000 in
theorem open_prod {H : Type} {enc : TypeId × Value → H} {W : World} {b0 : Nat} {v : Value} {d : DataW H} {ps : List MemPlace}
    (hval : Value.okWide Tryz.prog W .any b0 27 v) (h : DataW.Trod enc Tryz.prog W 0 (fun _ => true) true 27 v d ps) :
    ∃ (nm : List UInt8) (cn rd kd ev tm gr rt : Int) (vr : Value) (rs : List (Int × Int)) (pn o0 o1 o2 o3 ov : Int) (vl : Value) (lt : List (Int × Int)) (cp rl : Int) (vh : Value) (hd : List Int), v = .agg #[.string ⟨nm.toArray⟩, .int .i64 cn, .int .i64 rd, .int .i64 kd, .int .i64 ev, .int .i64 tm, .int .i64 gr, .int .i64 rt, vr, .int .i64 pn, .int .i64 o0, .int .i64 o1, .int .i64 o2, .int .i64 o3, .int .i64 ov, vl, .int .i64 cp, .int .i64 rl, vh] ∧ Fits nm rs lt hd ∧ Slp W vr rs ∧ Slp W vl lt ∧ Slc W vh hd ∧
      ∀ W' : World, Ext W W' → DataW.Trod enc Tryz.prog W' 0 (fun b => decide (b < W.heap.size)) true 27 v d ps := by
  have hshut : ∀ W' : World, Ext W W' → DataW.Trod enc Tryz.prog W' 0 (fun b => decide (b < W.heap.size)) true 27 v d ps := fun W' hX =>
    Below.trod laidOut (by kernel_rfl) (of_decide_eq_true (by kernel_rfl)) h hX.below (by
      obtain ⟨fuel, hf⟩ := h
      exact DataW.trod_lt fuel _ _ _ hf)
  have hc : Tryz.prog.cellsOf 27 = 19 := by kernel_rfl
  obtain ⟨cs, rfl, hsz⟩ := okWide_struct Tryz.underlying27 hval
  rw [hc] at hsz
  obtain ⟨l⟩ := cs
  match l, hsz with
  | [c0, c1, c2, c3, c4, c5, c6, c7, c8, c9, c10, c11, c12, c13, c14, c15, c16, c17, c18], _ =>
    obtain ⟨fuel, hf⟩ := h
    obtain ⟨xs, n, _, _, _, hl, hy⟩ := DataW.trod_struct Tryz.underlying27 hf
    match xs, hl with
    | [y0, y1, y2, y3, y4, y5, y6, y7, y8, y9, y10, y11, y12, y13, y14, y15], _ =>
      have g0 := hy 0 _ rfl
      have g1 := hy 1 _ rfl
      have g2 := hy 2 _ rfl
      have g3 := hy 3 _ rfl
      have g4 := hy 4 _ rfl
      have g5 := hy 5 _ rfl
      have g6 := hy 6 _ rfl
      have g7 := hy 7 _ rfl
      have g8 := hy 8 _ rfl
      have g9 := hy 9 _ rfl
      have g10 := hy 10 _ rfl
      have g11 := hy 11 _ rfl
      have g12 := hy 12 _ rfl
      have g13 := hy 13 _ rfl
      have g14 := hy 14 _ rfl
      have g15 := hy 15 _ rfl
      simp only [Value.cells, List.getElem?_cons_zero, List.getElem?_cons_succ] at g0 g1 g2 g3 g4 g5 g6 g7 g8 g9 g10 g11 g12 g13 g14 g15
      obtain ⟨⟨⟨nm⟩⟩, e0, _, hnm⟩ := DataW.trod_string Tryz.underlying9 g0
      simp [cells_str] at e0
      obtain ⟨cn, e1, _, _⟩ := DataW.trod_int Tryz.underlying3 g1
      simp [cells_int] at e1
      obtain ⟨rd, e2, _, _⟩ := DataW.trod_int Tryz.underlying3 g2
      simp [cells_int] at e2
      obtain ⟨kd, e3, _, _⟩ := DataW.trod_int Tryz.underlying3 g3
      simp [cells_int] at e3
      obtain ⟨ev, e4, _, _⟩ := DataW.trod_int Tryz.underlying3 g4
      simp [cells_int] at e4
      obtain ⟨tm, e5, _, _⟩ := DataW.trod_int Tryz.underlying3 g5
      simp [cells_int] at e5
      obtain ⟨gr, e6, _, _⟩ := DataW.trod_int Tryz.underlying3 g6
      simp [cells_int] at e6
      obtain ⟨rt, e7, _, _⟩ := DataW.trod_int Tryz.underlying2 g7
      simp [cells_i64] at e7
      replace g8 : DataW.trod enc Tryz.prog W 0 (fun _ => true) true n 22 [c8] = some y8 := by
        have e : (List.drop 8 [c0, c1, c2, c3, c4, c5, c6, c7, c8, c9, c10, c11, c12, c13, c14, c15, c16, c17, c18]).take (Tryz.prog.cellsOf 22) = [c8] := by rw [cells_rs]; rfl
        rw [← e]; exact g8
      obtain ⟨rs, sr, nr⟩ := read_rs g8
      obtain ⟨pn, e9, _, _⟩ := DataW.trod_int Tryz.underlying2 g9
      simp [cells_i64] at e9
      replace g10 : DataW.trod enc Tryz.prog W 0 (fun _ => true) true n 23 [c10, c11, c12, c13] = some y10 := by
        have e : (List.drop 10 [c0, c1, c2, c3, c4, c5, c6, c7, c8, c9, c10, c11, c12, c13, c14, c15, c16, c17, c18]).take (Tryz.prog.cellsOf 23) = [c10, c11, c12, c13] := by rw [cells_or]; rfl
        rw [← e]; exact g10
      obtain ⟨zs, m, _, _, _, hzl, hz⟩ := DataW.trod_array Tryz.underlying23 g10
      match zs, hzl with
      | [z0, z1, z2, z3], _ =>
      have k0 : DataW.trod enc Tryz.prog W 0 (fun _ => true) true m 3 [c10] = some z0 := by
        have := hz 0 (by omega)
        rw [cells_int] at this
        exact this
      obtain ⟨o0, f0, _, _⟩ := DataW.trod_int Tryz.underlying3 k0
      simp only [List.cons.injEq, and_true] at f0
      have k1 : DataW.trod enc Tryz.prog W 0 (fun _ => true) true m 3 [c11] = some z1 := by
        have := hz 1 (by omega)
        rw [cells_int] at this
        exact this
      obtain ⟨o1, f1, _, _⟩ := DataW.trod_int Tryz.underlying3 k1
      simp only [List.cons.injEq, and_true] at f1
      have k2 : DataW.trod enc Tryz.prog W 0 (fun _ => true) true m 3 [c12] = some z2 := by
        have := hz 2 (by omega)
        rw [cells_int] at this
        exact this
      obtain ⟨o2, f2, _, _⟩ := DataW.trod_int Tryz.underlying3 k2
      simp only [List.cons.injEq, and_true] at f2
      have k3 : DataW.trod enc Tryz.prog W 0 (fun _ => true) true m 3 [c13] = some z3 := by
        have := hz 3 (by omega)
        rw [cells_int] at this
        exact this
      obtain ⟨o3, f3, _, _⟩ := DataW.trod_int Tryz.underlying3 k3
      simp only [List.cons.injEq, and_true] at f3
      obtain ⟨ov, e11, _, _⟩ := DataW.trod_int Tryz.underlying3 g11
      simp [cells_int] at e11
      replace g12 : DataW.trod enc Tryz.prog W 0 (fun _ => true) true n 24 [c15] = some y12 := by
        have e : (List.drop 15 [c0, c1, c2, c3, c4, c5, c6, c7, c8, c9, c10, c11, c12, c13, c14, c15, c16, c17, c18]).take (Tryz.prog.cellsOf 24) = [c15] := by rw [cells_lt]; rfl
        rw [← e]; exact g12
      obtain ⟨lt, sl, nl⟩ := read_lt g12
      obtain ⟨cp, e13, _, _⟩ := DataW.trod_int Tryz.underlying2 g13
      simp [cells_i64] at e13
      obtain ⟨rl, e14, _, _⟩ := DataW.trod_int Tryz.underlying3 g14
      simp [cells_int] at e14
      replace g15 : DataW.trod enc Tryz.prog W 0 (fun _ => true) true n 25 [c18] = some y15 := by
        have e : (List.drop 18 [c0, c1, c2, c3, c4, c5, c6, c7, c8, c9, c10, c11, c12, c13, c14, c15, c16, c17, c18]).take (Tryz.prog.cellsOf 25) = [c18] := by rw [cells_hd]; rfl
        rw [← e]; exact g15
      obtain ⟨hd, sh, nh⟩ := read_hd g15
      subst e0 e1 e2 e3 e4 e5 e6 e7 e9 f0 f1 f2 f3 e11 e13 e14
      exact ⟨nm, cn, rd, kd, ev, tm, gr, rt, c8, rs, pn, o0, o1, o2, o3, ov, c15, lt, cp, rl, c18, hd, rfl, ⟨by simpa [ByteArray.size] using hnm, nr, nl, nh⟩, sr, sl, sh, hshut⟩
end Go.Proofs.YtafjmpaefikdcaaGreatDoor.L8