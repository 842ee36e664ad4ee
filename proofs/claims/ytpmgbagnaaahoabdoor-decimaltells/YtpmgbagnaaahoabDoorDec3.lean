/- What number of package decimal does, as a contract: no statement of the seat is proved here. -/
import Derived.Test.YtpmgbagnaaahoabDoorDec2
import Derived.Lib.ConvBytes
namespace Go.Proofs.YtpmgbagnaaahoabDoor
open Go.RowKit Go.Lib
set_option linter.unusedVariables false

theorem bytes_ext (w : World) (e : TypeId) (s : ByteArray) : Ext w (Lib.bytesWorld w e s) :=
  ⟨⟨rfl, rfl, rfl, by rw [Lib.bytesWorld_size]; omega, fun k hk => Lib.bytesWorld_at_old w e s k hk⟩⟩
theorem valL_take (l : List UInt8) (k : Nat) : valL (l.take k) ≤ valL l := by
  have h := valL_append (l.take k) (l.drop k)
  rw [List.take_append_drop] at h
  have : valL (l.take k) * 1 ≤ valL (l.take k) * 10 ^ (l.drop k).length := Nat.mul_le_mul_left _ (Nat.pos_of_ne_zero (by simp))
  omega
theorem times10 (x y : Nat) (hy : y = 10 * x) (w : World) (h10 : y ≤ 1000000000000000) :
    Calls Tryd.prog 41 #[.int .i64 (x : Int), .int .i64 10] w fun e w' => e = .returned (.tuple #[.int .i64 (y : Int), .int .i64 0]) ∧ Ext w w' := by
  refine (times_ok (x : Int) 10 w ⟨by omega, by omega⟩ ⟨by omega, by omega⟩ (by unfold mag; simp; omega)).mono ?_
  rintro e w' ⟨rfl, hx⟩
  exact ⟨by rw [show (x : Int) * 10 = (y : Int) by omega], hx⟩
theorem plus10 (y d z : Nat) (hz : z = y + d) (w : World) (h : z ≤ 1000000000000000) :
    Calls Tryd.prog 42 #[.int .i64 (y : Int), .int .i64 (d : Int)] w fun e w' => e = .returned (.tuple #[.int .i64 (z : Int), .int .i64 0]) ∧ Ext w w' := by
  refine (plus_ok (y : Int) (d : Int) w (by omega) (by omega) (by omega) (by omega) (by omega) (by omega)).mono ?_
  rintro e w' ⟨rfl, hx⟩
  exact ⟨by rw [show (y : Int) + (d : Int) = (z : Int) by omega], hx⟩
theorem plus10_no (y d : Nat) (w : World) (hy : y ≤ 1000000000000000) (hd : d ≤ 9) (h : 1000000000000000 < y + d) :
    Calls Tryd.prog 42 #[.int .i64 (y : Int), .int .i64 (d : Int)] w fun e w' => e = .returned (.tuple #[.int .i64 0, .int .i64 3]) ∧ Ext w w' :=
  plus_noS (y : Int) (d : Int) w (by omega) (by omega) (by omega) (by omega) (by omega)
theorem times10_no (x : Nat) (w : World) (h : x ≤ 1000000000000000) (h10 : 1000000000000000 < x * 10) :
    Calls Tryd.prog 41 #[.int .i64 (x : Int), .int .i64 10] w fun e w' => e = .returned (.tuple #[.int .i64 0, .int .i64 3]) ∧ Ext w w' :=
  times_no (x : Int) 10 w ⟨by omega, by omega⟩ ⟨by omega, by omega⟩ (by unfold mag; simp; omega)

set_option maxHeartbeats 1000000 in
theorem number_any (l : List UInt8) (w : World) (hl : l.length ≤ 100) (ha : l.all isD = true) :
    Calls Tryd.prog 25 #[.string ⟨l.toArray⟩] w fun e w' => ((valL l ≤ 1000000000000000 ∧ e = .returned (.int .i64 (valL l : Nat))) ∨ (1000000000000000 < valL l ∧ e = .panicked [{ v := .iface 23 (.int .i64 3), recovered := false }])) ∧ Ext w w' := by
  have hcv := fun (w : World) (s : ByteArray) => Lib.run_convert_string_bytes (P := Tryd.prog) w 9 58 5 s Tryd.underlying9 Tryd.underlying58 Tryd.underlying5
  have HA := show Hid _ from ha
  clear ha
  go_enter Tryd.func25, Tryd.ntmps25
  go_wp2
  go_loopw [3, 9] (fun v i wr => ∃ k : Nat, k ≤ l.length ∧ i = .int .i64 k ∧ v = .int .i64 (valL (l.take k) : Nat) ∧ valL (l.take k) ≤ 1000000000000000 ∧ Hid (Ext (Lib.bytesWorld w 5 ⟨l.toArray⟩) wr)) (fun _ i _ => l.length - (RowKit.intOf i).toNat)
  case atStart => exact ⟨0, Nat.zero_le _, rfl, rfl, Nat.zero_le _, Ext.refl _⟩
  case round =>
    obtain ⟨k, hk, rfl, rfl, hb, hx⟩ := hrel
    clear hcv
    by_cases hlt : k < l.length
    · obtain ⟨c, hc⟩ : ∃ c, l[k]? = some c := ⟨l[k], List.getElem?_eq_getElem hlt⟩
      have hd : isD c = true := all_mem HA.out (List.mem_of_getElem? hc)
      have hr := isD_range hd
      have hstep : valL (l.take (k + 1)) = 10 * valL (l.take k) + (c.toNat - 48) := by
        rw [List.take_add_one, hc, Option.toList_some, valL_snoc]
      have hle := valL_take l (k + 1)
      have hcell : wr.cell? ⟨w.heap.size, k, none⟩ = some (.int .u8 (c.toNat : Int)) := by
        rw [hx.out.cell _ _ (by rw [Lib.bytesWorld_size]; omega), Lib.bytesWorld_cell _ _ _ _ (by rw [Lib.size_mk]; exact hlt)]
        simp [List.getD, hc]
      have hltI : (k : Int) < (l.length : Int) := by omega
      have hk0 : (0 : Int) ≤ (k : Int) := by omega
      have hwk : wrap64 ((k : Int) + 1) = (k : Int) + 1 := by unfold wrap64; omega
      have hw8 : IntKind.u8.wrap ((c.toNat : Int) - 48) = ((c.toNat - 48 : Nat) : Int) := by
        rw [IntKind.wrap_u8]; omega
      have HC := show Hid _ from hc
      have HD := show Hid _ from hd
      have HS := show Hid _ from hstep
      have HL := show Hid _ from hle
      have HR := show Hid _ from hr
      clear hc hd hstep hle hr
      generalize hX : valL (l.take k) = X at *
      have HX := show Hid _ from hX
      clear hX
      obtain ⟨D, hDn⟩ : ∃ D : Nat, D = c.toNat - 48 := ⟨_, rfl⟩
      have hD9 : D ≤ 9 := by have := HR.out; omega
      rw [← hDn] at HS hw8
      replace hDn := show Hid _ from hDn
      obtain ⟨Y, hY⟩ : ∃ Y : Nat, Y = 10 * X := ⟨_, rfl⟩
      obtain ⟨Z, hZ⟩ : ∃ Z : Nat, Z = Y + D := ⟨_, rfl⟩
      have hZs : valL (l.take (k + 1)) = Z := by have := HS.out; omega
      replace hY := show Hid _ from hY
      replace hZ := show Hid _ from hZ
      replace hZs := show Hid _ from hZs
      replace hb := show Hid _ from hb
      have HX0 := show Hid _ from hx.out.below.size
      by_cases h10 : Y ≤ 1000000000000000
      · replace h10 := show Hid _ from h10
        by_cases hs : Z ≤ 1000000000000000
        · replace hs := show Hid _ from hs
          go_wp2_with fail
          refine (times10 X Y hY.out _ h10.out).mono ?_
          rintro e w1 ⟨rfl, hx1⟩
          go_wp2_with fail
          refine (sure_ok _ _).mono ?_
          rintro e w2 ⟨rfl, rfl⟩
          go_wp2_with fail
          refine (plus10 Y D Z hZ.out _ hs.out).mono ?_
          rintro e w3 ⟨rfl, hx3⟩
          go_wp2_with fail
          refine (sure_ok _ _).mono ?_
          rintro e w4 ⟨rfl, rfl⟩
          clear hcell hw8
          go_wp2
          go_roundw
          case rel => exact ⟨k + 1, by omega, by go_num, by rw [hZs.out], by rw [hZs.out]; exact hs.out, (hx.out.trans hx1).trans hx3⟩
          case measure => simp [RowKit.intOf]; omega
        · replace hs : Hid (1000000000000000 < Z) := by show 1000000000000000 < Z; omega
          go_wp2_with fail
          refine (times10 X Y hY.out _ h10.out).mono ?_
          rintro e w1 ⟨rfl, hx1⟩
          go_wp2_with fail
          refine (sure_ok _ _).mono ?_
          rintro e w2 ⟨rfl, rfl⟩
          go_wp2_with fail
          refine (plus10_no Y D _ h10.out hD9 (by have := hs.out; have := hZ.out; omega)).mono ?_
          rintro e w3 ⟨rfl, hx3⟩
          go_wp2_with fail
          refine (sure_no _).mono ?_
          rintro e w4 ⟨rfl, rfl⟩
          clear hcell hw8
          go_wp2
          exact ⟨rfl, Or.inr ⟨by have := hs.out; have := hZs.out; have := HL.out; omega, rfl⟩, (((bytes_ext _ _ _).trans hx.out).trans hx1).trans hx3⟩
      · replace h10 : Hid (1000000000000000 < Y) := by show 1000000000000000 < Y; omega
        go_wp2_with fail
        refine (times10_no X _ hb.out (by have := h10.out; have := hY.out; omega)).mono ?_
        rintro e w1 ⟨rfl, hx1⟩
        go_wp2_with fail
        refine (sure_no _).mono ?_
        rintro e w2 ⟨rfl, rfl⟩
        clear hcell hw8
        go_wp2
        exact ⟨rfl, Or.inr ⟨by have := h10.out; have := hZ.out; have := hZs.out; have := HL.out; omega, rfl⟩, ((bytes_ext _ _ _).trans hx.out).trans hx1⟩
    · have hkl : k = l.length := by omega
      subst hkl
      have e1 : l.take l.length = l := List.take_length
      rw [e1] at hb ⊢
      go_wp2
      go_ret
      exact ⟨Or.inl ⟨hb, rfl⟩, (bytes_ext _ _ _).trans hx.out⟩

theorem number_ok (l : List UInt8) (w : World) (hl : l.length ≤ 100) (ha : l.all isD = true) (n : Nat) (hn : valL l = n) (hv : n ≤ 1000000000000000) :
    Calls Tryd.prog 25 #[.string ⟨l.toArray⟩] w fun e w' => e = .returned (.int .i64 (n : Int)) ∧ Ext w w' := by
  refine (number_any l w hl ha).mono ?_
  rintro e w' ⟨h, hx⟩
  rcases h with ⟨_, rfl⟩ | ⟨h, _⟩
  · exact ⟨by rw [hn], hx⟩
  · omega
theorem number_no (l : List UInt8) (w : World) (hl : l.length ≤ 100) (ha : l.all isD = true) (hv : 1000000000000000 < valL l) :
    Calls Tryd.prog 25 #[.string ⟨l.toArray⟩] w fun e w' => e = .panicked [{ v := .iface 23 (.int .i64 3), recovered := false }] ∧ Ext w w' := by
  refine (number_any l w hl ha).mono ?_
  rintro e w' ⟨h, hx⟩
  rcases h with ⟨h, _⟩ | ⟨_, rfl⟩
  · omega
  · exact ⟨rfl, hx⟩
end Go.Proofs.YtpmgbagnaaahoabDoor
