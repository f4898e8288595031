/-
  scrimlaw05.DigitsParses, walked.
-/
import Derived.Test.YtokdaagjkhkinaaGreatDoorMF
import Derived.Test.YtokdaagjkhkinaaGreatDoorMGh
import Derived.Deep.CutBlock
import Derived.Deep.DeepCutAuto
namespace Go.Proofs.YtokdaagjkhkinaaGreatDoor
open Go.RowKit Num

attribute [local go_sem ↓] Go.wp_at_zero Go.wp_at_succ

theorem parsed_ex' (l : List UInt8) : ∃ T B E, ParsedPost l = ResPost T B E := ⟨_, _, _, rfl⟩

set_option maxRecDepth 20000 in
set_option maxHeartbeats 4000000 in
theorem parses_walk (s : ByteArray) (hs : s.size ≤ 9223372036854775807) (w : World) :
    Calls Tryz.prog 4 #[.string s] w (Says (.bool true) w) := by
  go_enter Tryz.func4, Tryz.ntmps4
  go_upto_if 9 with fail
  go_cut [0] (fun v wx => ∃ u, v = .string u ∧ u.size ≤ 450 ∧ w = wx)
  case first =>
    by_cases h : 450 < s.size
    · have hd : decide ((450 : Int) < (s.size : Int)) = true := by rw [decide_eq_true_iff]; omega
      have g2 : (450 : Int) ≤ (s.size : Int) := by omega
      have g1 : 450 ≤ s.size := by omega
      rw [hd]
      clear h
      go_wp2_with fail
      go_meet
      exact ⟨_, rfl, by rw [ByteArray.size_extract]; omega, rfl⟩
    · have hd : decide ((450 : Int) < (s.size : Int)) = false := by rw [decide_eq_false_iff_not]; omega
      have h' := Lib.hid h
      rw [hd]
      clear h
      go_wp2_with fail
      go_meet
      exact ⟨_, rfl, by have := h'.out; omega, rfl⟩
  case rest =>
    obtain ⟨u, rfl, hu, rfl⟩ := hcut
    obtain ⟨T, B, E, hP⟩ := parsed_ex' u.data.toList
    have c := parse5_any u
    have d := refParse5_any u (by omega)
    rw [hP] at c d
    clear hP
    go_wp2_with fail
    refine (c _).mono ?_
    rintro e w1 ⟨ab, ap, an, ac, aq, am, ae, rfl, hA, bb1⟩
    have hA' := Lib.hid hA; have bb1' := Lib.hid bb1
    clear hA bb1 c
    go_wp2_with fail
    refine gen_calls (fun w' => Below w.heap.size w w' ∧ Box3 w' w1.heap.size (.bool ab) (.slice ap an ac) (.slice aq am ae) ∧ Rt w' ab ap an ac aq am ae T B)
      ⟨bb1'.out.alloc bb1'.out.size _, Box3.new _ _ _ _ rfl, hA'.out.alloc _⟩ ?_
    clear hA' bb1'
    rintro w2 ⟨b2, x2, A2⟩
    refine (d _).mono ?_
    rintro e w3 ⟨cb, cp, cn, cc, cq, cm, ce, rfl, hB, hb⟩
    have b3' := Lib.hid (below_then b2 (Nat.le_refl _) hb)
    have x3' := Lib.hid (x2.later hb)
    have A3' := Lib.hid (A2.below hb)
    have B3' := Lib.hid hB
    clear b2 x2 A2 hB hb d
    go_upto_region 5 with fail
    refine gen_wp (fun w' => Below w.heap.size w w' ∧ Box3 w' w1.heap.size (.bool ab) (.slice ap an ac) (.slice aq am ae) ∧ Rt w' ab ap an ac aq am ae T B ∧ Box3 w' w3.heap.size (.bool cb) (.slice cp cn cc) (.slice cq cm ce) ∧ Rt w' cb cp cn cc cq cm ce T B)
      ⟨b3'.out.alloc b3'.out.size _, x3'.out.alloc _, A3'.out.alloc _, Box3.new _ _ _ _ rfl, B3'.out.alloc _⟩ ?_
    clear b3' x3' A3' B3'
    rintro w4 ⟨b4, x4, A4, y4, B4⟩
    have b4' := Lib.hid b4; have A4' := Lib.hid A4; have B4' := Lib.hid B4
    have p0 := x4.c0; have p1 := x4.c1; have p2 := x4.c2
    have q0 := y4.c0; have q1 := y4.c1; have q2 := y4.c2
    clear b4 x4 A4 y4 B4
    go_wp2_with fail
    refine (same4_any ab ap aq an ac am ae T B cb cp cq cn cc cm ce _ A4'.out B4'.out).mono ?_
    rintro e w5 ⟨rfl, hb⟩
    have b5' := Lib.hid (below_then b4'.out (Nat.le_refl _) hb)
    clear hb b4' A4' B4' p0 p1 p2 q0 q1 q2
    go_wp2_with fail
    refine (awake5_any _).mono ?_
    rintro e w6 ⟨rfl, hb⟩
    have b6' := Lib.hid (below_then b5'.out (Nat.le_refl _) hb)
    clear hb b5'
    go_wp2_with fail
    go_ret
    exact ⟨rfl, b6'.out⟩

end Go.Proofs.YtokdaagjkhkinaaGreatDoor
