/-
  scrimlaw05.DigitsPrints, walked.
-/
import Derived.Test.YtokdaagjkhkinaaGreatDoorMF
import Derived.Test.YtokdaagjkhkinaaGreatDoorMGf
namespace Go.Proofs.YtokdaagjkhkinaaGreatDoor
open Go.RowKit Num

attribute [local go_sem ↓] Go.wp_at_zero Go.wp_at_succ

theorem trimPrefix_len (l p : List UInt8) : (Lib.trimPrefix l p).length ≤ l.length := by
  unfold Lib.trimPrefix
  split
  · rw [List.length_drop]; omega
  · exact Nat.le_refl _

theorem printed_parsed {P : Int} {Q : Nat} {l : List UInt8} (x : Printed P Q l) (lw : Low P Q) (h : l.length ≤ 400) : ParsedPost l = ResPost P Q 0 := by
  obtain ⟨h1, h2⟩ := x.read lw
  have h3 := trimPrefix_len l [194, 175]
  unfold ParsedPost ReadPost
  rw [h1, rd_some (by omega) h2, sgn_self]
  obtain ⟨m1, m2, m3⟩ := mk_self lw
  show ResPost (mkT P Q) (mkB P Q) (mkE P Q) = _
  rw [m1, m2, m3]

theorem parsed_ex (l : List UInt8) : ∃ T B E, ParsedPost l = ResPost T B E := ⟨_, _, _, rfl⟩

set_option maxRecDepth 20000 in
set_option maxHeartbeats 4000000 in
theorem prints_walk (ab : Bool) (ap aq : Option Addr) (an ac am ae : Nat) (fa ga : Nat → Nat) (w : World) (Ia : In w ap an ac fa) (Ja : In w aq am ae ga) :
    Calls Tryz.prog 3 #[.agg #[.bool ab, .slice ap an ac, .slice aq am ae]] w (Says (.bool true) w) := by
  replace Ia := Lib.hid Ia; replace Ja := Lib.hid Ja
  go_enter Tryz.func3, Tryz.ntmps3
  go_wp2_with fail
  refine gen_calls (fun w' => Below w.heap.size w w' ∧ Box3 w' w.heap.size (.bool ab) (.slice ap an ac) (.slice aq am ae))
    ⟨((Below.refl _ _).alloc (Nat.le_refl _) _), (Box3.new _ _ _ _ rfl)⟩ ?_
  rintro w0 ⟨b0, x0⟩
  refine (right4_in ab ap aq an ac am ae fa ga _ (Ia.out.below b0) (Ja.out.below b0)).mono ?_
  rintro e w1 ⟨r, rfl, hr, _, hb⟩
  have b1 := Lib.hid (below_then b0 (Nat.le_refl _) hb)
  have x1 := x0.later hb
  have x1' := Lib.hid x1
  have p0 := x1.c0; have p1 := x1.c1; have p2 := x1.c2
  cases r with
  | false =>
    clear b0 x0 x1 hb hr
    go_wp2_with fail
    refine (awake5_any _).mono ?_
    rintro e w2 ⟨rfl, hb⟩
    have b2 := Lib.hid (below_then b1.out (Nat.le_refl _) hb)
    clear hb
    go_wp2_with fail
    go_ret
    exact ⟨rfl, b2.out⟩
  | true =>
    obtain ⟨P, Q, lw, R⟩ := hr rfl
    have R1 := Lib.hid (R.below hb)
    have lw' := Lib.hid lw
    clear b0 x0 x1 hb hr lw R
    go_wp2_with fail
    refine (print5_any ab ap aq an ac am ae P Q _ R1.out lw'.out).mono ?_
    rintro e w2 ⟨s, rfl, hs, hb⟩
    have b2 := Lib.hid (below_then b1.out (Nat.le_refl _) hb)
    have x2 := Lib.hid (x1'.out.later hb)
    have R2 := Lib.hid (R1.out.below hb)
    have hs' := Lib.hid hs
    clear hb hs b1 x1' R1 p0 p1 p2
    go_wp2_with fail
    by_cases h4 : s.size ≤ 400
    · have hP := printed_parsed hs'.out lw'.out (by rw [← Lib.size_eq]; exact h4)
      have hd : decide ((400 : Int) < (s.size : Int)) = false := by rw [decide_eq_false_iff_not]; omega
      have c := parse5_any s w2
      rw [hP] at c
      clear hP h4
      refine c.mono ?_
      rintro e w3 ⟨cb, cp, cn, cc, cq, cm, ce, rfl, hB, hb⟩
      have b3 := Lib.hid (below_then b2.out (Nat.le_refl _) hb)
      have x3 := Lib.hid (x2.out.later hb)
      have R3 := Lib.hid (R2.out.below hb)
      have B3 := Lib.hid hB
      clear hb hB c b2 x2 R2
      go_upto_region 5 with fail
      refine gen_wp (fun w' => Below w.heap.size w w' ∧ Box3 w' w.heap.size (.bool ab) (.slice ap an ac) (.slice aq am ae) ∧ Rt w' ab ap an ac aq am ae P Q ∧ Box3 w' w3.heap.size (.bool cb) (.slice cp cn cc) (.slice cq cm ce) ∧ Rt w' cb cp cn cc cq cm ce P Q)
        ⟨b3.out.alloc b3.out.size _, x3.out.alloc _, R3.out.alloc _, Box3.new _ _ _ _ rfl, B3.out.alloc _⟩ ?_
      clear b3 x3 R3 B3
      rintro w4 ⟨b4, x4, R4, y4, B4⟩
      have b4' := Lib.hid b4; have x4' := Lib.hid x4; have R4' := Lib.hid R4; have y4' := Lib.hid y4; have B4' := Lib.hid B4
      have p0 := x4.c0; have p1 := x4.c1; have p2 := x4.c2
      clear b4 x4 R4 y4 B4
      go_wp2_with fail
      refine (refPrint_any ab ap aq an ac am ae P Q _ R4'.out lw'.out).mono ?_
      rintro e w5 ⟨t, rfl, ht, hb⟩
      obtain rfl : t = s := bytes_eq (ht.uniq hs'.out)
      have b5' := Lib.hid (below_then b4'.out (Nat.le_refl _) hb)
      have x5 := x4'.out.later hb
      have y5 := y4'.out.later hb
      have R5' := Lib.hid (R4'.out.below hb); have B5' := Lib.hid (B4'.out.below hb)
      clear ht hb b4' x4' R4' y4' B4' p0 p1 p2
      have p0 := x5.c0; have p1 := x5.c1; have p2 := x5.c2
      have q0 := y5.c0; have q1 := y5.c1; have q2 := y5.c2
      clear x5 y5
      go_wp2_with fail
      refine (same4_any cb cp cq cn cc cm ce P Q ab ap aq an ac am ae _ B5'.out R5'.out).mono ?_
      rintro e w6 ⟨rfl, hb⟩
      have b6' := Lib.hid (below_then b5'.out (Nat.le_refl _) hb)
      clear hb b5' R5' B5' p0 p1 p2 q0 q1 q2
      go_wp2_with fail
      refine (awake5_any _).mono ?_
      rintro e w7 ⟨rfl, hb⟩
      have b7' := Lib.hid (below_then b6'.out (Nat.le_refl _) hb)
      clear hb b6'
      go_wp2_with fail
      go_ret
      exact ⟨rfl, b7'.out⟩
    · have hd : decide ((400 : Int) < (s.size : Int)) = true := by rw [decide_eq_true_iff]; omega
      obtain ⟨T, B, E, hP⟩ := parsed_ex s.data.toList
      have c := parse5_any s w2
      rw [hP] at c
      clear hP h4
      refine c.mono ?_
      rintro e w3 ⟨cb, cp, cn, cc, cq, cm, ce, rfl, hB, hb⟩
      have b3 := Lib.hid (below_then b2.out (Nat.le_refl _) hb)
      have x3 := Lib.hid (x2.out.later hb)
      have R3 := Lib.hid (R2.out.below hb)
      clear hb hB c b2 x2 R2
      go_upto_region 5 with fail
      refine gen_wp (fun w' => Below w.heap.size w w' ∧ Box3 w' w.heap.size (.bool ab) (.slice ap an ac) (.slice aq am ae) ∧ Rt w' ab ap an ac aq am ae P Q)
        ⟨b3.out.alloc b3.out.size _, x3.out.alloc _, R3.out.alloc _⟩ ?_
      clear b3 x3 R3
      rintro w4 ⟨b4, x4, R4⟩
      have b4' := Lib.hid b4; have R4' := Lib.hid R4
      have p0 := x4.c0; have p1 := x4.c1; have p2 := x4.c2
      clear b4 x4 R4
      go_wp2_with fail
      refine (refPrint_any ab ap aq an ac am ae P Q _ R4'.out lw'.out).mono ?_
      rintro e w5 ⟨t, rfl, ht, hb⟩
      obtain rfl : t = s := bytes_eq (ht.uniq hs'.out)
      have b5' := Lib.hid (below_then b4'.out (Nat.le_refl _) hb)
      clear ht hb b4' R4' p0 p1 p2
      go_wp2_with fail
      refine (awake5_any _).mono ?_
      rintro e w7 ⟨rfl, hb⟩
      have b7' := Lib.hid (below_then b5'.out (Nat.le_refl _) hb)
      clear hb b5'
      go_wp2_with fail
      go_ret
      exact ⟨rfl, b7'.out⟩

end Go.Proofs.YtokdaagjkhkinaaGreatDoor
