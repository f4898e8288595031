/-
  scrimref06.May, Class.
-/
import Derived.Test.YtgaombefigjilaaHb
namespace Go.Proofs.Ytgaombefigjilaa
open Go.RowKit

set_option maxRecDepth 20000 in
set_option maxHeartbeats 1000000 in
theorem may6_any (c : Int) (w : World) : Calls Try.prog 15 #[.int .i64 c] w fun e w' => e = .returned (.bool (mayZ c)) ∧ w = w' := by
  go_enter Try.func15, Try.ntmps15
  go_wp2_with fail
  all_goals (go_ret; refine ⟨?_, rfl⟩; unfold mayZ; simp_all; try omega)

theorem class_1 {c : Int} (h : c = 32 ∨ c = 9) : classZ c = 1 := if_pos h

theorem class_2 {c : Int} (h : ¬ (c = 32 ∨ c = 9)) (k : (97 ≤ c ∧ c ≤ 122) ∨ (65 ≤ c ∧ c ≤ 90) ∨ c = 95) : classZ c = 2 := (if_neg h).trans (if_pos k)

theorem class_3 {c : Int} (h : ¬ (c = 32 ∨ c = 9)) (k : ¬ ((97 ≤ c ∧ c ≤ 122) ∨ (65 ≤ c ∧ c ≤ 90) ∨ c = 95)) (l : (48 ≤ c ∧ c ≤ 57) ∨ c = 175) : classZ c = 3 := (if_neg h).trans ((if_neg k).trans (if_pos l))

theorem class_4 {c : Int} (h : ¬ (c = 32 ∨ c = 9)) (k : ¬ ((97 ≤ c ∧ c ≤ 122) ∨ (65 ≤ c ∧ c ≤ 90) ∨ c = 95)) (l : ¬ ((48 ≤ c ∧ c ≤ 57) ∨ c = 175)) :
    classZ c = if c ∈ functionsZ then 4 else if c ∈ operatorsZ then 5 else if c ∈ marksZ then 6 else 0 := (if_neg h).trans ((if_neg k).trans (if_neg l))

set_option maxRecDepth 20000 in
set_option maxHeartbeats 4000000 in
theorem class6_any (c : Int) (w : World) : Calls Try.prog 13 #[.int .i64 c] w (fun e w' => e = .returned (.int .i64 (classZ c)) ∧ Below w.heap.size w w') := by
  go_enter Try.func13, Try.ntmps13
  by_cases h1 : c = 32
  · have k1 := Lib.hid h1
    have b1 : (c == 32) = true := by rw [beq_iff_eq]; exact h1
    clear h1
    go_wp2_with fail
    go_ret
    exact ⟨by rw [class_1 (by have h1 := k1.out; omega)]; rfl, Below.refl _ _⟩
  · by_cases h2 : c = 9
    · have k1 := Lib.hid h1; have k2 := Lib.hid h2
      have b1 : (c == 32) = false := by rw [beq_eq_false_iff_ne]; exact h1
      have b2 : (c == 9) = true := by rw [beq_iff_eq]; exact h2
      clear h1 h2
      go_wp2_with fail
      go_ret
      exact ⟨by rw [class_1 (by have h1 := k1.out; have h2 := k2.out; omega)]; rfl, Below.refl _ _⟩
    · by_cases h3 : 97 ≤ c
      · by_cases h4 : c ≤ 122
        · have k1 := Lib.hid h1; have k2 := Lib.hid h2; have k3 := Lib.hid h3; have k4 := Lib.hid h4
          have b1 : (c == 32) = false := by rw [beq_eq_false_iff_ne]; exact h1
          have b2 : (c == 9) = false := by rw [beq_eq_false_iff_ne]; exact h2
          have b3 : decide ((97 : Int) ≤ c) = true := decide_eq_true h3
          have b4 : decide (c ≤ (122 : Int)) = true := decide_eq_true h4
          clear h1 h2 h3 h4
          go_wp2_with fail
          go_ret
          exact ⟨by rw [class_2 (by have h1 := k1.out; have h2 := k2.out; have h3 := k3.out; have h4 := k4.out; omega) (by have h1 := k1.out; have h2 := k2.out; have h3 := k3.out; have h4 := k4.out; omega)]; rfl, Below.refl _ _⟩
        · have h5 : 65 ≤ c := by omega
          have h6 : ¬ (c ≤ 90) := by omega
          have h7 : ¬ (c = 95) := by omega
          have h8 : 48 ≤ c := by omega
          have h9 : ¬ (c ≤ 57) := by omega
          by_cases h10 : c = 175
          · have k1 := Lib.hid h1; have k2 := Lib.hid h2; have k3 := Lib.hid h3; have k4 := Lib.hid h4; have k5 := Lib.hid h5; have k6 := Lib.hid h6; have k7 := Lib.hid h7; have k8 := Lib.hid h8; have k9 := Lib.hid h9; have k10 := Lib.hid h10
            have b1 : (c == 32) = false := by rw [beq_eq_false_iff_ne]; exact h1
            have b2 : (c == 9) = false := by rw [beq_eq_false_iff_ne]; exact h2
            have b3 : decide ((97 : Int) ≤ c) = true := decide_eq_true h3
            have b4 : decide (c ≤ (122 : Int)) = false := decide_eq_false h4
            have b5 : decide ((65 : Int) ≤ c) = true := decide_eq_true h5
            have b6 : decide (c ≤ (90 : Int)) = false := decide_eq_false h6
            have b7 : (c == 95) = false := by rw [beq_eq_false_iff_ne]; exact h7
            have b8 : decide ((48 : Int) ≤ c) = true := decide_eq_true h8
            have b9 : decide (c ≤ (57 : Int)) = false := decide_eq_false h9
            have b10 : (c == 175) = true := by rw [beq_iff_eq]; exact h10
            clear h1 h2 h3 h4 h5 h6 h7 h8 h9 h10
            go_wp2_with fail
            go_ret
            exact ⟨by rw [class_3 (by have h1 := k1.out; have h2 := k2.out; have h3 := k3.out; have h4 := k4.out; have h5 := k5.out; have h6 := k6.out; have h7 := k7.out; have h8 := k8.out; have h9 := k9.out; have h10 := k10.out; omega) (by have h1 := k1.out; have h2 := k2.out; have h3 := k3.out; have h4 := k4.out; have h5 := k5.out; have h6 := k6.out; have h7 := k7.out; have h8 := k8.out; have h9 := k9.out; have h10 := k10.out; omega) (by have h1 := k1.out; have h2 := k2.out; have h3 := k3.out; have h4 := k4.out; have h5 := k5.out; have h6 := k6.out; have h7 := k7.out; have h8 := k8.out; have h9 := k9.out; have h10 := k10.out; omega)]; rfl, Below.refl _ _⟩
          · have k1 := Lib.hid h1; have k2 := Lib.hid h2; have k3 := Lib.hid h3; have k4 := Lib.hid h4; have k5 := Lib.hid h5; have k6 := Lib.hid h6; have k7 := Lib.hid h7; have k8 := Lib.hid h8; have k9 := Lib.hid h9; have k10 := Lib.hid h10
            have b1 : (c == 32) = false := by rw [beq_eq_false_iff_ne]; exact h1
            have b2 : (c == 9) = false := by rw [beq_eq_false_iff_ne]; exact h2
            have b3 : decide ((97 : Int) ≤ c) = true := decide_eq_true h3
            have b4 : decide (c ≤ (122 : Int)) = false := decide_eq_false h4
            have b5 : decide ((65 : Int) ≤ c) = true := decide_eq_true h5
            have b6 : decide (c ≤ (90 : Int)) = false := decide_eq_false h6
            have b7 : (c == 95) = false := by rw [beq_eq_false_iff_ne]; exact h7
            have b8 : decide ((48 : Int) ≤ c) = true := decide_eq_true h8
            have b9 : decide (c ≤ (57 : Int)) = false := decide_eq_false h9
            have b10 : (c == 175) = false := by rw [beq_eq_false_iff_ne]; exact h10
            clear h1 h2 h3 h4 h5 h6 h7 h8 h9 h10
            have hC := Lib.hid (class_4 (c := c) (by have h1 := k1.out; have h2 := k2.out; have h3 := k3.out; have h4 := k4.out; have h5 := k5.out; have h6 := k6.out; have h7 := k7.out; have h8 := k8.out; have h9 := k9.out; have h10 := k10.out; omega) (by have h1 := k1.out; have h2 := k2.out; have h3 := k3.out; have h4 := k4.out; have h5 := k5.out; have h6 := k6.out; have h7 := k7.out; have h8 := k8.out; have h9 := k9.out; have h10 := k10.out; omega) (by have h1 := k1.out; have h2 := k2.out; have h3 := k3.out; have h4 := k4.out; have h5 := k5.out; have h6 := k6.out; have h7 := k7.out; have h8 := k8.out; have h9 := k9.out; have h10 := k10.out; omega))
            go_wp2_with fail
            refine (functionsZ_any _).mono ?_
            rintro e w1 ⟨B1, rfl, s1, hb⟩
            have g1 := Lib.hid (hb)
            have s1 := Lib.hid s1
            clear hb
            go_wp2_with fail
            refine (in6_any (some ⟨B1, 0, none⟩) functionsZ.length functionsZ.length _ c _ (by decide) s1.out).mono ?_
            rintro e w1' ⟨⟨rfl, m1⟩ | ⟨rfl, m1⟩, rfl⟩
            · have m1 := Lib.hid ((memZ_list functionsZ c).1 m1)
              go_wp2_with fail
              go_ret
              exact ⟨by rw [hC.out, if_pos m1.out]; rfl, g1.out⟩
            · have q1 := Lib.hid (mt (memZ_list functionsZ c).2 m1)
              clear m1
              go_wp2_with fail
              refine (operatorsZ_any _).mono ?_
              rintro e w2 ⟨B2, rfl, s2, hb⟩
              have g2 := Lib.hid (below_on g1.out hb)
              have s2 := Lib.hid s2
              clear hb
              go_wp2_with fail
              refine (in6_any (some ⟨B2, 0, none⟩) operatorsZ.length operatorsZ.length _ c _ (by decide) s2.out).mono ?_
              rintro e w2' ⟨⟨rfl, m2⟩ | ⟨rfl, m2⟩, rfl⟩
              · have m2 := Lib.hid ((memZ_list operatorsZ c).1 m2)
                go_wp2_with fail
                go_ret
                exact ⟨by rw [hC.out, if_neg q1.out, if_pos m2.out]; rfl, g2.out⟩
              · have q2 := Lib.hid (mt (memZ_list operatorsZ c).2 m2)
                clear m2
                go_wp2_with fail
                refine (marksZ_any _).mono ?_
                rintro e w3 ⟨B3, rfl, s3, hb⟩
                have g3 := Lib.hid (below_on g2.out hb)
                have s3 := Lib.hid s3
                clear hb
                go_wp2_with fail
                refine (in6_any (some ⟨B3, 0, none⟩) marksZ.length marksZ.length _ c _ (by decide) s3.out).mono ?_
                rintro e w3' ⟨⟨rfl, m3⟩ | ⟨rfl, m3⟩, rfl⟩
                · have m3 := Lib.hid ((memZ_list marksZ c).1 m3)
                  go_wp2_with fail
                  go_ret
                  exact ⟨by rw [hC.out, if_neg q1.out, if_neg q2.out, if_pos m3.out]; rfl, g3.out⟩
                · have q3 := Lib.hid (mt (memZ_list marksZ c).2 m3)
                  clear m3
                  go_wp2_with fail
                  go_ret
                  exact ⟨by rw [hC.out, if_neg q1.out, if_neg q2.out, if_neg q3.out]; rfl, g3.out⟩
      · by_cases h5 : 65 ≤ c
        · by_cases h6 : c ≤ 90
          · have k1 := Lib.hid h1; have k2 := Lib.hid h2; have k3 := Lib.hid h3; have k5 := Lib.hid h5; have k6 := Lib.hid h6
            have b1 : (c == 32) = false := by rw [beq_eq_false_iff_ne]; exact h1
            have b2 : (c == 9) = false := by rw [beq_eq_false_iff_ne]; exact h2
            have b3 : decide ((97 : Int) ≤ c) = false := decide_eq_false h3
            have b5 : decide ((65 : Int) ≤ c) = true := decide_eq_true h5
            have b6 : decide (c ≤ (90 : Int)) = true := decide_eq_true h6
            clear h1 h2 h3 h5 h6
            go_wp2_with fail
            go_ret
            exact ⟨by rw [class_2 (by have h1 := k1.out; have h2 := k2.out; have h3 := k3.out; have h5 := k5.out; have h6 := k6.out; omega) (by have h1 := k1.out; have h2 := k2.out; have h3 := k3.out; have h5 := k5.out; have h6 := k6.out; omega)]; rfl, Below.refl _ _⟩
          · by_cases h7 : c = 95
            · have k1 := Lib.hid h1; have k2 := Lib.hid h2; have k3 := Lib.hid h3; have k5 := Lib.hid h5; have k6 := Lib.hid h6; have k7 := Lib.hid h7
              have b1 : (c == 32) = false := by rw [beq_eq_false_iff_ne]; exact h1
              have b2 : (c == 9) = false := by rw [beq_eq_false_iff_ne]; exact h2
              have b3 : decide ((97 : Int) ≤ c) = false := decide_eq_false h3
              have b5 : decide ((65 : Int) ≤ c) = true := decide_eq_true h5
              have b6 : decide (c ≤ (90 : Int)) = false := decide_eq_false h6
              have b7 : (c == 95) = true := by rw [beq_iff_eq]; exact h7
              clear h1 h2 h3 h5 h6 h7
              go_wp2_with fail
              go_ret
              exact ⟨by rw [class_2 (by have h1 := k1.out; have h2 := k2.out; have h3 := k3.out; have h5 := k5.out; have h6 := k6.out; have h7 := k7.out; omega) (by have h1 := k1.out; have h2 := k2.out; have h3 := k3.out; have h5 := k5.out; have h6 := k6.out; have h7 := k7.out; omega)]; rfl, Below.refl _ _⟩
            · have h8 : 48 ≤ c := by omega
              have h9 : ¬ (c ≤ 57) := by omega
              have h10 : ¬ (c = 175) := by omega
              have k1 := Lib.hid h1; have k2 := Lib.hid h2; have k3 := Lib.hid h3; have k5 := Lib.hid h5; have k6 := Lib.hid h6; have k7 := Lib.hid h7; have k8 := Lib.hid h8; have k9 := Lib.hid h9; have k10 := Lib.hid h10
              have b1 : (c == 32) = false := by rw [beq_eq_false_iff_ne]; exact h1
              have b2 : (c == 9) = false := by rw [beq_eq_false_iff_ne]; exact h2
              have b3 : decide ((97 : Int) ≤ c) = false := decide_eq_false h3
              have b5 : decide ((65 : Int) ≤ c) = true := decide_eq_true h5
              have b6 : decide (c ≤ (90 : Int)) = false := decide_eq_false h6
              have b7 : (c == 95) = false := by rw [beq_eq_false_iff_ne]; exact h7
              have b8 : decide ((48 : Int) ≤ c) = true := decide_eq_true h8
              have b9 : decide (c ≤ (57 : Int)) = false := decide_eq_false h9
              have b10 : (c == 175) = false := by rw [beq_eq_false_iff_ne]; exact h10
              clear h1 h2 h3 h5 h6 h7 h8 h9 h10
              have hC := Lib.hid (class_4 (c := c) (by have h1 := k1.out; have h2 := k2.out; have h3 := k3.out; have h5 := k5.out; have h6 := k6.out; have h7 := k7.out; have h8 := k8.out; have h9 := k9.out; have h10 := k10.out; omega) (by have h1 := k1.out; have h2 := k2.out; have h3 := k3.out; have h5 := k5.out; have h6 := k6.out; have h7 := k7.out; have h8 := k8.out; have h9 := k9.out; have h10 := k10.out; omega) (by have h1 := k1.out; have h2 := k2.out; have h3 := k3.out; have h5 := k5.out; have h6 := k6.out; have h7 := k7.out; have h8 := k8.out; have h9 := k9.out; have h10 := k10.out; omega))
              go_wp2_with fail
              refine (functionsZ_any _).mono ?_
              rintro e w1 ⟨B1, rfl, s1, hb⟩
              have g1 := Lib.hid (hb)
              have s1 := Lib.hid s1
              clear hb
              go_wp2_with fail
              refine (in6_any (some ⟨B1, 0, none⟩) functionsZ.length functionsZ.length _ c _ (by decide) s1.out).mono ?_
              rintro e w1' ⟨⟨rfl, m1⟩ | ⟨rfl, m1⟩, rfl⟩
              · have m1 := Lib.hid ((memZ_list functionsZ c).1 m1)
                go_wp2_with fail
                go_ret
                exact ⟨by rw [hC.out, if_pos m1.out]; rfl, g1.out⟩
              · have q1 := Lib.hid (mt (memZ_list functionsZ c).2 m1)
                clear m1
                go_wp2_with fail
                refine (operatorsZ_any _).mono ?_
                rintro e w2 ⟨B2, rfl, s2, hb⟩
                have g2 := Lib.hid (below_on g1.out hb)
                have s2 := Lib.hid s2
                clear hb
                go_wp2_with fail
                refine (in6_any (some ⟨B2, 0, none⟩) operatorsZ.length operatorsZ.length _ c _ (by decide) s2.out).mono ?_
                rintro e w2' ⟨⟨rfl, m2⟩ | ⟨rfl, m2⟩, rfl⟩
                · have m2 := Lib.hid ((memZ_list operatorsZ c).1 m2)
                  go_wp2_with fail
                  go_ret
                  exact ⟨by rw [hC.out, if_neg q1.out, if_pos m2.out]; rfl, g2.out⟩
                · have q2 := Lib.hid (mt (memZ_list operatorsZ c).2 m2)
                  clear m2
                  go_wp2_with fail
                  refine (marksZ_any _).mono ?_
                  rintro e w3 ⟨B3, rfl, s3, hb⟩
                  have g3 := Lib.hid (below_on g2.out hb)
                  have s3 := Lib.hid s3
                  clear hb
                  go_wp2_with fail
                  refine (in6_any (some ⟨B3, 0, none⟩) marksZ.length marksZ.length _ c _ (by decide) s3.out).mono ?_
                  rintro e w3' ⟨⟨rfl, m3⟩ | ⟨rfl, m3⟩, rfl⟩
                  · have m3 := Lib.hid ((memZ_list marksZ c).1 m3)
                    go_wp2_with fail
                    go_ret
                    exact ⟨by rw [hC.out, if_neg q1.out, if_neg q2.out, if_pos m3.out]; rfl, g3.out⟩
                  · have q3 := Lib.hid (mt (memZ_list marksZ c).2 m3)
                    clear m3
                    go_wp2_with fail
                    go_ret
                    exact ⟨by rw [hC.out, if_neg q1.out, if_neg q2.out, if_neg q3.out]; rfl, g3.out⟩
        · have h7 : ¬ (c = 95) := by omega
          by_cases h8 : 48 ≤ c
          · by_cases h9 : c ≤ 57
            · have k1 := Lib.hid h1; have k2 := Lib.hid h2; have k3 := Lib.hid h3; have k5 := Lib.hid h5; have k7 := Lib.hid h7; have k8 := Lib.hid h8; have k9 := Lib.hid h9
              have b1 : (c == 32) = false := by rw [beq_eq_false_iff_ne]; exact h1
              have b2 : (c == 9) = false := by rw [beq_eq_false_iff_ne]; exact h2
              have b3 : decide ((97 : Int) ≤ c) = false := decide_eq_false h3
              have b5 : decide ((65 : Int) ≤ c) = false := decide_eq_false h5
              have b7 : (c == 95) = false := by rw [beq_eq_false_iff_ne]; exact h7
              have b8 : decide ((48 : Int) ≤ c) = true := decide_eq_true h8
              have b9 : decide (c ≤ (57 : Int)) = true := decide_eq_true h9
              clear h1 h2 h3 h5 h7 h8 h9
              go_wp2_with fail
              go_ret
              exact ⟨by rw [class_3 (by have h1 := k1.out; have h2 := k2.out; have h3 := k3.out; have h5 := k5.out; have h7 := k7.out; have h8 := k8.out; have h9 := k9.out; omega) (by have h1 := k1.out; have h2 := k2.out; have h3 := k3.out; have h5 := k5.out; have h7 := k7.out; have h8 := k8.out; have h9 := k9.out; omega) (by have h1 := k1.out; have h2 := k2.out; have h3 := k3.out; have h5 := k5.out; have h7 := k7.out; have h8 := k8.out; have h9 := k9.out; omega)]; rfl, Below.refl _ _⟩
            · have h10 : ¬ (c = 175) := by omega
              have k1 := Lib.hid h1; have k2 := Lib.hid h2; have k3 := Lib.hid h3; have k5 := Lib.hid h5; have k7 := Lib.hid h7; have k8 := Lib.hid h8; have k9 := Lib.hid h9; have k10 := Lib.hid h10
              have b1 : (c == 32) = false := by rw [beq_eq_false_iff_ne]; exact h1
              have b2 : (c == 9) = false := by rw [beq_eq_false_iff_ne]; exact h2
              have b3 : decide ((97 : Int) ≤ c) = false := decide_eq_false h3
              have b5 : decide ((65 : Int) ≤ c) = false := decide_eq_false h5
              have b7 : (c == 95) = false := by rw [beq_eq_false_iff_ne]; exact h7
              have b8 : decide ((48 : Int) ≤ c) = true := decide_eq_true h8
              have b9 : decide (c ≤ (57 : Int)) = false := decide_eq_false h9
              have b10 : (c == 175) = false := by rw [beq_eq_false_iff_ne]; exact h10
              clear h1 h2 h3 h5 h7 h8 h9 h10
              have hC := Lib.hid (class_4 (c := c) (by have h1 := k1.out; have h2 := k2.out; have h3 := k3.out; have h5 := k5.out; have h7 := k7.out; have h8 := k8.out; have h9 := k9.out; have h10 := k10.out; omega) (by have h1 := k1.out; have h2 := k2.out; have h3 := k3.out; have h5 := k5.out; have h7 := k7.out; have h8 := k8.out; have h9 := k9.out; have h10 := k10.out; omega) (by have h1 := k1.out; have h2 := k2.out; have h3 := k3.out; have h5 := k5.out; have h7 := k7.out; have h8 := k8.out; have h9 := k9.out; have h10 := k10.out; omega))
              go_wp2_with fail
              refine (functionsZ_any _).mono ?_
              rintro e w1 ⟨B1, rfl, s1, hb⟩
              have g1 := Lib.hid (hb)
              have s1 := Lib.hid s1
              clear hb
              go_wp2_with fail
              refine (in6_any (some ⟨B1, 0, none⟩) functionsZ.length functionsZ.length _ c _ (by decide) s1.out).mono ?_
              rintro e w1' ⟨⟨rfl, m1⟩ | ⟨rfl, m1⟩, rfl⟩
              · have m1 := Lib.hid ((memZ_list functionsZ c).1 m1)
                go_wp2_with fail
                go_ret
                exact ⟨by rw [hC.out, if_pos m1.out]; rfl, g1.out⟩
              · have q1 := Lib.hid (mt (memZ_list functionsZ c).2 m1)
                clear m1
                go_wp2_with fail
                refine (operatorsZ_any _).mono ?_
                rintro e w2 ⟨B2, rfl, s2, hb⟩
                have g2 := Lib.hid (below_on g1.out hb)
                have s2 := Lib.hid s2
                clear hb
                go_wp2_with fail
                refine (in6_any (some ⟨B2, 0, none⟩) operatorsZ.length operatorsZ.length _ c _ (by decide) s2.out).mono ?_
                rintro e w2' ⟨⟨rfl, m2⟩ | ⟨rfl, m2⟩, rfl⟩
                · have m2 := Lib.hid ((memZ_list operatorsZ c).1 m2)
                  go_wp2_with fail
                  go_ret
                  exact ⟨by rw [hC.out, if_neg q1.out, if_pos m2.out]; rfl, g2.out⟩
                · have q2 := Lib.hid (mt (memZ_list operatorsZ c).2 m2)
                  clear m2
                  go_wp2_with fail
                  refine (marksZ_any _).mono ?_
                  rintro e w3 ⟨B3, rfl, s3, hb⟩
                  have g3 := Lib.hid (below_on g2.out hb)
                  have s3 := Lib.hid s3
                  clear hb
                  go_wp2_with fail
                  refine (in6_any (some ⟨B3, 0, none⟩) marksZ.length marksZ.length _ c _ (by decide) s3.out).mono ?_
                  rintro e w3' ⟨⟨rfl, m3⟩ | ⟨rfl, m3⟩, rfl⟩
                  · have m3 := Lib.hid ((memZ_list marksZ c).1 m3)
                    go_wp2_with fail
                    go_ret
                    exact ⟨by rw [hC.out, if_neg q1.out, if_neg q2.out, if_pos m3.out]; rfl, g3.out⟩
                  · have q3 := Lib.hid (mt (memZ_list marksZ c).2 m3)
                    clear m3
                    go_wp2_with fail
                    go_ret
                    exact ⟨by rw [hC.out, if_neg q1.out, if_neg q2.out, if_neg q3.out]; rfl, g3.out⟩
          · have h10 : ¬ (c = 175) := by omega
            have k1 := Lib.hid h1; have k2 := Lib.hid h2; have k3 := Lib.hid h3; have k5 := Lib.hid h5; have k7 := Lib.hid h7; have k8 := Lib.hid h8; have k10 := Lib.hid h10
            have b1 : (c == 32) = false := by rw [beq_eq_false_iff_ne]; exact h1
            have b2 : (c == 9) = false := by rw [beq_eq_false_iff_ne]; exact h2
            have b3 : decide ((97 : Int) ≤ c) = false := decide_eq_false h3
            have b5 : decide ((65 : Int) ≤ c) = false := decide_eq_false h5
            have b7 : (c == 95) = false := by rw [beq_eq_false_iff_ne]; exact h7
            have b8 : decide ((48 : Int) ≤ c) = false := decide_eq_false h8
            have b10 : (c == 175) = false := by rw [beq_eq_false_iff_ne]; exact h10
            clear h1 h2 h3 h5 h7 h8 h10
            have hC := Lib.hid (class_4 (c := c) (by have h1 := k1.out; have h2 := k2.out; have h3 := k3.out; have h5 := k5.out; have h7 := k7.out; have h8 := k8.out; have h10 := k10.out; omega) (by have h1 := k1.out; have h2 := k2.out; have h3 := k3.out; have h5 := k5.out; have h7 := k7.out; have h8 := k8.out; have h10 := k10.out; omega) (by have h1 := k1.out; have h2 := k2.out; have h3 := k3.out; have h5 := k5.out; have h7 := k7.out; have h8 := k8.out; have h10 := k10.out; omega))
            go_wp2_with fail
            refine (functionsZ_any _).mono ?_
            rintro e w1 ⟨B1, rfl, s1, hb⟩
            have g1 := Lib.hid (hb)
            have s1 := Lib.hid s1
            clear hb
            go_wp2_with fail
            refine (in6_any (some ⟨B1, 0, none⟩) functionsZ.length functionsZ.length _ c _ (by decide) s1.out).mono ?_
            rintro e w1' ⟨⟨rfl, m1⟩ | ⟨rfl, m1⟩, rfl⟩
            · have m1 := Lib.hid ((memZ_list functionsZ c).1 m1)
              go_wp2_with fail
              go_ret
              exact ⟨by rw [hC.out, if_pos m1.out]; rfl, g1.out⟩
            · have q1 := Lib.hid (mt (memZ_list functionsZ c).2 m1)
              clear m1
              go_wp2_with fail
              refine (operatorsZ_any _).mono ?_
              rintro e w2 ⟨B2, rfl, s2, hb⟩
              have g2 := Lib.hid (below_on g1.out hb)
              have s2 := Lib.hid s2
              clear hb
              go_wp2_with fail
              refine (in6_any (some ⟨B2, 0, none⟩) operatorsZ.length operatorsZ.length _ c _ (by decide) s2.out).mono ?_
              rintro e w2' ⟨⟨rfl, m2⟩ | ⟨rfl, m2⟩, rfl⟩
              · have m2 := Lib.hid ((memZ_list operatorsZ c).1 m2)
                go_wp2_with fail
                go_ret
                exact ⟨by rw [hC.out, if_neg q1.out, if_pos m2.out]; rfl, g2.out⟩
              · have q2 := Lib.hid (mt (memZ_list operatorsZ c).2 m2)
                clear m2
                go_wp2_with fail
                refine (marksZ_any _).mono ?_
                rintro e w3 ⟨B3, rfl, s3, hb⟩
                have g3 := Lib.hid (below_on g2.out hb)
                have s3 := Lib.hid s3
                clear hb
                go_wp2_with fail
                refine (in6_any (some ⟨B3, 0, none⟩) marksZ.length marksZ.length _ c _ (by decide) s3.out).mono ?_
                rintro e w3' ⟨⟨rfl, m3⟩ | ⟨rfl, m3⟩, rfl⟩
                · have m3 := Lib.hid ((memZ_list marksZ c).1 m3)
                  go_wp2_with fail
                  go_ret
                  exact ⟨by rw [hC.out, if_neg q1.out, if_neg q2.out, if_pos m3.out]; rfl, g3.out⟩
                · have q3 := Lib.hid (mt (memZ_list marksZ c).2 m3)
                  clear m3
                  go_wp2_with fail
                  go_ret
                  exact ⟨by rw [hC.out, if_neg q1.out, if_neg q2.out, if_neg q3.out]; rfl, g3.out⟩

end Go.Proofs.Ytgaombefigjilaa
