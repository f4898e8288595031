/-
  scrimlaw06.GlyphClasses, walked.
-/
import Derived.Test.YtgaombefigjilaaHm
namespace Go.Proofs.Ytgaombefigjilaa
open Go.RowKit

/-- What has a class is a character. -/
theorem class_may {c : Int} (h : ¬ classZ c = 0) : mayZ c = true := by
  have hf : ∀ x ∈ functionsZ, mayZ x = true := by decide
  have ho : ∀ x ∈ operatorsZ, mayZ x = true := by decide
  have hm : ∀ x ∈ marksZ, mayZ x = true := by decide
  have hs : 0 ≤ c ∧ c ≤ 175 → mayZ c = true := fun k => by unfold mayZ; simp; omega
  by_cases h1 : c = 32 ∨ c = 9
  · exact hs (by omega)
  · by_cases h2 : (97 ≤ c ∧ c ≤ 122) ∨ (65 ≤ c ∧ c ≤ 90) ∨ c = 95
    · exact hs (by omega)
    · by_cases h3 : (48 ≤ c ∧ c ≤ 57) ∨ c = 175
      · exact hs (by omega)
      · by_cases h4 : c ∈ functionsZ
        · exact hf c h4
        · by_cases h5 : c ∈ operatorsZ
          · exact ho c h5
          · by_cases h6 : c ∈ marksZ
            · exact hm c h6
            · exact absurd (class_no h1 h2 h3 h4 h5 h6) h

set_option maxRecDepth 20000 in
set_option maxHeartbeats 2000000 in
theorem classes_walk (c : Int) (w : World) : Calls Try.prog 5 #[.int .i64 c] w (Tell (.bool true) w) := by
  obtain ⟨k, hk⟩ : ∃ k, k = classZ c := ⟨_, rfl⟩
  have hk' := Lib.hid hk
  have hP := Lib.hid (fun w => classP_any c w)
  have hR := Lib.hid (fun w => class6_any c w)
  rw [← hk] at hP hR
  clear hk
  go_enter Try.func5, Try.ntmps5
  go_wp2_with fail
  refine (hP.out _).mono ?_
  rintro e w1 ⟨rfl, rfl⟩
  go_wp2_with fail
  refine (hR.out _).mono ?_
  rintro e w1 ⟨rfl, hb⟩
  have b1 := Lib.hid hb
  clear hb
  by_cases h0 : k = 0
  · have e0 : (k == 0) = true := by rw [beq_iff_eq]; exact h0
    go_wp2_with (first | (go_at_call 14; refine (mayP_any c _).mono ?_; rintro e w' ⟨rfl, rfl⟩) | (go_at_call 15; refine (may6_any c _).mono ?_; rintro e w' ⟨rfl, rfl⟩) | (go_at_call 12; refine (hP.out _).mono ?_; rintro e w' ⟨rfl, rfl⟩) | (go_at_call 10; refine (awake6_any _).mono ?_))
    rintro e w2 ⟨rfl, hb⟩
    have b2 := Lib.hid (b1.out.trans (hb.mono b1.out.size))
    clear hb
    go_wp2_with fail
    go_ret
    exact ⟨rfl, b2.out⟩
  · have e0 : (k == 0) = false := by rw [beq_eq_false_iff_ne]; exact h0
    have hm := Lib.hid (class_may (c := c) (by rw [← hk'.out]; exact h0))
    go_wp2_with (first | (go_at_call 14; refine (mayP_any c _).mono ?_; rintro e w' ⟨rfl, rfl⟩; rw [hm.out]) | (go_at_call 15; refine (may6_any c _).mono ?_; rintro e w' ⟨rfl, rfl⟩; rw [hm.out]) | (go_at_call 12; refine (hP.out _).mono ?_; rintro e w' ⟨rfl, rfl⟩) | (go_at_call 10; refine (awake6_any _).mono ?_))
    rintro e w2 ⟨rfl, hb⟩
    have b2 := Lib.hid (b1.out.trans (hb.mono b1.out.size))
    clear hb
    go_wp2_with fail
    go_ret
    exact ⟨rfl, b2.out⟩

end Go.Proofs.Ytgaombefigjilaa
