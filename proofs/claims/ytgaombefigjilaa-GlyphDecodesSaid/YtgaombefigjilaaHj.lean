/-
  glyph.May, Class.
-/
import Derived.Test.YtgaombefigjilaaHc
namespace Go.Proofs.Ytgaombefigjilaa
open Go.RowKit

set_option maxRecDepth 20000 in
set_option maxHeartbeats 1000000 in
theorem mayP_any (c : Int) (w : World) : Calls Try.prog 14 #[.int .i64 c] w fun e w' => e = .returned (.bool (mayZ c)) ∧ w = w' := by
  go_enter Try.func14, Try.ntmps14
  go_wp2_with fail
  all_goals (go_ret; refine ⟨?_, rfl⟩; refine congrArg (fun b => Ending.returned (Value.bool b)) (Bool.eq_iff_iff.2 ?_); unfold mayZ; simp; omega)

theorem class_l {c : Int} (k : (97 ≤ c ∧ c ≤ 122) ∨ (65 ≤ c ∧ c ≤ 90) ∨ c = 95) : classZ c = 2 := class_2 (by omega) k

theorem class_d {c : Int} (k : 48 ≤ c ∧ c ≤ 57) : classZ c = 3 := class_3 (by omega) (by omega) (.inl k)

theorem class_no {c : Int} (h : ¬ (c = 32 ∨ c = 9)) (k : ¬ ((97 ≤ c ∧ c ≤ 122) ∨ (65 ≤ c ∧ c ≤ 90) ∨ c = 95)) (l : ¬ ((48 ≤ c ∧ c ≤ 57) ∨ c = 175)) (f : c ∉ functionsZ) (o : c ∉ operatorsZ) (m : c ∉ marksZ) : classZ c = 0 :=
  (class_4 h k l).trans ((if_neg f).trans ((if_neg o).trans (if_neg m)))

set_option maxRecDepth 20000 in
set_option maxHeartbeats 4000000 in
theorem classP_any (c : Int) (w : World) : Calls Try.prog 12 #[.int .i64 c] w (fun e w' => e = .returned (.int .i64 (classZ c)) ∧ w = w') := by
  go_enter Try.func12, Try.ntmps12
  go_wp2_with fail
  all_goals (go_ret; refine ⟨?_, rfl⟩)
  all_goals first
    | (rename_i h; rw [beq_iff_eq] at h; subst h; rfl)
    | (simp only [beq_eq_false_iff_ne, ne_eq, beq_iff_eq] at *; rw [class_l (by omega)]; rfl)
    | (simp only [beq_eq_false_iff_ne, ne_eq] at *; rw [class_d (by omega)]; rfl)
    | (simp only [beq_eq_false_iff_ne, ne_eq] at *; rw [class_no (by omega) (by omega) (by omega) (by simp only [functionsZ, List.mem_cons, List.not_mem_nil, or_false, not_or]; repeat (first | assumption | refine ⟨by assumption, ?_⟩)) (by simp only [operatorsZ, List.mem_cons, List.not_mem_nil, or_false, not_or]; repeat (first | assumption | refine ⟨by assumption, ?_⟩)) (by simp only [marksZ, List.mem_cons, List.not_mem_nil, or_false, not_or]; repeat (first | assumption | refine ⟨by assumption, ?_⟩))]; rfl)
end Go.Proofs.Ytgaombefigjilaa
