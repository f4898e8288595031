/-
  scrimref05.digits, value.
-/
import Derived.Test.YtokdaagjkhkinaaGreatDoorMF
namespace Go.Proofs.YtokdaagjkhkinaaGreatDoor
open Go.RowKit Num

attribute [local go_sem ↓] Go.wp_at_zero Go.wp_at_succ

theorem run_len {l : List UInt8} : ∀ {j : Nat}, j ≤ l.length → (∀ t (h : t < l.length), t < j → isD (l[t]'h) = true) → (j = l.length ∨ ∃ h : j < l.length, isD (l[j]'h) = false) → (l.takeWhile isD).length = j := by
  induction l with
  | nil => intro j h _ _; simp at h; subst h; rfl
  | cons c l ih =>
    intro j hj h1 h2
    cases j with
    | zero =>
      rcases h2 with h | ⟨h, k⟩
      · cases h
      · rw [List.takeWhile_cons, show isD c = false from k]; rfl
    | succ j =>
      have hc : isD c = true := h1 0 (by simp) (by omega)
      rw [List.takeWhile_cons, if_pos hc, List.length_cons]
      congr 1
      refine ih (by simpa using hj) (fun t h k => ?_) ?_
      · exact h1 (t + 1) (by simpa using h) (by omega)
      · rcases h2 with h | ⟨h, k⟩
        · exact .inl (by simpa using h)
        · exact .inr ⟨by simpa using h, k⟩

theorem isD_byt (s : ByteArray) (j : Nat) (h : j < s.data.toList.length) : isD (s.data.toList[j]'h) = (decide (48 ≤ byt s j) && decide (byt s j ≤ 57)) := by
  rw [byt_get s j h]; rfl

theorem run_drop {s : ByteArray} {i j : Nat} (h : i + j ≤ s.size) (h1 : ∀ t, t < j → 48 ≤ byt s (i + t) ∧ byt s (i + t) ≤ 57) (h2 : i + j = s.size ∨ (byt s (i + j) < 48 ∨ 57 < byt s (i + j))) :
    ((s.data.toList.drop i).takeWhile isD).length = j := by
  have hl : s.data.toList.length = s.size := (Lib.size_eq s).symm
  refine run_len (by rw [List.length_drop]; omega) (fun t ht hj => ?_) ?_
  · rw [List.getElem_drop, isD_byt]
    obtain ⟨a, b⟩ := h1 t hj
    simp [a, b]
  · by_cases e : i + j = s.size
    · exact .inl (by rw [List.length_drop]; omega)
    · refine .inr ⟨by rw [List.length_drop]; omega, ?_⟩
      rw [List.getElem_drop, isD_byt]
      rcases h2 with h2 | h2 | h2
      · exact absurd h2 e
      · rw [decide_eq_false (by omega : ¬ 48 ≤ byt s (i + j))]; rfl
      · rw [decide_eq_false (by omega : ¬ byt s (i + j) ≤ 57), Bool.and_false]

set_option maxRecDepth 20000 in
set_option maxHeartbeats 1000000 in
theorem refDigits_any (s : ByteArray) (i : Nat) (hs : s.size ≤ 1000) (hi : i ≤ s.size) (w : World) :
    Calls Tryz.prog 28 #[.string s, .int .i64 i] w (Says (.int .i64 ((s.data.toList.drop i).takeWhile isD).length) w) := by
  go_enter Tryz.func28, Tryz.ntmps28
  go_wp2_with fail
  go_loop [5] (fun v => ∃ j : Nat, i + j ≤ s.size ∧ v = .int .i64 j ∧ ∀ t, t < j → 48 ≤ byt s (i + t) ∧ byt s (i + t) ≤ 57) (fun v => s.size - (intOf v).toNat)
  case atStart => exact ⟨0, by omega, rfl, fun t h => by omega⟩
  case round =>
    obtain ⟨j, hj, rfl, hd0⟩ := hrel
    have hd := Lib.hid hd0; clear hd0
    by_cases hlt : i + j < s.size
    · have hb := byt_at s (i + j) hlt
      by_cases c1 : byt s (i + j) < 48
      · go_wp2_with fail
        go_ret
        exact ⟨by rw [run_drop hj hd.out (.inr (.inl c1))]; rfl, Below.refl _ _⟩
      · by_cases c2 : 57 < byt s (i + j)
        · go_wp2_with fail
          go_ret
          exact ⟨by rw [run_drop hj hd.out (.inr (.inr c2))]; rfl, Below.refl _ _⟩
        · go_wp2_with fail
          go_round
          case rel =>
            refine ⟨j + 1, by omega, by go_num, fun t ht => ?_⟩
            by_cases e : t = j
            · rw [e]; omega
            · exact hd.out t (by omega)
          case measure => simp [intOf]; omega
    · have e : i + j = s.size := by omega
      go_wp2_with fail
      go_ret
      exact ⟨by rw [run_drop hj hd.out (.inl e)]; rfl, Below.refl _ _⟩

theorem lval_drop0 {s : ByteArray} : ∀ j, j ≤ s.size → (∀ t, t < j → byt s t = 48) → lval (s.data.toList.drop j) = lval s.data.toList
  | 0, _, _ => rfl
  | j + 1, hj, h => by
    have hl : j < s.data.toList.length := by rw [← Lib.size_eq]; omega
    have ih := lval_drop0 (s := s) j (by omega) (fun t ht => h t (by omega))
    have e := h j (by omega)
    rw [byt_get s j hl] at e
    have e2 : s.data.toList[j] = 48 := UInt8.toNat_inj.1 (by rw [e]; rfl)
    rw [← ih, List.drop_eq_getElem_cons hl, e2, lval_zero]

set_option maxRecDepth 20000 in
set_option maxHeartbeats 1000000 in
theorem refValue_any (s : ByteArray) (hs : s.size ≤ 1000) (h0 : s.data.toList ≠ []) (hd : s.data.toList.all isD = true) (w : World) :
    Calls Tryz.prog 29 #[.string s] w (NumPost (lval s.data.toList) w) := by
  have hpos : 0 < s.size := by rw [Lib.size_eq]; exact List.length_pos_iff.2 h0
  have hd' := Lib.hid ((digT_all s).2 hd)
  clear hd h0
  go_enter Tryz.func29, Tryz.ntmps29
  go_wp2_with fail
  go_loop [3] (fun v => ∃ j : Nat, j < s.size ∧ v = .int .i64 j ∧ ∀ t, t < j → byt s t = 48) (fun v => s.size - (intOf v).toNat)
  case atStart => exact ⟨0, hpos, rfl, fun t h => by omega⟩
  case round =>
    obtain ⟨j, hj, rfl, hz0⟩ := hrel
    have hz := Lib.hid hz0; clear hz0
    have fin : (j + 1 = s.size ∨ byt s j ≠ 48) → ∀ w, Calls Tryz.prog 55 #[.string (s.extract j s.size)] w fun e w' => ∃ ao n nc f, e = .returned (.tuple #[.slice ao n nc, .bool true]) ∧ n ≤ nc ∧ nc ≤ 9223372036854775807 ∧ Sl w' ao n f ∧ Canon (lval s.data.toList) n f ∧ Below w.heap.size w w' := by
      intro hend w
      have sz : (s.extract j s.size).size = s.size - j := by rw [ByteArray.size_extract]; omega
      have hT : IsT (s.extract j s.size) := by
        refine ⟨by omega, fun t ht => ?_, ?_⟩
        · rw [byt_extract s j s.size t (Nat.le_refl _) (by omega)]
          exact hd'.out (j + t) (by omega)
        · rcases hend with h | h
          · exact .inl (by omega)
          · refine .inr ?_
            rw [byt_extract s j s.size 0 (Nat.le_refl _) (by omega)]
            exact h
      refine (refParse_any (s.extract j s.size) (by omega) w).mono ?_
      rintro e w' ⟨hb, ⟨h1, _⟩ | ⟨_, ao, n, nc, f, rfl, k1, k2, k3, k4⟩⟩
      · exact absurd hT h1
      · refine ⟨ao, n, nc, f, rfl, k1, k2, k3, ?_, hb⟩
        rw [sval_lval, to_extract, List.take_of_length_le (by rw [List.length_drop, ← Lib.size_eq]; omega), lval_drop0 j (by omega) hz.out] at k4
        exact k4
    have fin' := Lib.hid fin
    clear fin
    have jle : j ≤ s.size := by omega
    by_cases hlt : j + 1 < s.size
    · have hb := byt_at s j hj
      by_cases c1 : byt s j = 48
      · go_wp2_with fail
        go_round
        case rel =>
          refine ⟨j + 1, by omega, by go_num, fun t ht => ?_⟩
          by_cases e : t = j
          · rw [e]; exact c1
          · exact hz.out t (by omega)
        case measure => simp [intOf]; omega
      · have c1' : ((byt s j : Int) == 48) = false := by rw [beq_eq_false_iff_ne]; omega
        go_wp2_with fail
        refine (fin'.out (.inr c1) _).mono ?_
        rintro e w1 ⟨ao, n, nc, f, rfl, k1, k2, k3, k4, hb1⟩
        have k3' := Lib.hid k3; have k4' := Lib.hid k4; have hb1' := Lib.hid hb1; have k1' := Lib.hid k1; have k2' := Lib.hid k2
        clear k3 k4 hb1 k1 k2
        go_wp2_with fail
        go_ret
        exact ⟨ao, n, nc, f, rfl, k1'.out, k2'.out, k3'.out, k4'.out, hb1'.out⟩
    · have e : j + 1 = s.size := by omega
      have e' := Lib.hid e
      have dlt : decide ((j : Int) + 1 < (s.size : Int)) = false := by rw [decide_eq_false_iff_not]; omega
      clear e
      go_wp2_with fail
      refine (fin'.out (.inl e'.out) _).mono ?_
      rintro e w1 ⟨ao, n, nc, f, rfl, k1, k2, k3, k4, hb1⟩
      have k3' := Lib.hid k3; have k4' := Lib.hid k4; have hb1' := Lib.hid hb1; have k1' := Lib.hid k1; have k2' := Lib.hid k2
      clear k3 k4 hb1 k1 k2
      go_wp2_with fail
      go_ret
      exact ⟨ao, n, nc, f, rfl, k1'.out, k2'.out, k3'.out, k4'.out, hb1'.out⟩

end Go.Proofs.YtokdaagjkhkinaaGreatDoor
