/-
  scrimref06.guess: the character whose bytes may stand at a place.
-/
import Derived.Test.YtgaombefigjilaaHd
namespace Go.Proofs.Ytgaombefigjilaa
open Go.RowKit

/-- The j-th byte; 0: there is none. -/
def bt (s : ByteArray) (j : Nat) : Nat := (s.get! j).toNat

theorem bt_at (s : ByteArray) (j : Nat) (h : j < s.size) : (s[j]'h).toNat = bt s j := by
  unfold bt
  congr 1
  cases s with
  | mk d =>
    show d[j] = d[j]!
    rw [getElem!_pos d j h]

theorem bt_lt (s : ByteArray) (j : Nat) : bt s j < 256 := UInt8.toNat_lt _

/-- How many bytes a character has whose first one is b; 0: none begins so. -/
def lead (b : Nat) : Nat := if 240 ≤ b then 4 else if 224 ≤ b then 3 else if 192 ≤ b then 2 else if 128 ≤ b then 0 else 1

/-- What its first n bytes tell, the first one being o more. -/
def acc (s : ByteArray) (i o : Nat) : Nat → Nat
  | 0 => bt s i - o
  | n + 1 => 64 * acc s i o n + (bt s (i + (n + 1)) - 128)

def Conts (s : ByteArray) (i n : Nat) : Prop := ∀ t, 1 ≤ t → t < n → 128 ≤ bt s (i + t) ∧ bt s (i + t) ≤ 191

/-- May a character's bytes stand at place i, by the look of them? -/
def Good (s : ByteArray) (i : Nat) : Prop := 1 ≤ lead (bt s i) ∧ lead (bt s i) ≤ s.size - i ∧ Conts s i (lead (bt s i))

def offOf (n : Nat) : Nat := if n = 4 then 240 else if n = 3 then 224 else if n = 2 then 192 else 0

def guessC (s : ByteArray) (i : Nat) : Nat := acc s i (offOf (lead (bt s i))) (lead (bt s i) - 1)

def GuessPost (s : ByteArray) (i : Nat) (w : World) (e : Ending) (w' : World) : Prop :=
  w = w' ∧ (Good s i ∧ e = .returned (.tuple #[.int .i64 (guessC s i : Nat), .int .i64 (lead (bt s i) : Nat)]) ∨ ¬ Good s i ∧ e = .returned (.tuple #[.int .i64 0, .int .i64 0]))

theorem acc_lt (s : ByteArray) (i o : Nat) (h : bt s i - o < 64) : ∀ n, (∀ t, 1 ≤ t → t ≤ n → bt s (i + t) ≤ 191) → acc s i o n < 64 ^ (n + 1)
  | 0, _ => by rw [Nat.zero_add, Nat.pow_one]; exact h
  | n + 1, hc => by
    have ih := acc_lt s i o h n (fun t a b => hc t a (by omega))
    have hb := hc (n + 1) (by omega) (Nat.le_refl _)
    rw [Nat.pow_succ]
    unfold acc
    omega

theorem int_eq' {k : IntKind} {a b : Int} (h : a = b) : Value.int k a = Value.int k b := by rw [h]

theorem guess_eq {s : ByteArray} {i m o : Nat} (hm : lead (bt s i) = m) (ho : offOf m = o) : guessC s i = acc s i o (m - 1) := by unfold guessC; rw [hm, ho]

set_option maxRecDepth 20000 in
set_option maxHeartbeats 4000000 in
theorem guess6_any (s : ByteArray) (i : Nat) (hs : s.size ≤ 100000) (hi : i < s.size) (w : World) :
    Calls Try.prog 17 #[.string s, .int .i64 i] w (GuessPost s i w) := by
  have b0 := bt_at s i hi
  have bl := bt_lt s i
  have i0 : (0 : Int) ≤ (i : Int) := by omega
  have i1 : (i : Int) < (s.size : Int) := by omega
  go_enter Try.func17, Try.ntmps17
  by_cases h4 : 240 ≤ bt s i
  · have hl : lead (bt s i) = 4 := by unfold lead; rw [if_pos h4]
    have hl' := Lib.hid hl
    have d240 : decide ((240 : Int) ≤ (bt s i : Int)) = true := decide_eq_true (by omega)
    have d224 : decide ((224 : Int) ≤ (bt s i : Int)) = true := decide_eq_true (by omega)
    have d192 : decide ((192 : Int) ≤ (bt s i : Int)) = true := decide_eq_true (by omega)
    have d128 : decide ((128 : Int) ≤ (bt s i : Int)) = true := decide_eq_true (by omega)
    have p0 : (bt s i : Int) - 240 = ((bt s i - 240 : Nat) : Int) := by omega
    by_cases hr : 4 ≤ s.size - i
    · have dr : decide (((s.size : Int) - (i : Int)) < 4) = false := decide_eq_false (by omega)
      have hsm : bt s i - 240 < 64 := by omega
      have hb' := Lib.hid bl; have hsm' := Lib.hid hsm; have hr' := Lib.hid hr
      have hac : acc s i 240 0 = bt s i - 240 := rfl
      have hac' := Lib.hid hac
      obtain ⟨C0, hC0⟩ : ∃ C0, C0 = bt s i - 240 := ⟨_, rfl⟩
      rw [← hC0] at p0
      have hC0' := Lib.hid hC0
      clear hl hsm hr hac hC0 h4
      go_wp2_with fail
      go_loop [6, 8] (fun cv jv => ∃ j : Nat, 1 ≤ j ∧ j ≤ 4 ∧ jv = .int .i64 j ∧ cv = .int .i64 (acc s i 240 (j - 1) : Nat) ∧ Hid (Conts s i j)) (fun _ jv => 4 - (intOfZ jv).toNat)
      case atStart => exact ⟨1, Nat.le_refl _, by omega, rfl, by rw [hac'.out, ← hC0'.out], Lib.hid fun t a b => by omega⟩
      case round =>
        obtain ⟨j, j1, jm, rfl, rfl, hco⟩ := hrel
        have hA := acc_lt s i 240 hsm'.out (j - 1) (fun t a b => (hco.out t a (by omega)).2)
        have hA2 : acc s i 240 (j - 1) < 16777216 := Nat.lt_of_lt_of_le hA (by
          have : 64 ^ (j - 1 + 1) ≤ 64 ^ 4 := Nat.pow_le_pow_right (by decide) (by omega)
          exact this)
        obtain ⟨A, hAe⟩ : ∃ A, A = acc s i 240 (j - 1) := ⟨_, rfl⟩
        rw [← hAe] at hA2 ⊢
        have hAe' := Lib.hid hAe
        clear hA hAe
        by_cases hlt : j < 4
        · have hij : i + j < s.size := by have := hr'.out; omega
          have b1 := bt_at s (i + j) hij
          have bl1 := bt_lt s (i + j)
          have q0 : (0 : Int) ≤ (i : Int) + (j : Int) := by omega
          have q1 : (i : Int) + (j : Int) < (s.size : Int) := by omega
          have dj : decide ((j : Int) < 4) = true := decide_eq_true (by omega)
          by_cases c1 : bt s (i + j) < 128
          · have e1 : decide ((bt s (i + j) : Int) < 128) = true := decide_eq_true (by omega)
            have c1' := Lib.hid c1; have hlt' := Lib.hid hlt
            clear c1 hlt
            go_wp2_with fail
            go_ret2
            exact ⟨rfl, .inr ⟨fun h => by have := h.2.2; rw [hl'.out] at this; have := this j (by omega) hlt'.out; have := c1'.out; omega, rfl⟩⟩
          · by_cases c2 : 191 < bt s (i + j)
            · have e1 : decide ((bt s (i + j) : Int) < 128) = false := decide_eq_false (by omega)
              have e2 : decide ((191 : Int) < (bt s (i + j) : Int)) = true := decide_eq_true (by omega)
              have c2' := Lib.hid c2; have hlt' := Lib.hid hlt
              clear c1 c2 hlt
              go_wp2_with fail
              go_ret2
              exact ⟨rfl, .inr ⟨fun h => by have := h.2.2; rw [hl'.out] at this; have := this j (by omega) hlt'.out; have := c2'.out; omega, rfl⟩⟩
            · have e1 : decide ((bt s (i + j) : Int) < 128) = false := decide_eq_false (by omega)
              have e2 : decide ((191 : Int) < (bt s (i + j) : Int)) = false := decide_eq_false (by omega)
              have c1' := Lib.hid c1; have c2' := Lib.hid c2
              have hnew := Lib.hid (show acc s i 240 j = 64 * A + (bt s (i + j) - 128) by
                obtain ⟨k, rfl⟩ : ∃ k, j = k + 1 := ⟨j - 1, by omega⟩
                rw [hAe'.out]
                rfl)
              obtain ⟨b, hb⟩ : ∃ b, b = bt s (i + j) := ⟨_, rfl⟩
              have hbl : 128 ≤ b := by omega
              have hbl2 : b ≤ 191 := by omega
              rw [← hb] at b1 e1 e2
              have hbb := Lib.hid hb
              clear c1 c2 hb bl1
              go_wp2_with fail
              go_round
              case rel =>
                refine ⟨j + 1, by omega, by omega, by go_num, int_eq' (by rw [Nat.add_sub_cancel, hnew.out, ← hbb.out]; omega), Lib.hid fun t a c => ?_⟩
                by_cases e : t = j
                · rw [e, ← hbb.out]; omega
                · exact hco.out t a (by omega)
              case measure => simp [intOfZ]; omega
        · have dj : decide ((j : Int) < 4) = false := decide_eq_false (by omega)
          obtain rfl : j = 4 := by omega
          clear hlt
          go_wp2_with fail
          go_ret2
          refine ⟨rfl, .inl ⟨⟨by rw [hl'.out]; decide, by rw [hl'.out]; exact hr'.out, by rw [hl'.out]; exact hco.out⟩, ?_⟩⟩
          rw [guess_eq hl'.out (o := 240) rfl, hl'.out, ← hAe'.out]
          rfl
    · have dr : decide (((s.size : Int) - (i : Int)) < 4) = true := decide_eq_true (by omega)
      have hr' := Lib.hid hr
      clear hl hr h4
      go_wp2_with fail
      go_ret2
      exact ⟨rfl, .inr ⟨fun h => by have := h.2.1; rw [hl'.out] at this; exact hr'.out this, rfl⟩⟩
  by_cases h3 : 224 ≤ bt s i
  · have hl : lead (bt s i) = 3 := by unfold lead; rw [if_neg h4, if_pos h3]
    have hl' := Lib.hid hl
    have d240 : decide ((240 : Int) ≤ (bt s i : Int)) = false := decide_eq_false (by omega)
    have d224 : decide ((224 : Int) ≤ (bt s i : Int)) = true := decide_eq_true (by omega)
    have d192 : decide ((192 : Int) ≤ (bt s i : Int)) = true := decide_eq_true (by omega)
    have d128 : decide ((128 : Int) ≤ (bt s i : Int)) = true := decide_eq_true (by omega)
    have p0 : (bt s i : Int) - 224 = ((bt s i - 224 : Nat) : Int) := by omega
    by_cases hr : 3 ≤ s.size - i
    · have dr : decide (((s.size : Int) - (i : Int)) < 3) = false := decide_eq_false (by omega)
      have hsm : bt s i - 224 < 64 := by omega
      have hb' := Lib.hid bl; have hsm' := Lib.hid hsm; have hr' := Lib.hid hr
      have hac : acc s i 224 0 = bt s i - 224 := rfl
      have hac' := Lib.hid hac
      obtain ⟨C0, hC0⟩ : ∃ C0, C0 = bt s i - 224 := ⟨_, rfl⟩
      rw [← hC0] at p0
      have hC0' := Lib.hid hC0
      clear hl hsm hr hac hC0 h4 h3
      go_wp2_with fail
      go_loop [6, 8] (fun cv jv => ∃ j : Nat, 1 ≤ j ∧ j ≤ 3 ∧ jv = .int .i64 j ∧ cv = .int .i64 (acc s i 224 (j - 1) : Nat) ∧ Hid (Conts s i j)) (fun _ jv => 3 - (intOfZ jv).toNat)
      case atStart => exact ⟨1, Nat.le_refl _, by omega, rfl, by rw [hac'.out, ← hC0'.out], Lib.hid fun t a b => by omega⟩
      case round =>
        obtain ⟨j, j1, jm, rfl, rfl, hco⟩ := hrel
        have hA := acc_lt s i 224 hsm'.out (j - 1) (fun t a b => (hco.out t a (by omega)).2)
        have hA2 : acc s i 224 (j - 1) < 16777216 := Nat.lt_of_lt_of_le hA (by
          have : 64 ^ (j - 1 + 1) ≤ 64 ^ 4 := Nat.pow_le_pow_right (by decide) (by omega)
          exact this)
        obtain ⟨A, hAe⟩ : ∃ A, A = acc s i 224 (j - 1) := ⟨_, rfl⟩
        rw [← hAe] at hA2 ⊢
        have hAe' := Lib.hid hAe
        clear hA hAe
        by_cases hlt : j < 3
        · have hij : i + j < s.size := by have := hr'.out; omega
          have b1 := bt_at s (i + j) hij
          have bl1 := bt_lt s (i + j)
          have q0 : (0 : Int) ≤ (i : Int) + (j : Int) := by omega
          have q1 : (i : Int) + (j : Int) < (s.size : Int) := by omega
          have dj : decide ((j : Int) < 3) = true := decide_eq_true (by omega)
          by_cases c1 : bt s (i + j) < 128
          · have e1 : decide ((bt s (i + j) : Int) < 128) = true := decide_eq_true (by omega)
            have c1' := Lib.hid c1; have hlt' := Lib.hid hlt
            clear c1 hlt
            go_wp2_with fail
            go_ret2
            exact ⟨rfl, .inr ⟨fun h => by have := h.2.2; rw [hl'.out] at this; have := this j (by omega) hlt'.out; have := c1'.out; omega, rfl⟩⟩
          · by_cases c2 : 191 < bt s (i + j)
            · have e1 : decide ((bt s (i + j) : Int) < 128) = false := decide_eq_false (by omega)
              have e2 : decide ((191 : Int) < (bt s (i + j) : Int)) = true := decide_eq_true (by omega)
              have c2' := Lib.hid c2; have hlt' := Lib.hid hlt
              clear c1 c2 hlt
              go_wp2_with fail
              go_ret2
              exact ⟨rfl, .inr ⟨fun h => by have := h.2.2; rw [hl'.out] at this; have := this j (by omega) hlt'.out; have := c2'.out; omega, rfl⟩⟩
            · have e1 : decide ((bt s (i + j) : Int) < 128) = false := decide_eq_false (by omega)
              have e2 : decide ((191 : Int) < (bt s (i + j) : Int)) = false := decide_eq_false (by omega)
              have c1' := Lib.hid c1; have c2' := Lib.hid c2
              have hnew := Lib.hid (show acc s i 224 j = 64 * A + (bt s (i + j) - 128) by
                obtain ⟨k, rfl⟩ : ∃ k, j = k + 1 := ⟨j - 1, by omega⟩
                rw [hAe'.out]
                rfl)
              obtain ⟨b, hb⟩ : ∃ b, b = bt s (i + j) := ⟨_, rfl⟩
              have hbl : 128 ≤ b := by omega
              have hbl2 : b ≤ 191 := by omega
              rw [← hb] at b1 e1 e2
              have hbb := Lib.hid hb
              clear c1 c2 hb bl1
              go_wp2_with fail
              go_round
              case rel =>
                refine ⟨j + 1, by omega, by omega, by go_num, int_eq' (by rw [Nat.add_sub_cancel, hnew.out, ← hbb.out]; omega), Lib.hid fun t a c => ?_⟩
                by_cases e : t = j
                · rw [e, ← hbb.out]; omega
                · exact hco.out t a (by omega)
              case measure => simp [intOfZ]; omega
        · have dj : decide ((j : Int) < 3) = false := decide_eq_false (by omega)
          obtain rfl : j = 3 := by omega
          clear hlt
          go_wp2_with fail
          go_ret2
          refine ⟨rfl, .inl ⟨⟨by rw [hl'.out]; decide, by rw [hl'.out]; exact hr'.out, by rw [hl'.out]; exact hco.out⟩, ?_⟩⟩
          rw [guess_eq hl'.out (o := 224) rfl, hl'.out, ← hAe'.out]
          rfl
    · have dr : decide (((s.size : Int) - (i : Int)) < 3) = true := decide_eq_true (by omega)
      have hr' := Lib.hid hr
      clear hl hr h4 h3
      go_wp2_with fail
      go_ret2
      exact ⟨rfl, .inr ⟨fun h => by have := h.2.1; rw [hl'.out] at this; exact hr'.out this, rfl⟩⟩
  by_cases h2 : 192 ≤ bt s i
  · have hl : lead (bt s i) = 2 := by unfold lead; rw [if_neg h4, if_neg h3, if_pos h2]
    have hl' := Lib.hid hl
    have d240 : decide ((240 : Int) ≤ (bt s i : Int)) = false := decide_eq_false (by omega)
    have d224 : decide ((224 : Int) ≤ (bt s i : Int)) = false := decide_eq_false (by omega)
    have d192 : decide ((192 : Int) ≤ (bt s i : Int)) = true := decide_eq_true (by omega)
    have d128 : decide ((128 : Int) ≤ (bt s i : Int)) = true := decide_eq_true (by omega)
    have p0 : (bt s i : Int) - 192 = ((bt s i - 192 : Nat) : Int) := by omega
    by_cases hr : 2 ≤ s.size - i
    · have dr : decide (((s.size : Int) - (i : Int)) < 2) = false := decide_eq_false (by omega)
      have hsm : bt s i - 192 < 64 := by omega
      have hb' := Lib.hid bl; have hsm' := Lib.hid hsm; have hr' := Lib.hid hr
      have hac : acc s i 192 0 = bt s i - 192 := rfl
      have hac' := Lib.hid hac
      obtain ⟨C0, hC0⟩ : ∃ C0, C0 = bt s i - 192 := ⟨_, rfl⟩
      rw [← hC0] at p0
      have hC0' := Lib.hid hC0
      clear hl hsm hr hac hC0 h4 h3 h2
      go_wp2_with fail
      go_loop [6, 8] (fun cv jv => ∃ j : Nat, 1 ≤ j ∧ j ≤ 2 ∧ jv = .int .i64 j ∧ cv = .int .i64 (acc s i 192 (j - 1) : Nat) ∧ Hid (Conts s i j)) (fun _ jv => 2 - (intOfZ jv).toNat)
      case atStart => exact ⟨1, Nat.le_refl _, by omega, rfl, by rw [hac'.out, ← hC0'.out], Lib.hid fun t a b => by omega⟩
      case round =>
        obtain ⟨j, j1, jm, rfl, rfl, hco⟩ := hrel
        have hA := acc_lt s i 192 hsm'.out (j - 1) (fun t a b => (hco.out t a (by omega)).2)
        have hA2 : acc s i 192 (j - 1) < 16777216 := Nat.lt_of_lt_of_le hA (by
          have : 64 ^ (j - 1 + 1) ≤ 64 ^ 4 := Nat.pow_le_pow_right (by decide) (by omega)
          exact this)
        obtain ⟨A, hAe⟩ : ∃ A, A = acc s i 192 (j - 1) := ⟨_, rfl⟩
        rw [← hAe] at hA2 ⊢
        have hAe' := Lib.hid hAe
        clear hA hAe
        by_cases hlt : j < 2
        · have hij : i + j < s.size := by have := hr'.out; omega
          have b1 := bt_at s (i + j) hij
          have bl1 := bt_lt s (i + j)
          have q0 : (0 : Int) ≤ (i : Int) + (j : Int) := by omega
          have q1 : (i : Int) + (j : Int) < (s.size : Int) := by omega
          have dj : decide ((j : Int) < 2) = true := decide_eq_true (by omega)
          by_cases c1 : bt s (i + j) < 128
          · have e1 : decide ((bt s (i + j) : Int) < 128) = true := decide_eq_true (by omega)
            have c1' := Lib.hid c1; have hlt' := Lib.hid hlt
            clear c1 hlt
            go_wp2_with fail
            go_ret2
            exact ⟨rfl, .inr ⟨fun h => by have := h.2.2; rw [hl'.out] at this; have := this j (by omega) hlt'.out; have := c1'.out; omega, rfl⟩⟩
          · by_cases c2 : 191 < bt s (i + j)
            · have e1 : decide ((bt s (i + j) : Int) < 128) = false := decide_eq_false (by omega)
              have e2 : decide ((191 : Int) < (bt s (i + j) : Int)) = true := decide_eq_true (by omega)
              have c2' := Lib.hid c2; have hlt' := Lib.hid hlt
              clear c1 c2 hlt
              go_wp2_with fail
              go_ret2
              exact ⟨rfl, .inr ⟨fun h => by have := h.2.2; rw [hl'.out] at this; have := this j (by omega) hlt'.out; have := c2'.out; omega, rfl⟩⟩
            · have e1 : decide ((bt s (i + j) : Int) < 128) = false := decide_eq_false (by omega)
              have e2 : decide ((191 : Int) < (bt s (i + j) : Int)) = false := decide_eq_false (by omega)
              have c1' := Lib.hid c1; have c2' := Lib.hid c2
              have hnew := Lib.hid (show acc s i 192 j = 64 * A + (bt s (i + j) - 128) by
                obtain ⟨k, rfl⟩ : ∃ k, j = k + 1 := ⟨j - 1, by omega⟩
                rw [hAe'.out]
                rfl)
              obtain ⟨b, hb⟩ : ∃ b, b = bt s (i + j) := ⟨_, rfl⟩
              have hbl : 128 ≤ b := by omega
              have hbl2 : b ≤ 191 := by omega
              rw [← hb] at b1 e1 e2
              have hbb := Lib.hid hb
              clear c1 c2 hb bl1
              go_wp2_with fail
              go_round
              case rel =>
                refine ⟨j + 1, by omega, by omega, by go_num, int_eq' (by rw [Nat.add_sub_cancel, hnew.out, ← hbb.out]; omega), Lib.hid fun t a c => ?_⟩
                by_cases e : t = j
                · rw [e, ← hbb.out]; omega
                · exact hco.out t a (by omega)
              case measure => simp [intOfZ]; omega
        · have dj : decide ((j : Int) < 2) = false := decide_eq_false (by omega)
          obtain rfl : j = 2 := by omega
          clear hlt
          go_wp2_with fail
          go_ret2
          refine ⟨rfl, .inl ⟨⟨by rw [hl'.out]; decide, by rw [hl'.out]; exact hr'.out, by rw [hl'.out]; exact hco.out⟩, ?_⟩⟩
          rw [guess_eq hl'.out (o := 192) rfl, hl'.out, ← hAe'.out]
          rfl
    · have dr : decide (((s.size : Int) - (i : Int)) < 2) = true := decide_eq_true (by omega)
      have hr' := Lib.hid hr
      clear hl hr h4 h3 h2
      go_wp2_with fail
      go_ret2
      exact ⟨rfl, .inr ⟨fun h => by have := h.2.1; rw [hl'.out] at this; exact hr'.out this, rfl⟩⟩
  by_cases h1 : 128 ≤ bt s i
  · have hl := Lib.hid (show lead (bt s i) = 0 by unfold lead; rw [if_neg h4, if_neg h3, if_neg h2, if_pos h1])
    have d240 : decide ((240 : Int) ≤ (bt s i : Int)) = false := decide_eq_false (by omega)
    have d224 : decide ((224 : Int) ≤ (bt s i : Int)) = false := decide_eq_false (by omega)
    have d192 : decide ((192 : Int) ≤ (bt s i : Int)) = false := decide_eq_false (by omega)
    have d128 : decide ((128 : Int) ≤ (bt s i : Int)) = true := decide_eq_true (by omega)
    clear h4 h3 h2 h1
    go_wp2_with fail
    go_ret2
    exact ⟨rfl, .inr ⟨fun h => by have := h.1; rw [hl.out] at this; omega, rfl⟩⟩
  · have hl := Lib.hid (show lead (bt s i) = 1 by unfold lead; rw [if_neg h4, if_neg h3, if_neg h2, if_neg h1])
    have d240 : decide ((240 : Int) ≤ (bt s i : Int)) = false := decide_eq_false (by omega)
    have d224 : decide ((224 : Int) ≤ (bt s i : Int)) = false := decide_eq_false (by omega)
    have d192 : decide ((192 : Int) ≤ (bt s i : Int)) = false := decide_eq_false (by omega)
    have d128 : decide ((128 : Int) ≤ (bt s i : Int)) = false := decide_eq_false (by omega)
    have dr : decide (((s.size : Int) - (i : Int)) < 1) = false := decide_eq_false (by omega)
    have hr1 : lead (bt s i) ≤ s.size - i := by rw [hl.out]; omega
    have hr1' := Lib.hid hr1
    clear h4 h3 h2 h1 hr1
    go_wp2_with fail
    go_loop [6, 8] (fun cv jv => jv = .int .i64 1 ∧ cv = .int .i64 (bt s i : Nat)) (fun _ _ => 0)
    case atStart => exact ⟨rfl, rfl⟩
    case round =>
      obtain ⟨rfl, rfl⟩ := hrel
      go_wp2_with fail
      go_ret2
      refine ⟨rfl, .inl ⟨⟨by rw [hl.out]; decide, hr1'.out, by rw [hl.out]; exact fun t a b => by omega⟩, ?_⟩⟩
      rw [guess_eq hl.out (o := 0) rfl, hl.out]
      rfl

end Go.Proofs.Ytgaombefigjilaa
