/-
  The character at a place of a text (as a range over it goes), and what scrimref06.guess tells of it.
-/
import Derived.Test.YtgaombefigjilaaHf
import Derived.Test.YtgaombefigjilaaHe
namespace Go.Proofs.Ytgaombefigjilaa
open Go.RowKit

def two (s : ByteArray) (i : Nat) : Nat := bt s i % 32 * 64 + bt s (i + 1) % 64

def three (s : ByteArray) (i : Nat) : Nat := bt s i % 16 * 4096 + bt s (i + 1) % 64 * 64 + bt s (i + 2) % 64

def four (s : ByteArray) (i : Nat) : Nat := bt s i % 8 * 262144 + bt s (i + 1) % 64 * 4096 + bt s (i + 2) % 64 * 64 + bt s (i + 3) % 64

def Con (s : ByteArray) (i k : Nat) : Prop := i + k < s.size ∧ bt s (i + k) / 64 = 2

theorem dec_1 {s : ByteArray} {i : Nat} (h : bt s i < 128) : Utf8.decode s i = (bt s i, 1) := by
  unfold Utf8.decode
  exact if_pos h

theorem dec_2 {s : ByteArray} {i : Nat} (h : ¬ bt s i < 128) (k : bt s i / 32 = 6) (c : Con s i 1) : Utf8.decode s i = if two s i ≥ 128 then (two s i, 2) else (65533, 1) := by
  have e : (bt s i / 32 == 6 && (decide (i + 1 < s.size) && (bt s (i + 1) / 64 == 2))) = true := by simp [k, c.1, c.2]
  unfold Utf8.decode
  exact (if_neg h).trans (if_pos e)

theorem dec_3 {s : ByteArray} {i : Nat} (h : ¬ bt s i < 128) (k : bt s i / 16 = 14) (c : Con s i 1) (d : Con s i 2) : Utf8.decode s i = if (three s i ≥ 2048 && Utf8.valid (three s i)) = true then (three s i, 3) else (65533, 1) := by
  have e0 : ¬ (bt s i / 32 == 6 && (decide (i + 1 < s.size) && (bt s (i + 1) / 64 == 2))) = true := by
    have : ¬ bt s i / 32 = 6 := by omega
    simp [this]
  have e : (bt s i / 16 == 14 && (decide (i + 1 < s.size) && (bt s (i + 1) / 64 == 2)) && (decide (i + 2 < s.size) && (bt s (i + 2) / 64 == 2))) = true := by simp [k, c.1, c.2, d.1, d.2]
  unfold Utf8.decode
  exact (if_neg h).trans ((if_neg e0).trans (if_pos e))

theorem dec_4 {s : ByteArray} {i : Nat} (h : ¬ bt s i < 128) (k : bt s i / 8 = 30) (c : Con s i 1) (d : Con s i 2) (f : Con s i 3) : Utf8.decode s i = if (four s i ≥ 65536 && Utf8.valid (four s i)) = true then (four s i, 4) else (65533, 1) := by
  have e0 : ¬ (bt s i / 32 == 6 && (decide (i + 1 < s.size) && (bt s (i + 1) / 64 == 2))) = true := by
    have : ¬ bt s i / 32 = 6 := by omega
    simp [this]
  have e1 : ¬ (bt s i / 16 == 14 && (decide (i + 1 < s.size) && (bt s (i + 1) / 64 == 2)) && (decide (i + 2 < s.size) && (bt s (i + 2) / 64 == 2))) = true := by
    have : ¬ bt s i / 16 = 14 := by omega
    simp [this]
  have e : (bt s i / 8 == 30 && (decide (i + 1 < s.size) && (bt s (i + 1) / 64 == 2)) && (decide (i + 2 < s.size) && (bt s (i + 2) / 64 == 2)) && (decide (i + 3 < s.size) && (bt s (i + 3) / 64 == 2))) = true := by simp [k, c.1, c.2, d.1, d.2, f.1, f.2]
  unfold Utf8.decode
  exact (if_neg h).trans ((if_neg e0).trans ((if_neg e1).trans (if_pos e)))

theorem dec_bad {s : ByteArray} {i : Nat} (h : ¬ bt s i < 128) (h2 : ¬ (bt s i / 32 = 6 ∧ Con s i 1)) (h3 : ¬ (bt s i / 16 = 14 ∧ Con s i 1 ∧ Con s i 2)) (h4 : ¬ (bt s i / 8 = 30 ∧ Con s i 1 ∧ Con s i 2 ∧ Con s i 3)) : Utf8.decode s i = (65533, 1) := by
  have e0 : ¬ (bt s i / 32 == 6 && (decide (i + 1 < s.size) && (bt s (i + 1) / 64 == 2))) = true := by
    intro k; simp at k; exact h2 ⟨k.1, k.2⟩
  have e1 : ¬ (bt s i / 16 == 14 && (decide (i + 1 < s.size) && (bt s (i + 1) / 64 == 2)) && (decide (i + 2 < s.size) && (bt s (i + 2) / 64 == 2))) = true := by
    intro k; simp at k; exact h3 ⟨k.1.1, k.1.2, k.2⟩
  have e : ¬ (bt s i / 8 == 30 && (decide (i + 1 < s.size) && (bt s (i + 1) / 64 == 2)) && (decide (i + 2 < s.size) && (bt s (i + 2) / 64 == 2)) && (decide (i + 3 < s.size) && (bt s (i + 3) / 64 == 2))) = true := by
    intro k; simp at k; exact h4 ⟨k.1.1.1, k.1.1.2, k.1.2, k.2⟩
  unfold Utf8.decode
  exact (if_neg h).trans ((if_neg e0).trans ((if_neg e1).trans (if_neg e)))

/-- The character at place i, and how many bytes it has; none: no character's bytes stand there. -/
def chAt (s : ByteArray) (i : Nat) : Option (Nat × Nat) := if Utf8.decode s i = (65533, 1) then none else some (Utf8.decode s i)

theorem acc_zero (s : ByteArray) (i o : Nat) : acc s i o 0 = bt s i - o := rfl

theorem acc_succ (s : ByteArray) (i o n : Nat) : acc s i o (n + 1) = 64 * acc s i o n + (bt s (i + (n + 1)) - 128) := rfl

theorem guess_4 {s : ByteArray} {i : Nat} (hl : lead (bt s i) = 4) : guessC s i = 64 * (64 * (64 * (bt s i - 240) + (bt s (i + 1) - 128)) + (bt s (i + 2) - 128)) + (bt s (i + 3) - 128) := by
  rw [guess_eq hl (o := 240) rfl, show 4 - 1 = 0 + 1 + 1 + 1 from rfl, acc_succ, acc_succ, acc_succ, acc_zero]

theorem guess_3 {s : ByteArray} {i : Nat} (hl : lead (bt s i) = 3) : guessC s i = 64 * (64 * (bt s i - 224) + (bt s (i + 1) - 128)) + (bt s (i + 2) - 128) := by
  rw [guess_eq hl (o := 224) rfl, show 3 - 1 = 0 + 1 + 1 from rfl, acc_succ, acc_succ, acc_zero]

theorem guess_2 {s : ByteArray} {i : Nat} (hl : lead (bt s i) = 2) : guessC s i = 64 * (bt s i - 192) + (bt s (i + 1) - 128) := by
  rw [guess_eq hl (o := 192) rfl, show 2 - 1 = 0 + 1 from rfl, acc_succ, acc_zero]

theorem guess_1 {s : ByteArray} {i : Nat} (hl : lead (bt s i) = 1) : guessC s i = bt s i := by
  rw [guess_eq hl (o := 0) rfl, show 1 - 1 = 0 from rfl, acc_zero, Nat.sub_zero]

/-- These are a character's bytes. -/
def Match (s : ByteArray) (i c n : Nat) : Prop := (encL c).length = n ∧ ∀ t, t < n → (encL c).getD t 0 = bt s (i + t)

theorem valid_may (c : Nat) : Utf8.valid (c : Int) = mayZ (c : Int) := by
  unfold Utf8.valid mayZ
  rw [Bool.eq_iff_iff]
  simp
  omega

theorem ch_some {s : ByteArray} {i c n : Nat} (h : Utf8.decode s i = (c, n)) (hn : ¬ (c = 65533 ∧ n = 1)) : chAt s i = some (c, n) := by
  unfold chAt
  rw [h, if_neg (fun e => hn (by simpa using e))]

theorem ch_none {s : ByteArray} {i : Nat} (h : Utf8.decode s i = (65533, 1)) : chAt s i = none := if_pos h

theorem con_of {s : ByteArray} {i t : Nat} (h : 128 ≤ bt s (i + t) ∧ bt s (i + t) ≤ 191) (k : i + t < s.size) : Con s i t := ⟨k, by omega⟩

theorem con_to {s : ByteArray} {i t : Nat} (h : Con s i t) : 128 ≤ bt s (i + t) ∧ bt s (i + t) ≤ 191 := by have := h.2; omega

theorem ch_good {s : ByteArray} {i : Nat} (g : Good s i) (m : mayZ ((guessC s i : Nat) : Int) = true) (h : Match s i (guessC s i) (lead (bt s i))) : chAt s i = some (guessC s i, lead (bt s i)) := by
  obtain ⟨g1, g2, g3⟩ := g
  have bl := bt_lt s i
  by_cases h4 : 240 ≤ bt s i
  · have hl : lead (bt s i) = 4 := by unfold lead; rw [if_pos h4]
    rw [hl] at g2 g3 h ⊢
    have c1 := g3 1 (by omega) (by omega); have c2 := g3 2 (by omega) (by omega); have c3 := g3 3 (by omega) (by omega)
    have hc := guess_4 hl
    have r := (may_range m).2
    have e : guessC s i = four s i := by unfold four; omega
    have hm := h.1
    have big : 65536 ≤ guessC s i := by
      unfold encL at hm
      split at hm
      · simp at hm
      · split at hm
        · simp at hm
        · split at hm
          · simp at hm
          · omega
    refine ch_some ?_ (by omega)
    rw [dec_4 (by omega) (by omega) (con_of c1 (by omega)) (con_of c2 (by omega)) (con_of c3 (by omega)), ← e, if_pos]
    rw [valid_may, m]
    simpa using big
  by_cases h3 : 224 ≤ bt s i
  · have hl : lead (bt s i) = 3 := by unfold lead; rw [if_neg h4, if_pos h3]
    rw [hl] at g2 g3 h ⊢
    have c1 := g3 1 (by omega) (by omega); have c2 := g3 2 (by omega) (by omega)
    have hc := guess_3 hl
    have e : guessC s i = three s i := by unfold three; omega
    have hm := h.1
    have big : 2048 ≤ guessC s i := by
      unfold encL at hm
      split at hm
      · simp at hm
      · split at hm
        · simp at hm
        · omega
    refine ch_some ?_ (by omega)
    rw [dec_3 (by omega) (by omega) (con_of c1 (by omega)) (con_of c2 (by omega)), ← e, if_pos]
    rw [valid_may, m]
    simpa using big
  by_cases h2 : 192 ≤ bt s i
  · have hl : lead (bt s i) = 2 := by unfold lead; rw [if_neg h4, if_neg h3, if_pos h2]
    rw [hl] at g2 g3 h ⊢
    have c1 := g3 1 (by omega) (by omega)
    have hc := guess_2 hl
    have e : guessC s i = two s i := by unfold two; omega
    have hm := h.1
    have big : 128 ≤ guessC s i := by
      unfold encL at hm
      split at hm
      · simp at hm
      · omega
    refine ch_some ?_ (by omega)
    rw [dec_2 (by omega) (by omega) (con_of c1 (by omega)), ← e, if_pos big]
  · by_cases h1 : 128 ≤ bt s i
    · have hl : lead (bt s i) = 0 := by unfold lead; rw [if_neg h4, if_neg h3, if_neg h2, if_pos h1]
      omega
    · have hl : lead (bt s i) = 1 := by unfold lead; rw [if_neg h4, if_neg h3, if_neg h2, if_neg h1]
      have hc := guess_1 hl
      rw [hl]
      refine ch_some ?_ (by omega)
      rw [dec_1 (by omega), hc]

theorem match_4 {s : ByteArray} {i c : Nat} (h : encL c = [bt s i, bt s (i + 1), bt s (i + 2), bt s (i + 3)]) : Match s i c 4 := by
  refine ⟨by rw [h]; rfl, fun t ht => ?_⟩
  rw [h]
  match t, ht with
  | 0, _ => rfl
  | 1, _ => rfl
  | 2, _ => rfl
  | 3, _ => rfl

theorem match_3 {s : ByteArray} {i c : Nat} (h : encL c = [bt s i, bt s (i + 1), bt s (i + 2)]) : Match s i c 3 := by
  refine ⟨by rw [h]; rfl, fun t ht => ?_⟩
  rw [h]
  match t, ht with
  | 0, _ => rfl
  | 1, _ => rfl
  | 2, _ => rfl

theorem match_2 {s : ByteArray} {i c : Nat} (h : encL c = [bt s i, bt s (i + 1)]) : Match s i c 2 := by
  refine ⟨by rw [h]; rfl, fun t ht => ?_⟩
  rw [h]
  match t, ht with
  | 0, _ => rfl
  | 1, _ => rfl

theorem match_1 {s : ByteArray} {i c : Nat} (h : encL c = [bt s i]) : Match s i c 1 := by
  refine ⟨by rw [h]; rfl, fun t ht => ?_⟩
  rw [h]
  match t, ht with
  | 0, _ => rfl

theorem ch_bad {s : ByteArray} {i : Nat} (hi : i < s.size) (h : ¬ (Good s i ∧ mayZ ((guessC s i : Nat) : Int) = true ∧ Match s i (guessC s i) (lead (bt s i)))) : chAt s i = none := by
  have bl := bt_lt s i
  by_cases h4 : 240 ≤ bt s i
  · have hl : lead (bt s i) = 4 := by unfold lead; rw [if_pos h4]
    have hc := guess_4 hl
    by_cases k : bt s i / 8 = 30 ∧ Con s i 1 ∧ Con s i 2 ∧ Con s i 3
    · obtain ⟨k0, k1, k2, k3⟩ := k
      have c1 := con_to k1; have c2 := con_to k2; have c3 := con_to k3
      have e : guessC s i = four s i := by unfold four; omega
      have hg : Good s i := by
        refine ⟨by omega, by have := k3.1; omega, ?_⟩
        rw [hl]
        intro t a b
        have : t = 1 ∨ t = 2 ∨ t = 3 := by omega
        rcases this with rfl | rfl | rfl
        · exact c1
        · exact c2
        · exact c3
      refine ch_none ?_
      rw [dec_4 (by omega) k0 k1 k2 k3, ← e, if_neg]
      intro q
      rw [Bool.and_eq_true, decide_eq_true_eq, valid_may] at q
      refine h ⟨hg, q.2, ?_⟩
      rw [hl]
      refine match_4 ?_
      unfold encL
      rw [if_neg (by omega), if_neg (by omega), if_neg (by omega)]
      simp only [List.cons.injEq, and_true]
      omega
    · exact ch_none (dec_bad (by omega) (by omega) (by omega) k)
  by_cases h3 : 224 ≤ bt s i
  · have hl : lead (bt s i) = 3 := by unfold lead; rw [if_neg h4, if_pos h3]
    have hc := guess_3 hl
    by_cases k : bt s i / 16 = 14 ∧ Con s i 1 ∧ Con s i 2
    · obtain ⟨k0, k1, k2⟩ := k
      have c1 := con_to k1; have c2 := con_to k2
      have e : guessC s i = three s i := by unfold three; omega
      have hg : Good s i := by
        refine ⟨by omega, by have := k2.1; omega, ?_⟩
        rw [hl]
        intro t a b
        have : t = 1 ∨ t = 2 := by omega
        rcases this with rfl | rfl
        · exact c1
        · exact c2
      refine ch_none ?_
      rw [dec_3 (by omega) k0 k1 k2, ← e, if_neg]
      intro q
      rw [Bool.and_eq_true, decide_eq_true_eq, valid_may] at q
      refine h ⟨hg, q.2, ?_⟩
      rw [hl]
      refine match_3 ?_
      unfold encL
      rw [if_neg (by omega), if_neg (by omega), if_pos (by omega)]
      simp only [List.cons.injEq, and_true]
      omega
    · exact ch_none (dec_bad (by omega) (by omega) k (by omega))
  by_cases h2 : 192 ≤ bt s i
  · have hl : lead (bt s i) = 2 := by unfold lead; rw [if_neg h4, if_neg h3, if_pos h2]
    have hc := guess_2 hl
    by_cases k : bt s i / 32 = 6 ∧ Con s i 1
    · obtain ⟨k0, k1⟩ := k
      have c1 := con_to k1
      have e : guessC s i = two s i := by unfold two; omega
      have hg : Good s i := by
        refine ⟨by omega, by have := k1.1; omega, ?_⟩
        rw [hl]
        intro t a b
        obtain rfl : t = 1 := by omega
        exact c1
      refine ch_none ?_
      rw [dec_2 (by omega) k0 k1, ← e, if_neg]
      intro q
      refine h ⟨hg, by unfold mayZ; simp; omega, ?_⟩
      rw [hl]
      refine match_2 ?_
      unfold encL
      rw [if_neg (by omega), if_pos (by omega)]
      simp only [List.cons.injEq, and_true]
      omega
    · exact ch_none (dec_bad (by omega) k (by omega) (by omega))
  · by_cases h1 : 128 ≤ bt s i
    · exact ch_none (dec_bad (by omega) (by omega) (by omega) (by omega))
    · have hl : lead (bt s i) = 1 := by unfold lead; rw [if_neg h4, if_neg h3, if_neg h2, if_neg h1]
      have hc := guess_1 hl
      refine absurd ⟨⟨by omega, by omega, by rw [hl]; exact fun t a b => by omega⟩, ?_, ?_⟩ h
      · unfold mayZ; simp; omega
      · rw [hl]
        refine match_1 ?_
        unfold encL
        rw [if_pos (by omega), hc]

end Go.Proofs.Ytgaombefigjilaa
