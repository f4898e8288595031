/-
  nat.Parse.
-/
import Derived.Test.YtajkdinlannmnaaDoorDecG
namespace Go.Proofs.YtajkdinlannmnaaDoor
open Go.RowKit Num

/-- What both readings of a text answer. -/
def ParsePost (s : ByteArray) (w : World) (e : Ending) (w' : World) : Prop :=
  Below w.heap.size w w' ∧ (¬ IsT s ∧ e = .returned (.tuple #[.slice none 0 0, .bool false]) ∨
    IsT s ∧ ∃ (ao : Option Addr) (n nc : Nat) (f : Nat → Nat), e = .returned (.tuple #[.slice ao n nc, .bool true]) ∧ n ≤ nc ∧ nc ≤ 9223372036854775807 ∧ Sl w' ao n f ∧ Canon (sval s s.size) n f)

theorem byt_extract (s : ByteArray) (a b j : Nat) (hb : b ≤ s.size) (h : a + j < b) : byt (s.extract a b) j = byt s (a + j) := by
  rw [← byt_at _ _ (show j < (s.extract a b).size by rw [ByteArray.size_extract]; omega), ← byt_at _ _ (show a + j < s.size by omega)]
  rw [ByteArray.getElem_extract]

theorem sval_add (s : ByteArray) (a b : Nat) (hb : b ≤ s.size) (hab : a ≤ b) : ∀ j, a + j ≤ b → sval s (a + j) = sval s a * 10 ^ j + sval (s.extract a b) j
  | 0, _ => by simp [sval]
  | j + 1, hj => by
    have ih := sval_add s a b hb hab j (by omega)
    have e : sval s (a + (j + 1)) = sval s (a + j) * 10 + (byt s (a + j) - 48) := rfl
    have e2 : sval (s.extract a b) (j + 1) = sval (s.extract a b) j * 10 + (byt (s.extract a b) j - 48) := rfl
    rw [e, e2, ih, byt_extract s a b j hb (by omega), ten_succ]
    have e3 : sval s a * (10 * 10 ^ j) = 10 * (sval s a * 10 ^ j) := Nat.mul_left_comm _ _ _
    omega

theorem sval_congr {s t : ByteArray} {n : Nat} (h : ∀ j, j < n → byt s j = byt t j) : sval s n = sval t n := by
  induction n with
  | zero => rfl
  | succ n ih =>
    show sval s n * 10 + (byt s n - 48) = sval t n * 10 + (byt t n - 48)
    rw [ih (fun j hj => h j (by omega)), h n (by omega)]

theorem ten_pw : ∀ n, 10 ^ n ≤ pw n
  | 0 => Nat.le_refl _
  | n + 1 => by
    have := ten_pw n
    rw [ten_succ, pw_succ]
    exact Nat.mul_le_mul (by decide) this

theorem sval_few {s : ByteArray} (h : DigT s) {n i : Nat} {f : Nat → Nat} (hi : i ≤ s.size) (hc : Canon (sval s i) n f) : n ≤ i :=
  hc.len_le (Nat.lt_of_lt_of_le (sval_lt h i hi) (ten_pw i))

theorem extract_all (s : ByteArray) : s.extract 0 s.size = s := by simp

theorem extract_in (s : ByteArray) (i L : Nat) (h : i + L ≤ s.size) : (s.extract i s.size).extract 0 L = s.extract i (i + L) := by
  rw [ByteArray.extract_extract, Nat.add_zero, Nat.min_eq_left h]

theorem extract_on (s : ByteArray) (i L : Nat) (hi : i ≤ s.size) : (s.extract i s.size).extract L (s.size - i) = s.extract (i + L) s.size := by
  rw [ByteArray.extract_extract]
  congr 1
  omega

theorem DigT.extract {s : ByteArray} (h : DigT s) (a b : Nat) (hb : b ≤ s.size) : DigT (s.extract a b) := by
  intro j hj
  rw [ByteArray.size_extract] at hj
  rw [byt_extract s a b j hb (by omega)]
  exact h (a + j) (by omega)

set_option maxHeartbeats 2000000 in
theorem parse_any (s : ByteArray) (hs : s.size ≤ 2000) (w : World) : Calls Tryd.prog 6 #[.string s] w (ParsePost s w) := by
  go_enter Tryd.func6, Tryd.ntmps6
  go_wp2_with fail
  refine (isText_any s (by omega) w).mono ?_
  rintro e w' ⟨⟨rfl, hT⟩ | ⟨rfl, hT⟩, rfl⟩
  · have hT' := Lib.hid hT
    clear hT
    go_wp2_with fail
    go_ret2
    exact ⟨Below.refl _ _, .inl ⟨hT'.out, rfl⟩⟩
  · have hT' := Lib.hid hT
    clear hT
    go_wp2_with fail
    go_loopw [0, 4] (fun sv av wr => ∃ (i n : Nat) (F : Nat → Nat), i ≤ s.size ∧ sv = .string (s.extract i s.size) ∧ wr.ownsRow w.heap.size 31 1 av n (limbCells F n) ∧ Canon (sval s i) n F ∧ Below w.heap.size w wr) (fun sv _ _ => match sv with | .string t => t.size | _ => 0)
    case atStart =>
      refine ⟨0, 0, fun _ => 0, Nat.zero_le _, by rw [extract_all], World.ownsRow_nil _ _ _ _, canon_zero _, Below.refl _ _⟩
    case round =>
      obtain ⟨i, n, F, hi, rfl, hown0, hc0, hb0⟩ := hrel
      have hown := Lib.hid hown0; have hc := Lib.hid hc0; have hb := Lib.hid hb0
      have hsz : (s.extract i s.size).size = s.size - i := by rw [ByteArray.size_extract]; omega
      clear hown0 hc0 hb0
      by_cases h0 : i = s.size
      · subst h0
        obtain ⟨ao, cap, rfl, g1, g2, g3⟩ := owns_slice hown.out
        have g3' := Lib.hid g3
        rw [Nat.sub_self] at hsz
        clear g3
        go_wp2_with fail
        go_ret2
        exact ⟨hb.out, .inr ⟨hT'.out, ao, n, cap, F, rfl, g1, g2, g3'.out, hc.out⟩⟩
      · obtain ⟨L, hL⟩ : ∃ L : Nat, min ((s.size - i : Nat) : Int) 9 = (L : Int) := ⟨min (s.size - i) 9, by omega⟩
        have l1 : 0 < L := by omega
        have l2 : L ≤ 9 := by omega
        have l3 : i + L ≤ s.size := by omega
        have hd := Lib.hid (show DigT s from hT'.out.2.1)
        have hes : (s.extract i (i + L)).size = L := by rw [ByteArray.size_extract]; omega
        have hn := sval_few hd.out hi hc.out
        go_wp2_with fail
        rw [extract_in s i L l3]
        refine (appendDigits_any w.heap.size n u4 F (sval s i) (s.extract i (i + L)) wr hown.out hc.out hb.out.size (by omega) (hd.out.extract _ _ l3) (by omega)).mono ?_
        rw [hes, ← sval_add s i (i + L) l3 (Nat.le_add_right _ _) L (Nat.le_refl _)]
        rintro e w1 ⟨v', n', F', rfl, hown1, hc1, hb1⟩
        have hown2 := Lib.hid hown1; have hc2 := Lib.hid hc1; have hb2 := Lib.hid (hb.out.trans hb1)
        clear hown1 hc1 hb1
        go_wp2_with fail
        go_roundw
        case rel =>
          refine ⟨i + L, n', F', l3, ?_, hown2.out, hc2.out, hb2.out⟩
          rw [extract_on s i L hi]
        case measure =>
          show ((s.extract i s.size).extract L (s.size - i)).size < (s.extract i s.size).size
          rw [extract_on s i L hi, ByteArray.size_extract, hsz]
          omega

end Go.Proofs.YtajkdinlannmnaaDoor
