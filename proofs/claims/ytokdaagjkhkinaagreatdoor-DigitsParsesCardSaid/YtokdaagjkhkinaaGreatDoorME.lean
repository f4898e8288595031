/-
  strings.Cut at one byte; digits.number, parts.
  digits.Parse.
  nat.addTimes and nat.Mul: the product.
  whole.Neg, whole.Mul, whole.Add, whole.Sub.
  scrimref03.Sub, Cmp, Mul.
  Powers: what a power comes to, square by square, and whole.Pow.
  ratio.Whole, Of, Sign, Neg, Abs, Cmp.
  scrimref02.Gcd of longer numbers.
  scrimref03.DivMod.
  scrimref03.Of; scrimlaw03.awake: chapter 3's examples hold.
  scrimref04.Top, Bot, Make.
-/
import Derived.Test.YtokdaagjkhkinaaGreatDoorMD
import Derived.OwnWalk
import Derived.BigQuiet
namespace Go.Proofs.YtokdaagjkhkinaaGreatDoor
open Go.RowKit Num

def CutPost (s : ByteArray) (c : UInt8) (w : World) (e : Ending) (w' : World) : Prop :=
  ∃ a b B, e = .returned (.tuple #[.string a, .string b, .bool B]) ∧ cutB s.data.toList c = (a.data.toList, b.data.toList, B) ∧ Below w.heap.size w w'

theorem to_extract (s : ByteArray) (a b : Nat) : (s.extract a b).data.toList = (s.data.toList.drop a).take (b - a) := by
  rw [ByteArray.data_extract, Array.toList_extract]

theorem list_append (a b : ByteArray) : (a ++ b).data.toList = a.data.toList ++ b.data.toList := by
  rw [ByteArray.data_append, Array.toList_append]

theorem nil_bytes : (ByteArray.mk #[]).data.toList = [] := rfl

set_option maxRecDepth 20000 in
set_option maxHeartbeats 1000000 in
theorem cutIn_any (s : ByteArray) (c : UInt8) (hs : s.size ≤ 1000000) (w : World) :
    Calls Tryz.prog 66 #[.string s, .string ⟨#[c]⟩] w (CutPost s c w) := by
  have hI := Tryz.stringslite_Index_one s c w
  rcases index_one s.data.toList c with ⟨h1, h2⟩ | ⟨a, b, h1, h2, h3⟩
  · rw [h2] at hI
    go_enter Tryz.func66, Tryz.ntmps66
    go_wp2_with fail
    refine hI.mono ?_
    rintro e w' ⟨rfl, rfl⟩
    have h2' := Lib.hid h2
    clear h2 hI h1
    go_wp2_with fail
    go_ret3
    exact ⟨_, _, _, rfl, cut_none h2'.out, Below.refl _ _⟩
  · rw [h3] at hI
    have hl : s.size = a.length + b.length + 1 := by rw [Lib.size_eq, h2, List.length_append, List.length_cons]; omega
    have e1 : (s.extract 0 a.length).data.toList = a := by rw [to_extract, h2]; simp
    have e2 : (s.extract (a.length + 1) s.size).data.toList = b := by
      rw [to_extract, h2, show a ++ c :: b = (a ++ [c]) ++ b by simp, List.drop_left' (by simp)]
      exact List.take_of_length_le (by omega)
    obtain ⟨i, hi⟩ : ∃ i, i = a.length := ⟨_, rfl⟩
    rw [← hi] at hI hl e1 e2
    have h3' := Lib.hid h3; have h2' := Lib.hid h2; have e1' := Lib.hid e1; have e2' := Lib.hid e2
    clear h1 h2 h3 hi e1 e2
    go_enter Tryz.func66, Tryz.ntmps66
    go_wp2_with fail
    refine hI.mono ?_
    rintro e w' ⟨rfl, rfl⟩
    clear hI
    have b1 : i ≤ s.size := by omega
    have b2 : i + 1 ≤ s.size := by omega
    clear hl
    go_upto_region 3 with fail
    go_quiet (fail)
    go_wp2_with fail
    go_ret3
    exact ⟨_, _, _, rfl, by rw [cut_some h2'.out h3'.out, e1'.out, e2'.out], below_drewN (Below.refl _ _) nq⟩

set_option maxRecDepth 20000 in
theorem cut_any (s : ByteArray) (c : UInt8) (hs : s.size ≤ 1000000) (w : World) :
    Calls Tryz.prog 46 #[.string s, .string ⟨#[c]⟩] w (CutPost s c w) := by
  go_enter Tryz.func46, Tryz.ntmps46
  go_wp2_with fail
  refine (cutIn_any s c hs w).mono ?_
  rintro e w' ⟨a, b, B, rfl, h, hb⟩
  have h' := Lib.hid h; have hb' := Lib.hid hb
  clear h hb
  go_wp2_with fail
  go_ret3
  exact ⟨a, b, B, rfl, h'.out, hb'.out⟩

/-- A number's digits: its limbs, or false. -/
def DigsPost (l : List UInt8) (w : World) (e : Ending) (w' : World) : Prop :=
  Below w.heap.size w w' ∧ (numL l = none ∧ e = .returned (.tuple #[.slice none 0 0, .bool false]) ∨
    ∃ v ao n nc f, numL l = some v ∧ e = .returned (.tuple #[.slice ao n nc, .bool true]) ∧ Arg w' ao n nc f ∧ val f n = v)

theorem arr_list (l : List UInt8) : (ByteArray.mk l.toArray).data.toList = l := rfl

theorem empty_of {l : List UInt8} (s : ByteArray) (h : s.data.toList = l) : s.toList = l := (ByteArray.toList_eq s).trans h

set_option maxRecDepth 20000 in
set_option maxHeartbeats 1000000 in
theorem number_any (s : ByteArray) (hs : s.size ≤ 2000) (w : World) :
    Calls Tryz.prog 23 #[.string s] w (DigsPost s.data.toList w) := by
  have hT := Tryz.strings_TrimLeft_one s 48 (by decide) w
  obtain ⟨t, ht⟩ : ∃ t : ByteArray, t = ⟨(Lib.trimLeftB s.data.toList 48).toArray⟩ := ⟨_, rfl⟩
  have htl : t.data.toList = Lib.trimLeftB s.data.toList 48 := by rw [ht]
  rw [← ht] at hT
  have htn : t.size ≤ 2000 := by
    have := trim_len s.data.toList
    rw [← htl, ← Lib.size_eq, ← Lib.size_eq] at this
    omega
  go_enter Tryz.func23, Tryz.ntmps23
  go_wp2_with fail
  refine hT.mono ?_
  rintro e w' ⟨rfl, rfl⟩
  clear hT ht
  have htl' := Lib.hid htl
  by_cases h0 : Lib.trimLeftB s.data.toList 48 = []
  · have hz := empty_of t (htl.trans h0)
    have hz2 : (t.toList == []) = true := by rw [hz]; rfl
    have hz3 : t.toList.isEmpty = true := by rw [hz]; rfl
    have h0' := Lib.hid h0
    clear htl h0 hz
    go_wp2_with fail
    go_ret2
    refine ⟨Below.refl _ _, ?_⟩
    have hl : s.toList = s.data.toList := ByteArray.toList_eq s
    have hall : s.data.toList.all isD = true := by rw [← trim_all, h0'.out]; rfl
    by_cases hs0 : s.data.toList = []
    · exact .inl ⟨by rw [hs0]; rfl, by rw [hl, hs0]; rfl⟩
    · refine .inr ⟨_, none, 0, 0, fun _ => 0, numL_some hs0 hall, ?_, ⟨Nat.le_refl _, by omega, by omega, .inl rfl, fun _ h => absurd h (Nat.not_lt_zero _)⟩, ?_⟩
      · rw [hl]
        have : s.data.toList.isEmpty = false := by simpa using hs0
        rw [this]
        rfl
      · rw [← lval_trim, h0'.out]
        rfl
  · have hz := empty_of t htl
    have hz2 : (t.toList == []) = false := by rw [hz]; simpa using h0
    have hz3 : t.toList.isEmpty = false := by rw [hz]; simpa using h0
    have hT := isT_trim htl h0
    have hs0 : s.data.toList ≠ [] := fun h => h0 (by rw [h]; rfl)
    have hT' := Lib.hid hT; have hs0' := Lib.hid hs0
    clear htl h0 hz hT hs0
    go_wp2_with fail
    refine (parse_any t htn _).mono ?_
    rintro e w1 ⟨hb, ⟨h1, rfl⟩ | ⟨h1, ao, n, nc, f, rfl, k1, k2, k3, k4⟩⟩
    · have hb' := Lib.hid hb
      have h1' := Lib.hid h1
      clear hb h1
      go_wp2_with fail
      go_ret2
      exact ⟨hb'.out, .inl ⟨numL_bad (by have := mt hT'.out.2 h1'.out; simpa using this), rfl⟩⟩
    · have hb' := Lib.hid hb
      have h1' := Lib.hid h1
      have k3' := Lib.hid k3; have k4' := Lib.hid k4; have k1' := Lib.hid k1; have k2' := Lib.hid k2
      clear hb h1 k3 k4 k1 k2
      go_wp2_with fail
      go_ret2
      have hn : n ≤ t.size := sval_few h1'.out.2.1 (Nat.le_refl _) k4'.out
      exact ⟨hb'.out, .inr ⟨_, ao, n, nc, f, numL_some hs0'.out (hT'.out.1 h1'.out), rfl, ⟨k1'.out, k2'.out, by omega, k3'.out, k4'.out.lim⟩, by rw [k4'.out.val, sval_lval, htl'.out, lval_trim]⟩⟩

theorem repeat_zero (k : Nat) : Lib.repeatL [48] k = List.replicate k 48 := by
  induction k with
  | zero => rfl
  | succ k ih => rw [List.replicate_succ, ← ih]; rfl

def PartsPost (l : List UInt8) (w : World) (e : Ending) (w' : World) : Prop :=
  ∃ a b, e = .returned (.tuple #[.string a, .string b]) ∧ partsL l = (a.data.toList, b.data.toList) ∧ Below w.heap.size w w'

theorem parts_a {l a b : List UInt8} (h : cutB l 114 = (a, b, true)) : partsL l = (a, b) := by unfold partsL; rw [h]; rfl

theorem parts_b {l a b c d : List UInt8} (h : cutB l 114 = (a, b, false)) (k : cutB l 46 = (c, d, false)) : partsL l = (l, [49]) := by unfold partsL; rw [h, k]; rfl

theorem parts_c {l a b c d : List UInt8} (h : cutB l 114 = (a, b, false)) (k : cutB l 46 = (c, d, true)) (n : c = [] ∨ d = []) : partsL l = ([], []) := by unfold partsL; rw [h, k]; simp [n]

theorem parts_d {l a b c d : List UInt8} (h : cutB l 114 = (a, b, false)) (k : cutB l 46 = (c, d, true)) (n : ¬ (c = [] ∨ d = [])) : partsL l = (c ++ d, 49 :: List.replicate d.length 48) := by unfold partsL; rw [h, k]; simp [n]

theorem cut_len1 {l a b : List UInt8} {c : UInt8} {B : Bool} (h : cutB l c = (a, b, B)) : a.length ≤ l.length := by
  unfold cutB at h
  split at h
  · cases h; simp; omega
  · cases h; simp

theorem cut_len {l a b : List UInt8} {c : UInt8} {B : Bool} (h : cutB l c = (a, b, B)) : b.length ≤ l.length := by
  unfold cutB at h
  split at h
  · cases h; simp
  · cases h; simp

set_option maxRecDepth 20000 in
set_option maxHeartbeats 1000000 in
theorem parts_any (s : ByteArray) (hs : s.size ≤ 1000) (w : World) :
    Calls Tryz.prog 22 #[.string s] w (PartsPost s.data.toList w) := by
  go_enter Tryz.func22, Tryz.ntmps22
  go_wp2_with fail
  refine (cut_any s 114 (by omega) w).mono ?_
  rintro e w1 ⟨a, b, B, rfl, h1, hb1⟩
  have h1' := Lib.hid h1; have hb1' := Lib.hid hb1
  clear h1 hb1
  cases B with
  | true =>
    go_wp2_with fail
    go_ret2
    exact ⟨_, _, rfl, parts_a h1'.out, hb1'.out⟩
  | false =>
    go_wp2_with fail
    refine (cut_any s 46 (by omega) w1).mono ?_
    rintro e w2 ⟨c, d, B, rfl, h2, hb2⟩
    have h2' := Lib.hid h2; have hb2' := Lib.hid (below_then hb1'.out (Nat.le_refl _) hb2)
    clear h2 hb2 hb1'
    cases B with
    | false =>
      go_wp2_with fail
      go_ret2
      exact ⟨_, _, rfl, parts_b h1'.out h2'.out, hb2'.out⟩
    | true =>
      have hc : c.toList = c.data.toList := ByteArray.toList_eq c
      have hd : d.toList = d.data.toList := ByteArray.toList_eq d
      have hc' := Lib.hid hc; have hd' := Lib.hid hd
      clear hc hd
      by_cases c0 : c.toList.isEmpty = true
      · have c0' := Lib.hid c0
        go_wp2_with fail
        go_ret2
        exact ⟨_, _, rfl, parts_c h1'.out h2'.out (.inl (by have := c0'.out; rw [hc'.out] at this; simpa using this)), hb2'.out⟩
      · have c0f : c.toList.isEmpty = false := by simpa using c0
        have c0' := Lib.hid c0f
        clear c0
        by_cases d0 : d.toList.isEmpty = true
        · have d0' := Lib.hid d0
          go_wp2_with fail
          go_ret2
          exact ⟨_, _, rfl, parts_c h1'.out h2'.out (.inr (by have := d0'.out; rw [hd'.out] at this; simpa using this)), hb2'.out⟩
        · have d0f : d.toList.isEmpty = false := by simpa using d0
          have d0' := Lib.hid d0f
          clear d0
          have dl : d.size ≤ 1000 := by
            have := cut_len h2'.out
            rw [← Lib.size_eq, ← Lib.size_eq] at this
            omega
          have cl : c.size ≤ 1000 := by
            have := cut_len1 h2'.out
            rw [← Lib.size_eq, ← Lib.size_eq] at this
            omega
          go_wp2_with fail
          refine (Tryz.strings_Repeat ⟨#[48]⟩ d.size _ (by omega) (by rw [show (ByteArray.mk #[48]).size = 1 from rfl]; omega)).mono ?_
          rintro e w3 ⟨rfl, hb3⟩
          have hb3' := Lib.hid (below_then hb2'.out (Nat.le_refl _) hb3)
          obtain ⟨t, ht⟩ : ∃ t : ByteArray, t = ⟨(Lib.repeatL (ByteArray.mk #[48]).data.toList d.size).toArray⟩ := ⟨_, rfl⟩
          have htl : t.data.toList = List.replicate d.size 48 := by rw [ht]; exact repeat_zero d.size
          have tn : t.size ≤ 1000 := by rw [Lib.size_eq, htl, List.length_replicate]; exact dl
          rw [← ht]
          have htl' := Lib.hid htl
          clear hb3 ht htl
          go_wp2_with fail
          go_ret2
          refine ⟨c ++ d, ByteArray.mk #[49] ++ t, rfl, ?_, hb3'.out⟩
          have nn : ¬ (c.data.toList = [] ∨ d.data.toList = []) := by
            have x := c0'.out; have y := d0'.out
            rw [hc'.out] at x; rw [hd'.out] at y
            rintro (h | h)
            · rw [h] at x; cases x
            · rw [h] at y; cases y
          rw [parts_d h1'.out h2'.out nn, list_append, list_append, htl'.out, ← Lib.size_eq]
          rfl

theorem cutPrefix_any (s : ByteArray) (w : World) :
    Calls Tryz.prog 21 #[.string s, .string ⟨#[194, 175]⟩] w fun e w' =>
      ∃ u, e = .returned (.tuple #[.string u, .bool (Lib.hasPrefix s.data.toList [194, 175])]) ∧ u.data.toList = Lib.trimPrefix s.data.toList [194, 175] ∧ w' = w :=
  (Tryz.strings_CutPrefix s ⟨#[194, 175]⟩ w).mono fun _ _ ⟨he, hw⟩ => ⟨_, he, rfl, hw⟩

theorem Arg.whole {w : World} {ao : Option Addr} {n nc : Nat} {f : Nat → Nat} (h : Arg w ao n nc f) (b : Bool) : Whole w b ao n nc (sgn b (val f n)) := ⟨f, h, rfl⟩

theorem parts_len {s : List UInt8} {a b : ByteArray} (hs : s.length ≤ 400) (h : partsL s = (a.data.toList, b.data.toList)) : a.size ≤ 2000 ∧ b.size ≤ 2000 := by
  rw [Lib.size_eq, Lib.size_eq]
  rcases cut_one s 114 with ⟨_, h2⟩ | ⟨x, y, _, h2, h3⟩
  · rcases cut_one s 46 with ⟨_, k2⟩ | ⟨x, y, _, k2, k3⟩
    · rw [parts_b h2 k2] at h
      obtain ⟨h4, h5⟩ := Prod.mk.inj h
      rw [← h4, ← h5]
      exact ⟨by omega, by simp⟩
    · have l1 : x.length + y.length + 1 ≤ 400 := by rw [k2, List.length_append, List.length_cons] at hs; omega
      by_cases n : x = [] ∨ y = []
      · rw [parts_c h2 k3 n] at h
        obtain ⟨h4, h5⟩ := Prod.mk.inj h
        rw [← h4, ← h5]
        exact ⟨by simp, by simp⟩
      · rw [parts_d h2 k3 n] at h
        obtain ⟨h4, h5⟩ := Prod.mk.inj h
        rw [← h4, ← h5, List.length_append, List.length_cons, List.length_replicate]
        exact ⟨by omega, by omega⟩
  · have l1 : x.length + y.length + 1 ≤ 400 := by rw [h2, List.length_append, List.length_cons] at hs; omega
    rw [parts_a h3] at h
    obtain ⟨h4, h5⟩ := Prod.mk.inj h
    rw [← h4, ← h5]
    exact ⟨by omega, by omega⟩

end Go.Proofs.YtokdaagjkhkinaaGreatDoor

namespace Go.Proofs.YtokdaagjkhkinaaGreatDoor
open Go.RowKit Num

attribute [local go_sem ↓] Go.wp_at_zero Go.wp_at_succ

set_option maxRecDepth 20000 in
set_option maxHeartbeats 2000000 in
theorem parse5_any (s : ByteArray) (w : World) :
    Calls Tryz.prog 9 #[.string s] w (ParsedPost s.data.toList w) := by
  go_enter Tryz.func9, Tryz.ntmps9
  go_wp2_with fail
  refine gen_calls (fun w' => Below w.heap.size w w' ∧ Box3 w' w.heap.size (.bool false) (.slice none 0 0) (.slice none 0 0))
    ⟨((Below.refl _ _).alloc (Nat.le_refl _) _), (Box3.new _ _ _ _ rfl)⟩ ?_
  rintro w0 ⟨bb, x0⟩
  refine (cutPrefix_any s _).mono ?_
  rintro e w' ⟨u, rfl, hu, rfl⟩
  obtain ⟨neg, hneg⟩ : ∃ neg, neg = Lib.hasPrefix s.data.toList [194, 175] := ⟨_, rfl⟩
  have hu' := Lib.hid hu; have hneg' := Lib.hid hneg
  rw [← hneg]
  have goal' : ∀ e w2, ReadPost neg u.data.toList w e w2 → ParsedPost s.data.toList w e w2 := fun e w2 k => by
    unfold ParsedPost
    rw [← hu'.out, ← hneg'.out]
    exact k
  clear hu hneg
  have bb' := Lib.hid bb
  have x0' := Lib.hid x0
  have q0 := x0.c0; have q1 := x0.c1; have q2 := x0.c2; have q3 := x0.fr 0; have q4 := x0.fr 1; have q5 := x0.fr 2
  by_cases h4 : 400 < u.size
  · have hd : decide ((400 : Int) < (u.size : Int)) = true := by rw [decide_eq_true_iff]; omega
    have z := x0.set (.bool false) (.slice none 0 0) (.slice none 0 0)
    have e0 := z.c0; have e1 := z.c1; have e2 := z.c2
    have h4' := Lib.hid h4
    clear x0 z h4 bb
    go_wp2_with fail
    refine bodyPost_ret (v := .tuple #[.agg #[.bool false, .slice none 0 0, .slice none 0 0], .int .i64 7]) (by simp [results, Tryz.results9, go_sem, e0, e1, e2]) rfl ?_
    exact goal' _ _ (read_long (by rw [← Lib.size_eq]; exact h4'.out) (ResPost.stored (rt_zero _) x0'.out bb'.out (by omega)))
  · have hd : decide ((400 : Int) < (u.size : Int)) = false := by rw [decide_eq_false_iff_not]; omega
    have h4' := Lib.hid h4
    clear x0 bb q0 q1 q2 q3 q4 q5 h4
    go_wp2_with fail
    refine (parts_any u (by have := h4'.out; omega) _).mono ?_
    rintro e w1 ⟨a, b, rfl, hp, hb⟩
    have lab := parts_len (by rw [← Lib.size_eq]; have := h4'.out; omega) hp
    have hp' := Lib.hid hp
    have bb1 := Lib.hid (below_then bb'.out (Nat.le_refl _) hb)
    have x1 := Lib.hid (x0'.out.later hb)
    clear hb bb' x0' hp
    go_wp2_with fail
    refine (number_any a lab.1 _).mono ?_
    rintro e w2 ⟨hb, h2⟩
    have bb2 := Lib.hid (below_then bb1.out (Nat.le_refl _) hb)
    have x2 := Lib.hid (x1.out.later hb)
    clear hb bb1 x1
    rcases h2 with ⟨h2, rfl⟩ | ⟨p, ao, n, nc, f, h2, rfl, hA, hp2⟩
    · have h2' := Lib.hid h2
      clear h2
      go_wp2_with fail
      refine (number_any b lab.2 _).mono ?_
      rintro e w3 ⟨hb, h3⟩
      have bb3 := Lib.hid (below_then bb2.out (Nat.le_refl _) hb)
      have x3 := x2.out.later hb
      have x3' := Lib.hid x3
      have q0 := x3.c0; have q1 := x3.c1; have q2 := x3.c2; have q3 := x3.fr 0; have q4 := x3.fr 1; have q5 := x3.fr 2
      have z := x3.set (.bool false) (.slice none 0 0) (.slice none 0 0)
      have e0 := z.c0; have e1 := z.c1; have e2 := z.c2
      clear hb bb2 x2 x3 z
      have hbad := Lib.hid (show pnum u.data.toList = none by rw [pnum_parts, hp'.out, h2'.out]; rfl)
      obtain ⟨v2, B2, rfl⟩ : ∃ v2 B2, e = .returned (.tuple #[v2, .bool B2]) := by
        rcases h3 with ⟨_, rfl⟩ | ⟨_, _, _, _, _, _, rfl, _⟩
        · exact ⟨_, _, rfl⟩
        · exact ⟨_, _, rfl⟩
      clear h3
      go_wp2_with fail
      refine bodyPost_ret (v := .tuple #[.agg #[.bool false, .slice none 0 0, .slice none 0 0], .int .i64 1]) (by simp [results, Tryz.results9, go_sem, e0, e1, e2]) rfl ?_
      exact goal' _ _ (read_none (by rw [← Lib.size_eq]; exact h4'.out) hbad.out (ResPost.stored (rt_zero _) x3'.out bb3.out (by omega)))
    · have h2' := Lib.hid h2; have hA' := Lib.hid hA; have hp2' := Lib.hid hp2
      clear h2 hA hp2
      go_wp2_with fail
      refine (number_any b lab.2 _).mono ?_
      rintro e w3 ⟨hb, h3⟩
      have bb3 := Lib.hid (below_then bb2.out (Nat.le_refl _) hb)
      have hA3 := Lib.hid (hA'.out.below hb)
      have x3 := x2.out.later hb
      have x3' := Lib.hid x3
      clear hb bb2 x2 hA'
      rcases h3 with ⟨h3, rfl⟩ | ⟨q, bo, m, mc, g, h3, rfl, hB, hq2⟩
      · have hbad := Lib.hid (show pnum u.data.toList = none by rw [pnum_parts, hp'.out, h3]; exact both_none _)
        have q0 := x3.c0; have q1 := x3.c1; have q2 := x3.c2; have q3 := x3.fr 0; have q4 := x3.fr 1; have q5 := x3.fr 2
        have z := x3.set (.bool false) (.slice none 0 0) (.slice none 0 0)
        have e0 := z.c0; have e1 := z.c1; have e2 := z.c2
        clear x3 z h3
        go_wp2_with fail
        refine bodyPost_ret (v := .tuple #[.agg #[.bool false, .slice none 0 0, .slice none 0 0], .int .i64 1]) (by simp [results, Tryz.results9, go_sem, e0, e1, e2]) rfl ?_
        exact goal' _ _ (read_none (by rw [← Lib.size_eq]; exact h4'.out) hbad.out (ResPost.stored (rt_zero _) x3'.out bb3.out (by omega)))
      · have hgood := Lib.hid (show pnum u.data.toList = some (p, q) by rw [pnum_parts, hp'.out, h2'.out, h3]; rfl)
        have hW := Lib.hid (hA3.out.whole neg)
        have hV := Lib.hid (hB.whole false)
        have hp3 := Lib.hid (show sgn neg (val f n) = sgn neg p by rw [hp2'.out])
        have hq3 := Lib.hid (show sgn false (val g m) = (q : Int) by rw [hq2]; rfl)
        clear x3 h3 hB hq2 hA3
        go_wp2_with fail
        refine (make_any neg false ao bo n nc m mc (sgn neg p) q _ (hp3.out ▸ hW.out) (hq3.out ▸ hV.out)).mono ?_
        rintro e w4 ⟨gb, gp, gn, gc, gq, gm, ge, rfl, hR, hb⟩
        have bb4 := Lib.hid (below_then bb3.out (Nat.le_refl _) hb)
        have x4 := x3'.out.later hb
        have x4' := Lib.hid x4; have hR' := Lib.hid hR
        have q0 := x4.c0; have q1 := x4.c1; have q2 := x4.c2; have q3 := x4.fr 0; have q4 := x4.fr 1; have q5 := x4.fr 2
        have z := x4.set (.bool gb) (.slice gp gn gc) (.slice gq gm ge)
        have e0 := z.c0; have e1 := z.c1; have e2 := z.c2
        clear hb bb3 x4 hR z hW hV
        go_wp2_with fail
        refine bodyPost_ret (v := .tuple #[.agg #[.bool gb, .slice gp gn gc, .slice gq gm ge], .int .i64 (mkE (sgn neg p) q)]) (by simp [results, Tryz.results9, go_sem, e0, e1, e2]) rfl ?_
        exact goal' _ _ (read_some (by rw [← Lib.size_eq]; exact h4'.out) hgood.out (ResPost.stored hR'.out x4'.out bb4.out (by omega)))

end Go.Proofs.YtokdaagjkhkinaaGreatDoor

namespace Go.Proofs.YtokdaagjkhkinaaGreatDoor
open Go.RowKit Num

/-- addTimes: in a block of N limbs the m limbs from off on become, with the limb that is told, themselves and x times the other number; nothing else turns. -/
def TimesPost (b N off m x : Nat) (F g : Nat → Nat) (w : World) (e : Ending) (w' : World) : Prop :=
  ∃ (c : Nat) (F' : Nat → Nat), e = .returned (.int .u32 c) ∧ c < 4294967296 ∧ Blk w' b N F' ∧ Lim F' N ∧ (∀ j, (j < off ∨ off + m ≤ j) → F' j = F j) ∧
    val (fun j => F' (off + j)) m + c * pw m = val (fun j => F (off + j)) m + x * val g m ∧ w.grownBy w' (some b)

end Go.Proofs.YtokdaagjkhkinaaGreatDoor

namespace Go.Proofs.YtokdaagjkhkinaaGreatDoor
open Go.RowKit Num

attribute [local go_sem ↓] Go.wp_at_zero Go.wp_at_succ

end Go.Proofs.YtokdaagjkhkinaaGreatDoor

namespace Go.Proofs.YtokdaagjkhkinaaGreatDoor
open Go.RowKit Num

attribute [local go_sem ↓] Go.wp_at_zero Go.wp_at_succ

theorem sub_abs {x y : Int} {M : Nat} (hx : x.natAbs < pw M) (hy : y.natAbs < pw M) : (x - y).natAbs < pw (M + 1) := by
  have e : pw (M + 1) = 4294967296 * pw M := rfl
  omega

theorem add_abs {x y : Int} {M : Nat} (hx : x.natAbs < pw M) (hy : y.natAbs < pw M) : (x + y).natAbs < pw (M + 1) := by
  have e : pw (M + 1) = 4294967296 * pw M := rfl
  omega

theorem mul_abs {x y : Int} {M L : Nat} (hx : x.natAbs < pw M) (hy : y.natAbs < pw L) : (x * y).natAbs < pw (M + L) := by
  rw [Int.natAbs_mul, pw_add]
  exact Nat.mul_lt_mul'' hx hy

theorem field0 (u v : Value) (w : World) : (Instr.field 41 (.agg #[u, v]) 0).run Tryz.prog w = .ok u w := by kernel_rfl

attribute [local go_sem] field0

theorem sign_mul (x y : Int) : sgn (!(decide (x < 0) == decide (y < 0))) (x.natAbs * y.natAbs) = x * y := by
  rw [← sgn_mul, sgn_self, sgn_self]

set_option maxHeartbeats 2000000 in
theorem rMul_any (b c : Bool) (ao bo : Option Addr) (n nc m mc : Nat) (x y : Int) (w : World) (A : Whole w b ao n nc x) (B : Whole w c bo m mc y) (M : Nat) (hM : M ≤ 1000) (hx : x.natAbs < pw M) (hy : y.natAbs < pw M) :
    Calls Tryz.prog 33 #[.agg #[.bool b, .slice ao n nc], .agg #[.bool c, .slice bo m mc]] w (IntPost (x * y) w) := by
  obtain ⟨f, A, hfx⟩ := A.ex
  obtain ⟨g, B, hgy⟩ := B.ex
  have A' := Lib.hid A; have B' := Lib.hid B; have hfx' := Lib.hid hfx; have hgy' := Lib.hid hgy
  have vf := Lib.hid (show val f n = x.natAbs by rw [← hfx, sgn_abs]); have vg := Lib.hid (show val g m = y.natAbs by rw [← hgy, sgn_abs])
  clear A B hfx hgy
  go_enter Tryz.func33, Tryz.ntmps33
  go_wp2_with fail
  refine gen_wp (fun w' => Below w.heap.size w w' ∧ Box w' w.heap.size (.bool b) (.slice ao n nc) ∧ Box w' (w.heap.size + 1) (.bool c) (.slice bo m mc) ∧ Box w' (w.heap.size + 2) (.bool false) (.slice none 0 0))
    ⟨((((Below.refl _ w).alloc (Nat.le_refl _) _).alloc (by first | (simp; done) | (simp; omega)) _).alloc (by first | (simp; done) | (simp; omega)) _), (((Box.new _ _ _ rfl).alloc _).alloc _), ((Box.new _ _ _ (by first | (simp; done) | (simp; omega))).alloc _), (Box.new _ _ _ (by first | (simp; done) | (simp; omega)))⟩ ?_
  rintro w0 ⟨hb0, x0, x1, x2⟩
  have hb0 := hb0.drew; have x0 := x0.drew; have x1 := x1.drew; have x2 := x2.drew
  go_region_held3 (fun w' => w'.cell? ⟨w.heap.size, 0, none⟩ = some (.bool b) ∧ w'.cell? ⟨w.heap.size, 1, none⟩ = some (.slice ao n nc) ∧ w'.cell? ⟨w.heap.size + 1, 0, none⟩ = some (.bool c) ∧ w'.cell? ⟨w.heap.size + 1, 1, none⟩ = some (.slice bo m mc))
    (first | with_reducible exact ⟨x0.c0, x0.c1, x1.c0, x1.c1⟩ | with_reducible exact ⟨y0.c0, y0.c1, y1.c0, y1.c1⟩ | with_reducible exact ⟨z0.c0, z0.c1, z1.c0, z1.c1⟩ | with_reducible exact ⟨u0.c0, u0.c1, u1.c0, u1.c1⟩ | with_reducible exact ⟨v0.c0, v0.c1, v1.c0, v1.c1⟩ | with_reducible exact ⟨s0.c0, s0.c1, s1.c0, s1.c1⟩ | with_reducible exact ⟨t0.c0, t0.c1, t1.c0, t1.c1⟩ | with_reducible exact ⟨(t0.other (by omega) _ _).c0, (t0.other (by omega) _ _).c1, (t1.other (by omega) _ _).c0, (t1.other (by omega) _ _).c1⟩ | go_keep)
    (first
    | (go_at_call_of 34 ao; refine (rNorm_any b ao n nc x _ ⟨f, A'.out.below hb0, hfx'.out⟩).mono ?_; rintro e w1 ⟨sb, so, sn, sc, rfl, hR, hb1⟩; have y0 := x0.later hb1; have y1 := x1.later hb1; have y2 := x2.later hb1; have gb1 := below_then hb0 (Nat.le_refl _) hb1)
    | (go_at_call_of 34 bo; refine (rNorm_any c bo m mc y _ ⟨g, B'.out.below gb1, hgy'.out⟩).mono ?_; rintro e w2 ⟨tb, to_, tn, tc, rfl, hT, hb2⟩; have z0 := y0.later hb2; have z1 := y1.later hb2; have z2 := y2.later hb2; have gb2 := below_then gb1 (Nat.le_refl _) hb2)
    | (go_at_call_of 54 ao; refine (refNorm_any ao n nc f _ (A'.out.below gb2)).mono ?_; rintro e w3 ⟨fo, fn, fc, fl, rfl, f1, f2, f3, f4, hb3⟩; have u0 := z0.later hb3; have u1 := z1.later hb3; have u2 := z2.later hb3; have gb3 := below_then gb2 (Nat.le_refl _) hb3)
    | (go_at_call_of 54 bo; refine (refNorm_any bo m mc g _ (B'.out.below gb3)).mono ?_; rintro e w4 ⟨go_, gn, gc, gl, rfl, g1, g2, g3, g4, hb4⟩; have v0 := u0.later hb4; have v1 := u1.later hb4; have v2 := u2.later hb4; have gb4 := below_then gb3 (Nat.le_refl _) hb4; have f3 := f3.below hb4; obtain ⟨FA, fn2⟩ := f4.few f3 f1 f2 (by rw [vf.out]; exact hx) (Nat.le_trans hM (by omega)); obtain ⟨GA, gn2⟩ := g4.few g3 g1 g2 (by rw [vg.out]; exact hy) (Nat.le_trans hM (by omega)))
    | (go_at_call 31; refine (refMul_any fo go_ fn fc gn gc fl gl _ FA GA (by omega) (by omega)).mono ?_; rintro e w5 ⟨ko, kn, kc, k, rfl, k1, k2, k3, k4, hb5⟩; have s0 := v0.later hb5; have s1 := v1.later hb5; have s2 := v2.later hb5; have gb5 := below_then gb4 (Nat.le_refl _) hb5; have k5 := k4.val; rw [f4.val, g4.val, vf.out, vg.out] at k4)
    | (go_at_call_of 34 ko; refine (rNorm_any (!(sb == tb)) ko kn kc (x * y) _ ⟨k, k4.arg k3 k1 k2 (small2 (k := M + M) (by omega) (by rw [← Int.natAbs_mul]; exact mul_abs hx hy)), by rw [k4.val, hR.neg, hT.neg, sign_mul]⟩).mono ?_; rintro e w6 ⟨vb, vo, vn, vc, rfl, hV, hb6⟩; have t0 := s0.later hb6; have t1 := s1.later hb6; have t2 := s2.later hb6; have gb6 := below_then gb5 (Nat.le_refl _) hb6; have q1 := t2.c0; have q2 := t2.c1; have q3 := t2.fr 0; have q4 := t2.fr 1))
  have z3 := t2.set (.bool vb) (.slice vo vn vc)
  have e0 := z3.c0; have e1 := z3.c1
  clear z3
  go_wp2_with fail
  refine bodyPost_ret (v := .agg #[.bool vb, .slice vo vn vc]) (by simp [results, Tryz.results33, go_sem, e0, e1]) rfl ?_
  exact IntPost.stored hV t2 gb6 (by omega)

end Go.Proofs.YtokdaagjkhkinaaGreatDoor

namespace Go.Proofs.YtokdaagjkhkinaaGreatDoor
open Go.RowKit Num

attribute [local go_sem ↓] Go.wp_at_zero Go.wp_at_succ

/-- The power p times s to the n, if no square and no product on the way has more than 32 limbs. -/
def powR (n : Nat) (p s : Int) : Option Int :=
  if _h : n = 0 then some p
  else if pw 32 ≤ s.natAbs then none
  else
    let q := if n % 2 = 1 then p * s else p
    if pw 32 ≤ q.natAbs then none else powR (n / 2) q (s * s)
termination_by n
decreasing_by omega

theorem powR_zero (p s : Int) : powR 0 p s = some p := by rw [powR]; simp

theorem powR_great {n : Nat} {p s : Int} (h0 : n ≠ 0) (hs : pw 32 ≤ s.natAbs) : powR n p s = none := by rw [powR]; simp [h0, hs]

theorem powR_odd_great {n : Nat} {p s : Int} (h0 : n ≠ 0) (h1 : n % 2 = 1) (hq : pw 32 ≤ (p * s).natAbs) : powR n p s = none := by rw [powR]; simp [h0, h1, hq]

theorem powR_odd {n : Nat} {p s : Int} (h0 : n ≠ 0) (h1 : n % 2 = 1) (hs : s.natAbs < pw 32) (hq : (p * s).natAbs < pw 32) : powR n p s = powR (n / 2) (p * s) (s * s) := by
  rw [powR]; simp [h0, h1, Nat.not_le.2 hs, Nat.not_le.2 hq]

theorem powR_even_great {n : Nat} {p s : Int} (h0 : n ≠ 0) (h1 : ¬ n % 2 = 1) (hq : pw 32 ≤ p.natAbs) : powR n p s = none := by rw [powR]; simp [h0, h1, hq]

theorem powR_even {n : Nat} {p s : Int} (h0 : n ≠ 0) (h1 : ¬ n % 2 = 1) (hs : s.natAbs < pw 32) (hq : p.natAbs < pw 32) : powR n p s = powR (n / 2) p (s * s) := by
  rw [powR]; simp [h0, h1, Nat.not_le.2 hs, Nat.not_le.2 hq]

theorem Right.len_lt {w : World} {b : Bool} {ao : Option Addr} {n nc : Nat} {x : Int} (h : Right w b ao n nc x) (hn : n ≤ 32) : x.natAbs < pw 32 := by
  obtain ⟨f, _, _, _, cf, _⟩ := h.ex
  exact Nat.lt_of_lt_of_le cf.lt_pw (pw_le hn)

theorem Right.len_ge {w : World} {b : Bool} {ao : Option Addr} {n nc : Nat} {x : Int} (h : Right w b ao n nc x) (hn : 32 < n) : pw 32 ≤ x.natAbs := by
  obtain ⟨f, _, _, _, cf, _⟩ := h.ex
  apply Nat.le_of_not_lt
  intro hl
  have := cf.len_le hl
  omega

theorem Right.le_len {w : World} {b : Bool} {ao : Option Addr} {n nc : Nat} {x : Int} (h : Right w b ao n nc x) (hx : x.natAbs < pw 32) : n ≤ 32 := by
  obtain ⟨f, _, _, _, cf, _⟩ := h.ex
  exact cf.len_le hx

def powE (k x : Int) : Int := if k < 0 then 3 else if (powR k.toNat 1 x).isSome then 0 else 7

def powV (k x : Int) : Int := if k < 0 then 0 else (powR k.toNat 1 x).getD 0

/-- A power and 0, or 0 and an error. -/
def PowPost (k x : Int) (w : World) (e : Ending) (w' : World) : Prop :=
  ∃ b ao n nc, e = .returned (.tuple #[.agg #[.bool b, .slice ao n nc], .int .i64 (powE k x)]) ∧ Right w' b ao n nc (powV k x) ∧ Below w.heap.size w w'

theorem zero_right (w : World) : Right w false none 0 0 0 := ⟨fun _ => 0, Nat.le_refl _, by omega, .inl rfl, canon_zero _, rfl⟩

theorem PowPost.some {k x v : Int} {w w' : World} {b : Bool} {ao : Option Addr} {n nc : Nat} {m : Nat} (hk : k = (m : Int)) (hv : powR m 1 x = some v) (hR : Right w' b ao n nc v) (hb : Below w.heap.size w w') :
    PowPost k x w (.returned (.tuple #[.agg #[.bool b, .slice ao n nc], .int .i64 0])) w' := by
  subst hk
  have h0 : ¬ ((m : Int) < 0) := by omega
  refine ⟨b, ao, n, nc, ?_, ?_, hb⟩
  · simp [powE, h0, hv]
  · simpa [powV, h0, hv] using hR

theorem PowPost.none {k x : Int} {w w' : World} {m : Nat} (hk : k = (m : Int)) (hv : powR m 1 x = none) (hb : Below w.heap.size w w') :
    PowPost k x w (.returned (.tuple #[.agg #[.bool false, .slice none 0 0], .int .i64 7])) w' := by
  subst hk
  have h0 : ¬ ((m : Int) < 0) := by omega
  refine ⟨false, Option.none, 0, 0, ?_, ?_, hb⟩
  · simp [powE, h0, hv]
  · simpa [powV, h0, hv] using zero_right w'

theorem mul_self_abs {x : Int} (hx : x.natAbs < pw 32) : (x * x).natAbs < pw 64 := mul_abs hx hx

end Go.Proofs.YtokdaagjkhkinaaGreatDoor

namespace Go.Proofs.YtokdaagjkhkinaaGreatDoor
open Go.RowKit Num

attribute [local go_sem ↓] Go.wp_at_zero Go.wp_at_succ

theorem Rt.alloc {w : World} {b : Bool} {ao bo : Option Addr} {n nc m mc Q : Nat} {P : Int} (h : Rt w b ao n nc bo m mc P Q) (o : Obj) : Rt (w.alloc o) b ao n nc bo m mc P Q := h.below ((Below.refl _ w).alloc (Nat.le_refl _) o)

theorem Rt.drew {w : World} {b : Bool} {ao bo : Option Addr} {n nc m mc Q : Nat} {P : Int} (h : Rt w b ao n nc bo m mc P Q) : Rt w.drew b ao n nc bo m mc P Q := h.below (Below.refl _ w).drew

theorem Right.drew' {w : World} {b : Bool} {ao : Option Addr} {n nc : Nat} {x : Int} (h : Right w b ao n nc x) : Right w.drew b ao n nc x := h.below (Below.refl _ w).drew

theorem made13' {W w' : World} {u0 u1 u2 : Value} {t : TypeId} (hb : Below (W.alloc (.cells #[u0, u1, u2] t)).drew.heap.size (W.alloc (.cells #[u0, u1, u2] t)).drew w') : Box3 w' W.heap.size u0 u1 u2 := (Box3.new u0 u1 u2 t rfl).drew.later hb

theorem made13 {W w' : World} {u0 u1 u2 : Value} {t : TypeId} (hb : Below (W.alloc (.cells #[u0, u1, u2] t)).heap.size (W.alloc (.cells #[u0, u1, u2] t)) w') : Box3 w' W.heap.size u0 u1 u2 := (Box3.new u0 u1 u2 t rfl).later hb

theorem Whole.nat {w : World} {b : Bool} {ao : Option Addr} {n nc : Nat} {x : Int} (h : Whole w b ao n nc x) : Whole w false ao n nc x.natAbs := by
  obtain ⟨f, A, rfl⟩ := h.ex
  exact ⟨f, A, by rw [sgn_abs]; rfl⟩

theorem int_32 {n : Int} (h0 : -9223372036854775808 ≤ n) (h1 : n ≤ 9223372036854775807) : n.natAbs < pw 32 := by
  have e : pw 3 = 79228162514264337593543950336 := rfl
  exact Nat.lt_of_lt_of_le (m := pw 3) (by omega) (pw_le (by omega))

theorem mul_32 {x y : Int} (hx : x.natAbs < pw 32) (hy : y.natAbs < pw 32) : (x * y).natAbs < pw 64 := mul_abs hx hy

end Go.Proofs.YtokdaagjkhkinaaGreatDoor

namespace Go.Proofs.YtokdaagjkhkinaaGreatDoor
open Go.RowKit Num



set_option maxRecDepth 100000 in
set_option maxHeartbeats 2000000 in
theorem refGcdL_any (ao bo : Option Addr) (n nc m mc : Nat) (f g : Nat → Nat) (w : World) (A : Arg w ao n nc f) (B : Arg w bo m mc g) (L : Nat) (hL : L ≤ 1000) (hn40 : n ≤ L) (hm40 : m ≤ L) :
    Calls Tryz.prog 35 #[.slice ao n nc, .slice bo m mc] w (NumPost (Nat.gcd (val f n) (val g m)) w) := by
  have hA := Lib.hid A; have hB := Lib.hid B
  have hX := Lib.hid (small' (val_lt A.lim) hn40); have hY := Lib.hid (small' (val_lt B.lim) hm40)
  obtain ⟨X, hX0⟩ : ∃ X, X = val f n := ⟨_, rfl⟩
  obtain ⟨Y, hY0⟩ : ∃ Y, Y = val g m := ⟨_, rfl⟩
  obtain ⟨D, hD0⟩ : ∃ D, D = Nat.gcd X Y := ⟨_, rfl⟩
  rw [← hX0, ← hY0, ← hD0]
  rw [← hX0] at hX
  rw [← hY0] at hY
  obtain ⟨P, hP0⟩ : ∃ P, P = pw L := ⟨_, rfl⟩
  have hL' := Lib.hid hL
  obtain ⟨M, hM0⟩ : ∃ M, M = 64 * L + 1 := ⟨_, rfl⟩
  obtain ⟨K, hK0⟩ : ∃ K, K = M + 2 := ⟨_, rfl⟩
  have hK : Hid (M + 2 = K) := Lib.hid hK0.symm
  have hKl : K < 64010 := by omega
  have hKl' := Lib.hid hKl
  clear hK0
  obtain ⟨T, hT0⟩ : ∃ T, T = 2 ^ M := ⟨_, rfl⟩
  have hT := Lib.hid hT0
  have hM' : Hid (64 * L + 1 ≤ M) := Lib.hid (by omega)
  clear hT0 hM0 hL
  rw [← hP0] at hX hY
  have hX' := Lib.hid hX0; have hY' := Lib.hid hY0; have hD' := Lib.hid hD0; have hP' := Lib.hid hP0
  clear A B hX0 hY0 hD0 hP0
  go_enter Tryz.func35, Tryz.ntmps35
  go_wp2_with fail
  refine (refNorm_any ao n nc f w hA.out).mono ?_
  rw [← hX'.out]
  rintro e w1 ⟨co, q, qc, h, rfl, hq, hqc, hsh, hch, hb⟩
  have hsh' := Lib.hid hsh; have hch' := Lib.hid hch; have hbel := Lib.hid hb
  clear hsh hch hb
  go_wp2_with fail
  refine (refNorm_any bo m mc g w1 (hB.out.below hbel.out)).mono ?_
  rw [← hY'.out]
  rintro e w2 ⟨do_, r, rc, i, rfl, hr, hrc, hsi, hci, hb⟩
  have hsi' := Lib.hid hsi; have hci' := Lib.hid hci; have hbel2 := Lib.hid (hbel.out.trans (hb.mono hbel.out.size)); have hsh2 := Lib.hid (hsh'.out.below hb)
  clear hsi hci hb hsh'
  go_wp2_with fail
  go_loopw [5, 6, 7] (fun a b c wr => ∃ (k x y : Nat) (ao : Option Addr) (n nc : Nat) (f : Nat → Nat) (bo : Option Addr) (m mc : Nat) (g : Nat → Nat), c = .int .i64 k ∧ a = .slice ao n nc ∧ b = .slice bo m mc ∧ n ≤ nc ∧ nc ≤ 9223372036854775807 ∧ m ≤ mc ∧ mc ≤ 9223372036854775807 ∧ k ≤ K ∧
      Sl wr ao n f ∧ Canon x n f ∧ Sl wr bo m g ∧ Canon y m g ∧ x < P ∧ y < P ∧ D = Nat.gcd x y ∧ (k = 0 ∨ (y < x ∧ x * y * 2 ^ k ≤ T)) ∧ Below w.heap.size w wr) (fun _ _ c _ => K - (intOf c).toNat)
  case atStart =>
    exact ⟨0, X, Y, co, q, qc, h, do_, r, rc, i, rfl, rfl, rfl, hq, hqc, hr, hrc, by omega, hsh2.out, hch'.out, hsi'.out, hci'.out, hX.out, hY.out, hD'.out, .inl rfl, hbel2.out⟩
  case round =>
    obtain ⟨k, x, y, ao, n, nc, f, bo, m, mc, g, rfl, rfl, rfl, hn, hnc, hm, hmc, hk, hsf0, hcf0, hsg0, hcg0, hx0, hy0, hg0, hst0, hbel0⟩ := hrel
    have hsf := Lib.hid hsf0; have hcf := Lib.hid hcf0; have hsg := Lib.hid hsg0; have hcg := Lib.hid hcg0; have hx := Lib.hid hx0; have hy := Lib.hid hy0; have hg := Lib.hid hg0; have hst := Lib.hid hst0; have hbel := Lib.hid hbel0
    clear hsf0 hcf0 hsg0 hcg0 hx0 hy0 hg0 hst0 hbel0
    have hkk0 : k ≤ 64010 := by omega
    have hkt : decide ((k : Int) < 100000) = true := by rw [decide_eq_true_iff]; omega
    by_cases hm0 : m = 0
    · subst hm0
      focus
        go_wp2_with fail
        go_ret
        refine ⟨ao, n, nc, f, rfl, hn, hnc, hsf.out, ?_, hbel.out⟩
        have e : y = 0 := hcg.out.ne_zero.1 rfl
        have e2 := hg.out
        rw [e, Nat.gcd_zero_right] at e2
        rw [e2]; exact hcf.out
    · have hy1 : 0 < y := Nat.pos_of_ne_zero (fun e => hm0 (hcg.out.ne_zero.2 e))
      have hkk : k ≤ M := by
        rcases hst.out with h | ⟨h1, h2⟩
        · omega
        · rw [hT.out] at h2
          exact gcd_few h1 hy1 h2
      have hst2 : Hid (x % y < y ∧ y * (x % y) * 2 ^ (k + 1) ≤ T) := by
        rcases hst.out with h | ⟨h1, h2⟩
        · refine ⟨Nat.mod_lt _ hy1, ?_⟩
          rw [h, hT.out]
          have py : y ≤ pw L := by rw [← hP'.out]; exact Nat.le_of_lt hy.out
          exact gcd_start py (Nat.le_trans (Nat.le_of_lt (Nat.mod_lt _ hy1)) py) hM'.out
        · exact gcd_step h1 hy1 h2
      obtain ⟨a1, a2⟩ := hcf.out.few hsf.out hn hnc (by rw [← hP'.out]; exact hx.out) (Nat.le_trans hL'.out (by decide))
      obtain ⟨b1, b2⟩ := hcg.out.few hsg.out hm hmc (by rw [← hP'.out]; exact hy.out) (Nat.le_trans hL'.out (by decide))
      have a1' := Lib.hid a1; have b1' := Lib.hid b1
      have hm1 : 0 < m := by omega
      have n40 := Lib.hid a2; have m40 := Lib.hid b2; have k30 := Lib.hid hkk; have k40 := Lib.hid hkk0
      clear a1 b1 a2 b2 hk
      go_wp2_with fail
      refine (refDivMod_any ao bo n nc m mc f g wr a1'.out b1'.out (Nat.le_trans n40.out hL'.out) (Nat.le_trans m40.out hL'.out)).mono ?_
      rw [hcf.out.val, hcg.out.val]
      rintro e w3 ⟨hb3, h3⟩
      rcases h3 with ⟨h3, _⟩ | ⟨_, ao3, n3, nc3, f3, bo3, m3, mc3, g3, rfl, _, _, hm3, hmc3, _, _, hsg3, hcg3⟩
      · exact absurd h3 (Nat.pos_iff_ne_zero.1 hy1)
      have hsg3' := Lib.hid hsg3; have hcg3' := Lib.hid hcg3; have hsg4 := Lib.hid (hsg.out.below hb3)
      have hbel3 := Lib.hid (hbel.out.trans (hb3.mono hbel.out.size))
      clear hb3 hsg3 hcg3
      go_wp2_with fail
      go_roundw
      case rel =>
        exact ⟨k + 1, y, x % y, bo, m, mc, g, bo3, m3, mc3, g3, by go_num, rfl, rfl, hm, hmc, hm3, hmc3, by have := k30.out; have := hK.out; omega, hsg4.out, hcg.out, hsg3'.out, hcg3'.out, hy.out, Nat.lt_trans (Nat.mod_lt _ hy1) hy.out, by rw [hg.out, Nat.gcd_comm, Nat.gcd_rec, Nat.gcd_comm], .inr hst2.out, hbel3.out⟩
      case measure => simp [intOf]; have := k30.out; have := hK.out; omega

end Go.Proofs.YtokdaagjkhkinaaGreatDoor

namespace Go.Proofs.YtokdaagjkhkinaaGreatDoor
open Go.RowKit Num

attribute [local go_sem ↓] Go.wp_at_zero Go.wp_at_succ

theorem nz_of {y : Int} {v : Nat} (h : v ≠ 0) (e : v = y.natAbs) : y ≠ 0 := by rintro rfl; exact h (by simpa using e)

end Go.Proofs.YtokdaagjkhkinaaGreatDoor

namespace Go.Proofs.YtokdaagjkhkinaaGreatDoor
open Go.RowKit Num

attribute [local go_sem ↓] Go.wp_at_zero Go.wp_at_succ

theorem sl_one {w : World} {B : Nat} {v : Int} {x : Nat} (t : TypeId) (h : B = w.heap.size) (hv : v = x) : Sl (w.alloc (.cells #[.int .u32 v] t)) (some ⟨B, 0, none⟩) 1 (fun _ => x) := by
  subst h
  exact sl_new1 w t v x hv

set_option maxHeartbeats 1000000 in
theorem rOf_any (n : Int) (w : World) (h0 : -9223372036854775808 ≤ n) (h1 : n ≤ 9223372036854775807) :
    Calls Tryz.prog 30 #[.int .i64 n] w (IntPost n w) := by
  by_cases hn : 0 ≤ n
  · obtain ⟨v, rfl⟩ := Int.eq_ofNat_of_zero_le hn
    go_enter Tryz.func30, Tryz.ntmps30
    go_wp2_with fail
    refine gen_calls (fun w' => Below w.heap.size w w' ∧ Box w' w.heap.size (.bool false) (.slice none 0 0) ∧ Sl w' (some ⟨w.heap.size + 1, 0, none⟩) 2 (put (fun _ => v % 4294967296) 1 (v / 4294967296)))
      ⟨((Below.refl _ w).alloc (Nat.le_refl _) _).alloc (by simp) _, (Box.new _ _ _ rfl).alloc _, sl_two _ (by simp) (by omega) (by omega)⟩ ?_
    rintro w0 ⟨hb0, x0, hs⟩
    refine (rNorm_any false (some ⟨w.heap.size + 1, 0, none⟩) 2 2 v _ ⟨_, ⟨Nat.le_refl _, by omega, by omega, hs, lim_two (by omega) (by omega)⟩, by rw [val_pair, Nat.mod_add_div]; rfl⟩).mono ?_
    rintro e w3 ⟨sb, so, sn, sc, rfl, hR, hb4⟩
    have z2 := x0.later hb4
    have q1 := z2.c0; have q2 := z2.c1; have q3 := z2.fr 0; have q4 := z2.fr 1
    have hb2 := below_then hb0 (Nat.le_refl _) hb4
    have z3 := z2.set (.bool sb) (.slice so sn sc)
    have e0 := z3.c0; have e1 := z3.c1
    have hR' := Lib.hid hR; have z2' := Lib.hid z2; have hb2' := Lib.hid hb2
    clear hR z2 hb2 hb4 hs x0 hb0 z3
    go_wp2_with fail
    refine bodyPost_ret (v := .agg #[.bool sb, .slice so sn sc]) (by simp [results, Tryz.results30, go_sem, e0, e1]) rfl ?_
    exact IntPost.stored hR'.out z2'.out hb2'.out (by omega)
  · obtain ⟨v, hv⟩ : ∃ v : Nat, n = -1 - (v : Int) := ⟨(-1 - n).toNat, by omega⟩
    subst hv
    go_enter Tryz.func30, Tryz.ntmps30
    go_wp2_with fail
    refine gen_calls (fun w' => Below w.heap.size w w' ∧ Box w' w.heap.size (.bool false) (.slice none 0 0) ∧ Sl w' (some ⟨w.heap.size + 1, 0, none⟩) 2 (put (fun _ => v % 4294967296) 1 (v / 4294967296)) ∧ Sl w' (some ⟨w.heap.size + 1 + 1, 0, none⟩) 1 (fun _ => 1))
      ⟨(((Below.refl _ w).alloc (Nat.le_refl _) _).alloc (by simp) _).alloc (by simp; omega) _, ((Box.new _ _ _ rfl).alloc _).alloc _, (sl_two _ (by simp) (by omega) (by omega)).below ((Below.refl _ _).alloc (Nat.le_refl _) _), sl_one _ (by simp) rfl⟩ ?_
    rintro w0 ⟨hb0, x0, hs, ht⟩
    refine (refAdd_any (some ⟨w.heap.size + 1, 0, none⟩) (some ⟨w.heap.size + 1 + 1, 0, none⟩) 2 2 1 1 _ (fun _ => 1) _ ⟨Nat.le_refl _, by omega, by omega, hs, lim_two (by omega) (by omega)⟩ ⟨Nat.le_refl _, by omega, by omega, ht, fun _ _ => (by decide : 1 < 4294967296)⟩ (by decide)).mono ?_
    have ev : val (fun _ => 1) 1 = 1 := by simp [val, pw]
    rw [val_pair, Nat.mod_add_div, ev]
    rintro e w1 ⟨co, cn, cc, c, rfl, g1, g2, g3, g4, hb⟩
    have y0 := Lib.hid (x0.later hb)
    have hb1 := Lib.hid (below_then hb0 (Nat.le_refl _) hb)
    have hW := Lib.hid (show Whole w1 true co cn cc (-1 - (v : Int)) from ⟨c, g4.arg g3 g1 g2 (Nat.lt_of_lt_of_le (m := pw 3) (by have e : pw 3 = 79228162514264337593543950336 := rfl; omega) (pw_le (by omega))), by rw [g4.val, sgn_true]; omega⟩)
    clear g3 g4 hb hs ht x0 hb0 ev
    go_wp2_with fail
    refine (rNorm_any true co cn cc (-1 - (v : Int)) _ hW.out).mono ?_
    rintro e w3 ⟨sb, so, sn, sc, rfl, hR, hb4⟩
    have z2 := y0.out.later hb4
    have q1 := z2.c0; have q2 := z2.c1; have q3 := z2.fr 0; have q4 := z2.fr 1
    have hb2 := below_then hb1.out (Nat.le_refl _) hb4
    have z3 := z2.set (.bool sb) (.slice so sn sc)
    have e0 := z3.c0; have e1 := z3.c1
    have hR' := Lib.hid hR; have z2' := Lib.hid z2; have hb2' := Lib.hid hb2
    clear hR z2 hb2 hb4 z3
    go_wp2_with fail
    refine bodyPost_ret (v := .agg #[.bool sb, .slice so sn sc]) (by simp [results, Tryz.results30, go_sem, e0, e1]) rfl ?_
    exact IntPost.stored hR'.out z2'.out hb2'.out (by omega)

theorem Right.drew {w : World} {b : Bool} {ao : Option Addr} {n nc : Nat} {x : Int} (h : Right w b ao n nc x) : Right w.drew b ao n nc x := h.below (Below.refl _ w).drew

theorem pw3 : pw 3 = 79228162514264337593543950336 := rfl

theorem int_small {n : Int} (h0 : -9223372036854775808 ≤ n) (h1 : n ≤ 9223372036854775807) : n.natAbs < pw 3 := by rw [pw3]; omega

end Go.Proofs.YtokdaagjkhkinaaGreatDoor

namespace Go.Proofs.YtokdaagjkhkinaaGreatDoor
open Go.RowKit Num

attribute [local go_sem ↓] Go.wp_at_zero Go.wp_at_succ

set_option maxHeartbeats 1000000 in
theorem rTop_any (ab : Bool) (ap aq : Option Addr) (an ac am ae : Nat) (P : Int) (w : World) (A : Whole w ab ap an ac P) :
    Calls Tryz.prog 17 #[.agg #[.bool ab, .slice ap an ac, .slice aq am ae]] w (IntPost P w) := by
  have A' := Lib.hid A
  clear A
  go_enter Tryz.func17, Tryz.ntmps17
  go_wp2_with fail
  refine gen_calls (fun w' => Below w.heap.size w w' ∧ Box3 w' w.heap.size (.bool ab) (.slice ap an ac) (.slice aq am ae) ∧ Box w' (w.heap.size + 1) (.bool false) (.slice none 0 0))
    ⟨(((Below.refl _ _).alloc (Nat.le_refl _) _).alloc (by first | (simp; done) | (simp; omega)) _), ((Box3.new _ _ _ _ rfl).alloc _), (Box.new _ _ _ (by first | (simp; done) | (simp; omega)))⟩ ?_
  rintro w0 ⟨hb0, x0, x1⟩
  refine (rNorm_any ab ap an ac P _ (A'.out.below hb0)).mono ?_
  rintro e w1 ⟨eb, eo, en, ec, rfl, hR, hb⟩
  have bb := Lib.hid (below_then hb0 (Nat.le_refl _) hb)
  have x1 := x1.later hb
  have x1' := Lib.hid x1; have hR' := Lib.hid hR
  have q0 := x1.c0; have q1 := x1.c1; have q2 := x1.fr 0; have q3 := x1.fr 1
  have z := x1.set (.bool eb) (.slice eo en ec)
  have e0 := z.c0; have e1 := z.c1
  clear x0 x1 hb hb0 z hR
  go_wp2_with fail
  refine bodyPost_ret (v := .agg #[.bool eb, .slice eo en ec]) (by simp [results, Tryz.results17, go_sem, e0, e1]) rfl ?_
  exact IntPost.stored hR'.out x1'.out bb.out (by omega)

set_option maxHeartbeats 1000000 in
theorem rBot_any (ab : Bool) (ap aq : Option Addr) (an ac am ae : Nat) (Q : Int) (w : World) (A : Whole w false aq am ae Q) :
    Calls Tryz.prog 18 #[.agg #[.bool ab, .slice ap an ac, .slice aq am ae]] w (IntPost Q w) := by
  have A' := Lib.hid A
  clear A
  go_enter Tryz.func18, Tryz.ntmps18
  go_wp2_with fail
  refine gen_calls (fun w' => Below w.heap.size w w' ∧ Box3 w' w.heap.size (.bool ab) (.slice ap an ac) (.slice aq am ae) ∧ Box w' (w.heap.size + 1) (.bool false) (.slice none 0 0))
    ⟨(((Below.refl _ _).alloc (Nat.le_refl _) _).alloc (by first | (simp; done) | (simp; omega)) _), ((Box3.new _ _ _ _ rfl).alloc _), (Box.new _ _ _ (by first | (simp; done) | (simp; omega)))⟩ ?_
  rintro w0 ⟨hb0, x0, x1⟩
  refine (rNorm_any false aq am ae Q _ (A'.out.below hb0)).mono ?_
  rintro e w1 ⟨eb, eo, en, ec, rfl, hR, hb⟩
  have bb := Lib.hid (below_then hb0 (Nat.le_refl _) hb)
  have x1 := x1.later hb
  have x1' := Lib.hid x1; have hR' := Lib.hid hR
  have q0 := x1.c0; have q1 := x1.c1; have q2 := x1.fr 0; have q3 := x1.fr 1
  have z := x1.set (.bool eb) (.slice eo en ec)
  have e0 := z.c0; have e1 := z.c1
  clear x0 x1 hb hb0 z hR
  go_wp2_with fail
  refine bodyPost_ret (v := .agg #[.bool eb, .slice eo en ec]) (by simp [results, Tryz.results18, go_sem, e0, e1]) rfl ?_
  exact IntPost.stored hR'.out x1'.out bb.out (by omega)

theorem sign_differ {p q : Int} (hp : p ≠ 0) (hq : q ≠ 0) : decide (p.sign * q.sign < 0) = !(decide (p < 0) == decide (q < 0)) := by
  rcases Int.lt_or_gt_of_ne hp with h | h <;> rcases Int.lt_or_gt_of_ne hq with k | k
  · rw [Int.sign_eq_neg_one_of_neg h, Int.sign_eq_neg_one_of_neg k]; simp [h, k]
  · rw [Int.sign_eq_neg_one_of_neg h, Int.sign_eq_one_of_pos k]; simp [h, Int.not_lt.2 (Int.le_of_lt k)]
  · rw [Int.sign_eq_one_of_pos h, Int.sign_eq_neg_one_of_neg k]; simp [k, Int.not_lt.2 (Int.le_of_lt h)]
  · rw [Int.sign_eq_one_of_pos h, Int.sign_eq_one_of_pos k]; simp [Int.not_lt.2 (Int.le_of_lt h), Int.not_lt.2 (Int.le_of_lt k)]

set_option maxRecDepth 20000 in
set_option maxHeartbeats 4000000 in
theorem rMake_any (b c : Bool) (ao bo : Option Addr) (n nc m mc : Nat) (p q : Int) (w : World) (A : Whole w b ao n nc p) (B : Whole w c bo m mc q) (L : Nat) (hL : L ≤ 1000) (hp : p.natAbs < pw L) (hq : q.natAbs < pw L) :
    Calls Tryz.prog 16 #[.agg #[.bool b, .slice ao n nc], .agg #[.bool c, .slice bo m mc]] w (MakePost p q w) := by
  have A' := Lib.hid A; have B' := Lib.hid B; have hL' := Lib.hid hL; have hp' := Lib.hid hp; have hq' := Lib.hid hq
  clear A B hL hp hq
  go_enter Tryz.func16, Tryz.ntmps16
  go_wp2_with fail
  refine gen_wp (fun w' => Below w.heap.size w w' ∧ Box w' w.heap.size (.bool b) (.slice ao n nc) ∧ Box w' (w.heap.size + 1) (.bool c) (.slice bo m mc) ∧ Box3 w' (w.heap.size + 2) (.bool false) (.slice none 0 0) (.slice none 0 0))
    ⟨((((Below.refl _ _).alloc (Nat.le_refl _) _).alloc (by first | (simp; done) | (simp; omega)) _).alloc (by first | (simp; done) | (simp; omega)) _), (((Box.new _ _ _ rfl).alloc _).alloc _), ((Box.new _ _ _ (by first | (simp; done) | (simp; omega))).alloc _), (Box3.new _ _ _ _ (by first | (simp; done) | (simp; omega)))⟩ ?_
  rintro u0 ⟨bb, x0, x1, x2⟩
  have A := A'.out.below bb; have B := B'.out.below bb
  clear A' B'
  go_cut [6, 7] from 19 to 67 (fun s t wx => ∃ Y Z eb eo en ec fb fo fn fc, s = .pointer (some ⟨Y, 0, none⟩) ∧ t = .pointer (some ⟨Z, 0, none⟩) ∧ Box wx Y (.bool eb) (.slice eo en ec) ∧ Box wx Z (.bool fb) (.slice fo fn fc) ∧ Box3 wx (w.heap.size + 2) (.bool false) (.slice none 0 0) (.slice none 0 0) ∧ Right wx eb eo en ec p ∧ Right wx fb fo fn fc q ∧ Below w.heap.size w wx)
  case first =>
    have lx0 := x0.lt
    have lx1 := x1.lt
    have lx2 := x2.lt
    have bs := bb.size
    have sa0 := True.intro
    go_region_held3 (fun w' => w'.cell? ⟨w.heap.size, 0, none⟩ = some (.bool b) ∧ w'.cell? ⟨w.heap.size, 1, none⟩ = some (.slice ao n nc) ∧ w'.cell? ⟨(w.heap.size + 1), 0, none⟩ = some (.bool c) ∧ w'.cell? ⟨(w.heap.size + 1), 1, none⟩ = some (.slice bo m mc))
      (first | with_reducible exact ⟨(x0.drew).c0, (x0.drew).c1, (x1.drew).c0, (x1.drew).c1⟩ | with_reducible exact ⟨((x0.alloc _).drew).c0, ((x0.alloc _).drew).c1, ((x1.alloc _).drew).c0, ((x1.alloc _).drew).c1⟩ | with_reducible exact ⟨(((x0.alloc _).alloc _).drew).c0, (((x0.alloc _).alloc _).drew).c1, (((x1.alloc _).alloc _).drew).c0, (((x1.alloc _).alloc _).drew).c1⟩ | with_reducible exact ⟨x0.c0, x0.c1, x1.c0, x1.c1⟩ | with_reducible exact ⟨(x0.alloc _).c0, (x0.alloc _).c1, (x1.alloc _).c0, (x1.alloc _).c1⟩ | with_reducible exact ⟨((x0.alloc _).alloc _).c0, ((x0.alloc _).alloc _).c1, ((x1.alloc _).alloc _).c0, ((x1.alloc _).alloc _).c1⟩ | with_reducible exact ⟨(x0.other (by omega) _ _).c0, (x0.other (by omega) _ _).c1, (x1.other (by omega) _ _).c0, (x1.other (by omega) _ _).c1⟩ | with_reducible exact ⟨((x0.other (by omega) _ _).alloc _).c0, ((x0.other (by omega) _ _).alloc _).c1, ((x1.other (by omega) _ _).alloc _).c0, ((x1.other (by omega) _ _).alloc _).c1⟩ | with_reducible exact ⟨((x0.other (by omega) _ _).other (by omega) _ _).c0, ((x0.other (by omega) _ _).other (by omega) _ _).c1, ((x1.other (by omega) _ _).other (by omega) _ _).c0, ((x1.other (by omega) _ _).other (by omega) _ _).c1⟩ | go_keep)
      (first
      | (go_at_call 34; clear sa0; refine (rNorm_any b ao n nc p _ ?_).mono ?_; (first | with_reducible exact (A.drew) | with_reducible exact ((A.alloc _).drew) | with_reducible exact (((A.alloc _).alloc _).drew)); rintro e u1 ⟨eb, eo, en, ec, rfl, h1, hb⟩; have hc : Below u0.heap.size u0 u1 := (by first | exact (Below.refl _ _).drew.trans hb | exact ((Below.refl _ _).alloc (by first | exact Nat.le_refl _ | (simp; done) | (simp; omega)) _).drew.trans (hb.mono (by first | (simp; done) | (simp; omega))) | exact (((Below.refl _ _).alloc (by first | exact Nat.le_refl _ | (simp; done) | (simp; omega)) _).alloc (by first | exact Nat.le_refl _ | (simp; done) | (simp; omega)) _).drew.trans (hb.mono (by first | (simp; done) | (simp; omega)))); have hz0 := hc.size; have x0 := x0.later hc; have x1 := x1.later hc; have x2 := x2.later hc; have A := A.below hc; have B := B.below hc; have bb := below_then bb (Nat.le_refl _) hc; (first | (with_reducible have mm := made2' hb; obtain ⟨m10, m11⟩ := mm) | (with_reducible have m10 := made1' hb) | skip); (try have k10 := m10.lt); (try have k11 := m11.lt); clear hb hc; have sa1 := True.intro)
      | (go_at_call 34; clear sa1; refine (rNorm_any c bo m mc q _ ?_).mono ?_; (first | with_reducible exact B | with_reducible exact (B.alloc _) | with_reducible exact ((B.alloc _).alloc _)); rintro e u2 ⟨fb, fo, fn, fc, rfl, h2, hb⟩; have hc : Below u1.heap.size u1 u2 := (by first | with_reducible exact hb | exact ((Below.refl _ _).alloc (by first | exact Nat.le_refl _ | (simp; done) | (simp; omega)) _).trans (hb.mono (by first | (simp; done) | (simp; omega))) | exact (((Below.refl _ _).alloc (by first | exact Nat.le_refl _ | (simp; done) | (simp; omega)) _).alloc (by first | exact Nat.le_refl _ | (simp; done) | (simp; omega)) _).trans (hb.mono (by first | (simp; done) | (simp; omega)))); have hz1 := hc.size; have x0 := x0.later hc; have x1 := x1.later hc; have x2 := x2.later hc; have A := A.below hc; have B := B.below hc; have h1 := h1.below hc; have bb := below_then bb (Nat.le_refl _) hc; (try have m10 := m10.later hc); (try have m11 := m11.later hc); (first | (with_reducible have mm := made2 hb; obtain ⟨m20, m21⟩ := mm) | (with_reducible have m20 := made1 hb) | skip); (try have k10 := m10.lt); (try have k11 := m11.lt); (try have k20 := m20.lt); (try have k21 := m21.lt); (try (have f100 := m10.c0; have f101 := m10.c1; have f102 := m10.fr 0; have f103 := m10.fr 1)); (try (have f110 := m11.c0; have f111 := m11.c1; have f112 := m11.fr 0; have f113 := m11.fr 1)); (try (have f200 := m20.c0; have f201 := m20.c1; have f202 := m20.fr 0; have f203 := m20.fr 1)); (try (have f210 := m21.c0; have f211 := m21.c1; have f212 := m21.fr 0; have f213 := m21.fr 1)); clear hb hc; have sa2 := True.intro))
    · go_wp2_with fail; go_meet; exact ⟨_, _, eb, eo, en, ec, fb, fo, fn, fc, rfl, rfl, ((Box.new _ _ _ (by first | (simp; done) | rfl)).alloc _), (Box.new _ _ _ (by first | (simp; done) | rfl)), ((x2.alloc _).alloc _), ((h1.alloc _).alloc _), ((h2.alloc _).alloc _), (Below.alloc (Below.alloc bb (by first | omega | (simp; omega) | (simp; done)) _) (by first | omega | (simp; omega) | (simp; done)) _)⟩
    · go_wp2_with fail; go_meet; exact ⟨_, _, eb, eo, en, ec, fb, fo, fn, fc, rfl, rfl, (Box.new _ _ _ (by first | (simp; done) | rfl)), ((Box.new _ _ _ (by first | (simp; done) | rfl)).alloc _), ((x2.alloc _).alloc _), ((h1.alloc _).alloc _), ((h2.alloc _).alloc _), (Below.alloc (Below.alloc bb (by first | omega | (simp; omega) | (simp; done)) _) (by first | omega | (simp; omega) | (simp; done)) _)⟩
    · go_wp2_with fail; go_meet; exact ⟨_, _, eb, eo, en, ec, fb, fo, fn, fc, rfl, rfl, ((m20.set _ _).alloc _), (Box.new _ _ _ (by first | (simp; done) | rfl)), ((x2.other (by omega) _ _).alloc _), ((h1.box m20 _ _).alloc _), ((h2.box m20 _ _).alloc _), (Below.alloc (below_set bb (by omega) _ _) (by first | omega | (simp; omega) | (simp; done)) _)⟩
    · go_wp2_with fail; go_meet; exact ⟨_, _, eb, eo, en, ec, fb, fo, fn, fc, rfl, rfl, ((m20.set _ _).other (by omega) _ _), ((m21.other (by omega) _ _).set _ _), ((x2.other (by omega) _ _).other (by omega) _ _), ((h1.box m20 _ _).box (m21.other (by omega) _ _) _ _), ((h2.box m20 _ _).box (m21.other (by omega) _ _) _ _), (below_set (below_set bb (by omega) _ _) (by omega) _ _)⟩
    · go_wp2_with fail; go_meet; exact ⟨_, _, eb, eo, en, ec, fb, fo, fn, fc, rfl, rfl, (Box.new _ _ _ (by first | (simp; done) | rfl)), ((m20.set _ _).alloc _), ((x2.other (by omega) _ _).alloc _), ((h1.box m20 _ _).alloc _), ((h2.box m20 _ _).alloc _), (Below.alloc (below_set bb (by omega) _ _) (by first | omega | (simp; omega) | (simp; done)) _)⟩
    · go_wp2_with fail; go_meet; exact ⟨_, _, eb, eo, en, ec, fb, fo, fn, fc, rfl, rfl, ((m21.set _ _).other (by omega) _ _), ((m20.other (by omega) _ _).set _ _), ((x2.other (by omega) _ _).other (by omega) _ _), ((h1.box m21 _ _).box (m20.other (by omega) _ _) _ _), ((h2.box m21 _ _).box (m20.other (by omega) _ _) _ _), (below_set (below_set bb (by omega) _ _) (by omega) _ _)⟩
    · go_wp2_with fail; go_meet; exact ⟨_, _, eb, eo, en, ec, fb, fo, fn, fc, rfl, rfl, ((m10.set _ _).alloc _), (Box.new _ _ _ (by first | (simp; done) | rfl)), ((x2.other (by omega) _ _).alloc _), ((h1.box m10 _ _).alloc _), ((h2.box m10 _ _).alloc _), (Below.alloc (below_set bb (by omega) _ _) (by first | omega | (simp; omega) | (simp; done)) _)⟩
    · go_wp2_with fail; go_meet; exact ⟨_, _, eb, eo, en, ec, fb, fo, fn, fc, rfl, rfl, ((m10.set _ _).other (by omega) _ _), ((m20.other (by omega) _ _).set _ _), ((x2.other (by omega) _ _).other (by omega) _ _), ((h1.box m10 _ _).box (m20.other (by omega) _ _) _ _), ((h2.box m10 _ _).box (m20.other (by omega) _ _) _ _), (below_set (below_set bb (by omega) _ _) (by omega) _ _)⟩
    · go_wp2_with fail; go_meet; exact ⟨_, _, eb, eo, en, ec, fb, fo, fn, fc, rfl, rfl, ((m10.set _ _).other (by omega) _ _), ((m11.other (by omega) _ _).set _ _), ((x2.other (by omega) _ _).other (by omega) _ _), ((h1.box m10 _ _).box (m11.other (by omega) _ _) _ _), ((h2.box m10 _ _).box (m11.other (by omega) _ _) _ _), (below_set (below_set bb (by omega) _ _) (by omega) _ _)⟩
    · go_wp2_with fail; go_meet; exact ⟨_, _, eb, eo, en, ec, fb, fo, fn, fc, rfl, rfl, (Box.new _ _ _ (by first | (simp; done) | rfl)), ((m10.set _ _).alloc _), ((x2.other (by omega) _ _).alloc _), ((h1.box m10 _ _).alloc _), ((h2.box m10 _ _).alloc _), (Below.alloc (below_set bb (by omega) _ _) (by first | omega | (simp; omega) | (simp; done)) _)⟩
    · go_wp2_with fail; go_meet; exact ⟨_, _, eb, eo, en, ec, fb, fo, fn, fc, rfl, rfl, ((m20.set _ _).other (by omega) _ _), ((m10.other (by omega) _ _).set _ _), ((x2.other (by omega) _ _).other (by omega) _ _), ((h1.box m20 _ _).box (m10.other (by omega) _ _) _ _), ((h2.box m20 _ _).box (m10.other (by omega) _ _) _ _), (below_set (below_set bb (by omega) _ _) (by omega) _ _)⟩
    · go_wp2_with fail; go_meet; exact ⟨_, _, eb, eo, en, ec, fb, fo, fn, fc, rfl, rfl, ((m11.set _ _).other (by omega) _ _), ((m10.other (by omega) _ _).set _ _), ((x2.other (by omega) _ _).other (by omega) _ _), ((h1.box m11 _ _).box (m10.other (by omega) _ _) _ _), ((h2.box m11 _ _).box (m10.other (by omega) _ _) _ _), (below_set (below_set bb (by omega) _ _) (by omega) _ _)⟩
  case rest =>
    obtain ⟨Y, Z, eb, eo, en, ec, fb, fo, fn, fc, rfl, rfl, y, z, x2, h1, h2, bb⟩ := hcut
    have hq0 : q = 0 ↔ fn = 0 := by
      obtain ⟨g, _, _, _, cg, _⟩ := h2.ex
      rw [cg.ne_zero]; omega
    have p0 := z.c1
    have y := Lib.hid y
    by_cases h0 : fn = 0
    · have hE := Lib.hid (mkE_three (p := p) (hq0.2 h0))
      subst h0
      clear hq0 h1 h2 z
      have q0 := x2.c0; have q1 := x2.c1; have q2 := x2.c2; have q3 := x2.fr 0; have q4 := x2.fr 1; have q5 := x2.fr 2
      have z := x2.set (.bool false) (.slice none 0 0) (.slice none 0 0)
      have e0 := z.c0; have e1 := z.c1; have e2 := z.c2
      have x2' := Lib.hid x2; have bb' := Lib.hid bb
      clear z x2 bb 
      go_wp2_with fail
      refine bodyPost_ret (v := .tuple #[.agg #[.bool false, .slice none 0 0, .slice none 0 0], .int .i64 (3)]) (by simp [results, Tryz.results16, go_sem, e0, e1, e2]) rfl ?_
      exact make_bad hE.out (by decide) (ResPost.stored (rt_zero _) x2'.out bb'.out (by omega))
    have hqz : Hid (q ≠ 0) := Lib.hid (fun e => h0 (hq0.1 e))
    obtain ⟨f, f1, f2, f3, cf, hfb⟩ := h1.ex
    obtain ⟨g, g1, g2, g3, cg, hgb⟩ := h2.ex
    have cf := Lib.hid cf; have cg := Lib.hid cg; replace hfb := Lib.hid hfb; replace hgb := Lib.hid hgb
    have Ff := Lib.hid (cf.out.few f3 f1 f2 hp'.out (Nat.le_trans hL'.out (by decide))); have Fg := Lib.hid (cg.out.few g3 g1 g2 hq'.out (Nat.le_trans hL'.out (by decide)))
    have p1 := y.out.c1
    have z := Lib.hid z; have x2 := Lib.hid x2; have bb := Lib.hid bb
    clear hq0 h1 h2 f3 g3
    go_wp2_with fail
    clear p0 p1
    refine (refGcdL_any eo fo en ec fn fc f g _ Ff.out.1 Fg.out.1 L hL'.out Ff.out.2 Fg.out.2).mono ?_
    rw [cf.out.val, cg.out.val]
    rintro e w2 ⟨go, gn, gc, gf, rfl, k1, k2, k3, k4, hb⟩
    have k4 : Hid (Canon (mkG p q) gn gf) := Lib.hid k4
    have hGL : Hid (mkG p q < pw L) := Lib.hid (Nat.lt_of_le_of_lt (Nat.le_of_dvd (by have := hqz.out; omega) (Nat.gcd_dvd_right _ _)) hq'.out)
    have FG := Lib.hid (k4.out.few k3 k1 k2 hGL.out (Nat.le_trans hL'.out (by decide)))
    have bb := Lib.hid (below_then bb.out (Nat.le_refl _) hb)
    have y := Lib.hid (y.out.later hb); have z := Lib.hid (z.out.later hb); have x2 := Lib.hid (x2.out.later hb)
    have Ff := Lib.hid (And.intro (Ff.out.1.below hb) Ff.out.2); have Fg := Lib.hid (And.intro (Fg.out.1.below hb) Fg.out.2)
    have p1 := y.out.c1
    clear hb k3
    go_wp2_with fail
    clear p1
    refine (refDivMod_any eo go en ec gn gc f gf _ Ff.out.1 FG.out.1 (Nat.le_trans Ff.out.2 hL'.out) (Nat.le_trans FG.out.2 hL'.out)).mono ?_
    rw [cf.out.val, k4.out.val]
    rintro e w3 ⟨hb, h⟩
    have hg0 : Hid (mkG p q ≠ 0) := Lib.hid (Nat.pos_iff_ne_zero.1 (mkG_pos hqz.out))
    rcases h with ⟨h, _⟩ | ⟨_, to_, tn, tc, tf, ro, rn, rc, rf, rfl, t1, t2, _, _, t3, t4, _, _⟩
    · exact absurd h hg0.out
    have t3 := Lib.hid t3; have t4 := Lib.hid t4
    have bb := Lib.hid (below_then bb.out (Nat.le_refl _) hb)
    have y := Lib.hid (y.out.later hb); have z := Lib.hid (z.out.later hb); have x2 := Lib.hid (x2.out.later hb)
    have Fg := Lib.hid (And.intro (Fg.out.1.below hb) Fg.out.2); have FG := Lib.hid (And.intro (FG.out.1.below hb) FG.out.2)
    have p1 := z.out.c1
    clear hb
    go_wp2_with fail
    clear p1
    refine (refDivMod_any fo go fn fc gn gc g gf _ Fg.out.1 FG.out.1 (Nat.le_trans Fg.out.2 hL'.out) (Nat.le_trans FG.out.2 hL'.out)).mono ?_
    rw [cg.out.val, k4.out.val]
    rintro e w4 ⟨hb, h⟩
    rcases h with ⟨h, _⟩ | ⟨_, uo, un, uc, uf, ro', rn', rc', rf', rfl, u1, u2, _, _, u3, u4, _, _⟩
    · exact absurd h hg0.out
    have u3 := Lib.hid u3; have u4 := Lib.hid u4; have t3 := Lib.hid (t3.out.below hb)
    have bb := below_then bb.out (Nat.le_refl _) hb
    have y := Lib.hid (y.out.later hb); have z := Lib.hid (z.out.later hb); have x2 := x2.out.later hb
    clear hb
    by_cases ht : 32 < tn
    · have hE := Lib.hid (mkE_seven hqz.out (.inl (canon_long t4.out ht)))
      have hd : decide ((32 : Int) < (tn : Int)) = true := by rw [decide_eq_true_iff]; omega
      clear ht h0 f1 f2 g1 g2 t1 t2 u1 u2 k1 k2
      have q0 := x2.c0; have q1 := x2.c1; have q2 := x2.c2; have q3 := x2.fr 0; have q4 := x2.fr 1; have q5 := x2.fr 2
      have z := x2.set (.bool false) (.slice none 0 0) (.slice none 0 0)
      have e0 := z.c0; have e1 := z.c1; have e2 := z.c2
      have x2' := Lib.hid x2; have bb' := Lib.hid bb
      clear z x2 bb 
      go_wp2_with fail
      refine bodyPost_ret (v := .tuple #[.agg #[.bool false, .slice none 0 0, .slice none 0 0], .int .i64 (7)]) (by simp [results, Tryz.results16, go_sem, e0, e1, e2]) rfl ?_
      exact make_bad hE.out (by decide) (ResPost.stored (rt_zero _) x2'.out bb'.out (by omega))
    have hd : decide ((32 : Int) < (tn : Int)) = false := by rw [decide_eq_false_iff_not]; omega
    have ht' := Lib.hid ht
    clear ht
    by_cases hu : 32 < un
    · have hE := Lib.hid (mkE_seven hqz.out (.inr (canon_long u4.out hu)))
      have hd2 : decide ((32 : Int) < (un : Int)) = true := by rw [decide_eq_true_iff]; omega
      clear hu h0 f1 f2 g1 g2 t1 t2 u1 u2 k1 k2
      have q0 := x2.c0; have q1 := x2.c1; have q2 := x2.c2; have q3 := x2.fr 0; have q4 := x2.fr 1; have q5 := x2.fr 2
      have z := x2.set (.bool false) (.slice none 0 0) (.slice none 0 0)
      have e0 := z.c0; have e1 := z.c1; have e2 := z.c2
      have x2' := Lib.hid x2; have bb' := Lib.hid bb
      clear z x2 bb 
      go_wp2_with fail
      refine bodyPost_ret (v := .tuple #[.agg #[.bool false, .slice none 0 0, .slice none 0 0], .int .i64 (7)]) (by simp [results, Tryz.results16, go_sem, e0, e1, e2]) rfl ?_
      exact make_bad hE.out (by decide) (ResPost.stored (rt_zero _) x2'.out bb'.out (by omega))
    have hd2 : decide ((32 : Int) < (un : Int)) = false := by rw [decide_eq_false_iff_not]; omega
    have hE : Hid (mkE p q = 0) := Lib.hid (mkE_ok.2 ⟨hqz.out, canon_short t4.out (Nat.le_of_not_lt ht'.out), canon_short u4.out (Nat.le_of_not_lt hu)⟩)
    clear hu
    by_cases ht0 : tn = 0
    · have hR : Hid (Rt w4 false to_ 0 tc uo un uc (mkT p q) (mkB p q)) := Lib.hid ⟨by
        rw [mkT_ok hE.out]
        have e := t4.out.ne_zero.1 ht0
        have t3 := t3.out
        have t4 := t4.out
        rw [e, ht0] at t4
        rw [e]
        have := canon_right (b := false) (Nat.zero_le tc) t2 (.inl rfl : Sl w4 to_ 0 tf) t4 (.inr rfl)
        have e0 : ∀ s, sgn s 0 = 0 := fun s => by cases s <;> rfl
        rw [e0] at this ⊢; exact this, by
        rw [mkB_ok hE.out]
        exact canon_right (b := false) u1 u2 u3.out u4.out (.inr rfl)⟩
      subst ht0
      clear t1 h0 f1 f2 g1 g2 t2 u1 u2 k1 k2

      have q0 := x2.c0; have q1 := x2.c1; have q2 := x2.c2; have q3 := x2.fr 0; have q4 := x2.fr 1; have q5 := x2.fr 2
      have zz := x2.set (.bool (false)) (.slice to_ 0 tc) (.slice uo un uc)
      have e0 := zz.c0; have e1 := zz.c1; have e2 := zz.c2
      have x2' := Lib.hid x2; have bb' := Lib.hid bb
      have v0 := y.out.c0; have v1 := z.out.c0
      clear zz x2 bb
      go_wp2_with fail
      refine bodyPost_ret (v := .tuple #[.agg #[.bool (false), .slice to_ 0 tc, .slice uo un uc], .int .i64 0]) (by simp [results, Tryz.results16, go_sem, e0, e1, e2]) rfl ?_
      exact make_good hE.out (ResPost.stored (E := 0) hR.out x2'.out bb'.out (Nat.le_add_right _ 2))
    · have hR : Hid (Rt w4 (!(eb == fb)) to_ tn tc uo un uc (mkT p q) (mkB p q)) := Lib.hid ⟨by
        rw [mkT_ok hE.out]
        have hpz : p ≠ 0 := by
          intro e
          refine ht0 (t4.out.ne_zero.2 ?_)
          rw [e]; simp
        rw [hfb.out, hgb.out, ← sign_differ hpz hqz.out]
        exact canon_right t1 t2 t3.out t4.out (.inl (Nat.pos_of_ne_zero ht0)), by
        rw [mkB_ok hE.out]
        exact canon_right (b := false) u1 u2 u3.out u4.out (.inr rfl)⟩
      have hd3 := Nat.pos_of_ne_zero ht0
      clear t1 h0 f1 f2 g1 g2 t2 u1 u2 k1 k2 ht0

      have q0 := x2.c0; have q1 := x2.c1; have q2 := x2.c2; have q3 := x2.fr 0; have q4 := x2.fr 1; have q5 := x2.fr 2
      have zz := x2.set (.bool (!(eb == fb))) (.slice to_ tn tc) (.slice uo un uc)
      have e0 := zz.c0; have e1 := zz.c1; have e2 := zz.c2
      have x2' := Lib.hid x2; have bb' := Lib.hid bb
      have v0 := y.out.c0; have v1 := z.out.c0
      clear zz x2 bb
      go_wp2_with fail
      refine bodyPost_ret (v := .tuple #[.agg #[.bool (!(eb == fb)), .slice to_ tn tc, .slice uo un uc], .int .i64 0]) (by simp [results, Tryz.results16, go_sem, e0, e1, e2]) rfl ?_
      exact make_good hE.out (ResPost.stored (E := 0) hR.out x2'.out bb'.out (Nat.le_add_right _ 2))

end Go.Proofs.YtokdaagjkhkinaaGreatDoor
