/-
  scrimref05.Parse.
-/
import Derived.Test.YtokdaagjkhkinaaGreatDoorMGe
import Derived.Test.YtokdaagjkhkinaaGreatDoorMF
import Derived.Deep.CutBlock
import Derived.Deep.DeepCutAuto
namespace Go.Proofs.YtokdaagjkhkinaaGreatDoor
open Go.RowKit Num

attribute [local go_sem ↓] Go.wp_at_zero Go.wp_at_succ

theorem prefix_two {s : ByteArray} : Lib.hasPrefix s.data.toList [194, 175] = true ↔ 2 ≤ s.size ∧ byt s 0 = 194 ∧ byt s 1 = 175 := by
  rw [Lib.size_eq]
  unfold byt Lib.hasPrefix
  generalize s.data.toList = l
  cases l with
  | nil => simp [List.isPrefixOf]
  | cons a l =>
    cases l with
    | nil => simp [List.isPrefixOf]
    | cons b l =>
      simp only [List.isPrefixOf, Bool.and_eq_true, beq_iff_eq, List.length_cons, List.getD_cons_zero, List.getD_cons_succ, and_true]
      constructor
      · rintro ⟨rfl, rfl⟩; exact ⟨by omega, rfl, rfl⟩
      · rintro ⟨_, h1, h2⟩; exact ⟨UInt8.toNat_inj.1 h1.symm, UInt8.toNat_inj.1 h2.symm⟩

/-- The zero number, and an error. -/
theorem tw_len {b : List UInt8} (h : (b.takeWhile isD).length = b.length) : b.all isD = true := by
  by_cases hb : b.all isD = true
  · exact hb
  · obtain ⟨u, x, v, rfl, hu, hx⟩ := span_bad (by simpa using hb)
    rw [(span_app hu hx v).1, List.length_append, List.length_cons] at h
    omega

theorem refDigits0_any (s : ByteArray) (hs : s.size ≤ 1000) (w : World) :
    Calls Tryz.prog 28 #[.string s, .int .i64 0] w (Says (.int .i64 (s.data.toList.takeWhile isD).length) w) := refDigits_any s 0 hs (Nat.zero_le _) w

theorem NumPost.arg {v k : Nat} {w w' : World} {e : Ending} (h : NumPost v w e w') (hv : v < pw k) (hk : k ≤ 1000) : ∃ ao n nc f, e = .returned (.slice ao n nc) ∧ Arg w' ao n nc f ∧ val f n = v ∧ n ≤ k ∧ Below w.heap.size w w' := by
  obtain ⟨ao, n, nc, f, he, k1, k2, k3, k4, hb⟩ := h
  have hn := k4.len_le hv
  exact ⟨ao, n, nc, f, he, ⟨k1, k2, by omega, k3, k4.lim⟩, k4.val, hn, hb⟩

theorem wrap_id {x : Int} (h0 : -9223372036854775808 ≤ x) (h1 : x ≤ 9223372036854775807) : IntKind.i64.wrap x = x := by
  simp [IntKind.wrap, IntKind.bits, IntKind.signed]; omega

theorem ten_pw_lt {i k : Nat} (h : i < k) : 10 ^ i < pw k := Nat.lt_of_lt_of_le (Nat.pow_lt_pow_right (by decide) h) (ten_pw _)

theorem sgn_nat (b : Bool) (v k : Nat) (h : v < pw k) : (sgn b v).natAbs < pw k := by rw [sgn_abs]; exact h

theorem lval_pw {l : List UInt8} (h : l.all isD = true) (k : Nat) (hk : l.length ≤ k) : lval l < pw k :=
  Nat.lt_of_lt_of_le (Nat.lt_of_lt_of_le (lval_lt h) (ten_pw _)) (pw_le hk)

theorem byt_mid {s : ByteArray} {a b : List UInt8} {x : UInt8} (h : s.data.toList = a ++ x :: b) : byt s a.length = x.toNat := by
  rw [byt_of h, List.getD_eq_getElem?_getD, List.getElem?_append_right (Nat.le_refl _), Nat.sub_self]
  rfl

theorem drop_mid {a b : List UInt8} {x : UInt8} {l : List UInt8} (h : l = a ++ x :: b) : l.drop (a.length + 1) = b := by
  rw [h, show a ++ x :: b = (a ++ [x]) ++ b by simp, List.drop_left' (by simp)]

set_option maxRecDepth 20000 in
set_option maxHeartbeats 8000000 in
theorem refParse5_any (s : ByteArray) (hs : s.size ≤ 1000) (w : World) :
    Calls Tryz.prog 12 #[.string s] w (ParsedPost s.data.toList w) := by
  go_enter Tryz.func12, Tryz.ntmps12
  go_upto_region 1 with fail
  refine gen_wp (fun w' => Below w.heap.size w w' ∧ Box3 w' w.heap.size (.bool false) (.slice none 0 0) (.slice none 0 0))
    ⟨((Below.refl _ _).alloc (Nat.le_refl _) _), (Box3.new _ _ _ _ rfl)⟩ ?_
  rintro w0 ⟨bb, x0⟩
  obtain ⟨neg, hneg⟩ : ∃ neg, neg = Lib.hasPrefix s.data.toList [194, 175] := ⟨_, rfl⟩
  have hneg' := Lib.hid hneg
  have bb' := Lib.hid bb
  have x0' := Lib.hid x0
  clear bb x0 hneg
  go_cut [4] (fun v wx => v = .bool neg ∧ w0 = wx)
  case first =>
    by_cases hsz : 2 ≤ s.size
    · have b0 := byt_at s 0 (by omega)
      have b1 := byt_at s 1 (by omega)
      have d2 : decide ((2 : Int) ≤ (s.size : Int)) = true := by rw [decide_eq_true_iff]; omega
      by_cases c0 : byt s 0 = 194
      · rw [c0] at b0
        by_cases c1 : byt s 1 = 175
        · rw [c1] at b1
          have hn : neg = true := by rw [hneg'.out]; exact prefix_two.2 ⟨hsz, c0, c1⟩
          clear hneg' c0 c1
          subst hn
          go_wp2_with fail
          go_meet
          exact ⟨rfl, rfl⟩
        · have hn : neg = false := by
            rw [hneg'.out, Bool.eq_false_iff]
            exact fun h => c1 (prefix_two.1 h).2.2
          have c1' : ((byt s 1 : Int) == 175) = false := by rw [beq_eq_false_iff_ne]; omega
          clear hneg' c0 c1
          subst hn
          go_wp2_with fail
          go_meet
          exact ⟨rfl, rfl⟩
      · have hn : neg = false := by
          rw [hneg'.out, Bool.eq_false_iff]
          exact fun h => c0 (prefix_two.1 h).2.1
        have c0' : ((byt s 0 : Int) == 194) = false := by rw [beq_eq_false_iff_ne]; omega
        clear hneg' c0
        subst hn
        go_wp2_with fail
        go_meet
        exact ⟨rfl, rfl⟩
    · have hn : neg = false := by
        rw [hneg'.out, Bool.eq_false_iff]
        exact fun h => hsz (prefix_two.1 h).1
      have d2 : decide ((2 : Int) ≤ (s.size : Int)) = false := by rw [decide_eq_false_iff_not]; omega
      clear hneg' hsz
      subst hn
      go_wp2_with fail
      go_meet
      exact ⟨rfl, rfl⟩
  case rest =>
    obtain ⟨rfl, rfl⟩ := hcut
    go_upto_if 22 with fail
    go_cut [0] (fun v wx => ∃ u, v = .string u ∧ u.data.toList = Lib.trimPrefix s.data.toList [194, 175] ∧ u.size ≤ 1000 ∧ w0 = wx)
    case first =>
      cases neg with
      | true =>
        have h2 := (prefix_two.1 hneg'.out.symm).1
        have hp := Lib.hid hneg'.out.symm
        have h2' := Lib.hid h2
        go_wp2_with fail
        go_meet
        refine ⟨_, rfl, ?_, by rw [ByteArray.size_extract]; omega, rfl⟩
        unfold Lib.trimPrefix
        rw [hp.out, if_pos rfl, to_extract, List.take_of_length_le (by rw [List.length_drop, ← Lib.size_eq]; omega)]
        rfl
      | false =>
        have hp := Lib.hid hneg'.out.symm
        go_wp2_with fail
        go_meet
        refine ⟨_, rfl, ?_, hs, rfl⟩
        unfold Lib.trimPrefix
        rw [hp.out]
        rfl
    case rest =>
      obtain ⟨u, rfl, hu, hus, rfl⟩ := hcut
      have hu' := Lib.hid hu
      have goal' : ∀ e w2, ReadPost neg u.data.toList w e w2 → ParsedPost s.data.toList w e w2 := fun e w2 k => by
        unfold ParsedPost
        rw [← hu'.out, ← hneg'.out]
        exact k
      clear hu
      obtain ⟨l, hl⟩ : ∃ l, u.data.toList = l := ⟨_, rfl⟩
      have hl' := Lib.hid hl
      have hsz := Lib.size_eq u
      rw [hl] at hsz
      have hD := refDigits0_any u hus
      rw [hl] at hD
      clear hl
      rw [hl'.out] at goal'
      by_cases h4 : 400 < u.size
      · have hd : decide ((400 : Int) < (u.size : Int)) = true := by rw [decide_eq_true_iff]; omega
        have h4' := Lib.hid (show 400 < l.length by omega)
        clear h4 hsz hD
        have x9 := x0'.out
        have q0 := x9.c0; have q1 := x9.c1; have q2 := x9.c2; have q3 := x9.fr 0; have q4 := x9.fr 1; have q5 := x9.fr 2
        have z9 := x9.set (.bool false) (.slice none 0 0) (.slice none 0 0)
        have e0 := z9.c0; have e1 := z9.c1; have e2 := z9.c2
        clear x9 z9
        go_wp2_with fail
        refine bodyPost_ret (v := .tuple #[.agg #[.bool false, .slice none 0 0, .slice none 0 0], .int .i64 7]) (by simp [results, Tryz.results12, go_sem, e0, e1, e2]) rfl ?_
        exact goal' _ _ (read_long h4'.out (ResPost.stored (rt_zero _) x0'.out bb'.out (by omega)))
      have hd : decide ((400 : Int) < (u.size : Int)) = false := by rw [decide_eq_false_iff_not]; omega
      have h4' := Lib.hid (show ¬ 400 < l.length by omega)
      go_wp2_with fail
      refine (hD _).mono ?_
      rintro e w1 ⟨rfl, hb⟩
      clear hD hd
      have bb1 := Lib.hid (below_then bb'.out (Nat.le_refl _) hb)
      have x1 := Lib.hid (x0'.out.later hb)
      clear hb bb' x0'
      by_cases hall : l.all isD = true
      · rw [(span_all hall).1]
        by_cases h0 : l = []
        · have hn := Lib.hid (show pnum l = none by rw [h0]; rfl)
          have z0 : l.length = 0 := by rw [h0]; rfl
          rw [z0]
          have z0' := Lib.hid z0
          clear h0 z0 hall hsz
          have x9 := x1.out
          have q0 := x9.c0; have q1 := x9.c1; have q2 := x9.c2; have q3 := x9.fr 0; have q4 := x9.fr 1; have q5 := x9.fr 2
          have z9 := x9.set (.bool false) (.slice none 0 0) (.slice none 0 0)
          have e0 := z9.c0; have e1 := z9.c1; have e2 := z9.c2
          clear x9 z9
          go_wp2_with fail
          refine bodyPost_ret (v := .tuple #[.agg #[.bool false, .slice none 0 0, .slice none 0 0], .int .i64 1]) (by simp [results, Tryz.results12, go_sem, e0, e1, e2]) rfl ?_
          exact goal' _ _ (read_none h4'.out hn.out (ResPost.stored (rt_zero _) x1.out bb1.out (by omega)))
        · have hn := Lib.hid (pnum_all hall h0)
          have hall' := Lib.hid hall
          have hpos : 0 < u.size := by rw [hsz]; exact List.length_pos_iff.2 h0
          have h0' := Lib.hid h0
          have hV := refValue_any u hus (by rw [hl'.out]; exact h0) (by rw [hl'.out]; exact hall)
          rw [hl'.out] at hV
          have lb := Lib.hid (lval_pw hall 400 (by have := h4'.out; omega))
          rw [← hsz]
          have hne : ((u.size : Int) == 0) = false := by rw [beq_eq_false_iff_ne]; omega
          clear h0 hall hsz
          go_wp2_with fail
          refine (hV _).mono ?_
          intro e w2 hN
          obtain ⟨ao, n, nc, f, rfl, hA, hv, hnk, hb⟩ := hN.arg lb.out (by omega)
          have bb2 := Lib.hid (below_then bb1.out (Nat.le_refl _) hb)
          have x2 := Lib.hid (x1.out.later hb)
          have hA2 := Lib.hid hA
          have hv' := Lib.hid hv
          clear hN hV hb bb1 x1 hA hv
          go_wp2_with fail
          refine (rOf_any 1 _ (by decide) (by decide)).mono ?_
          rintro e w3 ⟨ob, oo, on, oc, rfl, hO, hb⟩
          have bb3 := Lib.hid (below_then bb2.out (Nat.le_refl _) hb)
          have x3 := Lib.hid (x2.out.later hb)
          have hA3 := Lib.hid ((hA2.out.below hb).whole neg)
          have hO' := Lib.hid (hO.whole (k := 32) (Nat.lt_of_lt_of_le (by decide) (pw_le (n := 1) (by omega))) (by omega))
          have hp := Lib.hid (show sgn neg (val f n) = sgn neg (lval l) by rw [hv'.out])
          clear hb bb2 x2 hA2 hO hnk
          go_wp2_with fail
          refine (rMake_any neg ob ao oo n nc on oc (sgn neg (lval l)) 1 _ (hp.out ▸ hA3.out) hO'.out 400 (by omega) (sgn_nat _ _ _ lb.out) (Nat.lt_of_lt_of_le (by decide) (pw_le (n := 1) (by omega)))).mono ?_
          rintro e w4 ⟨gb, gp, gn, gc, gq, gm, ge, rfl, hR, hb⟩
          have bb4 := Lib.hid (below_then bb3.out (Nat.le_refl _) hb)
          have x4 := x3.out.later hb
          have x4' := Lib.hid x4; have hR' := Lib.hid hR
          have q0 := x4.c0; have q1 := x4.c1; have q2 := x4.c2; have q3 := x4.fr 0; have q4 := x4.fr 1; have q5 := x4.fr 2
          have z := x4.set (.bool gb) (.slice gp gn gc) (.slice gq gm ge)
          have e0 := z.c0; have e1 := z.c1; have e2 := z.c2
          clear hb bb3 x4 hR z hA3 hO'
          go_wp2_with fail
          refine bodyPost_ret (v := .tuple #[.agg #[.bool gb, .slice gp gn gc, .slice gq gm ge], .int .i64 (mkE (sgn neg (lval l)) 1)]) (by simp [results, Tryz.results12, go_sem, e0, e1, e2]) rfl ?_
          exact goal' _ _ (read_some h4'.out hn.out (ResPost.stored hR'.out x4'.out bb4.out (by omega)))
      · obtain ⟨a, x, b, hlab, ha, hx⟩ := span_bad (show l.all isD = false by simpa using hall)
        have hpn := pnum_app ha hx b
        rw [← hlab] at hpn
        have htw : (l.takeWhile isD).length = a.length := by rw [hlab, (span_app ha hx b).1]
        rw [htw]
        clear htw hall
        by_cases ha0 : a = []
        · have hn := Lib.hid (show pnum l = none by rw [hpn, if_pos ha0])
          have z0 : a.length = 0 := by rw [ha0]; rfl
          rw [z0]
          clear hpn ha0 z0 hsz hlab ha hx
          have x9 := x1.out
          have q0 := x9.c0; have q1 := x9.c1; have q2 := x9.c2; have q3 := x9.fr 0; have q4 := x9.fr 1; have q5 := x9.fr 2
          have z9 := x9.set (.bool false) (.slice none 0 0) (.slice none 0 0)
          have e0 := z9.c0; have e1 := z9.c1; have e2 := z9.c2
          clear x9 z9
          go_wp2_with fail
          refine bodyPost_ret (v := .tuple #[.agg #[.bool false, .slice none 0 0, .slice none 0 0], .int .i64 1]) (by simp [results, Tryz.results12, go_sem, e0, e1, e2]) rfl ?_
          exact goal' _ _ (read_none h4'.out hn.out (ResPost.stored (rt_zero _) x1.out bb1.out (by omega)))
        rw [if_neg ha0] at hpn
        have hbx := byt_mid (hl'.out.trans hlab)
        have hbl : u.size = a.length + 1 + b.length := by rw [hsz, hlab, List.length_append, List.length_cons]; omega
        have hap : 0 < a.length := List.length_pos_iff.2 ha0
        have hE := refDigits_any u (a.length + 1) hus (by omega)
        rw [hl'.out, drop_mid hlab] at hE
        have eA := Lib.hid (show (u.extract 0 a.length).data.toList = a by rw [to_extract, hl'.out, hlab]; simp)
        have eB := Lib.hid (show (u.extract (a.length + 1) u.size).data.toList = b by
          rw [to_extract, hl'.out, drop_mid hlab]
          exact List.take_of_length_le (by omega))
        have ha' := Lib.hid ha; have ha0' := Lib.hid ha0; have hpn' := Lib.hid hpn
        obtain ⟨n, hn⟩ : ∃ n, n = a.length := ⟨_, rfl⟩
        obtain ⟨m, hm⟩ : ∃ m, m = (b.takeWhile isD).length := ⟨_, rfl⟩
        rw [← hn] at hbx hbl hap hE eA eB ⊢
        rw [← hm] at hE
        have hn' := Lib.hid hn; have hm' := Lib.hid hm
        have hbl' := Lib.hid hbl
        have n1 : n < u.size := by omega
        have n2 : n + 1 ≤ u.size := by omega
        have n3 : n ≤ u.size := by omega
        have hne : ((n : Int) == 0) = false := by rw [beq_eq_false_iff_ne]; omega
        have hnz : ((n : Int) == (u.size : Int)) = false := by rw [beq_eq_false_iff_ne]; omega
        have hml : m ≤ b.length := by rw [hm]; exact (List.takeWhile_sublist _).length_le
        have hbd : Hid (m = b.length → b.all isD = true) := Lib.hid fun h => tw_len (by rw [← hm]; exact h)
        have hbd2 : Hid (b.all isD = true → m = b.length) := Lib.hid fun h => by rw [hm, (span_all h).1]
        have hmk : m ≤ 1000 := by omega
        have hnk : n ≤ 1000 := by omega
        clear ha ha0 hpn hn hm hlab hx hsz hbl
        go_wp2_with fail
        refine (hE _).mono ?_
        rintro e w2 ⟨rfl, hb⟩
        clear hE
        have bb2 := Lib.hid (below_then bb1.out (Nat.le_refl _) hb)
        have x2 := Lib.hid (x1.out.later hb)
        have b0 := byt_at u n n1
        rw [hbx] at b0
        clear hb bb1 x1
        by_cases hm0 : m = 0
        · have hbad := Lib.hid (show pnum l = none by
            rw [hpn'.out]
            by_cases hb0 : b = []
            · rw [if_neg (fun k => k.1 hb0)]
            · rw [if_neg (fun k => by have := hbd2.out k.2; have := List.length_pos_iff.2 hb0; omega)])
          subst hm0
          clear hml
          have x9 := x2.out
          have q0 := x9.c0; have q1 := x9.c1; have q2 := x9.c2; have q3 := x9.fr 0; have q4 := x9.fr 1; have q5 := x9.fr 2
          have z9 := x9.set (.bool false) (.slice none 0 0) (.slice none 0 0)
          have e0 := z9.c0; have e1 := z9.c1; have e2 := z9.c2
          clear x9 z9
          go_wp2_with fail
          refine bodyPost_ret (v := .tuple #[.agg #[.bool false, .slice none 0 0, .slice none 0 0], .int .i64 1]) (by simp [results, Tryz.results12, go_sem, e0, e1, e2]) rfl ?_
          exact goal' _ _ (read_none h4'.out hbad.out (ResPost.stored (rt_zero _) x2.out bb2.out (by omega)))
        have hm0i : ((m : Int) == 0) = false := by rw [beq_eq_false_iff_ne]; omega
        by_cases hms : n + 1 + m ≠ u.size
        · have hbad := Lib.hid (show pnum l = none by
            rw [hpn'.out, if_neg (fun k => hms (by have := hbd2.out k.2; have := hbl'.out; omega))])
          have hmsi : ¬ ((n : Int) + 1 + (m : Int) = (u.size : Int)) := by omega
          clear hml hms
          have x9 := x2.out
          have q0 := x9.c0; have q1 := x9.c1; have q2 := x9.c2; have q3 := x9.fr 0; have q4 := x9.fr 1; have q5 := x9.fr 2
          have z9 := x9.set (.bool false) (.slice none 0 0) (.slice none 0 0)
          have e0 := z9.c0; have e1 := z9.c1; have e2 := z9.c2
          clear x9 z9
          go_wp2_with fail
          refine bodyPost_ret (v := .tuple #[.agg #[.bool false, .slice none 0 0, .slice none 0 0], .int .i64 1]) (by simp [results, Tryz.results12, go_sem, e0, e1, e2]) rfl ?_
          exact goal' _ _ (read_none h4'.out hbad.out (ResPost.stored (rt_zero _) x2.out bb2.out (by omega)))
        have hmb : m = b.length := by have := hbl'.out; omega
        have hb1 := Lib.hid (hbd.out hmb)
        have hb0 := Lib.hid (show b ≠ [] by rintro rfl; simp at hmb; omega)
        have hpn2 := Lib.hid (hpn'.out.trans (if_pos ⟨hb0.out, hb1.out⟩))
        have hmsi : (n : Int) + 1 + (m : Int) = (u.size : Int) := by omega
        have hmb' := Lib.hid hmb
        clear hbd hbd2 hpn' hml hmb hms
        by_cases x1 : x = 114
        · subst x1
          have hgood := Lib.hid (hpn2.out.trans (if_pos rfl))
          have b0' : (u[n]'n1).toNat = 114 := b0
          clear b0 hbx hpn2
          have hVa := refValue_any (u.extract 0 n) (by rw [ByteArray.size_extract]; omega) (by rw [eA.out]; exact ha0'.out) (by rw [eA.out]; exact ha'.out)
          have hVb := refValue_any (u.extract (n + 1) u.size) (by rw [ByteArray.size_extract]; omega) (by rw [eB.out]; exact hb0.out) (by rw [eB.out]; exact hb1.out)
          rw [eA.out] at hVa
          rw [eB.out] at hVb
          have la := Lib.hid (lval_pw ha'.out 400 (by have := hn'.out; omega))
          have lb := Lib.hid (lval_pw hb1.out 400 (by have := hbl'.out; omega))
          go_wp2_with fail
          have bb := bb2.out.drew; have x0 := x2.out.drew
          have g1 : (0 : Int) ≤ (n : Int) + 1 := by omega
          have g2 : (n : Int) + 1 ≤ (u.size : Int) := by omega
          have g3 : IntKind.i64.wrap ((n : Int) + 1) = (n : Int) + 1 := wrap_id (by omega) (by omega)
          have g4 : (n : Int) ≤ (u.size : Int) := by omega
          have sv0 := True.intro
          go_region_held3 (fun _ => True) (exact True.intro)
            (first
            | (go_at_call 29; clear sv0; refine (hVa _).mono ?_; intro e w3 hN; obtain ⟨ao, na, nca, fa, rfl, hA, hva, hak, hb⟩ := hN.arg la.out (by omega); have bb := below_then bb (Nat.le_refl _) hb; have x0 := x0.later hb; have hA := hA.whole neg; rw [hva] at hA; clear hb hN hva hak; have sv1 := True.intro)
            | (go_at_call 29; clear sv1; refine (hVb _).mono ?_; intro e w4 hN; obtain ⟨bo, nb, ncb, fb, rfl, hB, hvb, hbk, hb⟩ := hN.arg lb.out (by omega); have bb := below_then bb (Nat.le_refl _) hb; have x0 := x0.later hb; have hA := hA.below hb; have hB := hB.whole false; rw [hvb] at hB; clear hb hN hvb hbk; have sv2 := True.intro)
            | (go_at_call 16; clear sv2; refine (rMake_any neg false ao bo na nca nb ncb (sgn neg (lval a)) (lval b) _ hA hB 400 (by omega) (sgn_nat _ _ _ la.out) (sgn_nat false _ _ lb.out)).mono ?_; rintro e w5 ⟨gb, gp, gn, gc, gq, gm, ge, rfl, hR, hb⟩; have bb := below_then bb (Nat.le_refl _) hb; have x0 := x0.later hb; clear hb hA hB; have q0 := x0.c0; have q1 := x0.c1; have q2 := x0.c2; have q3 := x0.fr 0; have q4 := x0.fr 1; have q5 := x0.fr 2; have sv3 := True.intro))
          have z := x0.set (.bool gb) (.slice gp gn gc) (.slice gq gm ge)
          have e0 := z.c0; have e1 := z.c1; have e2 := z.c2
          have x0' := Lib.hid x0; have bb' := Lib.hid bb; have hR' := Lib.hid hR
          clear z x0 bb hR hVa hVb
          go_wp2_with fail
          refine bodyPost_ret (v := .tuple #[.agg #[.bool gb, .slice gp gn gc, .slice gq gm ge], .int .i64 (mkE (sgn neg (lval a)) (lval b))]) (by simp [results, Tryz.results12, go_sem, e0, e1, e2]) rfl ?_
          exact goal' _ _ (read_some h4'.out hgood.out (ResPost.stored hR'.out x0'.out bb'.out (by omega)))
        have hx1 : ¬ ((x.toNat : Int) = 114) := fun h => x1 (UInt8.toNat_inj.1 (by have : (114 : UInt8).toNat = 114 := rfl; omega))
        have hx1b : ((x.toNat : Int) == 114) = false := by rw [beq_eq_false_iff_ne]; exact hx1
        have hx1c : ((x.toNat : Int) != 114) = true := by rw [bne_iff_ne]; exact hx1
        have hx1' := Lib.hid x1
        clear x1
        by_cases x46 : x = 46
        · subst x46
          have hgood := Lib.hid (hpn2.out.trans ((if_neg hx1'.out).trans (if_pos rfl)))
          have b0' : (u[n]'n1).toNat = 46 := b0
          clear b0 hbx hpn2 hx1 hx1' hx1b hx1c
          have sA : (u.extract 0 n).size ≤ 1000 := by rw [ByteArray.size_extract]; omega
          have sB : (u.extract (n + 1) u.size).size ≤ 1000 := by rw [ByteArray.size_extract]; omega
          go_wp2_with fail
          refine gen_wp (fun w' => Below w.heap.size w w' ∧ Box3 w' w.heap.size (.bool false) (.slice none 0 0) (.slice none 0 0) ∧ Sl w' (some ⟨w2.heap.size, 0, none⟩) 1 (fun _ => 1))
            ⟨bb2.out.alloc bb2.out.size _, x2.out.alloc _, sl_one _ rfl rfl⟩ ?_
          rintro w3 ⟨bb3, x3, s3⟩
          have one : Canon (10 ^ 0) 1 (fun _ => 1) := ⟨fun _ _ => (by decide : 1 < 4294967296), .inr (by decide), rfl⟩
          go_loopw [7, 8] (fun bv iv wr => ∃ (i : Nat) (bo : Option Addr) (nb nc : Nat) (f : Nat → Nat), iv = .int .i64 i ∧ i ≤ m ∧ bv = .slice bo nb nc ∧ nb ≤ nc ∧ nc ≤ 9223372036854775807 ∧ Sl wr bo nb f ∧ Canon (10 ^ i) nb f ∧
            Box3 wr w.heap.size (.bool false) (.slice none 0 0) (.slice none 0 0) ∧ Below w.heap.size w wr) (fun _ iv _ => m - (intOf iv).toNat)
          case atStart => exact ⟨0, _, 1, 1, _, rfl, Nat.zero_le _, rfl, Nat.le_refl _, by omega, s3, one, x3, bb3⟩
          case round =>
            clear bb3 x3 s3 one
            obtain ⟨i, bo, nb, nc, f, rfl, him, rfl, k1, k2, k3, k4, x4, b4⟩ := hrel
            have k3' := Lib.hid k3; have k4' := Lib.hid k4; have x4' := Lib.hid x4; have b4' := Lib.hid b4
            have k1' := Lib.hid k1; have k2' := Lib.hid k2
            have hnb : nb ≤ i + 1 := k4.len_le (ten_pw_lt (Nat.lt_succ_self i))
            clear k1 k2 k3 k4 x4 b4
            by_cases hlt : i < m
            · go_wp2_with fail
              refine gen_calls (fun w' => Below w.heap.size w w' ∧ Box3 w' w.heap.size (.bool false) (.slice none 0 0) (.slice none 0 0) ∧ Sl w' bo nb f ∧ Sl w' (some ⟨wr.heap.size, 0, none⟩) 1 (fun _ => 10))
                ⟨b4'.out.alloc b4'.out.size _, x4'.out.alloc _, k3'.out.below ((Below.refl _ _).alloc (Nat.le_refl _) _), sl_one _ rfl rfl⟩ ?_
              rintro w5 ⟨b5, x5, s5, t5⟩
              have A5 : Arg w5 bo nb nc f := ⟨k1'.out, k2'.out, by omega, s5, k4'.out.lim⟩
              have B5 : Arg w5 (some ⟨wr.heap.size, 0, none⟩) 1 1 (fun _ => 10) := ⟨Nat.le_refl _, by omega, by omega, t5, fun _ _ => (by decide : 10 < 4294967296)⟩
              refine (refMul_any bo _ nb nc 1 1 f (fun _ => 10) _ A5 B5 (by omega) (by omega)).mono ?_
              rintro e w6 ⟨ko, kn, kc, k, rfl, l1, l2, l3, l4, hb⟩
              have b6 := Lib.hid (below_then b5 (Nat.le_refl _) hb)
              have x6 := Lib.hid (x5.later hb)
              rw [k4'.out.val, show val (fun _ => 10) 1 = 10 from rfl, ← Nat.pow_succ] at l4
              have l3' := Lib.hid l3; have l4' := Lib.hid l4; have l1' := Lib.hid l1; have l2' := Lib.hid l2
              clear b5 x5 s5 t5 A5 B5 hb l1 l2 l3 l4
              go_wp2_with fail
              go_roundw
              case rel => exact ⟨i + 1, ko, kn, kc, k, by go_num, by omega, rfl, l1'.out, l2'.out, l3'.out, l4'.out, x6.out, b6.out⟩
              case measure => simp [intOf]; omega
            · have him' : i = m := by omega
              subst him'
              have hVa := refValue_any (u.extract 0 n ++ u.extract (n + 1) u.size) (by rw [ByteArray.size_append, ByteArray.size_extract, ByteArray.size_extract]; omega)
                (by rw [list_append, eA.out]; have := ha0'.out; simp [this]) (by rw [list_append, eA.out, eB.out, List.all_append, ha'.out, hb1.out]; rfl)
              rw [list_append, eA.out, eB.out] at hVa
              have la := Lib.hid (lval_pw (l := a ++ b) (by rw [List.all_append, ha'.out, hb1.out]; rfl) 400 (by rw [List.length_append]; have := hn'.out; have := hbl'.out; omega))
              have lb := Lib.hid (ten_pw_lt (show i < 402 by omega))
              have hB := Lib.hid ((show Arg wr bo nb nc f from ⟨k1'.out, k2'.out, by omega, k3'.out, k4'.out.lim⟩).whole false)
              have hbe := Lib.hid (show sgn false (val f nb) = ((10 ^ b.length : Nat) : Int) by rw [k4'.out.val, hmb'.out]; rfl)
              have lbe := Lib.hid (show (10 : Nat) ^ b.length < pw 402 by rw [← hmb'.out]; exact lb.out)
              go_wp2_with fail
              have bb := b4'.out.drew; have x0 := x4'.out.drew; have hB := hB.out.below (Below.refl _ _).drew
              rw [hbe.out] at hB
              have g1 : (0 : Int) ≤ (n : Int) + 1 := by omega
              have g2 : (n : Int) + 1 ≤ (u.size : Int) := by omega
              have g3 : IntKind.i64.wrap ((n : Int) + 1) = (n : Int) + 1 := wrap_id (by omega) (by omega)
              have g4 : (n : Int) ≤ (u.size : Int) := by omega
              have g5 : ¬ (9223372036854775807 < n + (u.size - (n + 1))) := by omega
              clear sA sB
              have sx0 := True.intro
              go_region_held3 (fun _ => True) (exact True.intro)
                (first
                | (go_at_call 29; clear sx0; refine (hVa _).mono ?_; intro e w7 hN; obtain ⟨ao, na, nca, fa, rfl, hA, hva, hak, hb⟩ := hN.arg la.out (by omega); have bb := below_then bb (Nat.le_refl _) hb; have x0 := x0.later hb; have hB := hB.below hb; have hA := hA.whole neg; rw [hva] at hA; clear hb hN hva hak; have sx1 := True.intro)
                | (go_at_call 16; clear sx1; refine (rMake_any neg false ao bo na nca nb nc (sgn neg (lval (a ++ b))) ((10 ^ b.length : Nat) : Int) _ hA hB 402 (by omega) (sgn_nat _ _ _ (Nat.lt_of_lt_of_le la.out (pw_le (by omega)))) (sgn_nat false _ _ lbe.out)).mono ?_; rintro e w8 ⟨gb, gp, gn, gc, gq, gm, ge, rfl, hR, hb⟩; have bb := below_then bb (Nat.le_refl _) hb; have x0 := x0.later hb; clear hb hA hB; have q0 := x0.c0; have q1 := x0.c1; have q2 := x0.c2; have q3 := x0.fr 0; have q4 := x0.fr 1; have q5 := x0.fr 2; have sx2 := True.intro))
              have z := x0.set (.bool gb) (.slice gp gn gc) (.slice gq gm ge)
              have e0 := z.c0; have e1 := z.c1; have e2 := z.c2
              have x0' := Lib.hid x0; have bb' := Lib.hid bb; have hR' := Lib.hid hR
              clear z x0 bb hR hVa
              go_wp2_with fail
              refine bodyPost_ret (v := .tuple #[.agg #[.bool gb, .slice gp gn gc, .slice gq gm ge], .int .i64 (mkE (sgn neg (lval (a ++ b))) ((10 ^ b.length : Nat) : Int))]) (by simp [results, Tryz.results12, go_sem, e0, e1, e2]) rfl ?_
              exact goal' _ _ (read_some h4'.out hgood.out (ResPost.stored hR'.out x0'.out bb'.out (by omega)))
        · have hbad := Lib.hid (hpn2.out.trans ((if_neg hx1'.out).trans (if_neg x46)))
          have hx2 : ¬ ((x.toNat : Int) = 46) := fun h => x46 (UInt8.toNat_inj.1 (by have : (46 : UInt8).toNat = 46 := rfl; omega))
          have hx2b : ((x.toNat : Int) == 46) = false := by rw [beq_eq_false_iff_ne]; exact hx2
          have hx2c : ((x.toNat : Int) != 46) = true := by rw [bne_iff_ne]; exact hx2
          clear x46 hx1' hpn2
          have x9 := x2.out
          have q0 := x9.c0; have q1 := x9.c1; have q2 := x9.c2; have q3 := x9.fr 0; have q4 := x9.fr 1; have q5 := x9.fr 2
          have z9 := x9.set (.bool false) (.slice none 0 0) (.slice none 0 0)
          have e0 := z9.c0; have e1 := z9.c1; have e2 := z9.c2
          clear x9 z9
          go_wp2_with fail
          refine bodyPost_ret (v := .tuple #[.agg #[.bool false, .slice none 0 0, .slice none 0 0], .int .i64 1]) (by simp [results, Tryz.results12, go_sem, e0, e1, e2]) rfl ?_
          exact goal' _ _ (read_none h4'.out hbad.out (ResPost.stored (rt_zero _) x2.out bb2.out (by omega)))

end Go.Proofs.YtokdaagjkhkinaaGreatDoor
