/-
  scrimlaw05.DigitsPoint, walked.
-/
import Derived.Test.YtokdaagjkhkinaaGreatDoorMF
import Derived.Test.YtokdaagjkhkinaaGreatDoorMGf
import Derived.Deep.CutBlock
import Derived.Deep.DeepCutAuto
namespace Go.Proofs.YtokdaagjkhkinaaGreatDoor
open Go.RowKit Num

attribute [local go_sem ↓] Go.wp_at_zero Go.wp_at_succ

/-- Digits with a point among them are read as the digits by a power of ten. -/
theorem point_parsed {l : List UInt8} {j k : Nat} (hd : l.all isD = true) (h0 : 0 < j) (h1 : 0 < k) (hl : l.length = j + k) (hl3 : l.length ≤ 300) :
    ParsedPost (l.take j ++ [46] ++ l.drop j) = MakePost (lval l) ((10 ^ k : Nat) : Int) := by
  have ea : (l.take j).all isD = true := by
    rw [List.all_eq_true] at hd ⊢
    exact fun c hc => hd c (List.mem_of_mem_take hc)
  have eb : (l.drop j).all isD = true := by
    rw [List.all_eq_true] at hd ⊢
    exact fun c hc => hd c (List.mem_of_mem_drop hc)
  have la : (l.take j).length = j := by rw [List.length_take]; omega
  have lb : (l.drop j).length = k := by rw [List.length_drop]; omega
  have na : l.take j ≠ [] := by intro h; rw [h] at la; simp at la; omega
  have nb : l.drop j ≠ [] := by intro h; rw [h] at lb; simp at lb; omega
  have e : l.take j ++ [46] ++ l.drop j = l.take j ++ 46 :: l.drop j := by simp
  rw [e]
  have hp : Lib.hasPrefix (l.take j ++ 46 :: l.drop j) [194, 175] = false := by
    cases ht : l.take j with
    | nil => exact absurd ht na
    | cons c m =>
      rw [ht, List.all_cons, Bool.and_eq_true] at ea
      have : c ≠ 194 := by rintro rfl; exact absurd ea.1 (by decide)
      simp [Lib.hasPrefix, List.isPrefixOf, Ne.symm this]
  have ht : Lib.trimPrefix (l.take j ++ 46 :: l.drop j) [194, 175] = l.take j ++ 46 :: l.drop j := by
    unfold Lib.trimPrefix
    rw [hp]
    rfl
  have hn : pnum (l.take j ++ 46 :: l.drop j) = some (lval l, 10 ^ k) := by
    rw [pnum_app ea (by decide), if_neg na, if_pos ⟨nb, eb⟩, if_neg (by decide), if_pos rfl, List.take_append_drop, lb]
  unfold ParsedPost ReadPost
  rw [hp, ht, rd_some (by rw [List.length_append, List.length_cons, la, lb]; omega) hn, sgn_false]

theorem ten_9 {i : Nat} (h : i ≤ 9) : 10 ^ i ≤ 1000000000 := ten_le h

theorem abs_32 {v : Nat} (h : v < 4294967296) : (v : Int).natAbs < pw 32 := int_32 (by omega) (by omega)

theorem arr_one (c : UInt8) : (ByteArray.mk #[c]).data.toList = [c] := rfl

/-- A power of ten, times ten. -/
theorem tens_mul {i : Nat} (h : i < 9) {w w' : World} {e : Ending} (k : MakePost (((10 ^ i : Nat) : Int) * 10) ((1 : Nat) * (1 : Nat) : Int) w e w') : ResPost ((10 ^ (i + 1) : Nat) : Int) 1 0 w e w' := by
  have e1 : ((10 ^ i : Nat) : Int) * 10 = ((10 ^ (i + 1) : Nat) : Int) := by rw [Nat.pow_succ, Int.natCast_mul]; rfl
  have e2 : ((1 : Nat) * (1 : Nat) : Int) = ((1 : Nat) : Int) := rfl
  obtain ⟨m1, m2, m3⟩ := mk_self (low_one (P := ((10 ^ (i + 1) : Nat) : Int)) (abs_32 (by have := ten_9 (i := i + 1) (by omega); omega)))
  rw [e1, e2] at k
  have k : ResPost (mkT ((10 ^ (i + 1) : Nat) : Int) ((1 : Nat) : Int)) (mkB ((10 ^ (i + 1) : Nat) : Int) ((1 : Nat) : Int)) (mkE ((10 ^ (i + 1) : Nat) : Int) ((1 : Nat) : Int)) w e w' := k
  rwa [m1, m2, m3] at k

/-- A number by a power of ten. -/
def PointPost (x k : Nat) : World → Ending → World → Prop := ResPost (mkT x ((10 ^ k : Nat) : Int)) (mkB x ((10 ^ k : Nat) : Int)) 0

theorem point_zero {x k : Nat} (hx : x < 4294967296) (hk : k ≤ 9) : mkE x ((10 ^ k : Nat) : Int) = 0 :=
  mkE_small (by have := ten_pos k; omega) (abs_32 hx) (abs_32 (by have := ten_9 hk; omega))

theorem point_post {x k : Nat} (hx : x < 4294967296) (hk : k ≤ 9) {w w' : World} {e : Ending} (h : MakePost x ((10 ^ k : Nat) : Int) w e w') : PointPost x k w e w' := make_zero (point_zero hx hk) h

theorem point_div {x k : Nat} (hx : x < 4294967296) (hk : k ≤ 9) {w w' : World} {e : Ending} (h : MakePost ((x : Int) * (1 : Nat)) (((1 : Nat) : Int) * ((10 ^ k : Nat) : Int)) w e w') : PointPost x k w e w' := by
  refine point_post hx hk ?_
  rw [show (x : Int) * (1 : Nat) = x by omega, show ((1 : Nat) : Int) * ((10 ^ k : Nat) : Int) = ((10 ^ k : Nat) : Int) by omega] at h
  exact h

set_option maxRecDepth 20000 in
set_option maxHeartbeats 8000000 in
theorem point_walk (x p : Nat) (hx : x < 4294967296) (hp : p < 256) (w : World) :
    Calls Tryz.prog 5 #[.int .u32 x, .int .u8 p] w (Says (.bool true) w) := by
  obtain ⟨k, hk⟩ : ∃ k, k = p % 9 + 1 := ⟨_, rfl⟩
  have hk1 : 1 ≤ k := by omega
  have hk9 : k ≤ 9 := by omega
  have hkp := Lib.hid hk
  clear hk
  go_enter Tryz.func5, Tryz.ntmps5
  go_upto_region 1 with fail
  go_cut [5] (fun v wx => v = .int .i64 k ∧ w = wx)
  case first =>
    go_wp2_with fail
    go_meet
    refine ⟨?_, rfl⟩
    rw [hkp.out]
    exact int_eq (by omega)
  case rest =>
    obtain ⟨rfl, rfl⟩ := hcut
    clear hkp
    go_wp2_with fail
    refine (of4_any x _ (by omega) (by omega)).mono ?_
    rintro e w1 ⟨ob, op, on, oc, oq, om, oe, rfl, hO, hb⟩
    have b1 := Lib.hid hb
    have hO' := Lib.hid hO
    clear hb hO
    go_wp2_with fail
    refine (refPrint_any ob op oq on oc om oe x 1 _ hO'.out (low_one (abs_32 hx))).mono ?_
    rintro e w2 ⟨s, rfl, hs, hb⟩
    have b2 := Lib.hid (below_then b1.out (Nat.le_refl _) hb)
    have hsd : Hid (s.data.toList ≠ [] ∧ s.data.toList.all isD = true ∧ lval s.data.toList = x ∧ s.size ≤ 20) := by
      obtain ⟨a, b, h1, _, h3⟩ := hs
      rw [if_neg (by omega), if_pos rfl, List.nil_append, List.append_nil] at h3
      have f := h1.facts (pw_more (abs_32 hx))
      have g := h1.len (m := 20) (by rw [Int.natAbs_natCast]; omega) (by omega)
      rw [Lib.size_eq, h3]
      exact Lib.hid ⟨f.1, f.2.1, by rw [f.2.2, Int.natAbs_natCast], g⟩
    clear hb b1 hO' hs
    go_wp2_with fail
    go_loop [6] (fun v => ∃ u : ByteArray, v = .string u ∧ Hid (u.data.toList ≠ [] ∧ u.data.toList.all isD = true ∧ lval u.data.toList = x ∧ u.size ≤ 20)) (fun v => match v with | .string t => 30 - t.size | _ => 0)
    case atStart => exact ⟨s, rfl, hsd⟩
    case round =>
      clear hsd
      obtain ⟨u, rfl, hu⟩ := hrel
      have hu20 : u.size ≤ 20 := hu.out.2.2.2
      by_cases hlt : u.size ≤ k
      · go_wp2_with fail
        go_round
        case rel =>
          refine ⟨_, rfl, Lib.hid ⟨?_, ?_, ?_, ?_⟩⟩
          · rw [list_append]; simp
          · rw [list_append, List.all_append, hu.out.2.1]; rfl
          · rw [list_append]
            show lval (48 :: u.data.toList) = x
            rw [lval_zero, hu.out.2.2.1]
          · rw [ByteArray.size_append, show (ByteArray.mk #[48]).size = 1 from rfl]; omega
        case measure =>
          show 30 - (ByteArray.mk #[48] ++ u).size < 30 - u.size
          rw [ByteArray.size_append, show (ByteArray.mk #[48]).size = 1 from rfl]; omega
      · obtain ⟨j, hj⟩ : ∃ j, u.size = j + k := ⟨u.size - k, by omega⟩
        have hj0 : 0 < j := by omega
        have dlt : decide ((u.size : Int) ≤ (k : Int)) = false := by rw [decide_eq_false_iff_not]; omega
        have hul : u.data.toList.length = j + k := by rw [← Lib.size_eq]; exact hj
        have hP := point_parsed hu.out.2.1 hj0 (show 0 < k by omega) hul (by rw [hul]; omega)
        rw [hu.out.2.2.1] at hP
        have c := parse5_any (u.extract 0 j ++ ByteArray.mk #[46] ++ u.extract j u.size)
        rw [list_append, list_append, to_extract, to_extract, List.drop_zero, Nat.sub_zero, List.take_of_length_le (l := u.data.toList.drop j) (by rw [List.length_drop]; omega), arr_one, hP] at c
        have hc := Lib.hid (fun w0 => (c w0).mono fun _ _ => point_post hx hk9)
        clear c hP hul
        have g0 : (u.size : Int) - (k : Int) = (j : Int) := by omega
        have g1 : IntKind.i64.wrap (j : Int) = (j : Int) := by simp [IntKind.wrap, IntKind.bits, IntKind.signed]; omega
        have g2 : (j : Int) ≤ (u.size : Int) := by omega
        have g3 : j ≤ u.size := by omega
        have hj' := Lib.hid hj
        clear hj hlt
        go_upto_region 5 with fail
        refine gen_wp (fun w' => Below w.heap.size w w') b2.out ?_
        clear b2
        intro u0 bb
        have g4 : (0 : Int) ≤ (j : Int) := by omega
        have g5 : ¬ (9223372036854775807 < j + 1) := by omega
        have g6 : ¬ (9223372036854775807 < j + 1 + (u.size - j)) := by omega
        go_cut [7, 8] (fun s t wx => ∃ B ab ap an ac aq am ae, s = .pointer (some ⟨B, 0, none⟩) ∧ t = .int .i64 0 ∧ Box3 wx B (.bool ab) (.slice ap an ac) (.slice aq am ae) ∧ Rt wx ab ap an ac aq am ae (mkT x ((10 ^ k : Nat) : Int)) (mkB x ((10 ^ k : Nat) : Int)) ∧ Below w.heap.size w wx)
        case first =>
          have bs := bb.size
          have sa0 := True.intro
          go_region_held3 (fun _ => True)
            (exact True.intro)
            (first
            | (go_at_call 9; clear sa0; refine (hc.out _).mono ?_; rintro e u1 ⟨ab, ap, an, ac, aq, am, ae, rfl, A, hb⟩; have hc : Below u0.heap.size u0 u1 := (by first | exact (Below.refl _ _).drew.trans hb | exact ((Below.refl _ _).alloc (by first | exact Nat.le_refl _ | (simp; done) | (simp; omega)) _).drew.trans (hb.mono (by first | (simp; done) | (simp; omega)))); have hz0 := hc.size; have bb := below_then bb (Nat.le_refl _) hc; (first | (with_reducible have m10 := made13' hb) | skip); (try have k10 := m10.lt); (try (have f100 := m10.c0; have f101 := m10.c1; have f102 := m10.fr 0; have f103 := m10.fr 1; have f104 := m10.c2; have f105 := m10.fr 2)); clear hb hc; have sa1 := True.intro))
          · go_wp2_with fail; go_meet; exact ⟨_, ab, ap, an, ac, aq, am, ae, rfl, rfl, (Box3.new _ _ _ _ (by first | (simp; done) | rfl)), (A.alloc _), (Below.alloc bb (by first | omega | (simp; omega) | (simp; done)) _)⟩
          · go_wp2_with fail; go_meet; exact ⟨_, ab, ap, an, ac, aq, am, ae, rfl, rfl, (m10.set _ _ _), (A.box3 m10 _ _ _), (below_set3 bb (by omega) _ _ _)⟩
        case rest =>
          obtain ⟨Ba, ab, ap, an, ac, aq, am, ae, rfl, rfl, xa, A, bb⟩ := hcut
          have hBa := xa.lt
          have xa' := Lib.hid xa; have A' := Lib.hid A; have bb' := Lib.hid bb
          clear xa A bb hu hc g0 g1 g2 g3 g4 g5 g6 hj' hj0 dlt hu20
          go_wp2_with fail
          refine (of4_any 1 _ (by decide) (by decide)).mono ?_
          rintro e w3 ⟨cb, cp, cn, cc, cq, cm, ce, rfl, C, hb⟩
          have b3 := Lib.hid (below_then bb'.out (Nat.le_refl _) hb)
          have xa3 := Lib.hid (xa'.out.later hb)
          have A3 := Lib.hid (A'.out.below hb)
          have C3 := Lib.hid C
          have hlt := xa3.out.lt
          clear hb C bb' xa' A' hBa
          go_upto_region 7 with fail
          refine gen_wp (fun w' => Below w.heap.size w w' ∧ Box3 w' Ba (.bool ab) (.slice ap an ac) (.slice aq am ae) ∧ Rt w' ab ap an ac aq am ae (mkT x ((10 ^ k : Nat) : Int)) (mkB x ((10 ^ k : Nat) : Int)) ∧ Box3 w' w3.heap.size (.bool cb) (.slice cp cn cc) (.slice cq cm ce) ∧ Rt w' cb cp cn cc cq cm ce ((10 ^ 0 : Nat) : Int) 1 ∧ w.heap.size ≤ w3.heap.size)
            ⟨b3.out.alloc b3.out.size _, xa3.out.alloc _, A3.out.alloc _, Box3.new _ _ _ _ rfl, C3.out.alloc _, b3.out.size⟩ ?_
          clear b3 xa3 A3 C3
          generalize w3.heap.size = Bb at hlt ⊢
          rintro w4 ⟨b4, xa4, A4, xb4, C4, hBw⟩
          go_wp2_with fail
          go_loopw [10] (fun v wr => ∃ (i : Nat) (cb : Bool) (cp : Option Addr) (cn cc : Nat) (cq : Option Addr) (cm ce : Nat), v = .int .i64 i ∧ i ≤ k ∧ Box3 wr Ba (.bool ab) (.slice ap an ac) (.slice aq am ae) ∧ Rt wr ab ap an ac aq am ae (mkT x ((10 ^ k : Nat) : Int)) (mkB x ((10 ^ k : Nat) : Int)) ∧
            Box3 wr Bb (.bool cb) (.slice cp cn cc) (.slice cq cm ce) ∧ Rt wr cb cp cn cc cq cm ce ((10 ^ i : Nat) : Int) 1 ∧ Below w.heap.size w wr) (fun v _ => k - (intOf v).toNat)
          case atStart => exact ⟨0, cb, cp, cn, cc, cq, cm, ce, rfl, Nat.zero_le _, xa4, A4, xb4, C4, b4⟩
          case round =>
            clear b4 xa4 A4 xb4 C4
            obtain ⟨i, cb, cp, cn, cc, cq, cm, ce, rfl, hi, xa0, A0, xb0, C0, b0⟩ := hrel
            have lowi := Lib.hid (low_one (P := ((10 ^ i : Nat) : Int)) (abs_32 (by have := ten_9 (i := i) (by omega); omega)))
            have low10 := Lib.hid (low_one (P := 10) (int_32 (by decide) (by decide)))
            have lowx := Lib.hid (low_one (P := (x : Int)) (abs_32 hx))
            have hne : Ba ≠ Bb := by omega
            have xa0 := Lib.hid xa0; have A0 := Lib.hid A0; have xb0 := Lib.hid xb0; have C0 := Lib.hid C0; have b0 := Lib.hid b0
            by_cases hik : i < k
            · go_wp2_with fail
              refine gen_wp (fun w' => Below w.heap.size w w' ∧ Box3 w' Ba (.bool ab) (.slice ap an ac) (.slice aq am ae) ∧ Rt w' ab ap an ac aq am ae (mkT x ((10 ^ k : Nat) : Int)) (mkB x ((10 ^ k : Nat) : Int)) ∧ Box3 w' Bb (.bool cb) (.slice cp cn cc) (.slice cq cm ce) ∧ Rt w' cb cp cn cc cq cm ce ((10 ^ i : Nat) : Int) 1)
                ⟨b0.out, xa0.out, A0.out, xb0.out, C0.out⟩ ?_
              clear b0 xa0 A0 xb0 C0
              rintro u0 ⟨bb, xa, A, xb, C⟩
              have hi9 : i < 9 := by omega
              go_cut [11, 12] from 48 to 61 (fun s t wx => ∃ B db dp dn dc dq dm de, s = .pointer (some ⟨B, 0, none⟩) ∧ t = .int .i64 0 ∧ Box3 wx B (.bool db) (.slice dp dn dc) (.slice dq dm de) ∧ Box3 wx Ba (.bool ab) (.slice ap an ac) (.slice aq am ae) ∧ Box3 wx Bb (.bool cb) (.slice cp cn cc) (.slice cq cm ce) ∧
                Rt wx ab ap an ac aq am ae (mkT x ((10 ^ k : Nat) : Int)) (mkB x ((10 ^ k : Nat) : Int)) ∧ Rt wx db dp dn dc dq dm de ((10 ^ (i + 1) : Nat) : Int) 1 ∧ Below w.heap.size w wx)
              case first =>
                have lxa := xa.lt
                have lxb := xb.lt
                have bs := bb.size
                have sb0 := True.intro
                go_region_held3 (fun w' => w'.cell? ⟨Bb, 0, none⟩ = some (.bool cb) ∧ w'.cell? ⟨Bb, 1, none⟩ = some (.slice cp cn cc) ∧ w'.cell? ⟨Bb, 2, none⟩ = some (.slice cq cm ce))
                  (first | with_reducible exact ⟨(xb.drew).c0, (xb.drew).c1, (xb.drew).c2⟩ | with_reducible exact ⟨((xb.alloc _).drew).c0, ((xb.alloc _).drew).c1, ((xb.alloc _).drew).c2⟩ | with_reducible exact ⟨xb.c0, xb.c1, xb.c2⟩ | with_reducible exact ⟨(xb.alloc _).c0, (xb.alloc _).c1, (xb.alloc _).c2⟩ | with_reducible exact ⟨(xb.other3 (by omega) _ _ _).c0, (xb.other3 (by omega) _ _ _).c1, (xb.other3 (by omega) _ _ _).c2⟩ | go_keep)
                  (first
                  | (go_at_call 13; clear sb0; refine (of4_any 10 _ (by decide) (by decide)).mono ?_; rintro e u1 ⟨fb, fp, fn, fc, fq, fm, fe, rfl, F, hb⟩; have hc : Below u0.heap.size u0 u1 := (by first | exact (Below.refl _ _).drew.trans hb | exact ((Below.refl _ _).alloc (by first | exact Nat.le_refl _ | (simp; done) | (simp; omega)) _).drew.trans (hb.mono (by first | (simp; done) | (simp; omega)))); have hz0 := hc.size; have xa := xa.later hc; have xb := xb.later hc; have A := A.below hc; have C := C.below hc; have bb := below_then bb (Nat.le_refl _) hc; (first | (with_reducible have m10 := made13' hb) | skip); (try have k10 := m10.lt); clear hb hc; have sb1 := True.intro)
                  | (go_at_call 14; clear sb1; refine (((rMul4_any cb cp cq cn cc cm ce ((10 ^ i : Nat) : Int) 1 fb fp fq fn fc fm fe 10 1 _ ?_ lowi.out ?_ low10.out).mono fun _ _ => tens_mul hi9)).mono ?_; (first | with_reducible exact C | with_reducible exact (C.alloc _)); (first | with_reducible exact F | with_reducible exact (F.alloc _)); rintro e u2 ⟨db, dp, dn, dc, dq, dm, de, rfl, D, hb⟩; have hc : Below u1.heap.size u1 u2 := (by first | with_reducible exact hb | exact ((Below.refl _ _).alloc (by first | exact Nat.le_refl _ | (simp; done) | (simp; omega)) _).trans (hb.mono (by first | (simp; done) | (simp; omega)))); have hz1 := hc.size; have xa := xa.later hc; have xb := xb.later hc; have A := A.below hc; have C := C.below hc; have F := F.below hc; have bb := below_then bb (Nat.le_refl _) hc; (try have m10 := m10.later hc); (first | (with_reducible have m20 := made13 hb) | skip); (try have k10 := m10.lt); (try have k20 := m20.lt); (try (have f100 := m10.c0; have f101 := m10.c1; have f102 := m10.fr 0; have f103 := m10.fr 1; have f104 := m10.c2; have f105 := m10.fr 2)); (try (have f200 := m20.c0; have f201 := m20.c1; have f202 := m20.fr 0; have f203 := m20.fr 1; have f204 := m20.c2; have f205 := m20.fr 2)); clear hb hc; have sb2 := True.intro))
                · go_wp2_with fail; go_meet; exact ⟨_, db, dp, dn, dc, dq, dm, de, rfl, rfl, (Box3.new _ _ _ _ (by first | (simp; done) | rfl)), (xa.alloc _), (xb.alloc _), (A.alloc _), (D.alloc _), (Below.alloc bb (by first | omega | (simp; omega) | (simp; done)) _)⟩
                · go_wp2_with fail; go_meet; exact ⟨_, db, dp, dn, dc, dq, dm, de, rfl, rfl, (m20.set _ _ _), (xa.other3 (by omega) _ _ _), (xb.other3 (by omega) _ _ _), (A.box3 m20 _ _ _), (D.box3 m20 _ _ _), (below_set3 bb (by omega) _ _ _)⟩
                · go_wp2_with fail; go_meet; exact ⟨_, db, dp, dn, dc, dq, dm, de, rfl, rfl, (m10.set _ _ _), (xa.other3 (by omega) _ _ _), (xb.other3 (by omega) _ _ _), (A.box3 m10 _ _ _), (D.box3 m10 _ _ _), (below_set3 bb (by omega) _ _ _)⟩
              case rest =>
                obtain ⟨Y, db, dp, dn, dc, dq, dm, de, rfl, rfl, y, xa, xb, A, D, bb⟩ := hcut
                have p0 := y.c0; have p1 := y.c1; have p2 := y.c2
                have q0 := xb.c0; have q1 := xb.c1; have q2 := xb.c2; have q3 := xb.fr 0; have q4 := xb.fr 1; have q5 := xb.fr 2
                have y := Lib.hid y; have xa := Lib.hid xa; have xb := Lib.hid xb; have A := Lib.hid A; have D := Lib.hid D; have bb := Lib.hid bb
                go_wp2_with fail
                go_roundw
                case rel => exact ⟨i + 1, db, dp, dn, dc, dq, dm, de, by go_num, by omega, xa.out.other3 hne _ _ _, A.out.box3 xb.out _ _ _, xb.out.set _ _ _, D.out.box3 xb.out _ _ _, below_set3 bb.out hBw _ _ _⟩
                case measure => simp [intOf]; omega
            · have hik' : i = k := by omega
              subst hik'
              go_upto_region 14 with fail
              refine gen_wp (fun w' => Below w.heap.size w w' ∧ Box3 w' Ba (.bool ab) (.slice ap an ac) (.slice aq am ae) ∧ Rt w' ab ap an ac aq am ae (mkT x ((10 ^ i : Nat) : Int)) (mkB x ((10 ^ i : Nat) : Int)) ∧ Box3 w' Bb (.bool cb) (.slice cp cn cc) (.slice cq cm ce) ∧ Rt w' cb cp cn cc cq cm ce ((10 ^ i : Nat) : Int) 1)
                ⟨b0.out, xa0.out, A0.out, xb0.out, C0.out⟩ ?_
              clear b0 xa0 A0 xb0 C0
              rintro u0 ⟨bb, xa, A, xb, C⟩
              have gx : IntKind.i64.wrap (x : Int) = (x : Int) := by simp [IntKind.wrap, IntKind.bits, IntKind.signed]; omega
              go_cut [13, 14] (fun s t wx => ∃ B db dp dn dc dq dm de, s = .pointer (some ⟨B, 0, none⟩) ∧ t = .int .i64 0 ∧ Box3 wx B (.bool db) (.slice dp dn dc) (.slice dq dm de) ∧ Box3 wx Ba (.bool ab) (.slice ap an ac) (.slice aq am ae) ∧
                Rt wx ab ap an ac aq am ae (mkT x ((10 ^ i : Nat) : Int)) (mkB x ((10 ^ i : Nat) : Int)) ∧ Rt wx db dp dn dc dq dm de (mkT x ((10 ^ i : Nat) : Int)) (mkB x ((10 ^ i : Nat) : Int)) ∧ Below w.heap.size w wx)
              case first =>
                have lxa := xa.lt
                have lxb := xb.lt
                have bs := bb.size
                have sc0 := True.intro
                go_region_held3 (fun w' => w'.cell? ⟨Bb, 0, none⟩ = some (.bool cb) ∧ w'.cell? ⟨Bb, 1, none⟩ = some (.slice cp cn cc) ∧ w'.cell? ⟨Bb, 2, none⟩ = some (.slice cq cm ce))
                  (first | with_reducible exact ⟨(xb.drew).c0, (xb.drew).c1, (xb.drew).c2⟩ | with_reducible exact ⟨((xb.alloc _).drew).c0, ((xb.alloc _).drew).c1, ((xb.alloc _).drew).c2⟩ | with_reducible exact ⟨xb.c0, xb.c1, xb.c2⟩ | with_reducible exact ⟨(xb.alloc _).c0, (xb.alloc _).c1, (xb.alloc _).c2⟩ | with_reducible exact ⟨(xb.other3 (by omega) _ _ _).c0, (xb.other3 (by omega) _ _ _).c1, (xb.other3 (by omega) _ _ _).c2⟩ | go_keep)
                  (first
                  | (go_at_call 13; clear sc0; refine (of4_any x _ (by omega) (by omega)).mono ?_; rintro e u1 ⟨fb, fp, fn, fc, fq, fm, fe, rfl, F, hb⟩; have hc : Below u0.heap.size u0 u1 := (by first | exact (Below.refl _ _).drew.trans hb | exact ((Below.refl _ _).alloc (by first | exact Nat.le_refl _ | (simp; done) | (simp; omega)) _).drew.trans (hb.mono (by first | (simp; done) | (simp; omega)))); have hz0 := hc.size; have xa := xa.later hc; have xb := xb.later hc; have A := A.below hc; have C := C.below hc; have bb := below_then bb (Nat.le_refl _) hc; (first | (with_reducible have m10 := made13' hb) | skip); (try have k10 := m10.lt); clear hb hc; have sc1 := True.intro)
                  | (go_at_call 15; clear sc1; refine (((rDiv4_any fb fp fq fn fc fm fe x 1 cb cp cq cn cc cm ce ((10 ^ i : Nat) : Int) 1 _ ?_ lowx.out ?_ lowi.out).mono fun _ _ => point_div hx hk9)).mono ?_; (first | with_reducible exact F | with_reducible exact (F.alloc _)); (first | with_reducible exact C | with_reducible exact (C.alloc _)); rintro e u2 ⟨db, dp, dn, dc, dq, dm, de, rfl, D, hb⟩; have hc : Below u1.heap.size u1 u2 := (by first | with_reducible exact hb | exact ((Below.refl _ _).alloc (by first | exact Nat.le_refl _ | (simp; done) | (simp; omega)) _).trans (hb.mono (by first | (simp; done) | (simp; omega)))); have hz1 := hc.size; have xa := xa.later hc; have xb := xb.later hc; have A := A.below hc; have C := C.below hc; have F := F.below hc; have bb := below_then bb (Nat.le_refl _) hc; (try have m10 := m10.later hc); (first | (with_reducible have m20 := made13 hb) | skip); (try have k10 := m10.lt); (try have k20 := m20.lt); (try (have f100 := m10.c0; have f101 := m10.c1; have f102 := m10.fr 0; have f103 := m10.fr 1; have f104 := m10.c2; have f105 := m10.fr 2)); (try (have f200 := m20.c0; have f201 := m20.c1; have f202 := m20.fr 0; have f203 := m20.fr 1; have f204 := m20.c2; have f205 := m20.fr 2)); clear hb hc; have sc2 := True.intro))
                · go_wp2_with fail; go_meet; exact ⟨_, db, dp, dn, dc, dq, dm, de, rfl, rfl, (Box3.new _ _ _ _ (by first | (simp; done) | rfl)), (xa.alloc _), (A.alloc _), (D.alloc _), (Below.alloc bb (by first | omega | (simp; omega) | (simp; done)) _)⟩
                · go_wp2_with fail; go_meet; exact ⟨_, db, dp, dn, dc, dq, dm, de, rfl, rfl, (m20.set _ _ _), (xa.other3 (by omega) _ _ _), (A.box3 m20 _ _ _), (D.box3 m20 _ _ _), (below_set3 bb (by omega) _ _ _)⟩
                · go_wp2_with fail; go_meet; exact ⟨_, db, dp, dn, dc, dq, dm, de, rfl, rfl, (m10.set _ _ _), (xa.other3 (by omega) _ _ _), (A.box3 m10 _ _ _), (D.box3 m10 _ _ _), (below_set3 bb (by omega) _ _ _)⟩
              case rest =>
                obtain ⟨Y, db, dp, dn, dc, dq, dm, de, rfl, rfl, y, xa, A, D, bb⟩ := hcut
                have p0 := y.c0; have p1 := y.c1; have p2 := y.c2
                have q0 := xa.c0; have q1 := xa.c1; have q2 := xa.c2
                have A := Lib.hid A; have D := Lib.hid D; have bb := Lib.hid bb
                clear y xa
                go_wp2_with fail
                refine (same4_any ab ap aq an ac am ae _ _ db dp dq dn dc dm de _ A.out D.out).mono ?_
                rintro e w5 ⟨rfl, hb⟩
                have b5 := Lib.hid (below_then bb.out (Nat.le_refl _) hb)
                clear hb bb A D p0 p1 p2 q0 q1 q2
                go_wp2_with fail
                refine (awake5_any _).mono ?_
                rintro e w6 ⟨rfl, hb⟩
                have b6 := Lib.hid (below_then b5.out (Nat.le_refl _) hb)
                clear hb b5
                go_wp2_with fail
                go_ret
                exact ⟨rfl, b6.out⟩

end Go.Proofs.YtokdaagjkhkinaaGreatDoor
