/-
  scrimlaw08.ArraySame, walked.
-/
import Derived.Test.YtmkjebembicljaaMrgI
import Derived.Test.YtmkjebembicljaaMrgMd
namespace Go.Proofs.Ytmkjebembicljaa
open Go.RowKit Num

set_option maxRecDepth 20000 in
set_option maxHeartbeats 8000000 in
theorem same8_walk (hA : AwakeC) (hS : SameAC) (hM : MatchC) (hE : EraseC) (A B : Tree) (c0 c1 c2 d0 d1 d2 : Value) (w : World) (h : ArrP w A c0 c1 c2) (k : ArrP w B d0 d1 d2) :
    Calls Try.prog 5 #[.agg #[c0, c1, c2], .agg #[d0, d1, d2]] w (Tell (.bool true) w) := by
  replace hA := Lib.hid hA; replace hS := Lib.hid hS; replace hM := Lib.hid hM; replace hE := Lib.hid hE
  obtain ⟨S, n, nc, m, mc, ao, co, rfl, rfl, rfl⟩ := (ArrP.within _ _ _ _ h).form
  obtain ⟨S2, n2, nc2, m2, mc2, ao2, co2, rfl, rfl, rfl⟩ := (ArrP.within _ _ _ _ k).form
  replace h := Lib.hid h; replace k := Lib.hid k
  go_enter Try.func5, Try.ntmps5
  go_upto_region 1 with fail
  refine told_wp (fun w' => Below w.heap.size w w' ∧ Box3 w' w.heap.size (.int .u64 S) (.slice ao n nc) (.slice co m mc) ∧ Box3 w' (w.heap.size + 1) (.int .u64 S2) (.slice ao2 n2 nc2) (.slice co2 m2 mc2))
    ⟨((Below.refl _ _).alloc (Nat.le_refl _) _).alloc (by first | (simp; done) | (simp; omega)) _, (Box3.new _ _ _ _ rfl).alloc _, Box3.new _ _ _ _ (by first | (simp; done) | (simp; omega))⟩ ?_
  rintro w0 ⟨bb, x, y⟩
  have x0 := x.c0; have x1 := x.c1; have x2 := x.c2
  replace bb := Lib.hid bb; replace x := Lib.hid x; replace y := Lib.hid y
  go_wp2_with fail
  refine (few8_any A _ _ _ w0 (h.out.later bb.out)).mono ?_
  rintro e w1 ⟨⟨r, rfl, hr⟩, hb⟩
  clear x0 x1 x2
  cases r with
  | false =>
    replace bb := Lib.hid (below_then bb.out (Nat.le_refl _) hb)
    clear hb hr x y
    go_wp2_with fail
    refine (hA.out _).mono ?_
    rintro e wz ⟨rfl, hb⟩
    replace bb := Lib.hid (below_then bb.out (Nat.le_refl _) hb)
    clear hb
    go_wp2_with fail
    go_ret
    exact ⟨rfl, bb.out⟩
  | true =>
    have hF := Lib.hid (hr rfl)
    replace bb := Lib.hid (below_then bb.out (Nat.le_refl _) hb); replace x := Lib.hid (x.out.later hb); replace y := Lib.hid (y.out.later hb)
    clear hb hr
    have x0 := y.out.c0; have x1 := y.out.c1; have x2 := y.out.c2
    go_wp2_with fail
    refine (few8_any B _ _ _ w1 (k.out.later bb.out)).mono ?_
    rintro e w2 ⟨⟨r, rfl, hr⟩, hb⟩
    clear x0 x1 x2
    cases r with
    | false =>
      replace bb := Lib.hid (below_then bb.out (Nat.le_refl _) hb)
      clear hb hr x y
      go_wp2_with fail
      refine (hA.out _).mono ?_
      rintro e wz ⟨rfl, hb⟩
      replace bb := Lib.hid (below_then bb.out (Nat.le_refl _) hb)
      clear hb
      go_wp2_with fail
      go_ret
      exact ⟨rfl, bb.out⟩
    | true =>
      have hG := Lib.hid (hr rfl)
      replace bb := below_then bb.out (Nat.le_refl _) hb
      replace x := x.out.later hb
      replace y := y.out.later hb
      have a := h.out.later bb
      have b := k.out.later bb
      clear hb hr
      obtain ⟨bS, hbS⟩ := bool_of (SameT A B)
      obtain ⟨bM, hbM⟩ := bool_of (MatchT A B)
      replace hbS := Lib.hid hbS; replace hbM := Lib.hid hbM
      go_upto_region 3 with fail
      have sa0 := True.intro
      go_region_held3 (fun w' => w'.cell? ⟨w.heap.size, 0, none⟩ = some (.int .u64 S) ∧ w'.cell? ⟨w.heap.size, 1, none⟩ = some (.slice ao n nc) ∧ w'.cell? ⟨w.heap.size, 2, none⟩ = some (.slice co m mc) ∧ w'.cell? ⟨w.heap.size + 1, 0, none⟩ = some (.int .u64 S2) ∧ w'.cell? ⟨w.heap.size + 1, 1, none⟩ = some (.slice ao2 n2 nc2) ∧ w'.cell? ⟨w.heap.size + 1, 2, none⟩ = some (.slice co2 m2 mc2))
        (first | with_reducible exact ⟨x.drew.c0, x.drew.c1, x.drew.c2, y.drew.c0, y.drew.c1, y.drew.c2⟩ | with_reducible exact ⟨x.c0, x.c1, x.c2, y.c0, y.c1, y.c2⟩ | go_keep)
        (first
        | (go_at_call 26; clear sa0; have bb := bb.drew; have x := x.drew; have y := y.drew; have a := a.drew; have b := b.drew; refine ((hS.out _ _ _ _ _ _ _ _ _ a b hF.out hG.out).mono fun _ _ => BoolPost.tell hbS.out).mono ?_; rintro e w' ⟨rfl, hb⟩; have bb := below_then bb (Nat.le_refl _) hb; have x := x.later hb; have y := y.later hb; have a := a.later hb; have b := b.later hb; clear hb; have sa1 := True.intro)
        | (go_at_call 18; clear sa1; refine ((same8_any _ _ _ _ _ _ _ _ _ a b).mono fun _ _ => BoolPost.tell hbS.out).mono ?_; rintro e w' ⟨rfl, hb⟩; have bb := below_then bb (Nat.le_refl _) hb; have x := x.later hb; have y := y.later hb; have a := a.later hb; have b := b.later hb; clear hb; have sa2 := True.intro)
        | (go_at_call 27; clear sa2; refine ((hM.out _ _ _ _ _ _ _ _ _ a b hF.out hG.out).mono fun _ _ => BoolPost.tell hbM.out).mono ?_; rintro e w' ⟨rfl, hb⟩; have bb := below_then bb (Nat.le_refl _) hb; have x := x.later hb; have y := y.later hb; have a := a.later hb; have b := b.later hb; clear hb; have sa3 := True.intro)
        | (go_at_call 28; clear sa3; refine ((match8_any _ _ _ _ _ _ _ _ _ a b hF.out.1 hG.out.1).mono fun _ _ => BoolPost.tell hbM.out).mono ?_; rintro e w' ⟨rfl, hb⟩; have bb := below_then bb (Nat.le_refl _) hb; have x := x.later hb; have y := y.later hb; have a := a.later hb; have b := b.later hb; clear hb; have sa4 := True.intro)
        | (go_at_call 27; clear sa4; refine ((hM.out _ _ _ _ _ _ _ _ _ a b hF.out hG.out).mono fun _ _ => BoolPost.tell hbM.out).mono ?_; rintro e w' ⟨rfl, hb⟩; have bb := below_then bb (Nat.le_refl _) hb; have x := x.later hb; have y := y.later hb; have a := a.later hb; have b := b.later hb; clear hb; have sa5 := True.intro)
        | (go_at_call 19; clear sa5; refine (hE.out _ _ _ _ _ a hF.out).mono ?_; rintro e w' hp; obtain ⟨SE1, nE1, ncE1, mE1, mcE1, aoE1, coE1, rfl, E1, hb⟩ := TreePost.form hp; clear hp; have bb := below_then bb (Nat.le_refl _) hb; have x := x.later hb; have y := y.later hb; have a := a.later hb; have b := b.later hb; clear hb; have sa6 := True.intro)
        | (go_at_call 19; clear sa6; refine (hE.out _ _ _ _ _ b hG.out).mono ?_; rintro e w' hp; obtain ⟨SE2, nE2, ncE2, mE2, mcE2, aoE2, coE2, rfl, E2, hb⟩ := TreePost.form hp; clear hp; have bb := below_then bb (Nat.le_refl _) hb; have x := x.later hb; have y := y.later hb; have a := a.later hb; have b := b.later hb; have E1 := E1.later hb; clear hb; have sa7 := True.intro)
        | (go_at_call 26; clear sa7; refine ((hS.out _ _ _ _ _ _ _ _ _ E1 E2 (few_cover _ _ hF.out) (few_cover _ _ hG.out)).mono fun _ _ => BoolPost.tell hbM.out).mono ?_; rintro e w' ⟨rfl, hb⟩; have bb := below_then bb (Nat.le_refl _) hb; have x := x.later hb; have y := y.later hb; have a := a.later hb; have b := b.later hb; have E1 := E1.later hb; have E2 := E2.later hb; clear hb; have sa8 := True.intro)
        | (go_at_call 26; clear sa8; refine ((hS.out _ _ _ _ _ _ _ _ _ a a hF.out hF.out).mono fun _ _ => BoolPost.tell (b := true) ⟨fun _ => same_refl _ (ArrP.full _ _ _ _ a), fun _ => rfl⟩).mono ?_; rintro e w' ⟨rfl, hb⟩; have bb := below_then bb (Nat.le_refl _) hb; have x := x.later hb; have y := y.later hb; have a := a.later hb; have b := b.later hb; have E1 := E1.later hb; have E2 := E2.later hb; clear hb; have sa9 := True.intro)
        | (go_at_call 7; clear sa9; refine (hA.out _).mono ?_; rintro e w' ⟨rfl, hb⟩; have bb := below_then bb (Nat.le_refl _) hb; have x := x.later hb; have y := y.later hb; have a := a.later hb; have b := b.later hb; have E1 := E1.later hb; have E2 := E2.later hb; clear hb; have sa10 := True.intro))
      go_wp2_with fail
      go_ret
      exact ⟨rfl, bb⟩

end Go.Proofs.Ytmkjebembicljaa
