/-
  scrimlaw08.ArrayLabels, walked.
-/
import Derived.Test.YtmkjebembicljaaMrgI
namespace Go.Proofs.Ytmkjebembicljaa
open Go.RowKit Num

theorem tell_same {v : Value} {w w' : World} {e : Ending} (h : e = .returned v ∧ w = w') : Tell v w e w' := ⟨h.1, h.2 ▸ Below.refl _ _⟩

theorem raiseA_any (A : Tree) (l : Nat) (S n nc m mc : Nat) (ao co : Option Addr) (w : World) (h : ArrP w A (.int .u64 S) (.slice ao n nc) (.slice co m mc)) (hl : IsL l) :
    Calls Try.prog 24 #[.agg #[.int .u64 S, .slice ao n nc, .slice co m mc], .int .u64 l] w (TreePost (raiseT A l) w) := by
  obtain ⟨S', e, hS, hA⟩ := h.raise hl
  obtain rfl : S = S' := by injection e with _ e; omega
  refine (raise8_any S l ao co n nc m mc w hS hl).mono ?_
  rintro e w' ⟨rfl, hb⟩
  exact ⟨_, _, _, rfl, hA.later hb, hb⟩

/-- The end of a law that asks of Few arrays alone. -/
theorem u64_zero : (Value.int IntKind.u64 (((0 : Nat) : Int))) = .int .u64 0 := rfl

set_option maxRecDepth 20000 in
set_option maxHeartbeats 8000000 in
theorem labels8_walk (hA : AwakeC) (hT : TotalC) (hE : EraseC) (hC : CoverC) (hR : RaiseC) (A : Tree) (l : Nat) (c0 c1 c2 : Value) (w : World) (h : ArrP w A c0 c1 c2) (hl : IsL l) :
    Calls Try.prog 4 #[.agg #[c0, c1, c2], .int .u64 l] w (Tell (.bool true) w) := by
  replace hA := Lib.hid hA; replace hT := Lib.hid hT; replace hE := Lib.hid hE; replace hC := Lib.hid hC; replace hR := Lib.hid hR; replace hl := Lib.hid hl
  obtain ⟨S, n, nc, m, mc, ao, co, rfl, rfl, rfl⟩ := (ArrP.within _ _ _ _ h).form
  replace h := Lib.hid h
  go_enter Try.func4, Try.ntmps4
  go_upto_region 1 with fail
  refine told_wp (fun w' => Below w.heap.size w w' ∧ Box3 w' w.heap.size (.int .u64 S) (.slice ao n nc) (.slice co m mc)) ⟨(Below.refl _ _).alloc (Nat.le_refl _) _, Box3.new _ _ _ _ rfl⟩ ?_
  rintro w0 ⟨bb, x⟩
  have x0 := x.c0; have x1 := x.c1; have x2 := x.c2
  replace bb := Lib.hid bb; replace x := Lib.hid x
  go_wp2_with fail
  refine (few8_any A _ _ _ w0 (h.out.later bb.out)).mono ?_
  rintro e w1 ⟨⟨r, rfl, hr⟩, hb⟩
  clear x0 x1 x2
  cases r with
  | false =>
    replace bb := Lib.hid (below_then bb.out (Nat.le_refl _) hb)
    clear hb hr x
    go_wp2_with fail
    refine (hA.out _).mono ?_
    rintro e w2 ⟨rfl, hb⟩
    replace bb := Lib.hid (below_then bb.out (Nat.le_refl _) hb)
    clear hb
    go_wp2_with fail
    go_ret
    exact ⟨rfl, bb.out⟩
  | true =>
    have hF := Lib.hid (hr rfl)
    replace bb := below_then bb.out (Nat.le_refl _) hb
    replace x := x.out.later hb
    have a := h.out.later bb
    clear hb hr
    go_upto_region 3 with fail
    have sa0 := True.intro
    go_region_held3 (fun w' => w'.cell? ⟨w.heap.size, 0, none⟩ = some (.int .u64 S) ∧ w'.cell? ⟨w.heap.size, 1, none⟩ = some (.slice ao n nc) ∧ w'.cell? ⟨w.heap.size, 2, none⟩ = some (.slice co m mc))
      (first | with_reducible exact ⟨x.drew.c0, x.drew.c1, x.drew.c2⟩ | with_reducible exact ⟨x.c0, x.c1, x.c2⟩ | go_keep)
      (first
      | (go_at_call 16; clear sa0; have bb := bb.drew; have x := x.drew; have a := a.drew; refine (hT.out _ _ _ _ _ a hF.out).mono ?_; rintro e w' ⟨rfl, hb⟩; have bb := below_then bb (Nat.le_refl _) hb; have x := x.later hb; have a := a.later hb; clear hb; have sa1 := True.intro)
      | (go_at_call 17; clear sa1; refine (total8_any A _ _ _ _ a hF.out.1).mono ?_; rintro e w' ⟨rfl, hb⟩; have bb := below_then bb (Nat.le_refl _) hb; have x := x.later hb; have a := a.later hb; clear hb; have sa2 := True.intro)
      | (go_at_call 19; clear sa2; refine (hE.out _ _ _ _ _ a hF.out).mono ?_; rintro e w' hp; obtain ⟨SE1, nE1, ncE1, mE1, mcE1, aoE1, coE1, rfl, E1, hb⟩ := TreePost.form hp; clear hp; have bb := below_then bb (Nat.le_refl _) hb; have x := x.later hb; have a := a.later hb; clear hb; have sa3 := True.intro)
      | (go_at_call 20; clear sa3; refine (erase8_any A _ _ _ _ a hF.out.1).mono ?_; rintro e w' hp; obtain ⟨SE2, nE2, ncE2, mE2, mcE2, aoE2, coE2, rfl, E2, hb⟩ := TreePost.form hp; clear hp; have bb := below_then bb (Nat.le_refl _) hb; have x := x.later hb; have a := a.later hb; have E1 := E1.later hb; clear hb; have sa4 := True.intro)
      | (go_at_call 18; clear sa4; refine ((same8_any _ _ _ _ _ _ _ _ _ E1 E2).mono fun _ _ => BoolPost.tell (b := true) ⟨fun _ => same_refl _ (ArrP.full _ _ _ _ E1), fun _ => rfl⟩).mono ?_; rintro e w' ⟨rfl, hb⟩; have bb := below_then bb (Nat.le_refl _) hb; have x := x.later hb; have a := a.later hb; have E1 := E1.later hb; have E2 := E2.later hb; clear hb; have sa5 := True.intro)
      | (go_at_call 21; clear sa5; refine (hC.out _ _ _ _ _ _ a hF.out hl.out).mono ?_; rintro e w' hp; obtain ⟨SE3, nE3, ncE3, mE3, mcE3, aoE3, coE3, rfl, E3, hb⟩ := TreePost.form hp; clear hp; have bb := below_then bb (Nat.le_refl _) hb; have x := x.later hb; have a := a.later hb; have E1 := E1.later hb; have E2 := E2.later hb; clear hb; have sa6 := True.intro)
      | (go_at_call 22; clear sa6; refine (cover8_any A l false _ _ _ _ a hl.out hF.out.1).mono ?_; rintro e w' hp; obtain ⟨SE4, nE4, ncE4, mE4, mcE4, aoE4, coE4, rfl, E4, hb⟩ := TreePost.form hp; clear hp; have bb := below_then bb (Nat.le_refl _) hb; have x := x.later hb; have a := a.later hb; have E1 := E1.later hb; have E2 := E2.later hb; have E3 := E3.later hb; clear hb; have sa7 := True.intro)
      | (go_at_call 18; clear sa7; refine ((same8_any _ _ _ _ _ _ _ _ _ E3 E4).mono fun _ _ => BoolPost.tell (b := true) ⟨fun _ => same_refl _ (ArrP.full _ _ _ _ E3), fun _ => rfl⟩).mono ?_; rintro e w' ⟨rfl, hb⟩; have bb := below_then bb (Nat.le_refl _) hb; have x := x.later hb; have a := a.later hb; have E1 := E1.later hb; have E2 := E2.later hb; have E3 := E3.later hb; have E4 := E4.later hb; clear hb; have sa8 := True.intro))
    go_upto_region 5 with fail
    refine told_wp (fun w' => Below w.heap.size w w' ∧ Box3 w' w.heap.size (.int .u64 S) (.slice ao n nc) (.slice co m mc) ∧ ArrP w' A (.int .u64 S) (.slice ao n nc) (.slice co m mc)) ⟨bb, x, a⟩ ?_
    clear bb x a E1 E2 E3 E4
    rintro w2 ⟨bb, x, a⟩
    have sb0 := True.intro
    go_region_held3 (fun w' => w'.cell? ⟨w.heap.size, 0, none⟩ = some (.int .u64 S) ∧ w'.cell? ⟨w.heap.size, 1, none⟩ = some (.slice ao n nc) ∧ w'.cell? ⟨w.heap.size, 2, none⟩ = some (.slice co m mc))
      (first | with_reducible exact ⟨x.drew.c0, x.drew.c1, x.drew.c2⟩ | with_reducible exact ⟨x.c0, x.c1, x.c2⟩ | go_keep)
      (first
      | (go_at_call 23; clear sb0; have bb := bb.drew; have x := x.drew; have a := a.drew; refine (hR.out _ _ _ _ _ _ a (Nat.le_trans hF.out.1 (by decide)) hl.out).mono ?_; rintro e w' hp; obtain ⟨SE1, nE1, ncE1, mE1, mcE1, aoE1, coE1, rfl, E1, hb⟩ := TreePost.form hp; clear hp; have bb := below_then bb (Nat.le_refl _) hb; have x := x.later hb; have a := a.later hb; clear hb; have sb1 := True.intro)
      | (go_at_call 24; clear sb1; refine (raiseA_any A l _ _ _ _ _ _ _ _ a hl.out).mono ?_; rintro e w' hp; obtain ⟨SE2, nE2, ncE2, mE2, mcE2, aoE2, coE2, rfl, E2, hb⟩ := TreePost.form hp; clear hp; have bb := below_then bb (Nat.le_refl _) hb; have x := x.later hb; have a := a.later hb; have E1 := E1.later hb; clear hb; have sb2 := True.intro)
      | (go_at_call 18; clear sb2; refine ((same8_any _ _ _ _ _ _ _ _ _ E1 E2).mono fun _ _ => BoolPost.tell (b := true) ⟨fun _ => same_refl _ (ArrP.full _ _ _ _ E1), fun _ => rfl⟩).mono ?_; rintro e w' ⟨rfl, hb⟩; have bb := below_then bb (Nat.le_refl _) hb; have x := x.later hb; have a := a.later hb; have E1 := E1.later hb; have E2 := E2.later hb; clear hb; have sb3 := True.intro)
      | (go_at_call 19; clear sb3; refine (hE.out _ _ _ _ _ a hF.out).mono ?_; rintro e w' hp; obtain ⟨SE3, nE3, ncE3, mE3, mcE3, aoE3, coE3, rfl, E3, hb⟩ := TreePost.form hp; clear hp; have bb := below_then bb (Nat.le_refl _) hb; have x := x.later hb; have a := a.later hb; have E1 := E1.later hb; have E2 := E2.later hb; clear hb; have sb4 := True.intro)
      | (go_at_call 16; clear sb4; refine (hT.out _ _ _ _ _ E3 (few_cover _ _ hF.out)).mono ?_; rintro e w' ⟨rfl, hb⟩; have bb := below_then bb (Nat.le_refl _) hb; have x := x.later hb; have a := a.later hb; have E1 := E1.later hb; have E2 := E2.later hb; have E3 := E3.later hb; clear hb; rw [total_erased]; have sb5 := True.intro)
      | (go_at_call 21; clear sb5; refine (hC.out _ _ _ _ _ _ a hF.out hl.out).mono ?_; rintro e w' hp; obtain ⟨SE4, nE4, ncE4, mE4, mcE4, aoE4, coE4, rfl, E4, hb⟩ := TreePost.form hp; clear hp; have bb := below_then bb (Nat.le_refl _) hb; have x := x.later hb; have a := a.later hb; have E1 := E1.later hb; have E2 := E2.later hb; have E3 := E3.later hb; clear hb; have sb6 := True.intro)
      | (go_at_call 16; clear sb6; refine (hT.out _ _ _ _ _ E4 (few_cover _ _ hF.out)).mono ?_; rintro e w' ⟨rfl, hb⟩; have bb := below_then bb (Nat.le_refl _) hb; have x := x.later hb; have a := a.later hb; have E1 := E1.later hb; have E2 := E2.later hb; have E3 := E3.later hb; have E4 := E4.later hb; clear hb; have sb7 := True.intro)
      | (go_at_call 21; clear sb7; refine (hC.out _ _ _ _ _ _ a hF.out hl.out).mono ?_; rintro e w' hp; obtain ⟨SE5, nE5, ncE5, mE5, mcE5, aoE5, coE5, rfl, E5, hb⟩ := TreePost.form hp; clear hp; have bb := below_then bb (Nat.le_refl _) hb; have x := x.later hb; have a := a.later hb; have E1 := E1.later hb; have E2 := E2.later hb; have E3 := E3.later hb; have E4 := E4.later hb; clear hb; have sb8 := True.intro)
      | (go_at_call 17; clear sb8; refine (total8_any _ _ _ _ _ E5 (few_cover _ _ hF.out).1).mono ?_; rintro e w' ⟨rfl, hb⟩; have bb := below_then bb (Nat.le_refl _) hb; have x := x.later hb; have a := a.later hb; have E1 := E1.later hb; have E2 := E2.later hb; have E3 := E3.later hb; have E4 := E4.later hb; have E5 := E5.later hb; clear hb; have sb9 := True.intro)
      | (go_at_call 25; clear sb9; refine ((join01_any _ _ (total_is _ _ _ _ E5) hl.out _).mono fun _ _ => tell_same).mono ?_; rintro e w' ⟨rfl, hb⟩; have bb := below_then bb (Nat.le_refl _) hb; have x := x.later hb; have a := a.later hb; have E1 := E1.later hb; have E2 := E2.later hb; have E3 := E3.later hb; have E4 := E4.later hb; have E5 := E5.later hb; clear hb; rw [total_covered E5 hl.out]; have sb10 := True.intro)
      | (go_at_call 7; clear sb10; refine (hA.out _).mono ?_; rintro e w' ⟨rfl, hb⟩; have bb := below_then bb (Nat.le_refl _) hb; have x := x.later hb; have a := a.later hb; have E1 := E1.later hb; have E2 := E2.later hb; have E3 := E3.later hb; have E4 := E4.later hb; have E5 := E5.later hb; clear hb; have sb11 := True.intro))
    go_wp2_with fail
    go_ret
    exact ⟨rfl, bb⟩

end Go.Proofs.Ytmkjebembicljaa
