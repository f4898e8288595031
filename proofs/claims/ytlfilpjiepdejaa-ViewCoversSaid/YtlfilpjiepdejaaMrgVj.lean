/-
  scrimlaw09.ViewHides, walked.
-/
import Derived.Test.YtlfilpjiepdejaaMrgJ
import Derived.Test.YtlfilpjiepdejaaMrgMf
namespace Go.Proofs.Ytlfilpjiepdejaa
open Go.RowKit Num

set_option maxRecDepth 20000 in
set_option maxHeartbeats 16000000 in
theorem hides9_walk (hA : Awake9C) (hH : HideC) (hV : CellVC) (A : Tree) (c : CellD) (o : Nat) (c0 c1 c2 : Value) (e : Nat → Value) (w : World) (h : ArrP w A c0 c1 c2) (hc : CellR w c e) (ho : IsL o) :
    Calls Try.prog 3 #[.agg #[c0, c1, c2], .agg #[e 0, e 1, e 2, e 3, e 4, e 5, e 6], .int .u64 o] w (Tell (.bool true) w) := by
  replace hA := Lib.hid hA; replace hH := Lib.hid hH; replace hV := Lib.hid hV; replace ho := Lib.hid ho
  obtain ⟨S, n, nc, m, mc, ao, co, rfl, rfl, rfl⟩ := (ArrP.within _ _ _ _ h).form
  obtain ⟨cb, cc, ci, cbc, ccc, ckc, q0, q1, q2, q3, q4, q5, q6⟩ := hc.form
  rw [q0, q1, q2, q3, q4, q5, q6]
  have hE : CellR w c (fun t => (#[.int .u64 c.L, .int .i64 c.K, .bool c.N.neg, .slice cb c.N.an cbc, .slice cc c.N.am ccc, .int .i64 c.C, .slice ci c.k ckc] : Array Value).getD t (.bool false)) := hc.again fun t ht => by
    have : t = 0 ∨ t = 1 ∨ t = 2 ∨ t = 3 ∨ t = 4 ∨ t = 5 ∨ t = 6 := by omega
    rcases this with rfl | rfl | rfl | rfl | rfl | rfl | rfl
    · exact q0.symm
    · exact q1.symm
    · exact q2.symm
    · exact q3.symm
    · exact q4.symm
    · exact q5.symm
    · exact q6.symm
  clear hc q0 q1 q2 q3 q4 q5 q6
  replace h := Lib.hid h; replace hE := Lib.hid hE
  go_enter Try.func3, Try.ntmps3
  go_upto_region 1 with fail
  refine told_wp (fun w' => Below w.heap.size w w' ∧ Box3 w' w.heap.size (.int .u64 S) (.slice ao n nc) (.slice co m mc) ∧ Box7 w' (w.heap.size + 1) (.int .u64 c.L) (.int .i64 c.K) (.bool c.N.neg) (.slice cb c.N.an cbc) (.slice cc c.N.am ccc) (.int .i64 c.C) (.slice ci c.k ckc))
    ⟨((Below.refl _ _).alloc (Nat.le_refl _) _).alloc (by first | (simp; done) | (simp; omega)) _, (Box3.new _ _ _ _ rfl).alloc _, Box7.new _ _ _ _ _ _ _ _ (by first | (simp; done) | (simp; omega))⟩ ?_
  rintro w0 ⟨bb, x, y⟩
  have x0 := x.c0; have x1 := x.c1; have x2 := x.c2
  replace bb := Lib.hid bb; replace x := Lib.hid x; replace y := Lib.hid y
  go_wp2_with fail
  refine (few8_any A _ _ _ w0 (h.out.later bb.out)).mono ?_
  rintro e' w1 ⟨⟨r, rfl, hr⟩, hb⟩
  clear x0 x1 x2
  cases r with
  | false =>
    replace bb := Lib.hid (below_then bb.out (Nat.le_refl _) hb)
    clear hb hr x y
    go_wp2_with fail
    refine (hA.out _).mono ?_
    rintro e' wz ⟨rfl, hb⟩
    replace bb := Lib.hid (below_then bb.out (Nat.le_refl _) hb)
    clear hb
    go_wp2_with fail
    go_ret
    exact ⟨rfl, bb.out⟩
  | true =>
    have hF := Lib.hid (hr rfl)
    replace bb := Lib.hid (below_then bb.out (Nat.le_refl _) hb); replace x := Lib.hid (x.out.later hb); replace y := Lib.hid (y.out.later hb)
    clear hb hr
    have x0 := y.out.c0; have x1 := y.out.c1; have x2 := y.out.c2; have x3 := y.out.c3; have x4 := y.out.c4; have x5 := y.out.c5; have x6 := y.out.c6
    go_wp2_with fail
    refine (few8_any (scalarT c) _ _ _ _ (scalar_in _ (hE.out.later bb.out))).mono ?_
    rintro e' w2 ⟨⟨r, rfl, hr⟩, hb⟩
    replace hb := ((Below.refl _ _).alloc (Nat.le_refl _) _).trans (hb.mono (by simp))
    clear x0 x1 x2 x3 x4 x5 x6
    cases r with
    | false =>
      replace bb := Lib.hid (below_then bb.out (Nat.le_refl _) hb)
      clear hb hr x y
      go_wp2_with fail
      refine (hA.out _).mono ?_
      rintro e' wz ⟨rfl, hb⟩
      replace bb := Lib.hid (below_then bb.out (Nat.le_refl _) hb)
      clear hb
      go_wp2_with fail
      go_ret
      exact ⟨rfl, bb.out⟩
    | true =>
      have hG := Lib.hid (hr rfl)
      replace bb := Lib.hid (below_then bb.out (Nat.le_refl _) hb); replace x := Lib.hid (x.out.later hb); replace y := Lib.hid (y.out.later hb)
      clear hb hr
      have x0 := x.out.c0; have x1 := x.out.c1; have x2 := x.out.c2
      go_wp2_with fail
      refine (hH.out A o _ _ _ w2 (h.out.later bb.out) hF.out ho.out).mono ?_
      rintro e' w3 hp; obtain ⟨Sh, nh, nch, mh, mch, aoh, coh, rfl, u, hb⟩ := TreePost.form hp; clear hp
      replace bb := Lib.hid (below_then bb.out (Nat.le_refl _) hb); replace x := Lib.hid (x.out.later hb); replace y := Lib.hid (y.out.later hb); replace u := Lib.hid u
      clear hb x0 x1 x2
      go_upto_region 4 with fail
      have hn3 : ∀ o, Below w3.heap.size w3 (w3.alloc o) := fun o => (Below.refl _ _).alloc (Nat.le_refl _) o
      refine told_wp (fun w' => Below w.heap.size w w' ∧ Box3 w' w.heap.size (.int .u64 S) (.slice ao n nc) (.slice co m mc) ∧ Box7 w' (w.heap.size + 1) (.int .u64 c.L) (.int .i64 c.K) (.bool c.N.neg) (.slice cb c.N.an cbc) (.slice cc c.N.am ccc) (.int .i64 c.C) (.slice ci c.k ckc) ∧ Box3 w' w3.heap.size (.int .u64 Sh) (.slice aoh nh nch) (.slice coh mh mch) ∧ ArrP w' A (.int .u64 S) (.slice ao n nc) (.slice co m mc) ∧ CellR w' c (fun t => (#[.int .u64 c.L, .int .i64 c.K, .bool c.N.neg, .slice cb c.N.an cbc, .slice cc c.N.am ccc, .int .i64 c.C, .slice ci c.k ckc] : Array Value).getD t (.bool false)) ∧ ArrP w' (hideT A o) (.int .u64 Sh) (.slice aoh nh nch) (.slice coh mh mch)) ⟨bb.out.alloc bb.out.size _, x.out.alloc _, y.out.alloc _, Box3.new _ _ _ _ rfl, (h.out.later bb.out).later (hn3 _), (hE.out.later bb.out).later (hn3 _), u.out.later (hn3 _)⟩ ?_
      clear bb x y u hn3
      rintro w4 ⟨bb, x, y, v, a, ce, u⟩
      have sa0 := True.intro
      go_region_held3 (fun w' => w'.cell? ⟨w.heap.size, 0, none⟩ = some (.int .u64 S) ∧ w'.cell? ⟨w.heap.size, 1, none⟩ = some (.slice ao n nc) ∧ w'.cell? ⟨w.heap.size, 2, none⟩ = some (.slice co m mc) ∧ w'.cell? ⟨w.heap.size + 1, 0, none⟩ = some (.int .u64 c.L) ∧ w'.cell? ⟨w.heap.size + 1, 1, none⟩ = some (.int .i64 c.K) ∧ w'.cell? ⟨w.heap.size + 1, 2, none⟩ = some (.bool c.N.neg) ∧ w'.cell? ⟨w.heap.size + 1, 3, none⟩ = some (.slice cb c.N.an cbc) ∧ w'.cell? ⟨w.heap.size + 1, 4, none⟩ = some (.slice cc c.N.am ccc) ∧ w'.cell? ⟨w.heap.size + 1, 5, none⟩ = some (.int .i64 c.C) ∧ w'.cell? ⟨w.heap.size + 1, 6, none⟩ = some (.slice ci c.k ckc) ∧ w'.cell? ⟨w3.heap.size, 0, none⟩ = some (.int .u64 Sh) ∧ w'.cell? ⟨w3.heap.size, 1, none⟩ = some (.slice aoh nh nch) ∧ w'.cell? ⟨w3.heap.size, 2, none⟩ = some (.slice coh mh mch))
        (first | with_reducible exact ⟨x.drew.c0, x.drew.c1, x.drew.c2, y.drew.c0, y.drew.c1, y.drew.c2, y.drew.c3, y.drew.c4, y.drew.c5, y.drew.c6, v.drew.c0, v.drew.c1, v.drew.c2⟩ | with_reducible exact ⟨x.c0, x.c1, x.c2, y.c0, y.c1, y.c2, y.c3, y.c4, y.c5, y.c6, v.c0, v.c1, v.c2⟩ | go_keep)
        (first
        | (go_at_call 12; clear sa0; have bb := bb.drew; have x := x.drew; have y := y.drew; have v := v.drew; have a := a.drew; have ce := ce.drew; have u := u.drew; refine (hide8_any A o _ _ _ _ a ho.out hF.out.1).mono ?_; rintro e w' hp; obtain ⟨Sr, nr, ncr, mr, mcr, aor, cor, rfl, r, hb⟩ := TreePost.form hp; clear hp; have bb := below_then bb (Nat.le_refl _) hb; have x := x.later hb; have y := y.later hb; have v := v.later hb; have a := a.later hb; have ce := ce.later hb; have u := u.later hb; clear hb; have sa1 := True.intro)
        | (go_at_call 11; clear sa1; refine ((same8_any _ _ _ _ _ _ _ _ _ u r).mono fun _ _ h => BoolPost.tell (b := true) ⟨fun _ => same_refl _ (ArrP.full _ _ _ _ u), fun _ => rfl⟩ h).mono ?_; rintro e w' ⟨rfl, hb⟩; have bb := below_then bb (Nat.le_refl _) hb; have x := x.later hb; have y := y.later hb; have v := v.later hb; have a := a.later hb; have ce := ce.later hb; have u := u.later hb; have r := r.later hb; clear hb; have sa2 := True.intro)
        | (go_at_call 14; clear sa2; refine (hV.out c o _ _ ce hG.out ho.out).mono ?_; rintro e w' hp; obtain ⟨pb, pc, pi, pbc, pcc, pkc, rfl, p, hb⟩ := CellPost.form hp; clear hp; have bb := below_then bb (Nat.le_refl _) hb; have x := x.later hb; have y := y.later hb; have v := v.later hb; have a := a.later hb; have ce := ce.later hb; have u := u.later hb; have r := r.later hb; clear hb; have sa3 := True.intro)
        | (go_at_call 15; clear sa3; refine (hideCell9_any c o _ _ ce ho.out hG.out.1).mono ?_; rintro e w' hp; obtain ⟨qb, qc, qi, qbc, qcc, qkc, rfl, q, hb⟩ := CellPost.form hp; clear hp; have bb := below_then bb (Nat.le_refl _) hb; have x := x.later hb; have y := y.later hb; have v := v.later hb; have a := a.later hb; have ce := ce.later hb; have u := u.later hb; have r := r.later hb; have p := p.later hb; clear hb; have sa4 := True.intro)
        | (go_at_call 13; clear sa4; refine (sameCell_refl (hideC c o) _ _ _ p q).mono ?_; rintro e w' ⟨rfl, hb⟩; have bb := below_then bb (Nat.le_refl _) hb; have x := x.later hb; have y := y.later hb; have v := v.later hb; have a := a.later hb; have ce := ce.later hb; have u := u.later hb; have r := r.later hb; have p := p.later hb; have q := q.later hb; clear hb; have sa5 := True.intro)
        | (go_at_call 10; clear sa5; refine (hH.out _ o _ _ _ _ u (few_hide o hF.out) ho.out).mono ?_; rintro e w' hp; obtain ⟨Ss, ns, ncs, ms, mcs, aos, cos, rfl, s, hb⟩ := TreePost.form hp; clear hp; have bb := below_then bb (Nat.le_refl _) hb; have x := x.later hb; have y := y.later hb; have v := v.later hb; have a := a.later hb; have ce := ce.later hb; have u := u.later hb; have r := r.later hb; have p := p.later hb; have q := q.later hb; clear hb; have sa6 := True.intro)
        | (go_at_call 11; clear sa6; refine ((same8_any _ _ _ _ _ _ _ _ _ s u).mono fun _ _ h => BoolPost.tell (b := true) ⟨fun _ => hide_twice o A (ArrP.full _ _ _ _ a), fun _ => rfl⟩ h).mono ?_; rintro e w' ⟨rfl, hb⟩; have bb := below_then bb (Nat.le_refl _) hb; have x := x.later hb; have y := y.later hb; have v := v.later hb; have a := a.later hb; have ce := ce.later hb; have u := u.later hb; have r := r.later hb; have p := p.later hb; have q := q.later hb; have s := s.later hb; clear hb; have sa7 := True.intro)
        | (go_at_call 9; clear sa7; refine (hA.out _).mono ?_; rintro e w' ⟨rfl, hb⟩; have bb := below_then bb (Nat.le_refl _) hb; have x := x.later hb; have y := y.later hb; have v := v.later hb; have a := a.later hb; have ce := ce.later hb; have u := u.later hb; have r := r.later hb; have p := p.later hb; have q := q.later hb; have s := s.later hb; clear hb; have sa8 := True.intro))
      go_wp2_with fail
      go_ret
      exact ⟨rfl, bb⟩

end Go.Proofs.Ytlfilpjiepdejaa
