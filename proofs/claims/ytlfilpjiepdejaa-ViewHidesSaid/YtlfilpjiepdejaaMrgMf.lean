/-
  scrimlaw08.ArrayPacks, walked.
-/
import Derived.Test.YtlfilpjiepdejaaMrgJ
import Derived.Test.YtlfilpjiepdejaaMrgMe
namespace Go.Proofs.Ytlfilpjiepdejaa
open Go.RowKit Num

theorem CellR.form {w : World} {c : CellD} {e : Nat → Value} (h : CellR w c e) : ∃ (bo co io : Option Addr) (bc cc kc : Nat),
    e 0 = .int .u64 c.L ∧ e 1 = .int .i64 c.K ∧ e 2 = .bool c.N.neg ∧ e 3 = .slice bo c.N.an bc ∧ e 4 = .slice co c.N.am cc ∧ e 5 = .int .i64 c.C ∧ e 6 = .slice io c.k kc := by
  obtain ⟨h0, hL, h1, hK, ⟨h2, ⟨ao, ac, h3, ha⟩, ⟨bo, bc, h4, hb'⟩⟩, h5, hC, io, kc, h6, hk, hrow⟩ := h
  exact ⟨ao, bo, io, ac, bc, kc, h0, h1, h2, h3, h4, h5, h6⟩

theorem CellR.again {w : World} {c : CellD} {e f : Nat → Value} (h : CellR w c e) (he : ∀ t, t < 7 → f t = e t) : CellR w c f := by
  obtain ⟨h0, hL, h1, hK, ⟨h2, ⟨ao, ac, h3, ha⟩, ⟨bo, bc, h4, hb'⟩⟩, h5, hC, io, kc, h6, hk, hrow⟩ := h
  exact ⟨(he 0 (by decide)).trans h0, hL, (he 1 (by decide)).trans h1, hK, ⟨(he 2 (by decide)).trans h2, ⟨ao, ac, (he 3 (by decide)).trans h3, ha⟩, ⟨bo, bc, (he 4 (by decide)).trans h4, hb'⟩⟩, (he 5 (by decide)).trans h5, hC, io, kc, (he 6 (by decide)).trans h6, hk, hrow⟩

theorem sameCell_refl (c : CellD) (e f : Nat → Value) (w : World) (h : CellR w c e) (h' : CellR w c f) :
    Calls Try.prog 13 #[.agg #[e 0, e 1, e 2, e 3, e 4, e 5, e 6], .agg #[f 0, f 1, f 2, f 3, f 4, f 5, f 6]] w (Tell (.bool true) w) := by
  have hk : ∀ j, j < c.k → SameT (c.sub j) (c.sub j) := by
    intro j hj
    obtain ⟨_, _, _, _, _, _, _, io, kc, _, _, hrow⟩ := h
    rcases hrow with h0 | ⟨b, o, _, hr⟩
    · omega
    · obtain ⟨d0, d1, d2, _, _, _, hd⟩ := hr j hj
      exact same_refl _ (ArrP.full _ _ _ _ hd)
  have hs : SameC c.L c.K c.N c.C c.k c.L c.K c.N c.C c.k (fun j => SameT (c.sub j) (c.sub j)) := ⟨rfl, rfl, rfl, ⟨rfl, ⟨rfl, fun _ _ => rfl⟩, ⟨rfl, fun _ _ => rfl⟩⟩, rfl, hk⟩
  exact (sameCell8_of c.L c.K c.N c.C c.k _ e c.L c.K c.N c.C c.k _ f (fun j => SameT (c.sub j) (c.sub j)) w h h' fun j d0 d1 d2 e0 e1 e2 w' hd he hb => same8_any _ _ _ _ _ _ _ _ _ (ArrP.later hd hb) (ArrP.later he hb)).mono fun _ _ hh => BoolPost.tell (b := true) (P := SameC c.L c.K c.N c.C c.k c.L c.K c.N c.C c.k (fun j => SameT (c.sub j) (c.sub j))) ⟨fun _ => hs, fun _ => rfl⟩ hh

theorem nest_mono : ∀ A d d', NestT A d → d ≤ d' → NestT A d' := by
  intro A
  induction A with
  | leaf => intro d d' h _; exact h
  | arr S n sh m L K C N k sub ih =>
    intro d d' h hd
    cases d with
    | zero => exact h.elim
    | succ d =>
      cases d' with
      | zero => omega
      | succ d' => exact fun i hi j hj => ih i j d d' (h i hi j hj) (by omega)

theorem pack_alone {S m : Nat} {sh : Nat → Int} {L : Nat → Nat} {K C : Nat → Int} {N : Nat → NumF} {k : Nat → Nat} {sub : Nat → Nat → Tree} (hm : m = 1) : packT (.arr S 0 sh m L K C N k sub) = ⟨orL S (L 0), K 0, N 0, C 0, k 0, sub 0⟩ := by subst hm; simp [packT]

theorem pack_box {S n m : Nat} {sh : Nat → Int} {L : Nat → Nat} {K C : Nat → Int} {N : Nat → NumF} {k : Nat → Nat} {sub : Nat → Nat → Tree} (h : ¬ (n = 0 ∧ m = 1)) : packT (.arr S n sh m L K C N k sub) = ⟨S, 2, zeroN, 0, 1, fun _ => .arr S n sh m L K C N k sub⟩ := if_neg h

theorem few_scalar {S n m : Nat} {sh : Nat → Int} {L : Nat → Nat} {K C : Nat → Int} {N : Nat → NumF} {k : Nat → Nat} {sub : Nat → Nat → Tree} (h : FewT (.arr S n sh m L K C N k sub)) (h0 : n = 0) (h1 : m = 1) : FewT (scalarT (packT (.arr S n sh m L K C N k sub))) := by
  subst h0; subst h1
  rw [pack_alone rfl]
  refine ⟨h.1, fun i hi j hj => h.2 0 (by decide) j hj⟩

theorem few_packed {A : Tree} (hA : FullT A) (h : FewT A) : partsT (scalarT (packT A)) ≤ 5000 ∧ NestT (scalarT (packT A)) 14 := by
  obtain _ | ⟨S, n, sh, m, L, K, C, N, k, sub⟩ := A
  · exact hA.elim
  · by_cases hnm : n = 0 ∧ m = 1
    · have hf := few_scalar h hnm.1 hnm.2
      exact ⟨Nat.le_trans hf.1 (by decide), nest_mono _ _ _ hf.2 (by decide)⟩
    · rw [pack_box hnm]
      obtain ⟨h1, h2⟩ := h
      obtain ⟨P, hP⟩ : ∃ P, P = partsT (.arr S n sh m L K C N k sub) := ⟨_, rfl⟩
      refine ⟨?_, fun i hi j hj => nest_mono _ _ _ h2 (by decide)⟩
      show 1 + 0 + (0 + (1 + 0 + 0 + (0 + partsT (.arr S n sh m L K C N k sub)))) ≤ 5000
      rw [← hP] at h1 ⊢
      omega

theorem few_again {S n m : Nat} {sh : Nat → Int} {L : Nat → Nat} {K C : Nat → Int} {N : Nat → NumF} {k : Nat → Nat} {sub : Nat → Nat → Tree} (h : FewT (.arr S n sh m L K C N k sub)) (hb : n = 0 → m = 1 → K 0 ≠ 2) : FewT (unpackT (packT (.arr S n sh m L K C N k sub))) := by
  by_cases hnm : n = 0 ∧ m = 1
  · have hf := few_scalar h hnm.1 hnm.2
    obtain ⟨rfl, rfl⟩ := hnm
    rw [pack_alone rfl] at hf ⊢
    have e2 : unpackT ⟨orL S (L 0), K 0, N 0, C 0, k 0, sub 0⟩ = .arr (orL S (L 0)) 0 (fun _ => 0) 1 (fun _ => orL S (L 0)) (fun _ => K 0) (fun _ => C 0) (fun _ => N 0) (fun _ => k 0) (fun _ => sub 0) := if_neg fun e => hb rfl rfl e.1
    rw [e2]
    exact ⟨hf.1, hf.2⟩
  · rw [pack_box hnm]
    have e2 : unpackT ⟨S, 2, zeroN, 0, 1, fun _ => .arr S n sh m L K C N k sub⟩ = raiseT (.arr S n sh m L K C N k sub) S := if_pos ⟨rfl, rfl⟩
    rw [e2]
    exact few_raise S h

/-- The label of what is unpacked of what was packed. -/
theorem unpack_label {w : World} {A : Tree} {S S' : Nat} {c1 c2 d1 d2 : Value} (h : ArrP w A (.int .u64 S) c1 c2) (k : ArrP w (unpackT (packT A)) (.int .u64 S') d1 d2)
    (hf : ∀ S n sh m L K C N k sub S' n' sh' m' L' K' C' N' k' sub', A = .arr S n sh m L K C N k sub → unpackT (packT A) = .arr S' n' sh' m' L' K' C' N' k' sub' → FlowsL S S') : FlowsL S S' ∧ IsL S ∧ IsL S' := by
  generalize hU : unpackT (packT A) = U at k hf
  obtain _ | ⟨S1, n, sh, m, L, K, C, N, k1, sub⟩ := A
  · exact (ArrP.leaf h).elim
  obtain _ | ⟨S2, n2, sh2, m2, L2, K2, C2, N2, k2, sub2⟩ := U
  · exact (ArrP.leaf k).elim
  obtain ⟨e1, hS1, _⟩ := h
  obtain ⟨e2, hS2, _⟩ := k
  obtain rfl : S = S1 := by injection e1 with _ e; omega
  obtain rfl : S' = S2 := by injection e2 with _ e; omega
  exact ⟨hf _ _ _ _ _ _ _ _ _ _ _ _ _ _ _ _ _ _ _ _ rfl rfl, hS1, hS2⟩

theorem right_alone {S n m : Nat} {sh : Nat → Int} {L : Nat → Nat} {K C : Nat → Int} {N : Nat → NumF} {k : Nat → Nat} {sub : Nat → Nat → Tree} {d : Nat} (h : RightT (.arr S n sh m L K C N k sub) d) (h0 : n = 0) : m = 1 := by
  subst h0
  have e := h.1.all
  have e2 : prodZ sh 0 = 1 := rfl
  rw [e2] at e
  omega

theorem scalar_in {w : World} {c : CellD} {e : Nat → Value} (t : TypeId) (h : CellR w c e) : ArrP (w.alloc (.cells #[e 0, e 1, e 2, e 3, e 4, e 5, e 6] t)) (scalarT c) (.int .u64 0) (.slice none 0 0) (.slice (some ⟨w.heap.size, 0, none⟩) 1 1) := by
  have hb : Below w.heap.size w (w.alloc (.cells #[e 0, e 1, e 2, e 3, e 4, e 5, e 6] t)) := (Below.refl _ _).alloc (Nat.le_refl _) _
  refine ⟨rfl, by show (0 : Nat) < 18446744073709551616; decide, ⟨none, 0, rfl, ⟨Nat.le_refl _, by decide, by decide⟩, .inl rfl, fun j hj => absurd hj (Nat.not_lt_zero _)⟩, _, 1, rfl, ⟨Nat.le_refl _, by decide, by decide⟩, .inr ⟨w.heap.size, 0, rfl, fun i hi => ?_⟩⟩
  obtain rfl : i = 0 := by omega
  refine ⟨e, fun t ht => ?_, h.later hb⟩
  rw [World.cell?_alloc_new]
  have : t = 0 ∨ t = 1 ∨ t = 2 ∨ t = 3 ∨ t = 4 ∨ t = 5 ∨ t = 6 := by omega
  rcases this with rfl | rfl | rfl | rfl | rfl | rfl | rfl <;> rfl

theorem flows_yes {a b : Nat} {w : World} (ha : IsL a) (hb : IsL b) (h : FlowsL a b) : Calls Try.prog 21 #[.int .u64 a, .int .u64 b] w (Tell (.bool true) w) := by
  refine (flows01_any a b ha hb w).mono ?_
  rintro e w' ⟨⟨rfl, _⟩ | ⟨rfl, k⟩, rfl⟩
  · exact ⟨rfl, Below.refl _ _⟩
  · exact absurd h k

end Go.Proofs.Ytlfilpjiepdejaa
