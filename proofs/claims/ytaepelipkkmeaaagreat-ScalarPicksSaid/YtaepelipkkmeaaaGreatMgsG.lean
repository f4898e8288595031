/-
  array.cellBy: a cell told anew.
  array.arrayBy: an array told anew; arrayBy, cellsBy, cellBy of any array and any cells.
  array.Erase, Cover, Raise, Vector, Int, Chr.
  label.Flows, array.Num; what view.Hide and view.Cell are to tell.
  ratio.Small; scalar.IsOne, IsTwo, truth.
  array.Num of a right number; scalar.Number but for not and the product.
-/
import Derived.Test.YtaepelipkkmeaaaGreatMgsA
import Derived.Test.YtaepelipkkmeaaaGreatMgsB
import Derived.Test.YtaepelipkkmeaaaGreatMgsC
import Derived.Test.YtaepelipkkmeaaaGreatMgsD
import Derived.Test.YtaepelipkkmeaaaGreatMgsE
import Derived.Test.YtaepelipkkmeaaaGreatMgsF
import Derived.Laws.CopyOwn
import Derived.WalkKit
import Derived.WalkSpells
import Derived.WalkLawsBesides
import Derived.Lib.Hide
import Derived.Laws.AppendOwn
import Derived.Laws.OwnMore
import Derived.BigQuiet
import Derived.Deep.CutRange
import Derived.Deep.RegionHeld3
import Derived.Deep.RegionWith
import Derived.Lib.Small
import Derived.Lib.Walk
import Derived.Lib.BitFns
import Derived.Deep.QuietTactic
import Derived.Deep.LoopGhost
import Derived.OpenShut
import Derived.SizedLaws
import Derived.Lib.SliceRun
import Derived.Deep.AppendLies
import Derived.Deep.DrawnRows
import Derived.Deep.RegionLaw
namespace Go.Proofs.YtaepelipkkmeaaaGreat

open Go.RowKit Num

def three (v : Nat → Value) : List Value := [v 0, v 1, v 2]

/-- Arrays that came, each by its values. -/
theorem rows_vals {w : World} {ao : Option Addr} {k : Nat} {sub : Nat → Tree} (h : RowP w ao k fun j d0 d1 d2 => ArrP w (sub j) d0 d1 d2) : ∃ E : Nat → Nat → Value, (∀ j, j < k → ArrP w (sub j) (E j 0) (E j 1) (E j 2)) ∧ LiesL w ao (rowsN (fun j => three (E j)) k) := by
  rcases h with rfl | ⟨b, o, rfl, h⟩
  · exact ⟨fun _ _ => undef, fun j hj => by omega, .inl rfl⟩
  · have h' : ∀ j, j < k → ∃ v : Nat → Value, (∀ t, t < 3 → w.cell? ⟨b, o + j * 3 + t, none⟩ = some (v t)) ∧ ArrP w (sub j) (v 0) (v 1) (v 2) := fun j hj => by
      obtain ⟨d0, d1, d2, r0, r1, r2, r3⟩ := h j hj
      refine ⟨fun t => [d0, d1, d2].getD t undef, fun t ht => ?_, r3⟩
      have : t = 0 ∨ t = 1 ∨ t = 2 := by omega
      rcases this with rfl | rfl | rfl
      · exact r0
      · exact r1
      · exact r2
    refine ⟨fun i => if hi : i < k then (h' i hi).choose else fun _ => undef, fun i hi => ?_, .inr ⟨b, o, rfl, fun j u hu => ?_⟩⟩
    · simp only [dif_pos hi]; exact (h' i hi).choose_spec.2
    · have hl : ∀ i, i < k → ((fun i => three ((fun i => if hi : i < k then (h' i hi).choose else fun _ => undef) i)) i).length = 3 := fun i hi => rfl
      have hj : j < k * 3 := by
        have := (List.getElem?_eq_some_iff.1 hu).1
        rwa [rowsN_length k hl] at this
      rw [rowsN_at hl (by decide) j hj] at hu
      have hd : j / 3 < k := by omega
      have hc := (h' (j / 3) hd).choose_spec.1
      have e : o + j = o + j / 3 * 3 + j % 3 := by omega
      rw [e, hc (j % 3) (by omega), ← hu]
      simp only [dif_pos hd]
      have hr : j % 3 = 0 ∨ j % 3 = 1 ∨ j % 3 = 2 := by omega
      rcases hr with r | r | r <;> rw [r] <;> rfl

theorem arr_ones {w : World} {A : Tree} {e : Nat → Value} (h : ArrP w A (e 0) (e 1) (e 2)) : ∀ u ∈ three e, u.oneCell' = true := by
  obtain ⟨S, n, nc, m, mc, ao, co, h0, h1, h2⟩ := (ArrP.within _ _ _ _ h).form
  intro u hu
  unfold three at hu
  rw [h0, h1, h2] at hu
  simp at hu
  rcases hu with rfl | rfl | rfl <;> rfl

def arrsF (T : Nat → Tree) : CellF := fun x w Q e => ArrQ w Q (T x) (e 0) (e 1) (e 2)

theorem arrsF_keep (T : Nat → Tree) : KeepF (arrsF T) := fun _ _ _ _ _ _ h hk hq => ArrQ.keep hk hq _ _ _ _ h

/-- Arrays in a cell, in new blocks. -/
structure InRow (w : World) (B : Nat) (ao : Option Addr) (k : Nat) (T : Nat → Tree) : Prop where
  q : RowQ w (B ≤ ·) ao k fun j d0 d1 d2 => ArrQ w (B ≤ ·) (T j) d0 d1 d2

theorem InRow.later {w w' : World} {B : Nat} {ao : Option Addr} {k : Nat} {T : Nat → Tree} (h : InRow w B ao k T) (hb : Below w.heap.size w w') : InRow w' B ao k T :=
  ⟨h.q.keep (fun b _ hlt => hb.block b hlt) (fun _ hq _ => hq) fun _ _ _ _ hd => ArrQ.keep (fun b _ hlt => hb.block b hlt) (fun _ hq _ => hq) _ _ _ _ hd⟩

theorem Mapped.inRow {w wr : World} {E : TypeId} {g k cap B : Nat} {ao : Option Addr} {es es0 : Nat → List Value} {T : Nat → Tree} (h : Mapped (arrsF T) w wr E 3 g ao k cap k es es0) (hB : B ≤ w.heap.size) : InRow wr B ao k T := by
  obtain ⟨ao', cap', e, _, _, hf⟩ := own_form h.row
  injection e with e1 e2 e3
  subst e1; subst e3
  refine ⟨?_⟩
  rcases hf with h0 | ⟨g', rfl, _, hg, _⟩
  · exact .inl h0
  · refine .inr ⟨g', 0, rfl, by omega, fun i hi => ?_⟩
    have hc : ∀ q, q < 3 → wr.cell? ⟨g', 0 + i * 3 + q, none⟩ = some ((es i).getD q undef) := fun q hq => by
      have hlt : i * 3 + q < k * 3 := by omega
      rw [Nat.zero_add, h.row.cellAt (i * 3 + q) hlt, rowsN_get k h.len i q hi hq]
      have := h.len i hi
      rw [List.getD_eq_getElem?_getD, List.getElem?_eq_getElem (by omega)]
      rfl
    exact ⟨_, _, _, hc 0 (by decide), hc 1 (by decide), hc 2 (by decide), ArrQ.keep (fun _ _ _ => rfl) (fun b hq _ => by have := hq.1; omega) _ _ _ _ (h.done i hi)⟩

theorem cell_res {md : Md} {c : CellD} {w : World} {Q : Nat → Prop} {po qo ro : Option Addr} {pc qc rc : Nat} (hL : IsL (md.g c.L)) (hK : IsZ c.K) (hC : IsZ c.C) (hN : NumQ w Q c.N (.bool c.N.neg) (.slice po c.N.an pc) (.slice qo c.N.am qc)) (hr : IsN c.k rc)
    (hI : RowQ w Q ro c.k fun j d0 d1 d2 => ArrQ w Q (mapT md.g (c.sub j)) d0 d1 d2) : CellRQ w Q (mapC md.g c) (fun q => [Value.int .u64 (md.g c.L : Nat), .int .i64 c.K, .bool c.N.neg, .slice po c.N.an pc, .slice qo c.N.am qc, .int .i64 c.C, .slice ro c.k rc].getD q undef) :=
  ⟨rfl, hL, rfl, hK, hN, rfl, hC, ro, rc, rfl, hr, hI⟩

theorem partsC_sub {c : CellD} {j : Nat} (hj : j < c.k) : partsT (c.sub j) ≤ partsC c := by
  have a : partsT (c.sub j) ≤ sumN (fun j => partsT (c.sub j)) c.k := sumN_one (fun j => partsT (c.sub j)) hj
  unfold partsC
  omega

theorem partsC_here (c : CellD) : c.N.an + c.N.am + c.k ≤ partsC c := by
  have a := sumN_le (f := fun _ => 1) (g := fun j => partsT (c.sub j)) c.k fun j _ => parts_pos _
  rw [sumN_const] at a
  unfold partsC
  omega

set_option maxRecDepth 20000 in
set_option maxHeartbeats 8000000 in
theorem cellBy_of (md : Md) (c : CellD) (hsub : ∀ j, j < c.k → ArrBy md (c.sub j)) : CellBy md c := by
  intro e w hR hE hp
  have hRw := Lib.hid hR
  obtain ⟨q0, qL, q1, qK, hNum, q5, qC, io, kc, q6, hk, hrow⟩ := hR
  have hNw := hNum
  obtain ⟨q2, ⟨a1, ac, q3, ha, _, _⟩, ⟨b1, bc, q4, hb', _, _⟩⟩ := hNum
  rw [q2, q3, q4] at hNw
  rw [q0, q1, q2, q3, q4, q5, q6]
  have k1 := hk.1; have k2 := hk.2.1
  have hph := partsC_here c
  have hna : c.N.an ≤ 6000 := by omega
  have hnb : c.N.am ≤ 6000 := by omega
  have hk5 : c.k ≤ 6000 := by omega
  obtain ⟨E, hE1, hE2⟩ := rows_vals hrow
  have hl : ∀ i, i < c.k → ((fun i => three (E i)) i).length = 3 := fun _ _ => rfl
  have hE1' := Lib.hid hE1; have hE2' := Lib.hid hE2; have hsub' := Lib.hid hsub; have hEnv := Lib.hid hE; have hNw' := Lib.hid hNw
  have hsp := Lib.hid (fun j (hj : j < c.k) => Nat.le_trans (partsC_sub hj) hp)
  have hL0 := Lib.hid qL
  have hgl := Lib.hid (show IsL (md.g c.L) ∧ IsZ c.K ∧ IsZ c.C from ⟨Md.g_is hE qL, qK, qC⟩)
  obtain ⟨F, hF⟩ : ∃ F, F = md.fn := ⟨_, rfl⟩
  have hF' := Lib.hid hF
  rw [← hF]
  have hbel := (((Below.refl w.heap.size w).alloc (Nat.le_refl _) (.cells #[.int .u64 c.L, .int .i64 c.K, .bool c.N.neg, .slice a1 c.N.an ac, .slice b1 c.N.am bc, .int .i64 c.C, .slice io c.k kc] 65)).alloc (by simp) (.cells #[.int .u64 0, .int .i64 0, .bool false, .slice none 0 0, .slice none 0 0, .int .i64 0, .slice none 0 0] 65))
  have hx := (Box7.new (w := w) (B := w.heap.size) (.int .u64 c.L) (.int .i64 c.K) (.bool c.N.neg) (.slice a1 c.N.an ac) (.slice b1 c.N.am bc) (.int .i64 c.C) (.slice io c.k kc) 65 rfl).alloc (.cells #[.int .u64 0, .int .i64 0, .bool false, .slice none 0 0, .slice none 0 0, .int .i64 0, .slice none 0 0] 65)
  have hy := Box7.new (w := w.alloc (.cells #[.int .u64 c.L, .int .i64 c.K, .bool c.N.neg, .slice a1 c.N.an ac, .slice b1 c.N.am bc, .int .i64 c.C, .slice io c.k kc] 65)) (B := w.heap.size + 1) (.int .u64 0) (.int .i64 0) (.bool false) (.slice none 0 0) (.slice none 0 0) (.int .i64 0) (.slice none 0 0) 65 (by simp)
  clear q0 qL q1 qK q2 q3 q4 q5 qC q6 ha hb' hk hrow hsub hE hE1 hE2 hF hNw hRw hp hph
  go_enter Tryz.func102, Tryz.ntmps102
  go_upto_region 1 with fail
  refine told_wp (fun w' => Below w.heap.size w w' ∧ Box7 w' w.heap.size (.int .u64 c.L) (.int .i64 c.K) (.bool c.N.neg) (.slice a1 c.N.an ac) (.slice b1 c.N.am bc) (.int .i64 c.C) (.slice io c.k kc) ∧ Box7 w' (w.heap.size + 1) (.int .u64 0) (.int .i64 0) (.bool false) (.slice none 0 0) (.slice none 0 0) (.int .i64 0) (.slice none 0 0)) ⟨hbel, hx, hy⟩ ?_
  clear hbel hx hy
  rintro w2 ⟨b2, x2, y2⟩
  have hb2 := Lib.hid b2; have hx2 := Lib.hid x2; have hy2 := Lib.hid y2
  have hlt2 : w.heap.size + 1 < w2.heap.size := y2.lt
  have g6 := x2.c6
  have hsrc := Lib.hid (hE2'.out.below b2)
  clear b2 x2 y2
  go_wp2_with fail
  refine (cloneA_any io c.k kc (rowsN (fun i => three (E i)) c.k) _ hk5 (rowsN_length c.k hl) hsrc.out (rows_ones fun i hi => arr_ones (hE1'.out i hi))).mono ?_
  rintro e w1 ⟨ro, rc, rfl, hrow, hb1⟩
  obtain ⟨ao', cap', e', hcap1, hcap2, hform⟩ := own_form hrow.own
  injection e' with e1 e2 e3
  subst e1; subst e3
  obtain ⟨g, hg⟩ : ∃ g, c.k = 0 ∨ (ro = some ⟨g, 0, none⟩ ∧ w2.heap.size ≤ g ∧ g < w1.heap.size) := by
    rcases hform with h | ⟨g, h1, _, h2, h3⟩
    · exact ⟨0, .inl h⟩
    · exact ⟨g, .inr ⟨h1, h2, h3⟩⟩
  have hP := arrsF_keep (fun j => mapT md.g (c.sub j))
  have hM0 := Lib.hid (Mapped.start (P := arrsF (fun j => mapT md.g (c.sub j))) (g := g) hrow hl hb1)
  have hg' := Lib.hid hg
  have hsz1 := Lib.hid (Nat.le_refl w1.heap.size)
  have hrn := Lib.hid (show IsN c.k rc from ⟨hcap1, hcap2, by omega⟩)
  obtain ⟨kk, hkk⟩ : ∃ kk, kk = c.k := ⟨_, rfl⟩
  have hkk' := Lib.hid hkk
  rw [← hkk] at hM0 g6 hcap1 hg' k1 ⊢
  clear hform hrow hb1 hg g6 hkk hsrc
  go_wp2_with fail
  go_loopw [13] (fun i wr => ∃ (t : Nat) (es : Nat → List Value), t ≤ kk ∧ i = .int .i64 t ∧ Hid (Mapped (arrsF (fun j => mapT md.g (c.sub j))) w2 wr 45 3 g ro kk rc t es (fun i => three (E i))) ∧ Hid (w1.heap.size ≤ wr.heap.size)) (fun i _ => kk - (intOfZ i).toNat)
  case atStart => exact ⟨0, _, Nat.zero_le _, rfl, hM0, hsz1⟩
  case round =>
    obtain ⟨t, es, ht, rfl, hM, hsz⟩ := hrel
    clear hM0 hsz1
    by_cases hlt : t < kk
    · have hltc := Lib.hid (show t < c.k by rw [← hkk'.out]; exact hlt)
      rcases hg'.out with h0 | ⟨rfl, hg1, hg2⟩
      · omega
      have hA := hE1'.out t hltc.out
      obtain ⟨S', n', nc', m', mc', ao', co', q0, q1, q2⟩ := (ArrP.within _ _ _ _ hA).form
      rw [q0, q1, q2] at hA
      have hAb := Lib.hid (ArrP.below _ _ _ _ (ArrP.below _ _ _ _ hA hb2.out) (hM.out.bel))
      have y0 := hM.out.cell (q := 0) hlt (by decide) (v := E t 0) rfl
      have y1 := hM.out.cell (q := 1) hlt (by decide) (v := E t 1) rfl
      have y2 := hM.out.cell (q := 2) hlt (by decide) (v := E t 2) rfl
      have hq := Lib.hid (And.intro q0 (And.intro q1 q2))
      rw [q0, Nat.add_zero] at y0; rw [q1] at y1; rw [q2] at y2
      have hbz := (Below.refl wr.heap.size wr).alloc (Nat.le_refl _) (.cells #[.int .u64 S', .slice ao' n' nc', .slice co' m' mc'] 45)
      have hM2 := hM.out.later hP hbz
      have hA2 := ArrP.below _ _ _ _ hAb.out hbz
      have hx3 := Box3.new (w := wr) (B := wr.heap.size) (.int .u64 S') (.slice ao' n' nc') (.slice co' m' mc') 45 rfl
      have hsz2 : w1.heap.size ≤ (wr.alloc (.cells #[.int .u64 S', .slice ao' n' nc', .slice co' m' mc'] 45)).heap.size := Nat.le_trans hsz.out hbz.size
      obtain ⟨U, hU⟩ : ∃ U, U = wr.heap.size := ⟨_, rfl⟩
      clear q0 q1 q2 hA
      go_upto_region 5 with fail
      rw [← hU] at hx3 ⊢
      refine told_wp (fun w' => Mapped (arrsF (fun j => mapT md.g (c.sub j))) w2 w' 45 3 g (some ⟨g, 0, none⟩) kk rc t es (fun i => three (E i)) ∧ ArrP w' (c.sub t) (.int .u64 S') (.slice ao' n' nc') (.slice co' m' mc') ∧ Box3 w' U (.int .u64 S') (.slice ao' n' nc') (.slice co' m' mc') ∧ w1.heap.size ≤ w'.heap.size) ⟨hM2, hA2, hx3, hsz2⟩ ?_
      clear hM hAb hM2 hA2 hx3 hsz2 hbz y0 y1 y2 hU hsz
      rintro wa ⟨hMa, hAa, hxa, hsa⟩
      have g0 := hxa.c0; have g1 := hxa.c1; have g2 := hxa.c2
      have hM := Lib.hid hMa
      have hcall := hsub'.out t hltc.out _ _ _ wa hAa ((hEnv.out.later hb2.out).later hMa.bel) (hsp.out t hltc.out)
      have hga := Lib.hid (show g < wa.heap.size by omega)
      rw [← hF'.out] at hcall
      replace hcall := Lib.hid hcall
      clear hMa hAa hxa
      go_wp2_with fail
      refine hcall.out.mono ?_
      intro e w4 hnew
      obtain ⟨S5, n5, nc5, m5, mc5, ao5, co5, rfl, hres, hb4⟩ := hnew.form
      have hMb := hM.out.later hP hb4
      obtain ⟨q0, q1, q2⟩ := hq.out
      have y0 := hMb.cell (q := 0) hlt (by decide) (v := E t 0) rfl
      have y1 := hMb.cell (q := 1) hlt (by decide) (v := E t 1) rfl
      have y2 := hMb.cell (q := 2) hlt (by decide) (v := E t 2) rfl
      rw [q0, Nat.add_zero] at y0; rw [q1] at y1; rw [q2] at y2
      clear q0 q1 q2
      have f0 := hMb.row.frozenAt (t * 3); have f1 := hMb.row.frozenAt (t * 3 + 1); have f2 := hMb.row.frozenAt (t * 3 + 2)
      have hfar := fun b (hb : b ≠ g) => far3 (w := w4) (o := t * 3) hb (.int .u64 (S5 : Nat)) (.slice ao5 n5 nc5) (.slice co5 m5 mc5)
      have hput := own_put3 hMb.row hMb.len (t := t) (.int .u64 (S5 : Nat)) (.slice ao5 n5 nc5) (.slice co5 m5 mc5)
      have hbel2 := below_far3 (o := t * 3) hMb.bel hg1 (.int .u64 (S5 : Nat)) (.slice ao5 n5 nc5) (.slice co5 m5 mc5)
      have hM3 := Lib.hid (hMb.put hP _ rfl hfar hput hbel2 (ArrQ.keep (Q' := fun b => w2.heap.size ≤ b ∧ b ≠ g) (fun _ _ _ => rfl) (fun b hq _ => ⟨by have := hM.out.bel.size; omega, by have := hga.out; omega⟩) _ _ _ _ hres))
      have hs3 := Lib.hid (show w1.heap.size ≤ _ from Nat.le_trans hsa (Nat.le_trans hb4.size (by simp [World.setCell] : w4.heap.size ≤ (((w4.setCell ⟨g, t * 3, none⟩ (.int .u64 (S5 : Nat))).setCell ⟨g, t * 3 + 1, none⟩ (.slice ao5 n5 nc5)).setCell ⟨g, t * 3 + 2, none⟩ (.slice co5 m5 mc5)).heap.size)))
      clear hfar hput hbel2 hres hb4 hMb hM hcall hnew g0 g1 g2
      go_wp2_with fail
      go_roundw
      case rel => exact ⟨t + 1, _, by omega, by go_num, hM3, hs3⟩
      case measure => simp [intOfZ]; omega
    · obtain rfl : t = kk := by omega
      have hmb := hM.out.bel
      have hI0 := hM.out.inRow (B := w.heap.size + 2) (by omega)
      have hx3 := hx2.out.later hmb
      have hy3 := hy2.out.later hmb
      have hb3 := hb2.out.trans (hmb.mono (by omega))
      have hN3 := (hNw'.out.below hb2.out).below hmb
      have hE3 := (hEnv.out.later hb2.out).later hmb
      rw [hkk'.out] at hI0
      obtain rfl := hkk'.out
      go_upto_region 7 with fail
      refine told_wp (fun w' => Below w.heap.size w w' ∧ Box7 w' w.heap.size (.int .u64 c.L) (.int .i64 c.K) (.bool c.N.neg) (.slice a1 c.N.an ac) (.slice b1 c.N.am bc) (.int .i64 c.C) (.slice io c.k kc) ∧ Box7 w' (w.heap.size + 1) (.int .u64 0) (.int .i64 0) (.bool false) (.slice none 0 0) (.slice none 0 0) (.int .i64 0) (.slice none 0 0) ∧ NumP w' c.N (.bool c.N.neg) (.slice a1 c.N.an ac) (.slice b1 c.N.am bc) ∧ InRow w' (w.heap.size + 2) ro c.k (fun j => mapT md.g (c.sub j)) ∧ md.Env w') ⟨hb3, hx3, hy3, hN3, hI0, hE3⟩ ?_
      clear hM hmb hI0 hx3 hy3 hb3 hN3 hE3 hsz
      rintro w3 ⟨bb, x, y, hN, hI, hEv⟩
      cases md with
      | same =>
        obtain rfl : F = .func (.func 101) #[] #[] := hF'.out
        have ssamex0 := True.intro
        go_region_held3 (fun w' => w'.cell? ⟨w.heap.size, 0, none⟩ = some (.int .u64 c.L) ∧ w'.cell? ⟨w.heap.size, 1, none⟩ = some (.int .i64 c.K) ∧ w'.cell? ⟨w.heap.size, 2, none⟩ = some (.bool c.N.neg) ∧ w'.cell? ⟨w.heap.size, 3, none⟩ = some (.slice a1 c.N.an ac) ∧ w'.cell? ⟨w.heap.size, 4, none⟩ = some (.slice b1 c.N.am bc) ∧ w'.cell? ⟨w.heap.size, 5, none⟩ = some (.int .i64 c.C))
          (first | with_reducible exact ⟨x.drew.c0, x.drew.c1, x.drew.c2, x.drew.c3, x.drew.c4, x.drew.c5⟩ | with_reducible exact ⟨x.c0, x.c1, x.c2, x.c3, x.c4, x.c5⟩ | go_keep)
          (first
          | (go_at_call 101; clear ssamex0; have hd := (Below.refl w3.heap.size w3).drew; have bb := bb.drew; have x := x.drew; have y := y.drew; have hN := hN.below hd; have hI := hI.later hd; have hEv := hEv.later hd; clear hd; refine (asItIs_any c.L _).mono ?_; rintro e w' ⟨rfl, hb⟩; have bb := below_then bb (Nat.le_refl _) hb; have x := x.later hb; have y := y.later hb; have hN := hN.below hb; have hI := hI.later hb; clear hb hEv; have ssamex1 := True.intro)
          | (go_at_call 104; clear ssamex1; have hlt1 := y.lt; refine (numAnew_any c.N _ _ _ _ hN hna hnb).mono ?_; rintro e w' ⟨po, pc, qo, qc, rfl, hQ, hb⟩; have bb := below_then bb (Nat.le_refl _) hb; have x := x.later hb; have y := y.later hb; have hI := hI.later hb; clear hb hN; have d0 := y.c0; have d1 := y.c1; have d2 := y.c2; have d3 := y.c3; have d4 := y.c4; have d5 := y.c5; have d6 := y.c6; have f0 := y.fr 0; have f1 := y.fr 1; have f2 := y.fr 2; have f3 := y.fr 3; have f4 := y.fr 4; have f5 := y.fr 5; have f6 := y.fr 6; have ssamex2 := True.intro))
        have z := y.setAll (.int .u64 (Md.same.g c.L : Nat)) (.int .i64 c.K) (.bool c.N.neg) (.slice po c.N.an pc) (.slice qo c.N.am qc) (.int .i64 c.C) (.slice ro c.k rc)
        have e0 := z.c0; have e1 := z.c1; have e2 := z.c2; have e3 := z.c3; have e4 := z.c4; have e5 := z.c5; have e6 := z.c6
        have hbw := Lib.hid (below_setAll bb (B := w.heap.size + 1) (by omega) (.int .u64 (Md.same.g c.L : Nat)) (.int .i64 c.K) (.bool c.N.neg) (.slice po c.N.an pc) (.slice qo c.N.am qc) (.int .i64 c.C) (.slice ro c.k rc))
        have hne := fun b (hb : w.heap.size + 2 ≤ b) => heap_set7 (w := w') (B := w.heap.size + 1) (b := b) (by omega) (.int .u64 (Md.same.g c.L : Nat)) (.int .i64 c.K) (.bool c.N.neg) (.slice po c.N.an pc) (.slice qo c.N.am qc) (.int .i64 c.C) (.slice ro c.k rc)
        have hres := Lib.hid (cell_res (md := .same) hgl.out.1 hgl.out.2.1 hgl.out.2.2 (hQ.keep (Q' := (w.heap.size ≤ ·)) (fun b hb _ => hne b (by omega)) (fun b hb _ => by omega)) hrn.out (hI.q.keep (Q' := (w.heap.size ≤ ·)) (fun b hb _ => hne b hb) (fun b hb _ => by omega) (fun j d0 d1 d2 hd => ArrQ.keep (fun b hb _ => hne b hb) (fun b hb _ => by omega) _ _ _ _ hd)))
        clear z x y bb hI hQ hne
        go_wp2_with fail
        refine bodyPost_ret (v := .agg #[.int .u64 (Md.same.g c.L : Nat), .int .i64 c.K, .bool c.N.neg, .slice po c.N.an pc, .slice qo c.N.am qc, .int .i64 c.C, .slice ro c.k rc]) (by simp [results, Tryz.results102, go_sem, e0, e1, e2, e3, e4, e5, e6]) rfl ?_
        exact ⟨fun q => [Value.int .u64 (Md.same.g c.L : Nat), .int .i64 c.K, .bool c.N.neg, .slice po c.N.an pc, .slice qo c.N.am qc, .int .i64 c.C, .slice ro c.k rc].getD q undef, rfl, hres.out, hbw.out⟩

end Go.Proofs.YtaepelipkkmeaaaGreat
namespace Go.Proofs.YtaepelipkkmeaaaGreat

open Go.RowKit Num

theorem CellsQ.keep {w w' : World} {Q Q' : Nat → Prop} {co : Option Addr} {m : Nat} {cs : Nat → CellD} (h : CellsQ w Q co m cs) (hk : ∀ b, Q b → b < w.heap.size → w'.heap[b]? = w.heap[b]?) (hq : ∀ b, Q b → b < w.heap.size → Q' b) : CellsQ w' Q' co m cs := by
  by_cases h0 : m = 0
  · exact .inl h0
  rcases h with h | ⟨b, o, rfl, h1, h2⟩
  · exact .inl h
  · have hb : b < w.heap.size := by
      obtain ⟨e, h3, _⟩ := h2 0 (by omega)
      exact World.block_lt_of_cell? w _ (h3 0 (by decide))
    refine .inr ⟨b, o, rfl, hq b h1 hb, fun i hi => ?_⟩
    obtain ⟨e, h3, h4⟩ := h2 i hi
    exact ⟨e, fun t ht => cell_kept (h3 t ht) (hk b h1 hb), h4.keep hk hq⟩

theorem arr_res {md : Md} {S n m : Nat} {sh : Nat → Int} {L : Nat → Nat} {K C : Nat → Int} {N : Nat → NumF} {k : Nat → Nat} {sub : Nat → Nat → Tree} {w : World} {Q : Nat → Prop} {po qo : Option Addr} {pc qc : Nat} (hS : IsL (md.g S)) (hz : ∀ j, j < n → IsZ (sh j)) (hn : IsN n pc) (hs : SlZQ w Q po n sh) (hm : IsN m qc)
    (hc : CellsQ w Q qo m (fun i => mapC md.g ((fun i => ⟨L i, K i, N i, C i, k i, sub i⟩) i))) : ArrQ w Q (mapT md.g (.arr S n sh m L K C N k sub)) (.int .u64 (md.g S : Nat)) (.slice po n pc) (.slice qo m qc) :=
  ⟨rfl, hS, ⟨po, pc, rfl, hn, hs, hz⟩, qo, qc, rfl, hm, hc⟩

theorem partsC_in {S n m : Nat} {sh : Nat → Int} {L : Nat → Nat} {K C : Nat → Int} {N : Nat → NumF} {k : Nat → Nat} {sub : Nat → Nat → Tree} {i : Nat} (hi : i < m) : partsC ((fun i => ⟨L i, K i, N i, C i, k i, sub i⟩) i) ≤ partsT (.arr S n sh m L K C N k sub) := by
  have b := sumN_one (fun i => 1 + (N i).an + (N i).am + sumN (fun j => partsT (sub i j)) (k i)) hi
  show 1 + (N i).an + (N i).am + sumN (fun j => partsT (sub i j)) (k i) ≤ 1 + n + sumN (fun i => 1 + (N i).an + (N i).am + sumN (fun j => partsT (sub i j)) (k i)) m
  have b' : 1 + (N i).an + (N i).am + sumN (fun j => partsT (sub i j)) (k i) ≤ sumN (fun i => 1 + (N i).an + (N i).am + sumN (fun j => partsT (sub i j)) (k i)) m := b
  omega

set_option maxRecDepth 20000 in
set_option maxHeartbeats 8000000 in
theorem arrayBy_of (md : Md) (S n : Nat) (sh : Nat → Int) (m : Nat) (L : Nat → Nat) (K C : Nat → Int) (N : Nat → NumF) (k : Nat → Nat) (sub : Nat → Nat → Tree) (h : CellsBy md m (fun i => ⟨L i, K i, N i, C i, k i, sub i⟩)) : ArrBy md (.arr S n sh m L K C N k sub) := by
  intro c0 c1 c2 w hA hE hp
  obtain ⟨rfl, hS, ⟨ao, nc, rfl, hn, hsh, hz⟩, co, mc, rfl, hm, hc⟩ := hA
  have n1 := hn.1; have n2 := hn.2.1; have m1 := hm.1; have m2 := hm.2.1
  have hph := parts_here (S := S) (n := n) (m := m) (sh := sh) (L := L) (K := K) (C := C) (N := N) (k := k) (sub := sub)
  have hm50 : m ≤ 5000 := by omega
  have hn6 : n ≤ 6000 := by omega
  have hp' := Lib.hid (show ∀ i, i < m → partsC ((fun i => ⟨L i, K i, N i, C i, k i, sub i⟩) i) ≤ 5000 from fun i hi => Nat.le_trans (partsC_in hi) hp)
  have hgl := Lib.hid (show IsL (md.g S) ∧ ∀ j, j < n → IsZ (sh j) from ⟨Md.g_is hE hS, hz⟩)
  have hL0 := Lib.hid hS; have hmn := Lib.hid hm
  obtain ⟨F, hF⟩ : ∃ F, F = md.fn := ⟨_, rfl⟩
  have hF' := Lib.hid hF
  rw [← hF]
  have hbel := (((Below.refl w.heap.size w).alloc (Nat.le_refl _) (.cells #[.int .u64 S, .slice ao n nc, .slice co m mc] 45)).alloc (by simp) (.cells #[.int .u64 0, .slice none 0 0, .slice none 0 0] 45))
  have hx := (Box3.new (w := w) (B := w.heap.size) (.int .u64 S) (.slice ao n nc) (.slice co m mc) 45 rfl).alloc (.cells #[.int .u64 0, .slice none 0 0, .slice none 0 0] 45)
  have hy := Box3.new (w := w.alloc (.cells #[.int .u64 S, .slice ao n nc, .slice co m mc] 45)) (B := w.heap.size + 1) (.int .u64 0) (.slice none 0 0) (.slice none 0 0) 45 (by simp)
  have hs0 := Lib.hid hsh
  have hc0 : Hid (CellsP w co m (fun i => ⟨L i, K i, N i, C i, k i, sub i⟩)) := Lib.hid hc
  have hE0 := Lib.hid hE
  have h' := h
  clear hph hp hn hm hsh hz hc hE hS hF
  go_enter Tryz.func147, Tryz.ntmps147
  go_upto_region 1 with fail
  refine told_wp (fun w' => Below w.heap.size w w' ∧ Box3 w' w.heap.size (.int .u64 S) (.slice ao n nc) (.slice co m mc) ∧ Box3 w' (w.heap.size + 1) (.int .u64 0) (.slice none 0 0) (.slice none 0 0)) ⟨hbel, hx, hy⟩ ?_
  clear hbel hx hy
  rintro w3 ⟨bb, x, y⟩
  have hs := hs0.out.below bb
  have hcl := hc0.out.later bb
  have hEv := hE0.out.later bb
  cases md with
  | same =>
    obtain rfl : F = .func (.func 101) #[] #[] := hF'.out
    have hcells : ∀ w, CellsP w co m (fun i => ⟨L i, K i, N i, C i, k i, sub i⟩) → (Md.same).Env w → Calls Tryz.prog 100 #[.slice co m mc, .func (.func 101) #[] #[]] w (CellsNew m (fun i => mapC (Md.same).g ((fun i => ⟨L i, K i, N i, C i, k i, sub i⟩) i)) w) := fun w a b => h' co mc w hmn.out a b hm50 hp'.out
    replace hcells := Lib.hid hcells
    have ssame0 := True.intro
    go_region_held3 (fun w' => w'.cell? ⟨w.heap.size, 0, none⟩ = some (.int .u64 S) ∧ w'.cell? ⟨w.heap.size, 1, none⟩ = some (.slice ao n nc) ∧ w'.cell? ⟨w.heap.size, 2, none⟩ = some (.slice co m mc))
      (first | with_reducible exact ⟨x.drew.c0, x.drew.c1, x.drew.c2⟩ | with_reducible exact ⟨x.c0, x.c1, x.c2⟩ | go_keep)
      (first
      | (go_at_call 101; clear ssame0; have hd := (Below.refl w3.heap.size w3).drew; have bb := bb.drew; have x := x.drew; have y := y.drew; have hs := hs.below hd; have hcl := hcl.later hd; have hEv := hEv.later hd; clear hd; refine (asItIs_any S _).mono ?_; rintro e w' ⟨rfl, hb⟩; have bb := below_then bb (Nat.le_refl _) hb; have x := x.later hb; have y := y.later hb; have hs := hs.below hb; have hcl := hcl.later hb; have hEv := hEv.later hb; clear hb; have ssame1 := True.intro)
      | (go_at_call 81; clear ssame1; have hlt1 := y.lt; refine (cloneI_any ao n nc (intCells sh n) _ hn6 (by rw [intCells_length, Nat.mul_one]) hs.lies (intCells_one _ _)).mono ?_; rintro e w' ⟨po, pc, rfl, hr, hb⟩; have bb := below_then bb (Nat.le_refl _) hb; have x := x.later hb; have y := y.later hb; have hcl := hcl.later hb; have hEv := hEv.later hb; clear hb hs; have ssame2 := True.intro)
      | (go_at_call 100; clear ssame2; have hlt2 := y.lt; refine (hcells.out _ hcl hEv).mono ?_; rintro e w' ⟨qo, qc, rfl, hqn, hQ, hb⟩; have bb := below_then bb (Nat.le_refl _) hb; have x := x.later hb; have y := y.later hb; have hr := hr.later hb; clear hb hcl hEv; have d0 := y.c0; have d1 := y.c1; have d2 := y.c2; have f0 := y.fr 0; have f1 := y.fr 1; have f2 := y.fr 2; have ssame3 := True.intro))
    have z := y.set (.int .u64 ((Md.same).g S : Nat)) (.slice po n pc) (.slice qo m qc)
    have e0 := z.c0; have e1 := z.c1; have e2 := z.c2
    have hbw := Lib.hid (below_set3 bb (B := w.heap.size + 1) (by omega) (.int .u64 ((Md.same).g S : Nat)) (.slice po n pc) (.slice qo m qc))
    have hne := fun b (hb : w.heap.size + 1 < b) => heap_set3 (w := w') (B := w.heap.size + 1) (b := b) (by omega) (.int .u64 ((Md.same).g S : Nat)) (.slice po n pc) (.slice qo m qc)
    obtain ⟨hpn, hpq⟩ := hr.slzQ hn6
    have hres := Lib.hid (arr_res (md := Md.same) hgl.out.1 hgl.out.2 hpn (hpq.keep (Q' := (w.heap.size ≤ ·)) (fun b hb _ => hne b (by omega)) (fun b hb _ => by omega)) hqn (hQ.keep (Q' := (w.heap.size ≤ ·)) (fun b hb _ => hne b (by omega)) (fun b hb _ => by omega)))
    clear z x y bb hr hQ hne hpq hpn
    go_wp2_with fail
    refine bodyPost_ret (v := .agg #[.int .u64 ((Md.same).g S : Nat), .slice po n pc, .slice qo m qc]) (by simp [results, Tryz.results147, go_sem, e0, e1, e2]) rfl ?_
    exact ⟨_, _, _, rfl, hres.out, hbw.out⟩

/-- Of any array, and any label's function. -/
theorem arrayBy_any (md : Md) : ∀ A, ArrBy md A := by
  intro A
  induction A with
  | leaf => intro c0 c1 c2 w h; exact (ArrP.leaf h).elim
  | arr S n sh m L K C N k sub ih => exact arrayBy_of md S n sh m L K C N k sub (cellsBy_of md m (fun i => ⟨L i, K i, N i, C i, k i, sub i⟩) fun i _ => cellBy_of md ((fun i => ⟨L i, K i, N i, C i, k i, sub i⟩) i) fun _ _ => ih i _)

theorem cellBy_any (md : Md) (c : CellD) : CellBy md c := cellBy_of md c fun _ _ => arrayBy_any md _

theorem cellsBy_any (md : Md) (m : Nat) (cs : Nat → CellD) : CellsBy md m cs := cellsBy_of md m cs fun _ _ => cellBy_any md _

end Go.Proofs.YtaepelipkkmeaaaGreat
namespace Go.Proofs.YtaepelipkkmeaaaGreat

open Go.RowKit Num

theorem TreeNew.plain {T : Tree} {w w' : World} {e : Ending} (h : TreeNew T w e w') : TreePost T w e w' := by
  obtain ⟨d0, d1, d2, rfl, hQ, hb⟩ := h
  exact ⟨d0, d1, d2, rfl, ArrQ.plain _ _ _ _ hQ, hb⟩

theorem isZ0 : IsZ 0 := ⟨by decide, by decide⟩

theorem isL0 : IsL 0 := by show (0 : Nat) < 18446744073709551616; decide

theorem isN0 : IsN 0 0 := ⟨Nat.le_refl _, by decide, by decide⟩

theorem cell_aside7 {w : World} {B : Nat} {x : Int} {p : Addr} (z : Box7 w B (.int .u64 0) (.int .i64 0) (.bool false) (.slice none 0 0) (.slice none 0 0) (.int .i64 0) (.slice none 0 0)) (u0 u1 u2 u3 u4 u5 u6 : Value) (h : w.cell? p = some (.int .u32 x)) :
    (((((((w.setCell ⟨B, 0, none⟩ u0).setCell ⟨B, 1, none⟩ u1).setCell ⟨B, 2, none⟩ u2).setCell ⟨B, 3, none⟩ u3).setCell ⟨B, 4, none⟩ u4).setCell ⟨B, 5, none⟩ u5).setCell ⟨B, 6, none⟩ u6).cell? p = some (.int .u32 x) := by
  have n0 : p ≠ ⟨B, 0, none⟩ := fun e => by rw [e, z.c0] at h; injection h with h; injection h with h; cases h
  have n1 : p ≠ ⟨B, 1, none⟩ := fun e => by rw [e, z.c1] at h; injection h with h; injection h with h; cases h
  have n2 : p ≠ ⟨B, 2, none⟩ := fun e => by rw [e, z.c2] at h; injection h with h; cases h
  have n3 : p ≠ ⟨B, 3, none⟩ := fun e => by rw [e, z.c3] at h; injection h with h; cases h
  have n4 : p ≠ ⟨B, 4, none⟩ := fun e => by rw [e, z.c4] at h; injection h with h; cases h
  have n5 : p ≠ ⟨B, 5, none⟩ := fun e => by rw [e, z.c5] at h; injection h with h; injection h with h; cases h
  have n6 : p ≠ ⟨B, 6, none⟩ := fun e => by rw [e, z.c6] at h; injection h with h; cases h
  rw [cell_set_ne n6, cell_set_ne n5, cell_set_ne n4, cell_set_ne n3, cell_set_ne n2, cell_set_ne n1, cell_set_ne n0]
  exact h

theorem Sl.aside7 {w : World} {B n : Nat} {ao : Option Addr} {f : Nat → Nat} (h : Sl w ao n f) (z : Box7 w B (.int .u64 0) (.int .i64 0) (.bool false) (.slice none 0 0) (.slice none 0 0) (.int .i64 0) (.slice none 0 0)) (u0 u1 u2 u3 u4 u5 u6 : Value) :
    Sl (((((((w.setCell ⟨B, 0, none⟩ u0).setCell ⟨B, 1, none⟩ u1).setCell ⟨B, 2, none⟩ u2).setCell ⟨B, 3, none⟩ u3).setCell ⟨B, 4, none⟩ u4).setCell ⟨B, 5, none⟩ u5).setCell ⟨B, 6, none⟩ u6) ao n f := by
  rcases h with h | ⟨b, o, e, h⟩
  · exact .inl h
  · exact .inr ⟨b, o, e, fun j hj => cell_aside7 z u0 u1 u2 u3 u4 u5 u6 (h j hj)⟩

set_option maxRecDepth 20000 in
set_option maxHeartbeats 2000000 in
theorem intAC : IntAC := by
  intro x w hx
  have hy := Box7.new (w := w) (B := w.heap.size) (.int .u64 0) (.int .i64 0) (.bool false) (.slice none 0 0) (.slice none 0 0) (.int .i64 0) (.slice none 0 0) 65 rfl
  have hbel := (Below.refl w.heap.size w).alloc (Nat.le_refl _) (.cells #[.int .u64 0, .int .i64 0, .bool false, .slice none 0 0, .slice none 0 0, .int .i64 0, .slice none 0 0] 65)
  have hx1 := hx.1; have hx2 := hx.2
  go_enter Tryz.func44, Tryz.ntmps44
  go_upto_region 1 with fail
  refine told_wp (fun w' => Below w.heap.size w w' ∧ Box7 w' w.heap.size (.int .u64 0) (.int .i64 0) (.bool false) (.slice none 0 0) (.slice none 0 0) (.int .i64 0) (.slice none 0 0)) ⟨hbel, hy⟩ ?_
  clear hbel hy
  rintro w2 ⟨b2, y2⟩
  replace b2 := Lib.hid b2; replace y2 := Lib.hid y2
  go_wp2_with fail
  refine (of_any x _ hx1 hx2).mono ?_
  rintro e w3 ⟨b, po, pn, pc, qo, qn, qc, rfl, hR, hb3⟩
  have y3 := y2.out.later hb3
  obtain ⟨f, h1, h2, h3, h4, h5⟩ := hR.top.ex
  obtain ⟨h, k1, k2, k3, k4, k5⟩ := hR.bot.ex
  clear k5
  have hpn := h4.len_le (int_32 hx1 hx2)
  rw [Int.natAbs_natCast] at k4
  have hqn := k4.len_le (k := 1) (by decide)
  have hA := h3.aside7 y3 (.int .u64 0) (.int .i64 0) (.bool b) (.slice po pn pc) (.slice qo qn qc) (.int .i64 0) (.slice none 0 0)
  have hB := k3.aside7 y3 (.int .u64 0) (.int .i64 0) (.bool b) (.slice po pn pc) (.slice qo qn qc) (.int .i64 0) (.slice none 0 0)
  have g0 := y3.c0; have g1 := y3.c1; have g2 := y3.c2; have g3 := y3.c3; have g4 := y3.c4; have g5 := y3.c5; have g6 := y3.c6
  have f0 := y3.fr 0; have f1 := y3.fr 1; have f2 := y3.fr 2; have f3 := y3.fr 3; have f4 := y3.fr 4; have f5 := y3.fr 5; have f6 := y3.fr 6
  have z := y3.setAll (.int .u64 0) (.int .i64 0) (.bool b) (.slice po pn pc) (.slice qo qn qc) (.int .i64 0) (.slice none 0 0)
  have e0 := z.c0; have e1 := z.c1; have e2 := z.c2; have e3 := z.c3; have e4 := z.c4; have e5 := z.c5; have e6 := z.c6
  have hbw := Lib.hid (below_setAll (b2.out.trans (hb3.mono b2.out.size)) (B := w.heap.size) (Nat.le_refl _) (.int .u64 0) (.int .i64 0) (.bool b) (.slice po pn pc) (.slice qo qn qc) (.int .i64 0) (.slice none 0 0))
  have hof := Lib.hid (show OfZ ⟨b, pn, f, qn, h⟩ x from ⟨h5, h4, k4⟩)
  have hn := Lib.hid (And.intro hA hB)
  have hlim := Lib.hid (And.intro h4.lim k4.lim)
  have hpi := Lib.hid (show IsN pn pc ∧ IsN qn qc from ⟨⟨h1, h2, by omega⟩, k1, k2, by omega⟩)
  clear z y3 hA hB hR hb3 h3 h4 k3 k4 h5 y2 b2 hx hpn hqn h1 h2 k1 k2
  go_wp2_with fail
  refine bodyPost_ret (v := .agg #[.int .u64 0, .int .i64 0, .bool b, .slice po pn pc, .slice qo qn qc, .int .i64 0, .slice none 0 0]) (by simp [results, Tryz.results44, go_sem, e0, e1, e2, e3, e4, e5, e6]) rfl ?_
  refine ⟨_, hof.out, fun q => [Value.int .u64 0, .int .i64 0, .bool b, .slice po pn pc, .slice qo qn qc, .int .i64 0, .slice none 0 0].getD q undef, rfl, ⟨rfl, isL0, rfl, isZ0, ⟨rfl, ⟨_, _, rfl, hpi.out.1, hn.out.1, hlim.out.1⟩, ⟨_, _, rfl, hpi.out.2, hn.out.2, hlim.out.2⟩⟩, rfl, isZ0, none, 0, rfl, isN0, .inl rfl⟩, hbw.out⟩

theorem vec_parts_of {m : Nat} {cs : Nat → CellD} (h : partsT (vecT m cs) ≤ 5000) : m ≤ 5000 ∧ ∀ i, i < m → partsC (cs i) ≤ 5000 := by
  have a := parts_here (S := 0) (n := 1) (m := m) (sh := fun _ => (m : Int)) (L := fun i => (cs i).L) (K := fun i => (cs i).K) (C := fun i => (cs i).C) (N := fun i => (cs i).N) (k := fun i => (cs i).k) (sub := fun i => (cs i).sub)
  have h' : partsT (.arr 0 1 (fun _ => (m : Int)) m (fun i => (cs i).L) (fun i => (cs i).K) (fun i => (cs i).C) (fun i => (cs i).N) (fun i => (cs i).k) fun i => (cs i).sub) ≤ 5000 := h
  exact ⟨by omega, fun i hi => Nat.le_trans (partsC_in (S := 0) (n := 1) (sh := fun _ => (m : Int)) (L := fun i => (cs i).L) (K := fun i => (cs i).K) (C := fun i => (cs i).C) (N := fun i => (cs i).N) (k := fun i => (cs i).k) (sub := fun i => (cs i).sub) hi) h'⟩

set_option maxRecDepth 20000 in
set_option maxHeartbeats 2000000 in
theorem vectorC : VectorC := by
  intro cs co m mc w hm hc hp
  obtain ⟨h50, hpc⟩ := vec_parts_of hp
  have m1 := hm.1; have m2 := hm.2.1
  have hy := Box3.new (w := w) (B := w.heap.size) (.int .u64 0) (.slice none 0 0) (.slice none 0 0) 45 rfl
  have hbel := (Below.refl w.heap.size w).alloc (Nat.le_refl _) (.cells #[.int .u64 0, .slice none 0 0, .slice none 0 0] 45)
  have hc' := Lib.hid hc; have hm' := Lib.hid hm; have hpc' := Lib.hid hpc
  clear hc hp hpc hm
  go_enter Tryz.func45, Tryz.ntmps45
  go_upto_region 1 with fail
  refine told_wp (fun w' => Below w.heap.size w w' ∧ Box3 w' w.heap.size (.int .u64 0) (.slice none 0 0) (.slice none 0 0)) ⟨hbel, hy⟩ ?_
  clear hbel hy
  rintro w2 ⟨b2, y2⟩
  have b3 := b2.alloc b2.size (.cells #[.int .i64 (m : Int)] 3)
  have y3 := y2.alloc (.cells #[.int .i64 (m : Int)] 3)
  have s3 := slz_one w2 3 (m : Int)
  have hlt2 := y2.lt
  obtain ⟨U, hU⟩ : ∃ U, U = w2.heap.size := ⟨_, rfl⟩
  rw [← hU] at s3 hlt2
  have hU3 : U < (w2.alloc (.cells #[.int .i64 (m : Int)] 3)).heap.size := by simp [hU]
  have H := Lib.hid (And.intro b3 (And.intro y3 (And.intro s3 hU3)))
  clear b2 y2 b3 y3 s3 hU3
  go_wp2_with fail
  rw [← hU]
  refine told_calls (fun w' => Below w.heap.size w w' ∧ Box3 w' w.heap.size (.int .u64 0) (.slice none 0 0) (.slice none 0 0) ∧ SlZ w' (some ⟨U, 0, none⟩) 1 (fun _ => (m : Int)) ∧ U < w'.heap.size) H.out ?_
  clear H hU
  rintro w3 ⟨b3, y3, s3, hU3⟩
  have hcall : Calls Tryz.prog 100 #[.slice co m mc, .func (.func 101) #[] #[]] w3 (CellsNew m (fun i => mapC Md.same.g (cs i)) w3) := cellsBy_any .same m cs co mc w3 hm'.out (CellsP.later hc'.out b3) trivial h50 hpc'.out
  refine hcall.mono ?_
  rintro e w4 ⟨qo, qc, rfl, hqn, hQ, hb4⟩
  have y4 := y3.later hb4
  have g0 := y4.c0; have g1 := y4.c1; have g2 := y4.c2
  have f0 := y4.fr 0; have f1 := y4.fr 1; have f2 := y4.fr 2
  have z := y4.set (.int .u64 0) (.slice (some ⟨U, 0, none⟩) 1 1) (.slice qo m qc)
  have e0 := z.c0; have e1 := z.c1; have e2 := z.c2
  have hbw := Lib.hid (below_set3 (b3.trans (hb4.mono b3.size)) (B := w.heap.size) (Nat.le_refl _) (.int .u64 0) (.slice (some ⟨U, 0, none⟩) 1 1) (.slice qo m qc))
  have hs5 : SlZQ (((w4.setCell ⟨w.heap.size, 0, none⟩ (.int .u64 0)).setCell ⟨w.heap.size, 1, none⟩ (.slice (some ⟨U, 0, none⟩) 1 1)).setCell ⟨w.heap.size, 2, none⟩ (.slice qo m qc)) (fun _ => True) (some ⟨U, 0, none⟩) 1 (fun _ => (m : Int)) := by
    rcases SlZ.below s3 hb4 with h | ⟨b, o, e, h⟩
    · exact .inl h
    · injection e with e
      injection e with e1 e2 _
      subst e1; subst e2
      refine .inr ⟨U, 0, rfl, trivial, fun j hj => ?_⟩
      exact cell_kept (h j hj) (heap_set3 (by omega) _ _ _)
  have hq5 := hQ.keep (Q' := fun _ => True) (fun b hb _ => heap_set3 (w := w4) (B := w.heap.size) (b := b) (by omega) (.int .u64 0) (.slice (some ⟨U, 0, none⟩) 1 1) (.slice qo m qc)) (fun _ _ _ => trivial)
  have hcs : (fun i => mapC Md.same.g (cs i)) = cs := funext fun i => mapC_same _
  rw [hcs] at hq5
  have hm47 := hm'.out.2.2
  have hres := Lib.hid (show ArrP _ (vecT m cs) (.int .u64 ((0 : Nat) : Int)) (.slice (some ⟨U, 0, none⟩) 1 1) (.slice qo m qc) from ArrQ.plain (Q := fun _ => True) (vecT m cs) _ _ _ ⟨rfl, by show (0 : Nat) < 18446744073709551616; decide, ⟨_, _, rfl, ⟨Nat.le_refl _, by decide, by decide⟩, hs5, fun j hj => ⟨by show (-9223372036854775808 : Int) ≤ (m : Int); omega, by show (m : Int) ≤ 9223372036854775807; omega⟩⟩, _, _, rfl, hqn, hq5⟩)
  clear z y4 y3 hQ hs5 hq5 b3 hb4 s3
  go_wp2_with fail
  refine bodyPost_ret (v := .agg #[.int .u64 0, .slice (some ⟨U, 0, none⟩) 1 1, .slice qo m qc]) (by simp [results, Tryz.results45, go_sem, e0, e1, e2]) rfl ?_
  exact ⟨_, _, _, rfl, hres.out, hbw.out⟩

end Go.Proofs.YtaepelipkkmeaaaGreat
namespace Go.Proofs.YtaepelipkkmeaaaGreat

open Go.RowKit Num

set_option maxRecDepth 20000 in
set_option maxHeartbeats 2000000 in
theorem numCell_any (N : NumF) (c0 c1 c2 : Value) (w : World) (h : NumP w N c0 c1 c2) (ha6 : N.an ≤ 6000) (hb6 : N.am ≤ 6000) :
    Calls Tryz.prog 48 #[.agg #[c0, c1, c2]] w (fun e w' => ∃ ao ac bo bc, e = .returned (.agg #[.int .u64 0, .int .i64 0, .bool N.neg, .slice ao N.an ac, .slice bo N.am bc, .int .i64 0, .slice none 0 0]) ∧ NumQ w' (w.heap.size ≤ ·) N (.bool N.neg) (.slice ao N.an ac) (.slice bo N.am bc) ∧ Below w.heap.size w w') := by
  have hN := Lib.hid h
  obtain ⟨rfl, ⟨ao, ac, rfl, _⟩, ⟨bo, bc, rfl, _⟩⟩ := h
  have hbel := (((Below.refl w.heap.size w).alloc (Nat.le_refl _) (.cells #[.bool N.neg, .slice ao N.an ac, .slice bo N.am bc] 24)).alloc (by simp) (.cells #[.int .u64 0, .int .i64 0, .bool false, .slice none 0 0, .slice none 0 0, .int .i64 0, .slice none 0 0] 65))
  have hx := (Box3.new (w := w) (B := w.heap.size) (.bool N.neg) (.slice ao N.an ac) (.slice bo N.am bc) 24 rfl).alloc (.cells #[.int .u64 0, .int .i64 0, .bool false, .slice none 0 0, .slice none 0 0, .int .i64 0, .slice none 0 0] 65)
  have hy := Box7.new (w := w.alloc (.cells #[.bool N.neg, .slice ao N.an ac, .slice bo N.am bc] 24)) (B := w.heap.size + 1) (.int .u64 0) (.int .i64 0) (.bool false) (.slice none 0 0) (.slice none 0 0) (.int .i64 0) (.slice none 0 0) 65 (by simp)
  go_enter Tryz.func48, Tryz.ntmps48
  go_upto_region 1 with fail
  refine told_wp (fun w' => Below w.heap.size w w' ∧ Box3 w' w.heap.size (.bool N.neg) (.slice ao N.an ac) (.slice bo N.am bc) ∧ Box7 w' (w.heap.size + 1) (.int .u64 0) (.int .i64 0) (.bool false) (.slice none 0 0) (.slice none 0 0) (.int .i64 0) (.slice none 0 0)) ⟨hbel, hx, hy⟩ ?_
  clear hbel hx hy
  rintro w2 ⟨b2, x2, y2⟩
  have z0 := x2.c0; have z1 := x2.c1; have z2 := x2.c2
  have hcall := Lib.hid (numAnew_any N _ _ _ w2 (hN.out.below b2) ha6 hb6)
  have hlt := y2.lt
  clear x2
  go_wp2_with fail
  refine hcall.out.mono ?_
  rintro e w3 ⟨po, pc, qo, qc, rfl, hQ, hb3⟩
  have y3 := y2.later hb3
  have g0 := y3.c0; have g1 := y3.c1; have g2 := y3.c2; have g3 := y3.c3; have g4 := y3.c4; have g5 := y3.c5; have g6 := y3.c6
  have f0 := y3.fr 0; have f1 := y3.fr 1; have f2 := y3.fr 2; have f3 := y3.fr 3; have f4 := y3.fr 4; have f5 := y3.fr 5; have f6 := y3.fr 6
  have z := y3.setAll (.int .u64 0) (.int .i64 0) (.bool N.neg) (.slice po N.an pc) (.slice qo N.am qc) (.int .i64 0) (.slice none 0 0)
  have e0 := z.c0; have e1 := z.c1; have e2 := z.c2; have e3 := z.c3; have e4 := z.c4; have e5 := z.c5; have e6 := z.c6
  have hbw := Lib.hid (below_setAll (below_then b2 (Nat.le_refl _) hb3) (B := w.heap.size + 1) (by omega) (.int .u64 0) (.int .i64 0) (.bool N.neg) (.slice po N.an pc) (.slice qo N.am qc) (.int .i64 0) (.slice none 0 0))
  have hres := Lib.hid (hQ.keep (Q' := (w.heap.size ≤ ·)) (fun b hb _ => heap_set7 (w := w3) (B := w.heap.size + 1) (b := b) (by omega) (.int .u64 0) (.int .i64 0) (.bool N.neg) (.slice po N.an pc) (.slice qo N.am qc) (.int .i64 0) (.slice none 0 0)) (fun b hb _ => by omega))
  clear y2 y3 z hQ hb3 b2 z0 z1 z2 hcall
  go_wp2_with fail
  refine bodyPost_ret (v := .agg #[.int .u64 0, .int .i64 0, .bool N.neg, .slice po N.an pc, .slice qo N.am qc, .int .i64 0, .slice none 0 0]) (by simp [results, Tryz.results48, go_sem, e0, e1, e2, e3, e4, e5, e6]) rfl ?_
  exact ⟨_, _, _, _, rfl, hres.out, hbw.out⟩

end Go.Proofs.YtaepelipkkmeaaaGreat
namespace Go.Proofs.YtaepelipkkmeaaaGreat

open Go.RowKit Num

theorem smallR_no {P : Int} {Q : Nat} (h : Q ≠ 1) : smallR P Q = .tuple #[.int .i64 0, .bool false] := by
  have e : smallQ P Q = false := by unfold smallQ; rw [decide_eq_false h]; rfl
  unfold smallR smallP; rw [e]; rfl

set_option maxRecDepth 20000 in
set_option maxHeartbeats 2000000 in
theorem smallP_any (ab : Bool) (ap aq : Option Addr) (an ac am ae : Nat) (P : Int) (Q : Nat) (w : World) (A : Rt w ab ap an ac aq am ae P Q) (lA : Low P Q) :
    Calls Tryz.prog 116 #[.agg #[.bool ab, .slice ap an ac, .slice aq am ae]] w (Says (smallR P Q) w) := by
  have A' := Lib.hid A; have lA' := Lib.hid lA
  clear A lA
  go_enter Tryz.func116, Tryz.ntmps116
  go_wp2_with fail
  refine gen_calls (fun w' => Below w.heap.size w w' ∧ Box3 w' w.heap.size (.bool ab) (.slice ap an ac) (.slice aq am ae))
    ⟨((Below.refl _ _).alloc (Nat.le_refl _) _), (Box3.new _ _ _ _ rfl)⟩ ?_
  rintro w0 ⟨bb, x0⟩
  refine (int_any ab ap aq an ac am ae P Q _ (A'.out.below bb) lA'.out).mono ?_
  rintro e w1 ⟨tb, to_, tn, tc, rfl, T, hb⟩
  replace bb := Lib.hid (below_then bb (Nat.le_refl _) hb); replace T := Lib.hid T
  clear hb x0
  by_cases hQ : Q = 1
  · subst hQ
    have hT := Lib.hid (show Right w1 tb to_ tn tc P from by have := T.out; rw [if_pos rfl] at this; exact this)
    clear T
    go_upto_region 2 with fail
    refine gen_wp (fun w' => Below w.heap.size w w' ∧ Box w' w1.heap.size (.bool tb) (.slice to_ tn tc) ∧ Right w' tb to_ tn tc P)
      ⟨bb.out.alloc bb.out.size _, Box.new _ _ _ rfl, hT.out.alloc _⟩ ?_
    clear bb hT
    rintro w2 ⟨bb, x1, hT⟩
    replace bb := Lib.hid bb; replace hT := Lib.hid hT
    have p0 := x1.c0; have p1 := x1.c1
    clear x1
    go_wp2_with fail
    obtain ⟨u, b, hub⟩ : ∃ u b, Hid (smallR P 1 = .tuple #[.int .i64 u, .bool b]) := ⟨_, _, Lib.hid rfl⟩
    refine ((wSmall_any tb to_ tn tc P _ (hT.out.whole32 lA'.out.abs_lt)).mono fun _ _ h => (show Says (.tuple #[.int .i64 u, .bool b]) _ _ _ from by rw [← hub.out]; exact h)).mono ?_
    rintro e w3 ⟨rfl, hb⟩
    replace bb := Lib.hid (below_then bb.out (Nat.le_refl _) hb)
    clear hb hT p0 p1
    go_wp2_with fail
    go_ret2
    exact ⟨by rw [hub.out]; rfl, bb.out⟩
  · have hR := Lib.hid (smallR_no (P := P) hQ)
    have hQ' := Lib.hid (decide_eq_false hQ)
    rw [hQ'.out]
    clear hQ hQ' T
    go_wp2_with fail
    go_ret2
    exact ⟨by rw [hR.out]; rfl, bb.out.alloc bb.out.size _⟩

set_option maxRecDepth 20000 in
set_option maxHeartbeats 2000000 in
theorem isTwo_any (f : Int) (w : World) : Calls Tryz.prog 11 #[.int .i64 f] w (Tell (.bool (decide (f ∈ twosZ))) w) := by
  go_enter Tryz.func11, Tryz.ntmps11
  go_wp2_with fail
  all_goals (go_ret; refine ⟨?_, Below.refl _ _⟩; refine congrArg (fun b => Ending.returned (Value.bool b)) ?_)
  all_goals first
    | (rename_i h; rw [beq_iff_eq] at h; subst h; rfl)
    | (symm; rw [decide_eq_false_iff_not]; simp only [beq_eq_false_iff_ne, ne_eq] at *; simp only [twosZ, List.mem_cons, List.not_mem_nil, or_false, not_or]; repeat (first | assumption | refine ⟨by assumption, ?_⟩))

set_option maxRecDepth 20000 in
set_option maxHeartbeats 2000000 in
theorem truth_any (v : Bool) (w : World) : Calls Tryz.prog 127 #[.bool v] w (RatPost (truthZ v) 1 w) := by
  cases v
  all_goals
    go_enter Tryz.func127, Tryz.ntmps127
    go_wp2_with fail
    refine gen_calls (fun w' => Below w.heap.size w w' ∧ Box3 w' w.heap.size (.bool false) (.slice none 0 0) (.slice none 0 0)) ⟨(Below.refl _ _).alloc (Nat.le_refl _) _, Box3.new _ _ _ _ rfl⟩ ?_
    rintro w0 ⟨bb, X2⟩
    refine (of_any _ _ (by decide) (by decide)).mono ?_
    rintro e v1 ⟨db, dp, dn, dc, dq, dm, de, rfl, D, hb⟩
    replace bb := below_then bb (Nat.le_refl _) hb; replace X2 := X2.later hb; replace D := Lib.hid D
    clear hb
    have q0 := X2.c0; have q1 := X2.c1; have q2 := X2.c2; have q3 := X2.fr 0; have q4 := X2.fr 1; have q5 := X2.fr 2
    have zz := X2.set (.bool db) (.slice dp dn dc) (.slice dq dm de)
    have e0 := zz.c0; have e1 := zz.c1; have e2 := zz.c2
    have Y2 := Lib.hid X2; have bb' := Lib.hid bb
    clear zz X2 bb
    go_wp2_with fail
    refine bodyPost_ret (v := .agg #[.bool db, .slice dp dn dc, .slice dq dm de]) (by simp [results, Tryz.results127, go_sem, e0, e1, e2]) rfl ?_
    exact RatPost.stored D.out Y2.out bb'.out (Nat.le_refl _)

end Go.Proofs.YtaepelipkkmeaaaGreat
namespace Go.Proofs.YtaepelipkkmeaaaGreat

open Go.RowKit Num

attribute [local go_sem ↓] Go.wp_at_zero Go.wp_at_succ

theorem lenN_32 {v : Nat} (h : v < pw 32) : lenN v ≤ 6000 := by have := (canonN v).len_le h; omega

/-- A cell that is a number comes back. -/
def CellNumPost (P : Int) (Q : Nat) (w : World) (e : Ending) (w' : World) : Prop :=
  ∃ b ao n nc bo m mc, e = .returned (.agg #[.int .u64 0, .int .i64 0, .bool b, .slice ao n nc, .slice bo m mc, .int .i64 0, .slice none 0 0]) ∧ Rt w' b ao n nc bo m mc P Q ∧ Below w.heap.size w w'

theorem numRt_any (ab : Bool) (ap aq : Option Addr) (an ac am ae : Nat) (P : Int) (Q : Nat) (w : World) (Ra : Rt w ab ap an ac aq am ae P Q) (la : Low P Q) :
    Calls Tryz.prog 48 #[.agg #[.bool ab, .slice ap an ac, .slice aq am ae]] w (CellNumPost P Q w) := by
  refine (numCell_any (numF P Q) _ _ _ w (Ra.numP la.2.2.1 la.2.2.2) (lenN_32 la.2.2.1) (lenN_32 la.2.2.2)).mono ?_
  rintro e w' ⟨ao, ac, bo, bc, rfl, hQ, hb⟩
  refine ⟨_, _, _, _, _, _, _, rfl, ?_, hb⟩
  have h := hQ.plain'.rtS (numF_right la)
  rw [topF_of (N := numF P Q) rfl (canonN _).val, show botF (numF P Q) = Q from (canonN Q).val] at h
  exact h

theorem fieldNumP (v0 v1 v2 v3 v4 v5 v6 : Value) (w : World) : (Instr.field 65 (.agg #[v0, v1, v2, v3, v4, v5, v6]) 2).run Tryz.prog w = .ok (.agg #[v2, v3, v4]) w := by kernel_rfl

attribute [local go_sem] fieldNumP

end Go.Proofs.YtaepelipkkmeaaaGreat
