/-
  array.cellBy: a cell told anew.
  array.arrayBy: an array told anew; arrayBy, cellsBy, cellBy of any array and any cells.
  array.Erase, Cover, Raise, Vector, Int, Chr.
  label.Flows, array.Num; what view.Hide and view.Cell are to tell.
  ratio.Small; scalar.IsOne, IsTwo, truth.
  array.Num of a right number; scalar.Number but for not and the product.
  scalar.chosen, compared, power; Numbers.
  scalar.isBox, boxed, numbered, opened, leading, picked.
  slices.Equal over ints.
-/
import Derived.Test.YtaepelipkkmeaaaGreatMgtA
import Derived.Test.YtaepelipkkmeaaaGreatMgtB
import Derived.Test.YtaepelipkkmeaaaGreatMgtC
import Derived.Test.YtaepelipkkmeaaaGreatMgtD
import Derived.Test.YtaepelipkkmeaaaGreatMgtE
import Derived.Test.YtaepelipkkmeaaaGreatMgtF
import Derived.Test.YtaepelipkkmeaaaGreatMgtG
import Derived.OpenShut
import Derived.SizedLaws
import Derived.Deep.LoopGhost
import Derived.WalkKit
import Derived.Lib.BitFns
import Derived.Laws.AppendOwn
import Derived.Deep.AppendLies
import Derived.Deep.RegionHeld3
import Derived.Deep.CutRange
import Derived.BigQuiet
import Derived.Deep.DrawnRows
import Derived.Laws.OwnMore
import Derived.Lib.SliceRun
import Derived.Deep.RegionWith
import Derived.WalkSpells
import Derived.WalkLawsBesides
import Derived.Lib.Hide
import Derived.Laws.CopyOwn
import Derived.Lib.Small
import Derived.Lib.Walk
import Derived.Deep.QuietTactic
import Derived.Deep.RegionLaw
set_option maxRecDepth 20000
set_option maxHeartbeats 16000000
namespace Go.Proofs.YtaepelipkkmeaaaGreat
open Go.RowKit Num
def three (v : Nat → Value) : List Value := [v 0, v 1, v 2]
theorem rows_vals {w : World} {ao : Option Addr} {k : Nat} {sub : Nat → Tree} (h : RowP w ao k fun j d0 d1 d2 => ArrP w (sub j) d0 d1 d2) : ∃ E : Nat → Nat → Value, (∀ j, j < k → ArrP w (sub j) (E j 0) (E j 1) (E j 2)) ∧ LiesL w ao (rowsN (fun j => three (E j)) k) := by
 rcases h with rfl | ⟨b, o, rfl, h⟩
 ·exact ⟨fun _ _ => undef, fun j hj => by omega, .inl rfl⟩
 ·have h' : ∀ j, j < k → ∃ v : Nat → Value, (∀ t, t < 3 → w.cell? ⟨b, o + j * 3 + t, none⟩ = some (v t)) ∧ ArrP w (sub j) (v 0) (v 1) (v 2) := fun j hj => by
   obtain ⟨d0, d1, d2, r0, r1, r2, r3⟩ := h j hj
   refine ⟨fun t => [d0, d1, d2].getD t undef, fun t ht => ?_, r3⟩
   have : t = 0 ∨ t = 1 ∨ t = 2 := by omega
   rcases this with rfl | rfl | rfl
   ·exact r0
   ·exact r1
   ·exact r2
  refine ⟨fun i => if hi : i < k then (h' i hi).choose else fun _ => undef, fun i hi => ?_, .inr ⟨b, o, rfl, fun j u hu => ?_⟩⟩
  ·simp only [dif_pos hi]; exact (h' i hi).choose_spec.2
  ·have hl : ∀ i, i < k → ((fun i => three ((fun i => if hi : i < k then (h' i hi).choose else fun _ => undef) i)) i).length = 3 := fun i hi => rfl
   have hj : j < k * 3 := by
    have := (List.getElem?_eq_some_iff.1 hu).1
    rwa [rowsN_length k hl] at this
   rw [rowsN_at hl (by decide) j hj] at hu
   have hd : j / 3 < k := by omega
   have hc := (h' (j / 3) hd).choose_spec.1
   have e : o + j = o + j / 3 * 3 + j % 3 := by omega
   rw [e, hc (j % 3) (by omega), ← hu]
   simp only [dif_pos hd]
   have hr : j % 3 = 0 ∨ j % 3 = 1 ∨ j % 3 = 2 := by omega
   rcases hr with r | r | r <;> rw [r] <;> rfl
theorem arr_ones {w : World} {A : Tree} {e : Nat → Value} (h : ArrP w A (e 0) (e 1) (e 2)) : ∀ u ∈ three e, u.oneCell' = true := by
 obtain ⟨S, n, nc, m, mc, ao, co, h0, h1, h2⟩ := (ArrP.within _ _ _ _ h).form
 intro u hu
 unfold three at hu
 rw [h0, h1, h2] at hu
 simp at hu
 rcases hu with rfl | rfl | rfl <;> rfl
def arrsF (T : Nat → Tree) : CellF := fun x w Q e => ArrQ w Q (T x) (e 0) (e 1) (e 2)
theorem arrsF_keep (T : Nat → Tree) : KeepF (arrsF T) := fun _ _ _ _ _ _ h hk hq => ArrQ.keep hk hq _ _ _ _ h
structure InRow (w : World) (B : Nat) (ao : Option Addr) (k : Nat) (T : Nat → Tree) : Prop where
 q : RowQ w (B ≤ ·) ao k fun j d0 d1 d2 => ArrQ w (B ≤ ·) (T j) d0 d1 d2
theorem InRow.later {w w' : World} {B : Nat} {ao : Option Addr} {k : Nat} {T : Nat → Tree} (h : InRow w B ao k T) (hb : Below w.heap.size w w') : InRow w' B ao k T :=
 ⟨h.q.keep (fun b _ hlt => hb.block b hlt) (fun _ hq _ => hq) fun _ _ _ _ hd => ArrQ.keep (fun b _ hlt => hb.block b hlt) (fun _ hq _ => hq) _ _ _ _ hd⟩
theorem Mapped.inRow {w wr : World} {E : TypeId} {g k cap B : Nat} {ao : Option Addr} {es es0 : Nat → List Value} {T : Nat → Tree} (h : Mapped (arrsF T) w wr E 3 g ao k cap k es es0) (hB : B ≤ w.heap.size) : InRow wr B ao k T := by
 obtain ⟨ao', cap', e, _, _, hf⟩ := own_form h.row
 injection e with e1 e2 e3
 subst e1; subst e3
 refine ⟨?_⟩
 rcases hf with h0 | ⟨g', rfl, _, hg, _⟩
 ·exact .inl h0
 ·refine .inr ⟨g', 0, rfl, by omega, fun i hi => ?_⟩
  have hc : ∀ q, q < 3 → wr.cell? ⟨g', 0 + i * 3 + q, none⟩ = some ((es i).getD q undef) := fun q hq => by
   have hlt : i * 3 + q < k * 3 := by omega
   rw [Nat.zero_add, h.row.cellAt (i * 3 + q) hlt, rowsN_get k h.len i q hi hq]
   have := h.len i hi
   rw [List.getD_eq_getElem?_getD, List.getElem?_eq_getElem (by omega)]
   rfl
  exact ⟨_, _, _, hc 0 (by decide), hc 1 (by decide), hc 2 (by decide), ArrQ.keep (fun _ _ _ => rfl) (fun b hq _ => by have := hq.1; omega) _ _ _ _ (h.done i hi)⟩
theorem cell_res {md : Md} {c : CellD} {w : World} {Q : Nat → Prop} {po qo ro : Option Addr} {pc qc rc : Nat} (hL : IsL (md.g c.L)) (hK : IsZ c.K) (hC : IsZ c.C) (hN : NumQ w Q c.N (.bool c.N.neg) (.slice po c.N.an pc) (.slice qo c.N.am qc)) (hr : IsN c.k rc)
  (hI : RowQ w Q ro c.k fun j d0 d1 d2 => ArrQ w Q (mapT md.g (c.sub j)) d0 d1 d2) : CellRQ w Q (mapC md.g c) (fun q => [Value.int .u64 (md.g c.L : Nat), .int .i64 c.K, .bool c.N.neg, .slice po c.N.an pc, .slice qo c.N.am qc, .int .i64 c.C, .slice ro c.k rc].getD q undef) :=
 ⟨rfl, hL, rfl, hK, hN, rfl, hC, ro, rc, rfl, hr, hI⟩
theorem partsC_sub {c : CellD} {j : Nat} (hj : j < c.k) : partsT (c.sub j) ≤ partsC c := by
 have a : partsT (c.sub j) ≤ sumN (fun j => partsT (c.sub j)) c.k := sumN_one (fun j => partsT (c.sub j)) hj
 unfold partsC
 omega
theorem partsC_here (c : CellD) : c.N.an + c.N.am + c.k ≤ partsC c := by
 have a := sumN_le (f := fun _ => 1) (g := fun j => partsT (c.sub j)) c.k fun j _ => parts_pos _
 rw [sumN_const] at a
 unfold partsC
 omega
theorem cellBy_of (md : Md) (c : CellD) (hsub : ∀ j, j < c.k → ArrBy md (c.sub j)) : CellBy md c := by
 intro e w hR hE hp
 have hRw := Lib.hid hR
 obtain ⟨q0, qL, q1, qK, hNum, q5, qC, io, kc, q6, hk, hrow⟩ := hR
 have hNw := hNum
 obtain ⟨q2, ⟨a1, ac, q3, ha, _, _⟩, ⟨b1, bc, q4, hb', _, _⟩⟩ := hNum
 rw [q2, q3, q4] at hNw
 rw [q0, q1, q2, q3, q4, q5, q6]
 have k1 := hk.1; have k2 := hk.2.1
 have hph := partsC_here c
 have hna : c.N.an ≤ 6000 := by omega
 have hnb : c.N.am ≤ 6000 := by omega
 have hk5 : c.k ≤ 6000 := by omega
 obtain ⟨E, hE1, hE2⟩ := rows_vals hrow
 have hl : ∀ i, i < c.k → ((fun i => three (E i)) i).length = 3 := fun _ _ => rfl
 have hE1' := Lib.hid hE1; have hE2' := Lib.hid hE2; have hsub' := Lib.hid hsub; have hEnv := Lib.hid hE; have hNw' := Lib.hid hNw
 have hsp := Lib.hid (fun j (hj : j < c.k) => Nat.le_trans (partsC_sub hj) hp)
 have hL0 := Lib.hid qL
 have hgl := Lib.hid (show IsL (md.g c.L) ∧ IsZ c.K ∧ IsZ c.C from ⟨Md.g_is hE qL, qK, qC⟩)
 obtain ⟨F, hF⟩ : ∃ F, F = md.fn := ⟨_, rfl⟩
 have hF' := Lib.hid hF
 rw [← hF]
 have hbel := (((Below.refl w.heap.size w).alloc (Nat.le_refl _) (.cells #[.int .u64 c.L, .int .i64 c.K, .bool c.N.neg, .slice a1 c.N.an ac, .slice b1 c.N.am bc, .int .i64 c.C, .slice io c.k kc] 65)).alloc (by simp) (.cells #[.int .u64 0, .int .i64 0, .bool false, .slice none 0 0, .slice none 0 0, .int .i64 0, .slice none 0 0] 65))
 have hx := (Box7.new (w := w) (B := w.heap.size) (.int .u64 c.L) (.int .i64 c.K) (.bool c.N.neg) (.slice a1 c.N.an ac) (.slice b1 c.N.am bc) (.int .i64 c.C) (.slice io c.k kc) 65 rfl).alloc (.cells #[.int .u64 0, .int .i64 0, .bool false, .slice none 0 0, .slice none 0 0, .int .i64 0, .slice none 0 0] 65)
 have hy := Box7.new (w := w.alloc (.cells #[.int .u64 c.L, .int .i64 c.K, .bool c.N.neg, .slice a1 c.N.an ac, .slice b1 c.N.am bc, .int .i64 c.C, .slice io c.k kc] 65)) (B := w.heap.size + 1) (.int .u64 0) (.int .i64 0) (.bool false) (.slice none 0 0) (.slice none 0 0) (.int .i64 0) (.slice none 0 0) 65 (by simp)
 clear q0 qL q1 qK q2 q3 q4 q5 qC q6 ha hb' hk hrow hsub hE hE1 hE2 hF hNw hRw hp hph
 go_enter Tryz.func102, Tryz.ntmps102
 go_upto_region 1 with fail
 refine told_wp (fun w' => Below w.heap.size w w' ∧ Box7 w' w.heap.size (.int .u64 c.L) (.int .i64 c.K) (.bool c.N.neg) (.slice a1 c.N.an ac) (.slice b1 c.N.am bc) (.int .i64 c.C) (.slice io c.k kc) ∧ Box7 w' (w.heap.size + 1) (.int .u64 0) (.int .i64 0) (.bool false) (.slice none 0 0) (.slice none 0 0) (.int .i64 0) (.slice none 0 0)) ⟨hbel, hx, hy⟩ ?_
 clear hbel hx hy
 rintro w2 ⟨b2, x2, y2⟩
 have hb2 := Lib.hid b2; have hx2 := Lib.hid x2; have hy2 := Lib.hid y2
 have hlt2 : w.heap.size + 1 < w2.heap.size := y2.lt
 have g6 := x2.c6
 have hsrc := Lib.hid (hE2'.out.below b2)
 clear b2 x2 y2
 go_wp2_with fail
 refine (cloneA_any io c.k kc (rowsN (fun i => three (E i)) c.k) _ hk5 (rowsN_length c.k hl) hsrc.out (rows_ones fun i hi => arr_ones (hE1'.out i hi))).mono ?_
 rintro e w1 ⟨ro, rc, rfl, hrow, hb1⟩
 obtain ⟨ao', cap', e', hcap1, hcap2, hform⟩ := own_form hrow.own
 injection e' with e1 e2 e3
 subst e1; subst e3
 obtain ⟨g, hg⟩ : ∃ g, c.k = 0 ∨ (ro = some ⟨g, 0, none⟩ ∧ w2.heap.size ≤ g ∧ g < w1.heap.size) := by
  rcases hform with h | ⟨g, h1, _, h2, h3⟩
  ·exact ⟨0, .inl h⟩
  ·exact ⟨g, .inr ⟨h1, h2, h3⟩⟩
 have hP := arrsF_keep (fun j => mapT md.g (c.sub j))
 have hM0 := Lib.hid (Mapped.start (P := arrsF (fun j => mapT md.g (c.sub j))) (g := g) hrow hl hb1)
 have hg' := Lib.hid hg
 have hsz1 := Lib.hid (Nat.le_refl w1.heap.size)
 have hrn := Lib.hid (show IsN c.k rc from ⟨hcap1, hcap2, by omega⟩)
 obtain ⟨kk, hkk⟩ : ∃ kk, kk = c.k := ⟨_, rfl⟩
 have hkk' := Lib.hid hkk
 rw [← hkk] at hM0 g6 hcap1 hg' k1 ⊢
 clear hform hrow hb1 hg g6 hkk hsrc
 go_wp2_with fail
 go_loopw [13] (fun i wr => ∃ (t : Nat) (es : Nat → List Value), t ≤ kk ∧ i = .int .i64 t ∧ Hid (Mapped (arrsF (fun j => mapT md.g (c.sub j))) w2 wr 45 3 g ro kk rc t es (fun i => three (E i))) ∧ Hid (w1.heap.size ≤ wr.heap.size)) (fun i _ => kk - (intOfZ i).toNat)
 case atStart => exact ⟨0, _, Nat.zero_le _, rfl, hM0, hsz1⟩
 case round =>
  obtain ⟨t, es, ht, rfl, hM, hsz⟩ := hrel
  clear hM0 hsz1
  by_cases hlt : t < kk
  ·have hltc := Lib.hid (show t < c.k by rw [← hkk'.out]; exact hlt)
   rcases hg'.out with h0 | ⟨rfl, hg1, hg2⟩
   ·omega
   have hA := hE1'.out t hltc.out
   obtain ⟨S', n', nc', m', mc', ao', co', q0, q1, q2⟩ := (ArrP.within _ _ _ _ hA).form
   rw [q0, q1, q2] at hA
   have hAb := Lib.hid (ArrP.below _ _ _ _ (ArrP.below _ _ _ _ hA hb2.out) (hM.out.bel))
   have y0 := hM.out.cell (q := 0) hlt (by decide) (v := E t 0) rfl
   have y1 := hM.out.cell (q := 1) hlt (by decide) (v := E t 1) rfl
   have y2 := hM.out.cell (q := 2) hlt (by decide) (v := E t 2) rfl
   have hq := Lib.hid (And.intro q0 (And.intro q1 q2))
   rw [q0, Nat.add_zero] at y0; rw [q1] at y1; rw [q2] at y2
   have hbz := (Below.refl wr.heap.size wr).alloc (Nat.le_refl _) (.cells #[.int .u64 S', .slice ao' n' nc', .slice co' m' mc'] 45)
   have hM2 := hM.out.later hP hbz
   have hA2 := ArrP.below _ _ _ _ hAb.out hbz
   have hx3 := Box3.new (w := wr) (B := wr.heap.size) (.int .u64 S') (.slice ao' n' nc') (.slice co' m' mc') 45 rfl
   have hsz2 : w1.heap.size ≤ (wr.alloc (.cells #[.int .u64 S', .slice ao' n' nc', .slice co' m' mc'] 45)).heap.size := Nat.le_trans hsz.out hbz.size
   obtain ⟨U, hU⟩ : ∃ U, U = wr.heap.size := ⟨_, rfl⟩
   clear q0 q1 q2 hA
   go_upto_region 5 with fail
   rw [← hU] at hx3 ⊢
   refine told_wp (fun w' => Mapped (arrsF (fun j => mapT md.g (c.sub j))) w2 w' 45 3 g (some ⟨g, 0, none⟩) kk rc t es (fun i => three (E i)) ∧ ArrP w' (c.sub t) (.int .u64 S') (.slice ao' n' nc') (.slice co' m' mc') ∧ Box3 w' U (.int .u64 S') (.slice ao' n' nc') (.slice co' m' mc') ∧ w1.heap.size ≤ w'.heap.size) ⟨hM2, hA2, hx3, hsz2⟩ ?_
   clear hM hAb hM2 hA2 hx3 hsz2 hbz y0 y1 y2 hU hsz
   rintro wa ⟨hMa, hAa, hxa, hsa⟩
   have g0 := hxa.c0; have g1 := hxa.c1; have g2 := hxa.c2
   have hM := Lib.hid hMa
   have hcall := hsub'.out t hltc.out _ _ _ wa hAa ((hEnv.out.later hb2.out).later hMa.bel) (hsp.out t hltc.out)
   have hga := Lib.hid (show g < wa.heap.size by omega)
   rw [← hF'.out] at hcall
   replace hcall := Lib.hid hcall
   clear hMa hAa hxa
   go_wp2_with fail
   refine hcall.out.mono ?_
   intro e w4 hnew
   obtain ⟨S5, n5, nc5, m5, mc5, ao5, co5, rfl, hres, hb4⟩ := hnew.form
   have hMb := hM.out.later hP hb4
   obtain ⟨q0, q1, q2⟩ := hq.out
   have y0 := hMb.cell (q := 0) hlt (by decide) (v := E t 0) rfl
   have y1 := hMb.cell (q := 1) hlt (by decide) (v := E t 1) rfl
   have y2 := hMb.cell (q := 2) hlt (by decide) (v := E t 2) rfl
   rw [q0, Nat.add_zero] at y0; rw [q1] at y1; rw [q2] at y2
   clear q0 q1 q2
   have f0 := hMb.row.frozenAt (t * 3); have f1 := hMb.row.frozenAt (t * 3 + 1); have f2 := hMb.row.frozenAt (t * 3 + 2)
   have hfar := fun b (hb : b ≠ g) => far3 (w := w4) (o := t * 3) hb (.int .u64 (S5 : Nat)) (.slice ao5 n5 nc5) (.slice co5 m5 mc5)
   have hput := own_put3 hMb.row hMb.len (t := t) (.int .u64 (S5 : Nat)) (.slice ao5 n5 nc5) (.slice co5 m5 mc5)
   have hbel2 := below_far3 (o := t * 3) hMb.bel hg1 (.int .u64 (S5 : Nat)) (.slice ao5 n5 nc5) (.slice co5 m5 mc5)
   have hM3 := Lib.hid (hMb.put hP _ rfl hfar hput hbel2 (ArrQ.keep (Q' := fun b => w2.heap.size ≤ b ∧ b ≠ g) (fun _ _ _ => rfl) (fun b hq _ => ⟨by have := hM.out.bel.size; omega, by have := hga.out; omega⟩) _ _ _ _ hres))
   have hs3 := Lib.hid (show w1.heap.size ≤ _ from Nat.le_trans hsa (Nat.le_trans hb4.size (by simp [World.setCell] : w4.heap.size ≤ (((w4.setCell ⟨g, t * 3, none⟩ (.int .u64 (S5 : Nat))).setCell ⟨g, t * 3 + 1, none⟩ (.slice ao5 n5 nc5)).setCell ⟨g, t * 3 + 2, none⟩ (.slice co5 m5 mc5)).heap.size)))
   clear hfar hput hbel2 hres hb4 hMb hM hcall hnew g0 g1 g2
   go_wp2_with fail
   go_roundw
   case rel => exact ⟨t + 1, _, by omega, by go_num, hM3, hs3⟩
   case measure => simp [intOfZ]; omega
  ·obtain rfl : t = kk := by omega
   have hmb := hM.out.bel
   have hI0 := hM.out.inRow (B := w.heap.size + 2) (by omega)
   have hx3 := hx2.out.later hmb
   have hy3 := hy2.out.later hmb
   have hb3 := hb2.out.trans (hmb.mono (by omega))
   have hN3 := (hNw'.out.below hb2.out).below hmb
   have hE3 := (hEnv.out.later hb2.out).later hmb
   rw [hkk'.out] at hI0
   obtain rfl := hkk'.out
   go_upto_region 7 with fail
   refine told_wp (fun w' => Below w.heap.size w w' ∧ Box7 w' w.heap.size (.int .u64 c.L) (.int .i64 c.K) (.bool c.N.neg) (.slice a1 c.N.an ac) (.slice b1 c.N.am bc) (.int .i64 c.C) (.slice io c.k kc) ∧ Box7 w' (w.heap.size + 1) (.int .u64 0) (.int .i64 0) (.bool false) (.slice none 0 0) (.slice none 0 0) (.int .i64 0) (.slice none 0 0) ∧ NumP w' c.N (.bool c.N.neg) (.slice a1 c.N.an ac) (.slice b1 c.N.am bc) ∧ InRow w' (w.heap.size + 2) ro c.k (fun j => mapT md.g (c.sub j)) ∧ md.Env w') ⟨hb3, hx3, hy3, hN3, hI0, hE3⟩ ?_
   clear hM hmb hI0 hx3 hy3 hb3 hN3 hE3 hsz
   rintro w3 ⟨bb, x, y, hN, hI, hEv⟩
   cases md with
   | same =>
    obtain rfl : F = .func (.func 101) #[] #[] := hF'.out
    have ssamex0 := True.intro
    go_region_held3 (fun w' => w'.cell? ⟨w.heap.size, 0, none⟩ = some (.int .u64 c.L) ∧ w'.cell? ⟨w.heap.size, 1, none⟩ = some (.int .i64 c.K) ∧ w'.cell? ⟨w.heap.size, 2, none⟩ = some (.bool c.N.neg) ∧ w'.cell? ⟨w.heap.size, 3, none⟩ = some (.slice a1 c.N.an ac) ∧ w'.cell? ⟨w.heap.size, 4, none⟩ = some (.slice b1 c.N.am bc) ∧ w'.cell? ⟨w.heap.size, 5, none⟩ = some (.int .i64 c.C))
     (first | with_reducible exact ⟨x.drew.c0, x.drew.c1, x.drew.c2, x.drew.c3, x.drew.c4, x.drew.c5⟩ | with_reducible exact ⟨x.c0, x.c1, x.c2, x.c3, x.c4, x.c5⟩ | go_keep)
     (first
     | (go_at_call 101; clear ssamex0; have hd := (Below.refl w3.heap.size w3).drew; have bb := bb.drew; have x := x.drew; have y := y.drew; have hN := hN.below hd; have hI := hI.later hd; have hEv := hEv.later hd; clear hd; refine (asItIs_any c.L _).mono ?_; rintro e w' ⟨rfl, hb⟩; have bb := below_then bb (Nat.le_refl _) hb; have x := x.later hb; have y := y.later hb; have hN := hN.below hb; have hI := hI.later hb; clear hb hEv; have ssamex1 := True.intro)
     | (go_at_call 104; clear ssamex1; have hlt1 := y.lt; refine (numAnew_any c.N _ _ _ _ hN hna hnb).mono ?_; rintro e w' ⟨po, pc, qo, qc, rfl, hQ, hb⟩; have bb := below_then bb (Nat.le_refl _) hb; have x := x.later hb; have y := y.later hb; have hI := hI.later hb; clear hb hN; have d0 := y.c0; have d1 := y.c1; have d2 := y.c2; have d3 := y.c3; have d4 := y.c4; have d5 := y.c5; have d6 := y.c6; have f0 := y.fr 0; have f1 := y.fr 1; have f2 := y.fr 2; have f3 := y.fr 3; have f4 := y.fr 4; have f5 := y.fr 5; have f6 := y.fr 6; have ssamex2 := True.intro))
    have z := y.setAll (.int .u64 (Md.same.g c.L : Nat)) (.int .i64 c.K) (.bool c.N.neg) (.slice po c.N.an pc) (.slice qo c.N.am qc) (.int .i64 c.C) (.slice ro c.k rc)
    have e0 := z.c0; have e1 := z.c1; have e2 := z.c2; have e3 := z.c3; have e4 := z.c4; have e5 := z.c5; have e6 := z.c6
    have hbw := Lib.hid (below_setAll bb (B := w.heap.size + 1) (by omega) (.int .u64 (Md.same.g c.L : Nat)) (.int .i64 c.K) (.bool c.N.neg) (.slice po c.N.an pc) (.slice qo c.N.am qc) (.int .i64 c.C) (.slice ro c.k rc))
    have hne := fun b (hb : w.heap.size + 2 ≤ b) => heap_set7 (w := w') (B := w.heap.size + 1) (b := b) (by omega) (.int .u64 (Md.same.g c.L : Nat)) (.int .i64 c.K) (.bool c.N.neg) (.slice po c.N.an pc) (.slice qo c.N.am qc) (.int .i64 c.C) (.slice ro c.k rc)
    have hres := Lib.hid (cell_res (md := .same) hgl.out.1 hgl.out.2.1 hgl.out.2.2 (hQ.keep (Q' := (w.heap.size ≤ ·)) (fun b hb _ => hne b (by omega)) (fun b hb _ => by omega)) hrn.out (hI.q.keep (Q' := (w.heap.size ≤ ·)) (fun b hb _ => hne b hb) (fun b hb _ => by omega) (fun j d0 d1 d2 hd => ArrQ.keep (fun b hb _ => hne b hb) (fun b hb _ => by omega) _ _ _ _ hd)))
    clear z x y bb hI hQ hne
    go_wp2_with fail
    refine bodyPost_ret (v := .agg #[.int .u64 (Md.same.g c.L : Nat), .int .i64 c.K, .bool c.N.neg, .slice po c.N.an pc, .slice qo c.N.am qc, .int .i64 c.C, .slice ro c.k rc]) (by simp [results, Tryz.results102, go_sem, e0, e1, e2, e3, e4, e5, e6]) rfl ?_
    exact ⟨fun q => [Value.int .u64 (Md.same.g c.L : Nat), .int .i64 c.K, .bool c.N.neg, .slice po c.N.an pc, .slice qo c.N.am qc, .int .i64 c.C, .slice ro c.k rc].getD q undef, rfl, hres.out, hbw.out⟩
end Go.Proofs.YtaepelipkkmeaaaGreat
namespace Go.Proofs.YtaepelipkkmeaaaGreat
open Go.RowKit Num
theorem CellsQ.keep {w w' : World} {Q Q' : Nat → Prop} {co : Option Addr} {m : Nat} {cs : Nat → CellD} (h : CellsQ w Q co m cs) (hk : ∀ b, Q b → b < w.heap.size → w'.heap[b]? = w.heap[b]?) (hq : ∀ b, Q b → b < w.heap.size → Q' b) : CellsQ w' Q' co m cs := by
 by_cases h0 : m = 0
 ·exact .inl h0
 rcases h with h | ⟨b, o, rfl, h1, h2⟩
 ·exact .inl h
 ·have hb : b < w.heap.size := by
   obtain ⟨e, h3, _⟩ := h2 0 (by omega)
   exact World.block_lt_of_cell? w _ (h3 0 (by decide))
  refine .inr ⟨b, o, rfl, hq b h1 hb, fun i hi => ?_⟩
  obtain ⟨e, h3, h4⟩ := h2 i hi
  exact ⟨e, fun t ht => cell_kept (h3 t ht) (hk b h1 hb), h4.keep hk hq⟩
theorem arr_res {md : Md} {S n m : Nat} {sh : Nat → Int} {L : Nat → Nat} {K C : Nat → Int} {N : Nat → NumF} {k : Nat → Nat} {sub : Nat → Nat → Tree} {w : World} {Q : Nat → Prop} {po qo : Option Addr} {pc qc : Nat} (hS : IsL (md.g S)) (hz : ∀ j, j < n → IsZ (sh j)) (hn : IsN n pc) (hs : SlZQ w Q po n sh) (hm : IsN m qc)
  (hc : CellsQ w Q qo m (fun i => mapC md.g ((fun i => ⟨L i, K i, N i, C i, k i, sub i⟩) i))) : ArrQ w Q (mapT md.g (.arr S n sh m L K C N k sub)) (.int .u64 (md.g S : Nat)) (.slice po n pc) (.slice qo m qc) :=
 ⟨rfl, hS, ⟨po, pc, rfl, hn, hs, hz⟩, qo, qc, rfl, hm, hc⟩
theorem partsC_in {S n m : Nat} {sh : Nat → Int} {L : Nat → Nat} {K C : Nat → Int} {N : Nat → NumF} {k : Nat → Nat} {sub : Nat → Nat → Tree} {i : Nat} (hi : i < m) : partsC ((fun i => ⟨L i, K i, N i, C i, k i, sub i⟩) i) ≤ partsT (.arr S n sh m L K C N k sub) := by
 have b := sumN_one (fun i => 1 + (N i).an + (N i).am + sumN (fun j => partsT (sub i j)) (k i)) hi
 show 1 + (N i).an + (N i).am + sumN (fun j => partsT (sub i j)) (k i) ≤ 1 + n + sumN (fun i => 1 + (N i).an + (N i).am + sumN (fun j => partsT (sub i j)) (k i)) m
 have b' : 1 + (N i).an + (N i).am + sumN (fun j => partsT (sub i j)) (k i) ≤ sumN (fun i => 1 + (N i).an + (N i).am + sumN (fun j => partsT (sub i j)) (k i)) m := b
 omega
theorem arrayBy_of (md : Md) (S n : Nat) (sh : Nat → Int) (m : Nat) (L : Nat → Nat) (K C : Nat → Int) (N : Nat → NumF) (k : Nat → Nat) (sub : Nat → Nat → Tree) (h : CellsBy md m (fun i => ⟨L i, K i, N i, C i, k i, sub i⟩)) : ArrBy md (.arr S n sh m L K C N k sub) := by
 intro c0 c1 c2 w hA hE hp
 obtain ⟨rfl, hS, ⟨ao, nc, rfl, hn, hsh, hz⟩, co, mc, rfl, hm, hc⟩ := hA
 have n1 := hn.1; have n2 := hn.2.1; have m1 := hm.1; have m2 := hm.2.1
 have hph := parts_here (S := S) (n := n) (m := m) (sh := sh) (L := L) (K := K) (C := C) (N := N) (k := k) (sub := sub)
 have hm50 : m ≤ 5000 := by omega
 have hn6 : n ≤ 6000 := by omega
 have hp' := Lib.hid (show ∀ i, i < m → partsC ((fun i => ⟨L i, K i, N i, C i, k i, sub i⟩) i) ≤ 5000 from fun i hi => Nat.le_trans (partsC_in hi) hp)
 have hgl := Lib.hid (show IsL (md.g S) ∧ ∀ j, j < n → IsZ (sh j) from ⟨Md.g_is hE hS, hz⟩)
 have hL0 := Lib.hid hS; have hmn := Lib.hid hm
 obtain ⟨F, hF⟩ : ∃ F, F = md.fn := ⟨_, rfl⟩
 have hF' := Lib.hid hF
 rw [← hF]
 have hbel := (((Below.refl w.heap.size w).alloc (Nat.le_refl _) (.cells #[.int .u64 S, .slice ao n nc, .slice co m mc] 45)).alloc (by simp) (.cells #[.int .u64 0, .slice none 0 0, .slice none 0 0] 45))
 have hx := (Box3.new (w := w) (B := w.heap.size) (.int .u64 S) (.slice ao n nc) (.slice co m mc) 45 rfl).alloc (.cells #[.int .u64 0, .slice none 0 0, .slice none 0 0] 45)
 have hy := Box3.new (w := w.alloc (.cells #[.int .u64 S, .slice ao n nc, .slice co m mc] 45)) (B := w.heap.size + 1) (.int .u64 0) (.slice none 0 0) (.slice none 0 0) 45 (by simp)
 have hs0 := Lib.hid hsh
 have hc0 : Hid (CellsP w co m (fun i => ⟨L i, K i, N i, C i, k i, sub i⟩)) := Lib.hid hc
 have hE0 := Lib.hid hE
 have h' := h
 clear hph hp hn hm hsh hz hc hE hS hF
 go_enter Tryz.func147, Tryz.ntmps147
 go_upto_region 1 with fail
 refine told_wp (fun w' => Below w.heap.size w w' ∧ Box3 w' w.heap.size (.int .u64 S) (.slice ao n nc) (.slice co m mc) ∧ Box3 w' (w.heap.size + 1) (.int .u64 0) (.slice none 0 0) (.slice none 0 0)) ⟨hbel, hx, hy⟩ ?_
 clear hbel hx hy
 rintro w3 ⟨bb, x, y⟩
 have hs := hs0.out.below bb
 have hcl := hc0.out.later bb
 have hEv := hE0.out.later bb
 cases md with
 | same =>
  obtain rfl : F = .func (.func 101) #[] #[] := hF'.out
  have hcells : ∀ w, CellsP w co m (fun i => ⟨L i, K i, N i, C i, k i, sub i⟩) → (Md.same).Env w → Calls Tryz.prog 100 #[.slice co m mc, .func (.func 101) #[] #[]] w (CellsNew m (fun i => mapC (Md.same).g ((fun i => ⟨L i, K i, N i, C i, k i, sub i⟩) i)) w) := fun w a b => h' co mc w hmn.out a b hm50 hp'.out
  replace hcells := Lib.hid hcells
  have ssame0 := True.intro
  go_region_held3 (fun w' => w'.cell? ⟨w.heap.size, 0, none⟩ = some (.int .u64 S) ∧ w'.cell? ⟨w.heap.size, 1, none⟩ = some (.slice ao n nc) ∧ w'.cell? ⟨w.heap.size, 2, none⟩ = some (.slice co m mc))
   (first | with_reducible exact ⟨x.drew.c0, x.drew.c1, x.drew.c2⟩ | with_reducible exact ⟨x.c0, x.c1, x.c2⟩ | go_keep)
   (first
   | (go_at_call 101; clear ssame0; have hd := (Below.refl w3.heap.size w3).drew; have bb := bb.drew; have x := x.drew; have y := y.drew; have hs := hs.below hd; have hcl := hcl.later hd; have hEv := hEv.later hd; clear hd; refine (asItIs_any S _).mono ?_; rintro e w' ⟨rfl, hb⟩; have bb := below_then bb (Nat.le_refl _) hb; have x := x.later hb; have y := y.later hb; have hs := hs.below hb; have hcl := hcl.later hb; have hEv := hEv.later hb; clear hb; have ssame1 := True.intro)
   | (go_at_call 81; clear ssame1; have hlt1 := y.lt; refine (cloneI_any ao n nc (intCells sh n) _ hn6 (by rw [intCells_length, Nat.mul_one]) hs.lies (intCells_one _ _)).mono ?_; rintro e w' ⟨po, pc, rfl, hr, hb⟩; have bb := below_then bb (Nat.le_refl _) hb; have x := x.later hb; have y := y.later hb; have hcl := hcl.later hb; have hEv := hEv.later hb; clear hb hs; have ssame2 := True.intro)
   | (go_at_call 100; clear ssame2; have hlt2 := y.lt; refine (hcells.out _ hcl hEv).mono ?_; rintro e w' ⟨qo, qc, rfl, hqn, hQ, hb⟩; have bb := below_then bb (Nat.le_refl _) hb; have x := x.later hb; have y := y.later hb; have hr := hr.later hb; clear hb hcl hEv; have d0 := y.c0; have d1 := y.c1; have d2 := y.c2; have f0 := y.fr 0; have f1 := y.fr 1; have f2 := y.fr 2; have ssame3 := True.intro))
  have z := y.set (.int .u64 ((Md.same).g S : Nat)) (.slice po n pc) (.slice qo m qc)
  have e0 := z.c0; have e1 := z.c1; have e2 := z.c2
  have hbw := Lib.hid (below_set3 bb (B := w.heap.size + 1) (by omega) (.int .u64 ((Md.same).g S : Nat)) (.slice po n pc) (.slice qo m qc))
  have hne := fun b (hb : w.heap.size + 1 < b) => heap_set3 (w := w') (B := w.heap.size + 1) (b := b) (by omega) (.int .u64 ((Md.same).g S : Nat)) (.slice po n pc) (.slice qo m qc)
  obtain ⟨hpn, hpq⟩ := hr.slzQ hn6
  have hres := Lib.hid (arr_res (md := Md.same) hgl.out.1 hgl.out.2 hpn (hpq.keep (Q' := (w.heap.size ≤ ·)) (fun b hb _ => hne b (by omega)) (fun b hb _ => by omega)) hqn (hQ.keep (Q' := (w.heap.size ≤ ·)) (fun b hb _ => hne b (by omega)) (fun b hb _ => by omega)))
  clear z x y bb hr hQ hne hpq hpn
  go_wp2_with fail
  refine bodyPost_ret (v := .agg #[.int .u64 ((Md.same).g S : Nat), .slice po n pc, .slice qo m qc]) (by simp [results, Tryz.results147, go_sem, e0, e1, e2]) rfl ?_
  exact ⟨_, _, _, rfl, hres.out, hbw.out⟩
theorem arrayBy_any (md : Md) : ∀ A, ArrBy md A := by
 intro A
 induction A with
 | leaf => intro c0 c1 c2 w h; exact (ArrP.leaf h).elim
 | arr S n sh m L K C N k sub ih => exact arrayBy_of md S n sh m L K C N k sub (cellsBy_of md m (fun i => ⟨L i, K i, N i, C i, k i, sub i⟩) fun i _ => cellBy_of md ((fun i => ⟨L i, K i, N i, C i, k i, sub i⟩) i) fun _ _ => ih i _)
theorem cellBy_any (md : Md) (c : CellD) : CellBy md c := cellBy_of md c fun _ _ => arrayBy_any md _
theorem cellsBy_any (md : Md) (m : Nat) (cs : Nat → CellD) : CellsBy md m cs := cellsBy_of md m cs fun _ _ => cellBy_any md _
end Go.Proofs.YtaepelipkkmeaaaGreat
namespace Go.Proofs.YtaepelipkkmeaaaGreat
open Go.RowKit Num
theorem TreeNew.plain {T : Tree} {w w' : World} {e : Ending} (h : TreeNew T w e w') : TreePost T w e w' := by
 obtain ⟨d0, d1, d2, rfl, hQ, hb⟩ := h
 exact ⟨d0, d1, d2, rfl, ArrQ.plain _ _ _ _ hQ, hb⟩
theorem isZ0 : IsZ 0 := ⟨by decide, by decide⟩
theorem isL0 : IsL 0 := by show (0 : Nat) < 18446744073709551616; decide
theorem isN0 : IsN 0 0 := ⟨Nat.le_refl _, by decide, by decide⟩
theorem cell_aside7 {w : World} {B : Nat} {x : Int} {p : Addr} (z : Box7 w B (.int .u64 0) (.int .i64 0) (.bool false) (.slice none 0 0) (.slice none 0 0) (.int .i64 0) (.slice none 0 0)) (u0 u1 u2 u3 u4 u5 u6 : Value) (h : w.cell? p = some (.int .u32 x)) :
  (((((((w.setCell ⟨B, 0, none⟩ u0).setCell ⟨B, 1, none⟩ u1).setCell ⟨B, 2, none⟩ u2).setCell ⟨B, 3, none⟩ u3).setCell ⟨B, 4, none⟩ u4).setCell ⟨B, 5, none⟩ u5).setCell ⟨B, 6, none⟩ u6).cell? p = some (.int .u32 x) := by
 have n0 : p ≠ ⟨B, 0, none⟩ := fun e => by rw [e, z.c0] at h; injection h with h; injection h with h; cases h
 have n1 : p ≠ ⟨B, 1, none⟩ := fun e => by rw [e, z.c1] at h; injection h with h; injection h with h; cases h
 have n2 : p ≠ ⟨B, 2, none⟩ := fun e => by rw [e, z.c2] at h; injection h with h; cases h
 have n3 : p ≠ ⟨B, 3, none⟩ := fun e => by rw [e, z.c3] at h; injection h with h; cases h
 have n4 : p ≠ ⟨B, 4, none⟩ := fun e => by rw [e, z.c4] at h; injection h with h; cases h
 have n5 : p ≠ ⟨B, 5, none⟩ := fun e => by rw [e, z.c5] at h; injection h with h; injection h with h; cases h
 have n6 : p ≠ ⟨B, 6, none⟩ := fun e => by rw [e, z.c6] at h; injection h with h; cases h
 rw [cell_set_ne n6, cell_set_ne n5, cell_set_ne n4, cell_set_ne n3, cell_set_ne n2, cell_set_ne n1, cell_set_ne n0]
 exact h
theorem Sl.aside7 {w : World} {B n : Nat} {ao : Option Addr} {f : Nat → Nat} (h : Sl w ao n f) (z : Box7 w B (.int .u64 0) (.int .i64 0) (.bool false) (.slice none 0 0) (.slice none 0 0) (.int .i64 0) (.slice none 0 0)) (u0 u1 u2 u3 u4 u5 u6 : Value) :
  Sl (((((((w.setCell ⟨B, 0, none⟩ u0).setCell ⟨B, 1, none⟩ u1).setCell ⟨B, 2, none⟩ u2).setCell ⟨B, 3, none⟩ u3).setCell ⟨B, 4, none⟩ u4).setCell ⟨B, 5, none⟩ u5).setCell ⟨B, 6, none⟩ u6) ao n f := by
 rcases h with h | ⟨b, o, e, h⟩
 ·exact .inl h
 ·exact .inr ⟨b, o, e, fun j hj => cell_aside7 z u0 u1 u2 u3 u4 u5 u6 (h j hj)⟩
theorem intAC : IntAC := by
 intro x w hx
 have hy := Box7.new (w := w) (B := w.heap.size) (.int .u64 0) (.int .i64 0) (.bool false) (.slice none 0 0) (.slice none 0 0) (.int .i64 0) (.slice none 0 0) 65 rfl
 have hbel := (Below.refl w.heap.size w).alloc (Nat.le_refl _) (.cells #[.int .u64 0, .int .i64 0, .bool false, .slice none 0 0, .slice none 0 0, .int .i64 0, .slice none 0 0] 65)
 have hx1 := hx.1; have hx2 := hx.2
 go_enter Tryz.func44, Tryz.ntmps44
 go_upto_region 1 with fail
 refine told_wp (fun w' => Below w.heap.size w w' ∧ Box7 w' w.heap.size (.int .u64 0) (.int .i64 0) (.bool false) (.slice none 0 0) (.slice none 0 0) (.int .i64 0) (.slice none 0 0)) ⟨hbel, hy⟩ ?_
 clear hbel hy
 rintro w2 ⟨b2, y2⟩
 replace b2 := Lib.hid b2; replace y2 := Lib.hid y2
 go_wp2_with fail
 refine (of_any x _ hx1 hx2).mono ?_
 rintro e w3 ⟨b, po, pn, pc, qo, qn, qc, rfl, hR, hb3⟩
 have y3 := y2.out.later hb3
 obtain ⟨f, h1, h2, h3, h4, h5⟩ := hR.top.ex
 obtain ⟨h, k1, k2, k3, k4, k5⟩ := hR.bot.ex
 clear k5
 have hpn := h4.len_le (int_32 hx1 hx2)
 rw [Int.natAbs_natCast] at k4
 have hqn := k4.len_le (k := 1) (by decide)
 have hA := h3.aside7 y3 (.int .u64 0) (.int .i64 0) (.bool b) (.slice po pn pc) (.slice qo qn qc) (.int .i64 0) (.slice none 0 0)
 have hB := k3.aside7 y3 (.int .u64 0) (.int .i64 0) (.bool b) (.slice po pn pc) (.slice qo qn qc) (.int .i64 0) (.slice none 0 0)
 have g0 := y3.c0; have g1 := y3.c1; have g2 := y3.c2; have g3 := y3.c3; have g4 := y3.c4; have g5 := y3.c5; have g6 := y3.c6
 have f0 := y3.fr 0; have f1 := y3.fr 1; have f2 := y3.fr 2; have f3 := y3.fr 3; have f4 := y3.fr 4; have f5 := y3.fr 5; have f6 := y3.fr 6
 have z := y3.setAll (.int .u64 0) (.int .i64 0) (.bool b) (.slice po pn pc) (.slice qo qn qc) (.int .i64 0) (.slice none 0 0)
 have e0 := z.c0; have e1 := z.c1; have e2 := z.c2; have e3 := z.c3; have e4 := z.c4; have e5 := z.c5; have e6 := z.c6
 have hbw := Lib.hid (below_setAll (b2.out.trans (hb3.mono b2.out.size)) (B := w.heap.size) (Nat.le_refl _) (.int .u64 0) (.int .i64 0) (.bool b) (.slice po pn pc) (.slice qo qn qc) (.int .i64 0) (.slice none 0 0))
 have hof := Lib.hid (show OfZ ⟨b, pn, f, qn, h⟩ x from ⟨h5, h4, k4⟩)
 have hn := Lib.hid (And.intro hA hB)
 have hlim := Lib.hid (And.intro h4.lim k4.lim)
 have hpi := Lib.hid (show IsN pn pc ∧ IsN qn qc from ⟨⟨h1, h2, by omega⟩, k1, k2, by omega⟩)
 clear z y3 hA hB hR hb3 h3 h4 k3 k4 h5 y2 b2 hx hpn hqn h1 h2 k1 k2
 go_wp2_with fail
 refine bodyPost_ret (v := .agg #[.int .u64 0, .int .i64 0, .bool b, .slice po pn pc, .slice qo qn qc, .int .i64 0, .slice none 0 0]) (by simp [results, Tryz.results44, go_sem, e0, e1, e2, e3, e4, e5, e6]) rfl ?_
 refine ⟨_, hof.out, fun q => [Value.int .u64 0, .int .i64 0, .bool b, .slice po pn pc, .slice qo qn qc, .int .i64 0, .slice none 0 0].getD q undef, rfl, ⟨rfl, isL0, rfl, isZ0, ⟨rfl, ⟨_, _, rfl, hpi.out.1, hn.out.1, hlim.out.1⟩, ⟨_, _, rfl, hpi.out.2, hn.out.2, hlim.out.2⟩⟩, rfl, isZ0, none, 0, rfl, isN0, .inl rfl⟩, hbw.out⟩
theorem vec_parts_of {m : Nat} {cs : Nat → CellD} (h : partsT (vecT m cs) ≤ 5000) : m ≤ 5000 ∧ ∀ i, i < m → partsC (cs i) ≤ 5000 := by
 have a := parts_here (S := 0) (n := 1) (m := m) (sh := fun _ => (m : Int)) (L := fun i => (cs i).L) (K := fun i => (cs i).K) (C := fun i => (cs i).C) (N := fun i => (cs i).N) (k := fun i => (cs i).k) (sub := fun i => (cs i).sub)
 have h' : partsT (.arr 0 1 (fun _ => (m : Int)) m (fun i => (cs i).L) (fun i => (cs i).K) (fun i => (cs i).C) (fun i => (cs i).N) (fun i => (cs i).k) fun i => (cs i).sub) ≤ 5000 := h
 exact ⟨by omega, fun i hi => Nat.le_trans (partsC_in (S := 0) (n := 1) (sh := fun _ => (m : Int)) (L := fun i => (cs i).L) (K := fun i => (cs i).K) (C := fun i => (cs i).C) (N := fun i => (cs i).N) (k := fun i => (cs i).k) (sub := fun i => (cs i).sub) hi) h'⟩
theorem vectorC : VectorC := by
 intro cs co m mc w hm hc hp
 obtain ⟨h50, hpc⟩ := vec_parts_of hp
 have m1 := hm.1; have m2 := hm.2.1
 have hy := Box3.new (w := w) (B := w.heap.size) (.int .u64 0) (.slice none 0 0) (.slice none 0 0) 45 rfl
 have hbel := (Below.refl w.heap.size w).alloc (Nat.le_refl _) (.cells #[.int .u64 0, .slice none 0 0, .slice none 0 0] 45)
 have hc' := Lib.hid hc; have hm' := Lib.hid hm; have hpc' := Lib.hid hpc
 clear hc hp hpc hm
 go_enter Tryz.func45, Tryz.ntmps45
 go_upto_region 1 with fail
 refine told_wp (fun w' => Below w.heap.size w w' ∧ Box3 w' w.heap.size (.int .u64 0) (.slice none 0 0) (.slice none 0 0)) ⟨hbel, hy⟩ ?_
 clear hbel hy
 rintro w2 ⟨b2, y2⟩
 have b3 := b2.alloc b2.size (.cells #[.int .i64 (m : Int)] 3)
 have y3 := y2.alloc (.cells #[.int .i64 (m : Int)] 3)
 have s3 := slz_one w2 3 (m : Int)
 have hlt2 := y2.lt
 obtain ⟨U, hU⟩ : ∃ U, U = w2.heap.size := ⟨_, rfl⟩
 rw [← hU] at s3 hlt2
 have hU3 : U < (w2.alloc (.cells #[.int .i64 (m : Int)] 3)).heap.size := by simp [hU]
 have H := Lib.hid (And.intro b3 (And.intro y3 (And.intro s3 hU3)))
 clear b2 y2 b3 y3 s3 hU3
 go_wp2_with fail
 rw [← hU]
 refine told_calls (fun w' => Below w.heap.size w w' ∧ Box3 w' w.heap.size (.int .u64 0) (.slice none 0 0) (.slice none 0 0) ∧ SlZ w' (some ⟨U, 0, none⟩) 1 (fun _ => (m : Int)) ∧ U < w'.heap.size) H.out ?_
 clear H hU
 rintro w3 ⟨b3, y3, s3, hU3⟩
 have hcall : Calls Tryz.prog 100 #[.slice co m mc, .func (.func 101) #[] #[]] w3 (CellsNew m (fun i => mapC Md.same.g (cs i)) w3) := cellsBy_any .same m cs co mc w3 hm'.out (CellsP.later hc'.out b3) trivial h50 hpc'.out
 refine hcall.mono ?_
 rintro e w4 ⟨qo, qc, rfl, hqn, hQ, hb4⟩
 have y4 := y3.later hb4
 have g0 := y4.c0; have g1 := y4.c1; have g2 := y4.c2
 have f0 := y4.fr 0; have f1 := y4.fr 1; have f2 := y4.fr 2
 have z := y4.set (.int .u64 0) (.slice (some ⟨U, 0, none⟩) 1 1) (.slice qo m qc)
 have e0 := z.c0; have e1 := z.c1; have e2 := z.c2
 have hbw := Lib.hid (below_set3 (b3.trans (hb4.mono b3.size)) (B := w.heap.size) (Nat.le_refl _) (.int .u64 0) (.slice (some ⟨U, 0, none⟩) 1 1) (.slice qo m qc))
 have hs5 : SlZQ (((w4.setCell ⟨w.heap.size, 0, none⟩ (.int .u64 0)).setCell ⟨w.heap.size, 1, none⟩ (.slice (some ⟨U, 0, none⟩) 1 1)).setCell ⟨w.heap.size, 2, none⟩ (.slice qo m qc)) (fun _ => True) (some ⟨U, 0, none⟩) 1 (fun _ => (m : Int)) := by
  rcases SlZ.below s3 hb4 with h | ⟨b, o, e, h⟩
  ·exact .inl h
  ·injection e with e
   injection e with e1 e2 _
   subst e1; subst e2
   refine .inr ⟨U, 0, rfl, trivial, fun j hj => ?_⟩
   exact cell_kept (h j hj) (heap_set3 (by omega) _ _ _)
 have hq5 := hQ.keep (Q' := fun _ => True) (fun b hb _ => heap_set3 (w := w4) (B := w.heap.size) (b := b) (by omega) (.int .u64 0) (.slice (some ⟨U, 0, none⟩) 1 1) (.slice qo m qc)) (fun _ _ _ => trivial)
 have hcs : (fun i => mapC Md.same.g (cs i)) = cs := funext fun i => mapC_same _
 rw [hcs] at hq5
 have hm47 := hm'.out.2.2
 have hres := Lib.hid (show ArrP _ (vecT m cs) (.int .u64 ((0 : Nat) : Int)) (.slice (some ⟨U, 0, none⟩) 1 1) (.slice qo m qc) from ArrQ.plain (Q := fun _ => True) (vecT m cs) _ _ _ ⟨rfl, by show (0 : Nat) < 18446744073709551616; decide, ⟨_, _, rfl, ⟨Nat.le_refl _, by decide, by decide⟩, hs5, fun j hj => ⟨by show (-9223372036854775808 : Int) ≤ (m : Int); omega, by show (m : Int) ≤ 9223372036854775807; omega⟩⟩, _, _, rfl, hqn, hq5⟩)
 clear z y4 y3 hQ hs5 hq5 b3 hb4 s3
 go_wp2_with fail
 refine bodyPost_ret (v := .agg #[.int .u64 0, .slice (some ⟨U, 0, none⟩) 1 1, .slice qo m qc]) (by simp [results, Tryz.results45, go_sem, e0, e1, e2]) rfl ?_
 exact ⟨_, _, _, rfl, hres.out, hbw.out⟩
end Go.Proofs.YtaepelipkkmeaaaGreat
namespace Go.Proofs.YtaepelipkkmeaaaGreat
open Go.RowKit Num
theorem numCell_any (N : NumF) (c0 c1 c2 : Value) (w : World) (h : NumP w N c0 c1 c2) (ha6 : N.an ≤ 6000) (hb6 : N.am ≤ 6000) :
  Calls Tryz.prog 48 #[.agg #[c0, c1, c2]] w (fun e w' => ∃ ao ac bo bc, e = .returned (.agg #[.int .u64 0, .int .i64 0, .bool N.neg, .slice ao N.an ac, .slice bo N.am bc, .int .i64 0, .slice none 0 0]) ∧ NumQ w' (w.heap.size ≤ ·) N (.bool N.neg) (.slice ao N.an ac) (.slice bo N.am bc) ∧ Below w.heap.size w w') := by
 have hN := Lib.hid h
 obtain ⟨rfl, ⟨ao, ac, rfl, _⟩, ⟨bo, bc, rfl, _⟩⟩ := h
 have hbel := (((Below.refl w.heap.size w).alloc (Nat.le_refl _) (.cells #[.bool N.neg, .slice ao N.an ac, .slice bo N.am bc] 24)).alloc (by simp) (.cells #[.int .u64 0, .int .i64 0, .bool false, .slice none 0 0, .slice none 0 0, .int .i64 0, .slice none 0 0] 65))
 have hx := (Box3.new (w := w) (B := w.heap.size) (.bool N.neg) (.slice ao N.an ac) (.slice bo N.am bc) 24 rfl).alloc (.cells #[.int .u64 0, .int .i64 0, .bool false, .slice none 0 0, .slice none 0 0, .int .i64 0, .slice none 0 0] 65)
 have hy := Box7.new (w := w.alloc (.cells #[.bool N.neg, .slice ao N.an ac, .slice bo N.am bc] 24)) (B := w.heap.size + 1) (.int .u64 0) (.int .i64 0) (.bool false) (.slice none 0 0) (.slice none 0 0) (.int .i64 0) (.slice none 0 0) 65 (by simp)
 go_enter Tryz.func48, Tryz.ntmps48
 go_upto_region 1 with fail
 refine told_wp (fun w' => Below w.heap.size w w' ∧ Box3 w' w.heap.size (.bool N.neg) (.slice ao N.an ac) (.slice bo N.am bc) ∧ Box7 w' (w.heap.size + 1) (.int .u64 0) (.int .i64 0) (.bool false) (.slice none 0 0) (.slice none 0 0) (.int .i64 0) (.slice none 0 0)) ⟨hbel, hx, hy⟩ ?_
 clear hbel hx hy
 rintro w2 ⟨b2, x2, y2⟩
 have z0 := x2.c0; have z1 := x2.c1; have z2 := x2.c2
 have hcall := Lib.hid (numAnew_any N _ _ _ w2 (hN.out.below b2) ha6 hb6)
 have hlt := y2.lt
 clear x2
 go_wp2_with fail
 refine hcall.out.mono ?_
 rintro e w3 ⟨po, pc, qo, qc, rfl, hQ, hb3⟩
 have y3 := y2.later hb3
 have g0 := y3.c0; have g1 := y3.c1; have g2 := y3.c2; have g3 := y3.c3; have g4 := y3.c4; have g5 := y3.c5; have g6 := y3.c6
 have f0 := y3.fr 0; have f1 := y3.fr 1; have f2 := y3.fr 2; have f3 := y3.fr 3; have f4 := y3.fr 4; have f5 := y3.fr 5; have f6 := y3.fr 6
 have z := y3.setAll (.int .u64 0) (.int .i64 0) (.bool N.neg) (.slice po N.an pc) (.slice qo N.am qc) (.int .i64 0) (.slice none 0 0)
 have e0 := z.c0; have e1 := z.c1; have e2 := z.c2; have e3 := z.c3; have e4 := z.c4; have e5 := z.c5; have e6 := z.c6
 have hbw := Lib.hid (below_setAll (below_then b2 (Nat.le_refl _) hb3) (B := w.heap.size + 1) (by omega) (.int .u64 0) (.int .i64 0) (.bool N.neg) (.slice po N.an pc) (.slice qo N.am qc) (.int .i64 0) (.slice none 0 0))
 have hres := Lib.hid (hQ.keep (Q' := (w.heap.size ≤ ·)) (fun b hb _ => heap_set7 (w := w3) (B := w.heap.size + 1) (b := b) (by omega) (.int .u64 0) (.int .i64 0) (.bool N.neg) (.slice po N.an pc) (.slice qo N.am qc) (.int .i64 0) (.slice none 0 0)) (fun b hb _ => by omega))
 clear y2 y3 z hQ hb3 b2 z0 z1 z2 hcall
 go_wp2_with fail
 refine bodyPost_ret (v := .agg #[.int .u64 0, .int .i64 0, .bool N.neg, .slice po N.an pc, .slice qo N.am qc, .int .i64 0, .slice none 0 0]) (by simp [results, Tryz.results48, go_sem, e0, e1, e2, e3, e4, e5, e6]) rfl ?_
 exact ⟨_, _, _, _, rfl, hres.out, hbw.out⟩
end Go.Proofs.YtaepelipkkmeaaaGreat
namespace Go.Proofs.YtaepelipkkmeaaaGreat
open Go.RowKit Num
theorem smallR_no {P : Int} {Q : Nat} (h : Q ≠ 1) : smallR P Q = .tuple #[.int .i64 0, .bool false] := by
 have e : smallQ P Q = false := by unfold smallQ; rw [decide_eq_false h]; rfl
 unfold smallR smallP; rw [e]; rfl
theorem smallP_any (ab : Bool) (ap aq : Option Addr) (an ac am ae : Nat) (P : Int) (Q : Nat) (w : World) (A : Rt w ab ap an ac aq am ae P Q) (lA : Low P Q) :
  Calls Tryz.prog 116 #[.agg #[.bool ab, .slice ap an ac, .slice aq am ae]] w (Says (smallR P Q) w) := by
 have A' := Lib.hid A; have lA' := Lib.hid lA
 clear A lA
 go_enter Tryz.func116, Tryz.ntmps116
 go_wp2_with fail
 refine gen_calls (fun w' => Below w.heap.size w w' ∧ Box3 w' w.heap.size (.bool ab) (.slice ap an ac) (.slice aq am ae))
  ⟨((Below.refl _ _).alloc (Nat.le_refl _) _), (Box3.new _ _ _ _ rfl)⟩ ?_
 rintro w0 ⟨bb, x0⟩
 refine (int_any ab ap aq an ac am ae P Q _ (A'.out.below bb) lA'.out).mono ?_
 rintro e w1 ⟨tb, to_, tn, tc, rfl, T, hb⟩
 replace bb := Lib.hid (below_then bb (Nat.le_refl _) hb); replace T := Lib.hid T
 clear hb x0
 by_cases hQ : Q = 1
 ·subst hQ
  have hT := Lib.hid (show Right w1 tb to_ tn tc P from by have := T.out; rw [if_pos rfl] at this; exact this)
  clear T
  go_upto_region 2 with fail
  refine gen_wp (fun w' => Below w.heap.size w w' ∧ Box w' w1.heap.size (.bool tb) (.slice to_ tn tc) ∧ Right w' tb to_ tn tc P)
   ⟨bb.out.alloc bb.out.size _, Box.new _ _ _ rfl, hT.out.alloc _⟩ ?_
  clear bb hT
  rintro w2 ⟨bb, x1, hT⟩
  replace bb := Lib.hid bb; replace hT := Lib.hid hT
  have p0 := x1.c0; have p1 := x1.c1
  clear x1
  go_wp2_with fail
  obtain ⟨u, b, hub⟩ : ∃ u b, Hid (smallR P 1 = .tuple #[.int .i64 u, .bool b]) := ⟨_, _, Lib.hid rfl⟩
  refine ((wSmall_any tb to_ tn tc P _ (hT.out.whole32 lA'.out.abs_lt)).mono fun _ _ h => (show Says (.tuple #[.int .i64 u, .bool b]) _ _ _ from by rw [← hub.out]; exact h)).mono ?_
  rintro e w3 ⟨rfl, hb⟩
  replace bb := Lib.hid (below_then bb.out (Nat.le_refl _) hb)
  clear hb hT p0 p1
  go_wp2_with fail
  go_ret2
  exact ⟨by rw [hub.out]; rfl, bb.out⟩
 ·have hR := Lib.hid (smallR_no (P := P) hQ)
  have hQ' := Lib.hid (decide_eq_false hQ)
  rw [hQ'.out]
  clear hQ hQ' T
  go_wp2_with fail
  go_ret2
  exact ⟨by rw [hR.out]; rfl, bb.out.alloc bb.out.size _⟩
theorem isTwo_any (f : Int) (w : World) : Calls Tryz.prog 11 #[.int .i64 f] w (Tell (.bool (decide (f ∈ twosZ))) w) := by
 go_enter Tryz.func11, Tryz.ntmps11
 go_wp2_with fail
 all_goals (go_ret; refine ⟨?_, Below.refl _ _⟩; refine congrArg (fun b => Ending.returned (Value.bool b)) ?_)
 all_goals first
  | (rename_i h; rw [beq_iff_eq] at h; subst h; rfl)
  | (symm; rw [decide_eq_false_iff_not]; simp only [beq_eq_false_iff_ne, ne_eq] at *; simp only [twosZ, List.mem_cons, List.not_mem_nil, or_false, not_or]; repeat (first | assumption | refine ⟨by assumption, ?_⟩))
theorem truth_any (v : Bool) (w : World) : Calls Tryz.prog 127 #[.bool v] w (RatPost (truthZ v) 1 w) := by
 cases v
 all_goals
  go_enter Tryz.func127, Tryz.ntmps127
  go_wp2_with fail
  refine gen_calls (fun w' => Below w.heap.size w w' ∧ Box3 w' w.heap.size (.bool false) (.slice none 0 0) (.slice none 0 0)) ⟨(Below.refl _ _).alloc (Nat.le_refl _) _, Box3.new _ _ _ _ rfl⟩ ?_
  rintro w0 ⟨bb, X2⟩
  refine (of_any _ _ (by decide) (by decide)).mono ?_
  rintro e v1 ⟨db, dp, dn, dc, dq, dm, de, rfl, D, hb⟩
  replace bb := below_then bb (Nat.le_refl _) hb; replace X2 := X2.later hb; replace D := Lib.hid D
  clear hb
  have q0 := X2.c0; have q1 := X2.c1; have q2 := X2.c2; have q3 := X2.fr 0; have q4 := X2.fr 1; have q5 := X2.fr 2
  have zz := X2.set (.bool db) (.slice dp dn dc) (.slice dq dm de)
  have e0 := zz.c0; have e1 := zz.c1; have e2 := zz.c2
  have Y2 := Lib.hid X2; have bb' := Lib.hid bb
  clear zz X2 bb
  go_wp2_with fail
  refine bodyPost_ret (v := .agg #[.bool db, .slice dp dn dc, .slice dq dm de]) (by simp [results, Tryz.results127, go_sem, e0, e1, e2]) rfl ?_
  exact RatPost.stored D.out Y2.out bb'.out (Nat.le_refl _)
end Go.Proofs.YtaepelipkkmeaaaGreat
namespace Go.Proofs.YtaepelipkkmeaaaGreat
open Go.RowKit Num
attribute [local go_sem ↓] Go.wp_at_zero Go.wp_at_succ
theorem lenN_32 {v : Nat} (h : v < pw 32) : lenN v ≤ 6000 := by have := (canonN v).len_le h; omega
def CellNumPost (P : Int) (Q : Nat) (w : World) (e : Ending) (w' : World) : Prop :=
 ∃ b ao n nc bo m mc, e = .returned (.agg #[.int .u64 0, .int .i64 0, .bool b, .slice ao n nc, .slice bo m mc, .int .i64 0, .slice none 0 0]) ∧ Rt w' b ao n nc bo m mc P Q ∧ Below w.heap.size w w'
theorem numRt_any (ab : Bool) (ap aq : Option Addr) (an ac am ae : Nat) (P : Int) (Q : Nat) (w : World) (Ra : Rt w ab ap an ac aq am ae P Q) (la : Low P Q) :
  Calls Tryz.prog 48 #[.agg #[.bool ab, .slice ap an ac, .slice aq am ae]] w (CellNumPost P Q w) := by
 refine (numCell_any (numF P Q) _ _ _ w (Ra.numP la.2.2.1 la.2.2.2) (lenN_32 la.2.2.1) (lenN_32 la.2.2.2)).mono ?_
 rintro e w' ⟨ao, ac, bo, bc, rfl, hQ, hb⟩
 refine ⟨_, _, _, _, _, _, _, rfl, ?_, hb⟩
 have h := hQ.plain'.rtS (numF_right la)
 rw [topF_of (N := numF P Q) rfl (canonN _).val, show botF (numF P Q) = Q from (canonN Q).val] at h
 exact h
theorem fieldNumP (v0 v1 v2 v3 v4 v5 v6 : Value) (w : World) : (Instr.field 65 (.agg #[v0, v1, v2, v3, v4, v5, v6]) 2).run Tryz.prog w = .ok (.agg #[v2, v3, v4]) w := by kernel_rfl
attribute [local go_sem] fieldNumP
end Go.Proofs.YtaepelipkkmeaaaGreat
namespace Go.Proofs.YtaepelipkkmeaaaGreat
open Go.RowKit Num
attribute [local go_sem ↓] Go.wp_at_zero Go.wp_at_succ
attribute [local go_sem] fieldNumP
theorem chosen_true (ab : Bool) (ap aq : Option Addr) (an ac am ae : Nat) (P : Int) (Q : Nat) (cb : Bool) (cp cq : Option Addr) (cn cc cm ce : Nat) (R : Int) (S : Nat) (w : World) (Ra : Rt w ab ap an ac aq am ae P Q) (la : Low P Q) (Rb : Rt w cb cp cn cc cq cm ce R S) (lb : Low R S) :
  Calls Tryz.prog 126 #[.bool true, .agg #[.bool ab, .slice ap an ac, .slice aq am ae], .agg #[.bool cb, .slice cp cn cc, .slice cq cm ce]] w (RatPost P Q w) := by
 replace Ra := Lib.hid Ra; replace la := Lib.hid la; replace Rb := Lib.hid Rb; replace lb := Lib.hid lb
 go_enter Tryz.func126, Tryz.ntmps126
 go_upto_region 1 with fail
 refine gen_wp (fun w' => Below w.heap.size w w' ∧ Box3 w' w.heap.size (.bool ab) (.slice ap an ac) (.slice aq am ae) ∧ Box3 w' (w.heap.size + 1) (.bool cb) (.slice cp cn cc) (.slice cq cm ce) ∧ Box3 w' (w.heap.size + 2) (.bool false) (.slice none 0 0) (.slice none 0 0))
  ⟨((((Below.refl _ _).alloc (Nat.le_refl _) _).alloc (by simp <;> omega) _).alloc (by simp <;> omega) _), (((Box3.new _ _ _ _ rfl).alloc _).alloc _), ((Box3.new _ _ _ _ (by simp <;> omega)).alloc _), (Box3.new _ _ _ _ (by simp <;> omega))⟩ ?_
 rintro w0 ⟨bb, Xa, Xb, X2⟩
 replace Ra := Ra.out.below bb; replace Rb := Rb.out.below bb
 replace bb := Lib.hid bb; replace Xa := Lib.hid Xa; replace Xb := Lib.hid Xb; replace X2 := Lib.hid X2; replace Ra := Lib.hid Ra; replace Rb := Lib.hid Rb
 have p00 := Xa.out.c0; have p01 := Xa.out.c1; have p02 := Xa.out.c2
 go_wp2_with fail
 clear p00 p01 p02
 refine (numRt_any ab ap aq an ac am ae P Q _ Ra.out la.out).mono ?_
 rintro e v1 ⟨db, dp, dn, dc, dq, dm, de, rfl, D, hb⟩
 replace bb := Lib.hid (below_then bb.out (Nat.le_refl _) hb); replace Xa := Lib.hid (Xa.out.later hb); replace Xb := Lib.hid (Xb.out.later hb); replace X2 := Lib.hid (X2.out.later hb); replace Ra := Lib.hid (Ra.out.below hb); replace Rb := Lib.hid (Rb.out.below hb)
 replace D := Lib.hid D
 clear hb
 replace X2 := X2.out
 replace bb := bb.out
 have q0 := X2.c0; have q1 := X2.c1; have q2 := X2.c2; have q3 := X2.fr 0; have q4 := X2.fr 1; have q5 := X2.fr 2
 have zz := X2.set (.bool db) (.slice dp dn dc) (.slice dq dm de)
 have e0 := zz.c0; have e1 := zz.c1; have e2 := zz.c2
 have Y2 := Lib.hid X2; have bb' := Lib.hid bb
 clear zz X2 bb
 go_wp2_with fail
 refine bodyPost_ret (v := .agg #[.bool db, .slice dp dn dc, .slice dq dm de]) (by simp [results, Tryz.results126, go_sem, e0, e1, e2]) rfl ?_
 exact (RatPost.stored D.out Y2.out bb'.out (by omega))
theorem chosen_false (ab : Bool) (ap aq : Option Addr) (an ac am ae : Nat) (P : Int) (Q : Nat) (cb : Bool) (cp cq : Option Addr) (cn cc cm ce : Nat) (R : Int) (S : Nat) (w : World) (Ra : Rt w ab ap an ac aq am ae P Q) (la : Low P Q) (Rb : Rt w cb cp cn cc cq cm ce R S) (lb : Low R S) :
  Calls Tryz.prog 126 #[.bool false, .agg #[.bool ab, .slice ap an ac, .slice aq am ae], .agg #[.bool cb, .slice cp cn cc, .slice cq cm ce]] w (RatPost R S w) := by
 replace Ra := Lib.hid Ra; replace la := Lib.hid la; replace Rb := Lib.hid Rb; replace lb := Lib.hid lb
 go_enter Tryz.func126, Tryz.ntmps126
 go_upto_region 1 with fail
 refine gen_wp (fun w' => Below w.heap.size w w' ∧ Box3 w' w.heap.size (.bool ab) (.slice ap an ac) (.slice aq am ae) ∧ Box3 w' (w.heap.size + 1) (.bool cb) (.slice cp cn cc) (.slice cq cm ce) ∧ Box3 w' (w.heap.size + 2) (.bool false) (.slice none 0 0) (.slice none 0 0))
  ⟨((((Below.refl _ _).alloc (Nat.le_refl _) _).alloc (by simp <;> omega) _).alloc (by simp <;> omega) _), (((Box3.new _ _ _ _ rfl).alloc _).alloc _), ((Box3.new _ _ _ _ (by simp <;> omega)).alloc _), (Box3.new _ _ _ _ (by simp <;> omega))⟩ ?_
 rintro w0 ⟨bb, Xa, Xb, X2⟩
 replace Ra := Ra.out.below bb; replace Rb := Rb.out.below bb
 replace bb := Lib.hid bb; replace Xa := Lib.hid Xa; replace Xb := Lib.hid Xb; replace X2 := Lib.hid X2; replace Ra := Lib.hid Ra; replace Rb := Lib.hid Rb
 have p00 := Xb.out.c0; have p01 := Xb.out.c1; have p02 := Xb.out.c2
 go_wp2_with fail
 clear p00 p01 p02
 refine (numRt_any cb cp cq cn cc cm ce R S _ Rb.out lb.out).mono ?_
 rintro e v1 ⟨db, dp, dn, dc, dq, dm, de, rfl, D, hb⟩
 replace bb := Lib.hid (below_then bb.out (Nat.le_refl _) hb); replace Xa := Lib.hid (Xa.out.later hb); replace Xb := Lib.hid (Xb.out.later hb); replace X2 := Lib.hid (X2.out.later hb); replace Ra := Lib.hid (Ra.out.below hb); replace Rb := Lib.hid (Rb.out.below hb)
 replace D := Lib.hid D
 clear hb
 replace X2 := X2.out
 replace bb := bb.out
 have q0 := X2.c0; have q1 := X2.c1; have q2 := X2.c2; have q3 := X2.fr 0; have q4 := X2.fr 1; have q5 := X2.fr 2
 have zz := X2.set (.bool db) (.slice dp dn dc) (.slice dq dm de)
 have e0 := zz.c0; have e1 := zz.c1; have e2 := zz.c2
 have Y2 := Lib.hid X2; have bb' := Lib.hid bb
 clear zz X2 bb
 go_wp2_with fail
 refine bodyPost_ret (v := .agg #[.bool db, .slice dp dn dc, .slice dq dm de]) (by simp [results, Tryz.results126, go_sem, e0, e1, e2]) rfl ?_
 exact (RatPost.stored D.out Y2.out bb'.out (by omega))
def cmpR (f P : Int) (Q : Nat) (R : Int) (S : Nat) : Int × Nat × Int :=
 if f = 8968 then maxR (cmpI (P * S) (R * Q)) P Q R S else
 if f = 8970 then minR (cmpI (P * S) (R * Q)) P Q R S else
 if f = 60 then (truthZ (decide ((cmpI (P * S) (R * Q)) < 0)), 1, 0) else
 if f = 8804 then (truthZ (decide ((cmpI (P * S) (R * Q)) ≤ 0)), 1, 0) else
 if f = 61 then (truthZ ((cmpI (P * S) (R * Q)) == 0), 1, 0) else
 if f = 8805 then (truthZ (decide (0 ≤ (cmpI (P * S) (R * Q)))), 1, 0) else
 if f = 62 then (truthZ (decide (0 < (cmpI (P * S) (R * Q)))), 1, 0) else
 if f = 8800 then (truthZ ((cmpI (P * S) (R * Q)) != 0), 1, 0) else
 (0, 0, 8)
theorem cmpP_max (ab : Bool) (ap aq : Option Addr) (an ac am ae : Nat) (P : Int) (Q : Nat) (cb : Bool) (cp cq : Option Addr) (cn cc cm ce : Nat) (R : Int) (S : Nat) (w : World) (Ra : Rt w ab ap an ac aq am ae P Q) (la : Low P Q) (Rb : Rt w cb cp cn cc cq cm ce R S) (lb : Low R S) :
  Calls Tryz.prog 70 #[.int .i64 8968, .agg #[.bool ab, .slice ap an ac, .slice aq am ae], .agg #[.bool cb, .slice cp cn cc, .slice cq cm ce]] w (NumRes (maxR (cmpI (P * S) (R * Q)) P Q R S) w) := by
 obtain ⟨c, hc⟩ : ∃ c, c = cmpI (P * S) (R * Q) := ⟨_, rfl⟩
 replace hc := Lib.hid hc
 replace Ra := Lib.hid Ra; replace la := Lib.hid la; replace Rb := Lib.hid Rb; replace lb := Lib.hid lb
 go_enter Tryz.func70, Tryz.ntmps70
 go_upto_region 1 with fail
 refine gen_wp (fun w' => Below w.heap.size w w' ∧ Box3 w' w.heap.size (.bool ab) (.slice ap an ac) (.slice aq am ae) ∧ Box3 w' (w.heap.size + 1) (.bool cb) (.slice cp cn cc) (.slice cq cm ce) ∧ Box3 w' (w.heap.size + 2) (.bool false) (.slice none 0 0) (.slice none 0 0))
  ⟨((((Below.refl _ _).alloc (Nat.le_refl _) _).alloc (by simp <;> omega) _).alloc (by simp <;> omega) _), (((Box3.new _ _ _ _ rfl).alloc _).alloc _), ((Box3.new _ _ _ _ (by simp <;> omega)).alloc _), (Box3.new _ _ _ _ (by simp <;> omega))⟩ ?_
 rintro w0 ⟨bb, Xa, Xb, X2⟩
 replace Ra := Ra.out.below bb; replace Rb := Rb.out.below bb
 replace bb := Lib.hid bb; replace Xa := Lib.hid Xa; replace Xb := Lib.hid Xb; replace X2 := Lib.hid X2; replace Ra := Lib.hid Ra; replace Rb := Lib.hid Rb
 have p00 := Xa.out.c0; have p01 := Xa.out.c1; have p02 := Xa.out.c2; have p10 := Xb.out.c0; have p11 := Xb.out.c1; have p12 := Xb.out.c2
 go_wp2_with fail
 clear p00 p01 p02 p10 p11 p12
 refine ((cmp4_any ab ap aq an ac am ae P Q cb cp cq cn cc cm ce R S _ Ra.out la.out Rb.out lb.out).mono fun _ _ h => (show Says (.int .i64 c) _ _ _ by rw [hc.out]; exact h)).mono ?_
 rintro e v1 ⟨rfl, hb⟩
 replace bb := Lib.hid (below_then bb.out (Nat.le_refl _) hb); replace Xa := Lib.hid (Xa.out.later hb); replace Xb := Lib.hid (Xb.out.later hb); replace X2 := Lib.hid (X2.out.later hb); replace Ra := Lib.hid (Ra.out.below hb); replace Rb := Lib.hid (Rb.out.below hb)
 clear hb
 by_cases hlt : 0 < c
 ·have hlt' := Lib.hid (show 0 < c from hlt)
  have hd : decide (0 < c) = true := decide_eq_true hlt
  clear hlt
  have p00 := Xa.out.c0; have p01 := Xa.out.c1; have p02 := Xa.out.c2; have p10 := Xb.out.c0; have p11 := Xb.out.c1; have p12 := Xb.out.c2
  go_wp2_with fail
  clear p00 p01 p02 p10 p11 p12
  refine (chosen_true ab ap aq an ac am ae P Q cb cp cq cn cc cm ce R S _ Ra.out la.out Rb.out lb.out).mono ?_
  rintro e v2 ⟨db, dp, dn, dc, dq, dm, de, rfl, D, hb⟩
  replace bb := Lib.hid (below_then bb.out (Nat.le_refl _) hb); replace Xa := Lib.hid (Xa.out.later hb); replace Xb := Lib.hid (Xb.out.later hb); replace X2 := Lib.hid (X2.out.later hb); replace Ra := Lib.hid (Ra.out.below hb); replace Rb := Lib.hid (Rb.out.below hb)
  replace D := Lib.hid D
  clear hb
  replace X2 := X2.out
  replace bb := bb.out
  have q0 := X2.c0; have q1 := X2.c1; have q2 := X2.c2; have q3 := X2.fr 0; have q4 := X2.fr 1; have q5 := X2.fr 2
  have zz := X2.set (.bool db) (.slice dp dn dc) (.slice dq dm de)
  have e0 := zz.c0; have e1 := zz.c1; have e2 := zz.c2
  have Y2 := Lib.hid X2; have bb' := Lib.hid bb
  clear zz X2 bb
  go_wp2_with fail
  refine bodyPost_ret (v := .tuple #[.agg #[.bool db, .slice dp dn dc, .slice dq dm de], .int .i64 (0)]) (by simp [results, Tryz.results70, go_sem, e0, e1, e2]) rfl ?_
  exact NumRes.of (ResPost.stored D.out Y2.out bb'.out (by omega)) (by rw [← hc.out]; exact if_pos hlt'.out)
 ·have hlt' := Lib.hid (show ¬ (0 < c) from hlt)
  have hd : decide (0 < c) = false := decide_eq_false hlt
  clear hlt
  have p00 := Xa.out.c0; have p01 := Xa.out.c1; have p02 := Xa.out.c2; have p10 := Xb.out.c0; have p11 := Xb.out.c1; have p12 := Xb.out.c2
  go_wp2_with fail
  clear p00 p01 p02 p10 p11 p12
  refine (chosen_false ab ap aq an ac am ae P Q cb cp cq cn cc cm ce R S _ Ra.out la.out Rb.out lb.out).mono ?_
  rintro e v2 ⟨db, dp, dn, dc, dq, dm, de, rfl, D, hb⟩
  replace bb := Lib.hid (below_then bb.out (Nat.le_refl _) hb); replace Xa := Lib.hid (Xa.out.later hb); replace Xb := Lib.hid (Xb.out.later hb); replace X2 := Lib.hid (X2.out.later hb); replace Ra := Lib.hid (Ra.out.below hb); replace Rb := Lib.hid (Rb.out.below hb)
  replace D := Lib.hid D
  clear hb
  replace X2 := X2.out
  replace bb := bb.out
  have q0 := X2.c0; have q1 := X2.c1; have q2 := X2.c2; have q3 := X2.fr 0; have q4 := X2.fr 1; have q5 := X2.fr 2
  have zz := X2.set (.bool db) (.slice dp dn dc) (.slice dq dm de)
  have e0 := zz.c0; have e1 := zz.c1; have e2 := zz.c2
  have Y2 := Lib.hid X2; have bb' := Lib.hid bb
  clear zz X2 bb
  go_wp2_with fail
  refine bodyPost_ret (v := .tuple #[.agg #[.bool db, .slice dp dn dc, .slice dq dm de], .int .i64 (0)]) (by simp [results, Tryz.results70, go_sem, e0, e1, e2]) rfl ?_
  exact NumRes.of (ResPost.stored D.out Y2.out bb'.out (by omega)) (by rw [← hc.out]; exact if_neg (by have := hlt'.out; omega))
theorem cmpP_min (ab : Bool) (ap aq : Option Addr) (an ac am ae : Nat) (P : Int) (Q : Nat) (cb : Bool) (cp cq : Option Addr) (cn cc cm ce : Nat) (R : Int) (S : Nat) (w : World) (Ra : Rt w ab ap an ac aq am ae P Q) (la : Low P Q) (Rb : Rt w cb cp cn cc cq cm ce R S) (lb : Low R S) :
  Calls Tryz.prog 70 #[.int .i64 8970, .agg #[.bool ab, .slice ap an ac, .slice aq am ae], .agg #[.bool cb, .slice cp cn cc, .slice cq cm ce]] w (NumRes (minR (cmpI (P * S) (R * Q)) P Q R S) w) := by
 obtain ⟨c, hc⟩ : ∃ c, c = cmpI (P * S) (R * Q) := ⟨_, rfl⟩
 replace hc := Lib.hid hc
 replace Ra := Lib.hid Ra; replace la := Lib.hid la; replace Rb := Lib.hid Rb; replace lb := Lib.hid lb
 go_enter Tryz.func70, Tryz.ntmps70
 go_upto_region 1 with fail
 refine gen_wp (fun w' => Below w.heap.size w w' ∧ Box3 w' w.heap.size (.bool ab) (.slice ap an ac) (.slice aq am ae) ∧ Box3 w' (w.heap.size + 1) (.bool cb) (.slice cp cn cc) (.slice cq cm ce) ∧ Box3 w' (w.heap.size + 2) (.bool false) (.slice none 0 0) (.slice none 0 0))
  ⟨((((Below.refl _ _).alloc (Nat.le_refl _) _).alloc (by simp <;> omega) _).alloc (by simp <;> omega) _), (((Box3.new _ _ _ _ rfl).alloc _).alloc _), ((Box3.new _ _ _ _ (by simp <;> omega)).alloc _), (Box3.new _ _ _ _ (by simp <;> omega))⟩ ?_
 rintro w0 ⟨bb, Xa, Xb, X2⟩
 replace Ra := Ra.out.below bb; replace Rb := Rb.out.below bb
 replace bb := Lib.hid bb; replace Xa := Lib.hid Xa; replace Xb := Lib.hid Xb; replace X2 := Lib.hid X2; replace Ra := Lib.hid Ra; replace Rb := Lib.hid Rb
 have p00 := Xa.out.c0; have p01 := Xa.out.c1; have p02 := Xa.out.c2; have p10 := Xb.out.c0; have p11 := Xb.out.c1; have p12 := Xb.out.c2
 go_wp2_with fail
 clear p00 p01 p02 p10 p11 p12
 refine ((cmp4_any ab ap aq an ac am ae P Q cb cp cq cn cc cm ce R S _ Ra.out la.out Rb.out lb.out).mono fun _ _ h => (show Says (.int .i64 c) _ _ _ by rw [hc.out]; exact h)).mono ?_
 rintro e v1 ⟨rfl, hb⟩
 replace bb := Lib.hid (below_then bb.out (Nat.le_refl _) hb); replace Xa := Lib.hid (Xa.out.later hb); replace Xb := Lib.hid (Xb.out.later hb); replace X2 := Lib.hid (X2.out.later hb); replace Ra := Lib.hid (Ra.out.below hb); replace Rb := Lib.hid (Rb.out.below hb)
 clear hb
 by_cases hlt : c < 0
 ·have hlt' := Lib.hid (show c < 0 from hlt)
  have hd : decide (c < 0) = true := decide_eq_true hlt
  clear hlt
  have p00 := Xa.out.c0; have p01 := Xa.out.c1; have p02 := Xa.out.c2; have p10 := Xb.out.c0; have p11 := Xb.out.c1; have p12 := Xb.out.c2
  go_wp2_with fail
  clear p00 p01 p02 p10 p11 p12
  refine (chosen_true ab ap aq an ac am ae P Q cb cp cq cn cc cm ce R S _ Ra.out la.out Rb.out lb.out).mono ?_
  rintro e v2 ⟨db, dp, dn, dc, dq, dm, de, rfl, D, hb⟩
  replace bb := Lib.hid (below_then bb.out (Nat.le_refl _) hb); replace Xa := Lib.hid (Xa.out.later hb); replace Xb := Lib.hid (Xb.out.later hb); replace X2 := Lib.hid (X2.out.later hb); replace Ra := Lib.hid (Ra.out.below hb); replace Rb := Lib.hid (Rb.out.below hb)
  replace D := Lib.hid D
  clear hb
  replace X2 := X2.out
  replace bb := bb.out
  have q0 := X2.c0; have q1 := X2.c1; have q2 := X2.c2; have q3 := X2.fr 0; have q4 := X2.fr 1; have q5 := X2.fr 2
  have zz := X2.set (.bool db) (.slice dp dn dc) (.slice dq dm de)
  have e0 := zz.c0; have e1 := zz.c1; have e2 := zz.c2
  have Y2 := Lib.hid X2; have bb' := Lib.hid bb
  clear zz X2 bb
  go_wp2_with fail
  refine bodyPost_ret (v := .tuple #[.agg #[.bool db, .slice dp dn dc, .slice dq dm de], .int .i64 (0)]) (by simp [results, Tryz.results70, go_sem, e0, e1, e2]) rfl ?_
  exact NumRes.of (ResPost.stored D.out Y2.out bb'.out (by omega)) (by rw [← hc.out]; exact if_pos hlt'.out)
 ·have hlt' := Lib.hid (show ¬ (c < 0) from hlt)
  have hd : decide (c < 0) = false := decide_eq_false hlt
  clear hlt
  have p00 := Xa.out.c0; have p01 := Xa.out.c1; have p02 := Xa.out.c2; have p10 := Xb.out.c0; have p11 := Xb.out.c1; have p12 := Xb.out.c2
  go_wp2_with fail
  clear p00 p01 p02 p10 p11 p12
  refine (chosen_false ab ap aq an ac am ae P Q cb cp cq cn cc cm ce R S _ Ra.out la.out Rb.out lb.out).mono ?_
  rintro e v2 ⟨db, dp, dn, dc, dq, dm, de, rfl, D, hb⟩
  replace bb := Lib.hid (below_then bb.out (Nat.le_refl _) hb); replace Xa := Lib.hid (Xa.out.later hb); replace Xb := Lib.hid (Xb.out.later hb); replace X2 := Lib.hid (X2.out.later hb); replace Ra := Lib.hid (Ra.out.below hb); replace Rb := Lib.hid (Rb.out.below hb)
  replace D := Lib.hid D
  clear hb
  replace X2 := X2.out
  replace bb := bb.out
  have q0 := X2.c0; have q1 := X2.c1; have q2 := X2.c2; have q3 := X2.fr 0; have q4 := X2.fr 1; have q5 := X2.fr 2
  have zz := X2.set (.bool db) (.slice dp dn dc) (.slice dq dm de)
  have e0 := zz.c0; have e1 := zz.c1; have e2 := zz.c2
  have Y2 := Lib.hid X2; have bb' := Lib.hid bb
  clear zz X2 bb
  go_wp2_with fail
  refine bodyPost_ret (v := .tuple #[.agg #[.bool db, .slice dp dn dc, .slice dq dm de], .int .i64 (0)]) (by simp [results, Tryz.results70, go_sem, e0, e1, e2]) rfl ?_
  exact NumRes.of (ResPost.stored D.out Y2.out bb'.out (by omega)) (by rw [← hc.out]; exact if_neg (by have := hlt'.out; omega))
theorem cmpP_truth (f : Int) (ab : Bool) (ap aq : Option Addr) (an ac am ae : Nat) (P : Int) (Q : Nat) (cb : Bool) (cp cq : Option Addr) (cn cc cm ce : Nat) (R : Int) (S : Nat) (w : World) (Ra : Rt w ab ap an ac aq am ae P Q) (la : Low P Q) (Rb : Rt w cb cp cn cc cq cm ce R S) (lb : Low R S) (hf : f = 60 ∨ f = 8804 ∨ f = 61 ∨ f = 8805 ∨ f = 62 ∨ f = 8800) :
  Calls Tryz.prog 70 #[.int .i64 f, .agg #[.bool ab, .slice ap an ac, .slice aq am ae], .agg #[.bool cb, .slice cp cn cc, .slice cq cm ce]] w (NumRes (cmpR f P Q R S) w) := by
 obtain ⟨r, hr⟩ : ∃ r, r = cmpR f P Q R S := ⟨_, rfl⟩
 rw [← hr]
 obtain ⟨c, hc⟩ : ∃ c, c = cmpI (P * S) (R * Q) := ⟨_, rfl⟩
 rcases hf with rfl | rfl | rfl | rfl | rfl | rfl
 have hv := Lib.hid (show r = (truthZ (decide (c < 0)), 1, 0) from by rw [hr, hc]; exact (by unfold cmpR; rw [if_neg (by decide), if_neg (by decide), if_pos rfl]))
 rotate_left
 have hv := Lib.hid (show r = (truthZ (decide (c ≤ 0)), 1, 0) from by rw [hr, hc]; exact (by unfold cmpR; rw [if_neg (by decide), if_neg (by decide), if_neg (by decide), if_pos rfl]))
 rotate_left
 have hv := Lib.hid (show r = (truthZ (c == 0), 1, 0) from by rw [hr, hc]; exact (by unfold cmpR; rw [if_neg (by decide), if_neg (by decide), if_neg (by decide), if_neg (by decide), if_pos rfl]))
 rotate_left
 have hv := Lib.hid (show r = (truthZ (decide (0 ≤ c)), 1, 0) from by rw [hr, hc]; exact (by unfold cmpR; rw [if_neg (by decide), if_neg (by decide), if_neg (by decide), if_neg (by decide), if_neg (by decide), if_pos rfl]))
 rotate_left
 have hv := Lib.hid (show r = (truthZ (decide (0 < c)), 1, 0) from by rw [hr, hc]; exact (by unfold cmpR; rw [if_neg (by decide), if_neg (by decide), if_neg (by decide), if_neg (by decide), if_neg (by decide), if_neg (by decide), if_pos rfl]))
 rotate_left
 have hv := Lib.hid (show r = (truthZ (c != 0), 1, 0) from by rw [hr, hc]; exact (by unfold cmpR; rw [if_neg (by decide), if_neg (by decide), if_neg (by decide), if_neg (by decide), if_neg (by decide), if_neg (by decide), if_neg (by decide), if_pos rfl]))
 rotate_left
 all_goals
  clear hr
  replace hc := Lib.hid hc
  replace Ra := Lib.hid Ra; replace la := Lib.hid la; replace Rb := Lib.hid Rb; replace lb := Lib.hid lb
  go_enter Tryz.func70, Tryz.ntmps70
  go_upto_region 1 with fail
  refine gen_wp (fun w' => Below w.heap.size w w' ∧ Box3 w' w.heap.size (.bool ab) (.slice ap an ac) (.slice aq am ae) ∧ Box3 w' (w.heap.size + 1) (.bool cb) (.slice cp cn cc) (.slice cq cm ce) ∧ Box3 w' (w.heap.size + 2) (.bool false) (.slice none 0 0) (.slice none 0 0))
   ⟨((((Below.refl _ _).alloc (Nat.le_refl _) _).alloc (by simp <;> omega) _).alloc (by simp <;> omega) _), (((Box3.new _ _ _ _ rfl).alloc _).alloc _), ((Box3.new _ _ _ _ (by simp <;> omega)).alloc _), (Box3.new _ _ _ _ (by simp <;> omega))⟩ ?_
  rintro w0 ⟨bb, Xa, Xb, X2⟩
  replace Ra := Ra.out.below bb; replace Rb := Rb.out.below bb
  replace bb := Lib.hid bb; replace Xa := Lib.hid Xa; replace Xb := Lib.hid Xb; replace X2 := Lib.hid X2; replace Ra := Lib.hid Ra; replace Rb := Lib.hid Rb
  have p00 := Xa.out.c0; have p01 := Xa.out.c1; have p02 := Xa.out.c2; have p10 := Xb.out.c0; have p11 := Xb.out.c1; have p12 := Xb.out.c2
  go_wp2_with fail
  clear p00 p01 p02 p10 p11 p12
  refine ((cmp4_any ab ap aq an ac am ae P Q cb cp cq cn cc cm ce R S _ Ra.out la.out Rb.out lb.out).mono fun _ _ h => (show Says (.int .i64 c) _ _ _ by rw [hc.out]; exact h)).mono ?_
  rintro e v1 ⟨rfl, hb⟩
  replace bb := Lib.hid (below_then bb.out (Nat.le_refl _) hb); replace Xa := Lib.hid (Xa.out.later hb); replace Xb := Lib.hid (Xb.out.later hb); replace X2 := Lib.hid (X2.out.later hb); replace Ra := Lib.hid (Ra.out.below hb); replace Rb := Lib.hid (Rb.out.below hb)
  clear hb
  go_wp2_with fail
  refine (truth_any _ _).mono ?_
  rintro e v2 ⟨db, dp, dn, dc, dq, dm, de, rfl, D, hb⟩
  replace bb := Lib.hid (below_then bb.out (Nat.le_refl _) hb); replace Xa := Lib.hid (Xa.out.later hb); replace Xb := Lib.hid (Xb.out.later hb); replace X2 := Lib.hid (X2.out.later hb); replace Ra := Lib.hid (Ra.out.below hb); replace Rb := Lib.hid (Rb.out.below hb)
  replace D := Lib.hid D
  clear hb
  replace X2 := X2.out
  replace bb := bb.out
  have q0 := X2.c0; have q1 := X2.c1; have q2 := X2.c2; have q3 := X2.fr 0; have q4 := X2.fr 1; have q5 := X2.fr 2
  have zz := X2.set (.bool db) (.slice dp dn dc) (.slice dq dm de)
  have e0 := zz.c0; have e1 := zz.c1; have e2 := zz.c2
  have Y2 := Lib.hid X2; have bb' := Lib.hid bb
  clear zz X2 bb
  go_wp2_with fail
  refine bodyPost_ret (v := .tuple #[.agg #[.bool db, .slice dp dn dc, .slice dq dm de], .int .i64 (0)]) (by simp [results, Tryz.results70, go_sem, e0, e1, e2]) rfl ?_
  exact NumRes.of (ResPost.stored D.out Y2.out bb'.out (by omega)) hv.out
theorem cmpP_none (f : Int) (ab : Bool) (ap aq : Option Addr) (an ac am ae : Nat) (P : Int) (Q : Nat) (cb : Bool) (cp cq : Option Addr) (cn cc cm ce : Nat) (R : Int) (S : Nat) (w : World) (Ra : Rt w ab ap an ac aq am ae P Q) (la : Low P Q) (Rb : Rt w cb cp cn cc cq cm ce R S) (lb : Low R S) (h8968 : f ≠ 8968) (h8970 : f ≠ 8970) (h60 : f ≠ 60) (h8804 : f ≠ 8804) (h61 : f ≠ 61) (h8805 : f ≠ 8805) (h62 : f ≠ 62) (h8800 : f ≠ 8800) :
  Calls Tryz.prog 70 #[.int .i64 f, .agg #[.bool ab, .slice ap an ac, .slice aq am ae], .agg #[.bool cb, .slice cp cn cc, .slice cq cm ce]] w (ResPost 0 0 8 w) := by
 have g8968 : (f == 8968) = false := by rw [beq_eq_false_iff_ne]; exact h8968
 have g8970 : (f == 8970) = false := by rw [beq_eq_false_iff_ne]; exact h8970
 have g60 : (f == 60) = false := by rw [beq_eq_false_iff_ne]; exact h60
 have g8804 : (f == 8804) = false := by rw [beq_eq_false_iff_ne]; exact h8804
 have g61 : (f == 61) = false := by rw [beq_eq_false_iff_ne]; exact h61
 have g8805 : (f == 8805) = false := by rw [beq_eq_false_iff_ne]; exact h8805
 have g62 : (f == 62) = false := by rw [beq_eq_false_iff_ne]; exact h62
 have g8800 : (f == 8800) = false := by rw [beq_eq_false_iff_ne]; exact h8800
 clear h8968 h8970 h60 h8804 h61 h8805 h62 h8800
 obtain ⟨c, hc⟩ : ∃ c, c = cmpI (P * S) (R * Q) := ⟨_, rfl⟩
 replace hc := Lib.hid hc
 replace Ra := Lib.hid Ra; replace la := Lib.hid la; replace Rb := Lib.hid Rb; replace lb := Lib.hid lb
 go_enter Tryz.func70, Tryz.ntmps70
 go_upto_region 1 with fail
 refine gen_wp (fun w' => Below w.heap.size w w' ∧ Box3 w' w.heap.size (.bool ab) (.slice ap an ac) (.slice aq am ae) ∧ Box3 w' (w.heap.size + 1) (.bool cb) (.slice cp cn cc) (.slice cq cm ce) ∧ Box3 w' (w.heap.size + 2) (.bool false) (.slice none 0 0) (.slice none 0 0))
  ⟨((((Below.refl _ _).alloc (Nat.le_refl _) _).alloc (by simp <;> omega) _).alloc (by simp <;> omega) _), (((Box3.new _ _ _ _ rfl).alloc _).alloc _), ((Box3.new _ _ _ _ (by simp <;> omega)).alloc _), (Box3.new _ _ _ _ (by simp <;> omega))⟩ ?_
 rintro w0 ⟨bb, Xa, Xb, X2⟩
 replace Ra := Ra.out.below bb; replace Rb := Rb.out.below bb
 replace bb := Lib.hid bb; replace Xa := Lib.hid Xa; replace Xb := Lib.hid Xb; replace X2 := Lib.hid X2; replace Ra := Lib.hid Ra; replace Rb := Lib.hid Rb
 have p00 := Xa.out.c0; have p01 := Xa.out.c1; have p02 := Xa.out.c2; have p10 := Xb.out.c0; have p11 := Xb.out.c1; have p12 := Xb.out.c2
 go_wp2_with fail
 clear p00 p01 p02 p10 p11 p12
 refine ((cmp4_any ab ap aq an ac am ae P Q cb cp cq cn cc cm ce R S _ Ra.out la.out Rb.out lb.out).mono fun _ _ h => (show Says (.int .i64 c) _ _ _ by rw [hc.out]; exact h)).mono ?_
 rintro e v1 ⟨rfl, hb⟩
 replace bb := Lib.hid (below_then bb.out (Nat.le_refl _) hb); replace Xa := Lib.hid (Xa.out.later hb); replace Xb := Lib.hid (Xb.out.later hb); replace X2 := Lib.hid (X2.out.later hb); replace Ra := Lib.hid (Ra.out.below hb); replace Rb := Lib.hid (Rb.out.below hb)
 clear hb
 replace X2 := X2.out
 replace bb := bb.out
 have q0 := X2.c0; have q1 := X2.c1; have q2 := X2.c2; have q3 := X2.fr 0; have q4 := X2.fr 1; have q5 := X2.fr 2
 have zz := X2.set (.bool false) (.slice none 0 0) (.slice none 0 0)
 have e0 := zz.c0; have e1 := zz.c1; have e2 := zz.c2
 have Y2 := Lib.hid X2; have bb' := Lib.hid bb
 clear zz X2 bb
 go_wp2_with fail
 refine bodyPost_ret (v := .tuple #[.agg #[.bool false, .slice none 0 0, .slice none 0 0], .int .i64 (8)]) (by simp [results, Tryz.results70, go_sem, e0, e1, e2]) rfl ?_
 exact (ResPost.stored (rt_zero _) Y2.out bb'.out (by omega))
theorem comparedP_any (f : Int) (ab : Bool) (ap aq : Option Addr) (an ac am ae : Nat) (P : Int) (Q : Nat) (cb : Bool) (cp cq : Option Addr) (cn cc cm ce : Nat) (R : Int) (S : Nat) (w : World) (Ra : Rt w ab ap an ac aq am ae P Q) (la : Low P Q) (Rb : Rt w cb cp cn cc cq cm ce R S) (lb : Low R S) :
  Calls Tryz.prog 70 #[.int .i64 f, .agg #[.bool ab, .slice ap an ac, .slice aq am ae], .agg #[.bool cb, .slice cp cn cc, .slice cq cm ce]] w (NumRes (cmpR f P Q R S) w) := by
 by_cases h8968 : f = 8968
 ·subst h8968; exact (cmpP_max ab ap aq an ac am ae P Q cb cp cq cn cc cm ce R S w Ra la Rb lb).mono fun _ _ h => (show NumRes (cmpR 8968 P Q R S) w _ _ from by rw [show cmpR 8968 P Q R S = _ from (by unfold cmpR; rw [if_pos rfl])]; exact h)
 by_cases h8970 : f = 8970
 ·subst h8970; exact (cmpP_min ab ap aq an ac am ae P Q cb cp cq cn cc cm ce R S w Ra la Rb lb).mono fun _ _ h => (show NumRes (cmpR 8970 P Q R S) w _ _ from by rw [show cmpR 8970 P Q R S = _ from (by unfold cmpR; rw [if_neg (by decide), if_pos rfl])]; exact h)
 by_cases h60 : f = 60
 ·exact cmpP_truth f ab ap aq an ac am ae P Q cb cp cq cn cc cm ce R S w Ra la Rb lb ((.inl h60))
 by_cases h8804 : f = 8804
 ·exact cmpP_truth f ab ap aq an ac am ae P Q cb cp cq cn cc cm ce R S w Ra la Rb lb (.inr ((.inl h8804)))
 by_cases h61 : f = 61
 ·exact cmpP_truth f ab ap aq an ac am ae P Q cb cp cq cn cc cm ce R S w Ra la Rb lb (.inr (.inr ((.inl h61))))
 by_cases h8805 : f = 8805
 ·exact cmpP_truth f ab ap aq an ac am ae P Q cb cp cq cn cc cm ce R S w Ra la Rb lb (.inr (.inr (.inr ((.inl h8805)))))
 by_cases h62 : f = 62
 ·exact cmpP_truth f ab ap aq an ac am ae P Q cb cp cq cn cc cm ce R S w Ra la Rb lb (.inr (.inr (.inr (.inr ((.inl h62))))))
 by_cases h8800 : f = 8800
 ·exact cmpP_truth f ab ap aq an ac am ae P Q cb cp cq cn cc cm ce R S w Ra la Rb lb (.inr (.inr (.inr (.inr (.inr (h8800))))))
 exact (cmpP_none f ab ap aq an ac am ae P Q cb cp cq cn cc cm ce R S w Ra la Rb lb h8968 h8970 h60 h8804 h61 h8805 h62 h8800).mono fun _ _ h => (show NumRes (cmpR f P Q R S) w _ _ from by rw [show cmpR f P Q R S = (0, 0, 8) from by unfold cmpR; rw [if_neg h8968, if_neg h8970, if_neg h60, if_neg h8804, if_neg h61, if_neg h8805, if_neg h62, if_neg h8800]]; exact h)
theorem powerP_any (ab : Bool) (ap aq : Option Addr) (an ac am ae : Nat) (P : Int) (Q : Nat) (cb : Bool) (cp cq : Option Addr) (cn cc cm ce : Nat) (R : Int) (S : Nat) (w : World) (Ra : Rt w ab ap an ac aq am ae P Q) (la : Low P Q) (Rb : Rt w cb cp cn cc cq cm ce R S) (lb : Low R S) :
  Calls Tryz.prog 67 #[.agg #[.bool ab, .slice ap an ac, .slice aq am ae], .agg #[.bool cb, .slice cp cn cc, .slice cq cm ce]] w (NumRes (powN P Q R S) w) := by
 replace Ra := Lib.hid Ra; replace la := Lib.hid la; replace Rb := Lib.hid Rb; replace lb := Lib.hid lb
 go_enter Tryz.func67, Tryz.ntmps67
 go_upto_region 1 with fail
 refine gen_wp (fun w' => Below w.heap.size w w' ∧ Box3 w' w.heap.size (.bool ab) (.slice ap an ac) (.slice aq am ae) ∧ Box3 w' (w.heap.size + 1) (.bool cb) (.slice cp cn cc) (.slice cq cm ce) ∧ Box3 w' (w.heap.size + 2) (.bool false) (.slice none 0 0) (.slice none 0 0))
  ⟨((((Below.refl _ _).alloc (Nat.le_refl _) _).alloc (by simp <;> omega) _).alloc (by simp <;> omega) _), (((Box3.new _ _ _ _ rfl).alloc _).alloc _), ((Box3.new _ _ _ _ (by simp <;> omega)).alloc _), (Box3.new _ _ _ _ (by simp <;> omega))⟩ ?_
 rintro w0 ⟨bb, Xa, Xb, X2⟩
 replace Ra := Ra.out.below bb; replace Rb := Rb.out.below bb
 replace bb := Lib.hid bb; replace Xa := Lib.hid Xa; replace Xb := Lib.hid Xb; replace X2 := Lib.hid X2; replace Ra := Lib.hid Ra; replace Rb := Lib.hid Rb
 have p00 := Xb.out.c0; have p01 := Xb.out.c1; have p02 := Xb.out.c2
 go_wp2_with fail
 clear p00 p01 p02
 refine ((smallP_any cb cp cq cn cc cm ce R S _ Rb.out lb.out).mono fun _ _ h => (show Says (.tuple #[.int .i64 (smallP R S), .bool (smallQ R S)]) _ _ _ from h)).mono ?_
 rintro e v1 ⟨rfl, hb⟩
 replace bb := Lib.hid (below_then bb.out (Nat.le_refl _) hb); replace Xa := Lib.hid (Xa.out.later hb); replace Xb := Lib.hid (Xb.out.later hb); replace X2 := Lib.hid (X2.out.later hb); replace Ra := Lib.hid (Ra.out.below hb); replace Rb := Lib.hid (Rb.out.below hb)
 clear hb
 have hsb := Lib.hid (small_bounds (P := R) (Q := S))
 obtain ⟨n, hn⟩ : ∃ n, n = smallP R S := ⟨_, rfl⟩
 rw [← hn] at hsb ⊢
 replace hn := Lib.hid hn
 cases hq : smallQ R S
 ·have hq' := Lib.hid hq
  clear hq
  replace X2 := X2.out
  replace bb := bb.out
  have q0 := X2.c0; have q1 := X2.c1; have q2 := X2.c2; have q3 := X2.fr 0; have q4 := X2.fr 1; have q5 := X2.fr 2
  have zz := X2.set (.bool false) (.slice none 0 0) (.slice none 0 0)
  have e0 := zz.c0; have e1 := zz.c1; have e2 := zz.c2
  have Y2 := Lib.hid X2; have bb' := Lib.hid bb
  clear zz X2 bb
  go_wp2_with fail
  refine bodyPost_ret (v := .tuple #[.agg #[.bool false, .slice none 0 0, .slice none 0 0], .int .i64 (8)]) (by simp [results, Tryz.results67, go_sem, e0, e1, e2]) rfl ?_
  exact NumRes.of (ResPost.stored (rt_zero _) Y2.out bb'.out (by omega)) (if_neg (by rw [hq'.out]; decide))
 ·have hq' := Lib.hid hq
  clear hq
  have p00 := Xa.out.c0; have p01 := Xa.out.c1; have p02 := Xa.out.c2
  go_wp2_with fail
  clear p00 p01 p02
  refine (pow4_any ab ap aq an ac am ae P Q n _ Ra.out la.out hsb.out.1 hsb.out.2).mono ?_
  rintro e v2 ⟨db, dp, dn, dc, dq, dm, de, rfl, D, hb⟩
  replace bb := Lib.hid (below_then bb.out (Nat.le_refl _) hb); replace Xa := Lib.hid (Xa.out.later hb); replace Xb := Lib.hid (Xb.out.later hb); replace X2 := Lib.hid (X2.out.later hb); replace Ra := Lib.hid (Ra.out.below hb); replace Rb := Lib.hid (Rb.out.below hb)
  replace D := Lib.hid D
  clear hb
  replace X2 := X2.out
  replace bb := bb.out
  have q0 := X2.c0; have q1 := X2.c1; have q2 := X2.c2; have q3 := X2.fr 0; have q4 := X2.fr 1; have q5 := X2.fr 2
  have zz := X2.set (.bool db) (.slice dp dn dc) (.slice dq dm de)
  have e0 := zz.c0; have e1 := zz.c1; have e2 := zz.c2
  have Y2 := Lib.hid X2; have bb' := Lib.hid bb
  clear zz X2 bb
  go_wp2_with fail
  refine bodyPost_ret (v := .tuple #[.agg #[.bool db, .slice dp dn dc, .slice dq dm de], .int .i64 ((powRes P Q n).2.2)]) (by simp [results, Tryz.results67, go_sem, e0, e1, e2]) rfl ?_
  exact NumRes.of (ResPost.stored D.out Y2.out bb'.out (by omega)) (by unfold powN; rw [if_pos hq'.out, ← hn.out])
theorem numP2_call (f : Int) (ab : Bool) (ap aq : Option Addr) (an ac am ae : Nat) (P : Int) (Q : Nat) (cb : Bool) (cp cq : Option Addr) (cn cc cm ce : Nat) (R : Int) (S : Nat) (w : World) (Ra : Rt w ab ap an ac aq am ae P Q) (la : Low P Q) (Rb : Rt w cb cp cn cc cq cm ce R S) (lb : Low R S) (hf : f = 43 ∨ f = 45 ∨ f = 215 ∨ f = 247 ∨ f = 124 ∨ f = 42 ∨ f = 8743 ∨ f = 8744) :
  Calls Tryz.prog 19 #[.int .i64 f, .agg #[.bool ab, .slice ap an ac, .slice aq am ae], .agg #[.bool cb, .slice cp cn cc, .slice cq cm ce]] w (NumRes (num2R f P Q R S) w) := by
 obtain ⟨r, hr⟩ : ∃ r, r = num2R f P Q R S := ⟨_, rfl⟩
 rw [← hr]
 rcases hf with rfl | rfl | rfl | rfl | rfl | rfl | rfl | rfl
 have hcon := Lib.hid (fun (W : World) (A : Rt W ab ap an ac aq am ae P Q) (B : Rt W cb cp cn cc cq cm ce R S) => (add4_any ab ap aq an ac am ae P Q cb cp cq cn cc cm ce R S W A la B lb).mono fun e w' h => (show NumRes r W e w' from by rw [hr, show num2R 43 P Q R S = _ from (by unfold num2R; rw [if_pos rfl])]; exact h))
 rotate_left
 have hcon := Lib.hid (fun (W : World) (A : Rt W ab ap an ac aq am ae P Q) (B : Rt W cb cp cn cc cq cm ce R S) => (sub4_any ab ap aq an ac am ae P Q cb cp cq cn cc cm ce R S W A la B lb).mono fun e w' h => (show NumRes r W e w' from by rw [hr, show num2R 45 P Q R S = _ from (by unfold num2R; rw [if_neg (by decide), if_pos rfl])]; exact h))
 rotate_left
 have hcon := Lib.hid (fun (W : World) (A : Rt W ab ap an ac aq am ae P Q) (B : Rt W cb cp cn cc cq cm ce R S) => (mul4_any ab ap aq an ac am ae P Q cb cp cq cn cc cm ce R S W A la B lb).mono fun e w' h => (show NumRes r W e w' from by rw [hr, show num2R 215 P Q R S = _ from (by unfold num2R; rw [if_neg (by decide), if_neg (by decide), if_pos rfl])]; exact h))
 rotate_left
 have hcon := Lib.hid (fun (W : World) (A : Rt W ab ap an ac aq am ae P Q) (B : Rt W cb cp cn cc cq cm ce R S) => (div4_any ab ap aq an ac am ae P Q cb cp cq cn cc cm ce R S W A la B lb).mono fun e w' h => (show NumRes r W e w' from by rw [hr, show num2R 247 P Q R S = _ from (by unfold num2R; rw [if_neg (by decide), if_neg (by decide), if_neg (by decide), if_pos rfl])]; exact h))
 rotate_left
 have hcon := Lib.hid (fun (W : World) (A : Rt W ab ap an ac aq am ae P Q) (B : Rt W cb cp cn cc cq cm ce R S) => (mod4_any ab ap aq an ac am ae P Q cb cp cq cn cc cm ce R S W A la B lb).mono fun e w' h => (show NumRes r W e w' from by rw [hr, show num2R 124 P Q R S = _ from (by unfold num2R; rw [if_neg (by decide), if_neg (by decide), if_neg (by decide), if_neg (by decide), if_neg (by decide), if_neg (by decide), if_pos rfl])]; exact h))
 rotate_left
 have hcon := Lib.hid (fun (W : World) (A : Rt W ab ap an ac aq am ae P Q) (B : Rt W cb cp cn cc cq cm ce R S) => (powerP_any ab ap aq an ac am ae P Q cb cp cq cn cc cm ce R S W A la B lb).mono fun e w' h => (show NumRes r W e w' from by rw [hr, show num2R 42 P Q R S = _ from (by unfold num2R; rw [if_neg (by decide), if_neg (by decide), if_neg (by decide), if_neg (by decide), if_neg (by decide), if_neg (by decide), if_neg (by decide), if_pos rfl])]; exact h))
 rotate_left
 have hcon := Lib.hid (fun (W : World) (A : Rt W ab ap an ac aq am ae P Q) (B : Rt W cb cp cn cc cq cm ce R S) => (lcm4_any ab ap aq an ac am ae P Q cb cp cq cn cc cm ce R S W A la B lb).mono fun e w' h => (show NumRes r W e w' from by rw [hr, show num2R 8743 P Q R S = _ from (by unfold num2R; rw [if_neg (by decide), if_neg (by decide), if_neg (by decide), if_neg (by decide), if_neg (by decide), if_neg (by decide), if_neg (by decide), if_neg (by decide), if_neg (by decide), if_neg (by decide), if_neg (by decide), if_neg (by decide), if_neg (by decide), if_neg (by decide), if_pos rfl])]; exact h))
 rotate_left
 have hcon := Lib.hid (fun (W : World) (A : Rt W ab ap an ac aq am ae P Q) (B : Rt W cb cp cn cc cq cm ce R S) => (gcd4_any ab ap aq an ac am ae P Q cb cp cq cn cc cm ce R S W A la B lb).mono fun e w' h => (show NumRes r W e w' from by rw [hr, show num2R 8744 P Q R S = _ from (by unfold num2R; rw [if_neg (by decide), if_neg (by decide), if_neg (by decide), if_neg (by decide), if_neg (by decide), if_neg (by decide), if_neg (by decide), if_neg (by decide), if_neg (by decide), if_neg (by decide), if_neg (by decide), if_neg (by decide), if_neg (by decide), if_neg (by decide), if_neg (by decide), if_pos rfl])]; exact h))
 rotate_left
 all_goals
  clear hr
  replace Ra := Lib.hid Ra; replace la := Lib.hid la; replace Rb := Lib.hid Rb; replace lb := Lib.hid lb
  go_enter Tryz.func19, Tryz.ntmps19
  go_upto_region 1 with fail
  refine gen_wp (fun w' => Below w.heap.size w w' ∧ Box3 w' w.heap.size (.bool ab) (.slice ap an ac) (.slice aq am ae) ∧ Box3 w' (w.heap.size + 1) (.bool cb) (.slice cp cn cc) (.slice cq cm ce) ∧ Box3 w' (w.heap.size + 2) (.bool false) (.slice none 0 0) (.slice none 0 0))
   ⟨((((Below.refl _ _).alloc (Nat.le_refl _) _).alloc (by simp <;> omega) _).alloc (by simp <;> omega) _), (((Box3.new _ _ _ _ rfl).alloc _).alloc _), ((Box3.new _ _ _ _ (by simp <;> omega)).alloc _), (Box3.new _ _ _ _ (by simp <;> omega))⟩ ?_
  rintro w0 ⟨bb, Xa, Xb, X2⟩
  replace Ra := Ra.out.below bb; replace Rb := Rb.out.below bb
  replace bb := Lib.hid bb; replace Xa := Lib.hid Xa; replace Xb := Lib.hid Xb; replace X2 := Lib.hid X2; replace Ra := Lib.hid Ra; replace Rb := Lib.hid Rb
  have p00 := Xa.out.c0; have p01 := Xa.out.c1; have p02 := Xa.out.c2; have p10 := Xb.out.c0; have p11 := Xb.out.c1; have p12 := Xb.out.c2
  go_wp2_with fail
  clear p00 p01 p02 p10 p11 p12
  refine (hcon.out _ Ra.out Rb.out).mono ?_
  rintro e v1 ⟨db, dp, dn, dc, dq, dm, de, rfl, D, hb⟩
  replace bb := Lib.hid (below_then bb.out (Nat.le_refl _) hb); replace Xa := Lib.hid (Xa.out.later hb); replace Xb := Lib.hid (Xb.out.later hb); replace X2 := Lib.hid (X2.out.later hb); replace Ra := Lib.hid (Ra.out.below hb); replace Rb := Lib.hid (Rb.out.below hb)
  replace D := Lib.hid D
  clear hb
  replace X2 := X2.out
  replace bb := bb.out
  have q0 := X2.c0; have q1 := X2.c1; have q2 := X2.c2; have q3 := X2.fr 0; have q4 := X2.fr 1; have q5 := X2.fr 2
  have zz := X2.set (.bool db) (.slice dp dn dc) (.slice dq dm de)
  have e0 := zz.c0; have e1 := zz.c1; have e2 := zz.c2
  have Y2 := Lib.hid X2; have bb' := Lib.hid bb
  clear zz X2 bb
  go_wp2_with fail
  refine bodyPost_ret (v := .tuple #[.agg #[.bool db, .slice dp dn dc, .slice dq dm de], .int .i64 (r.2.2)]) (by simp [results, Tryz.results19, go_sem, e0, e1, e2]) rfl ?_
  exact (ResPost.stored D.out Y2.out bb'.out (by omega))
theorem numP2_rest (f : Int) (ab : Bool) (ap aq : Option Addr) (an ac am ae : Nat) (P : Int) (Q : Nat) (cb : Bool) (cp cq : Option Addr) (cn cc cm ce : Nat) (R : Int) (S : Nat) (w : World) (Ra : Rt w ab ap an ac aq am ae P Q) (la : Low P Q) (Rb : Rt w cb cp cn cc cq cm ce R S) (lb : Low R S) (h43 : f ≠ 43) (h45 : f ≠ 45) (h215 : f ≠ 215) (h247 : f ≠ 247) (h124 : f ≠ 124) (h42 : f ≠ 42) (h8743 : f ≠ 8743) (h8744 : f ≠ 8744) :
  Calls Tryz.prog 19 #[.int .i64 f, .agg #[.bool ab, .slice ap an ac, .slice aq am ae], .agg #[.bool cb, .slice cp cn cc, .slice cq cm ce]] w (NumRes (cmpR f P Q R S) w) := by
 have g43 : (f == 43) = false := by rw [beq_eq_false_iff_ne]; exact h43
 have g45 : (f == 45) = false := by rw [beq_eq_false_iff_ne]; exact h45
 have g215 : (f == 215) = false := by rw [beq_eq_false_iff_ne]; exact h215
 have g247 : (f == 247) = false := by rw [beq_eq_false_iff_ne]; exact h247
 have g124 : (f == 124) = false := by rw [beq_eq_false_iff_ne]; exact h124
 have g42 : (f == 42) = false := by rw [beq_eq_false_iff_ne]; exact h42
 have g8743 : (f == 8743) = false := by rw [beq_eq_false_iff_ne]; exact h8743
 have g8744 : (f == 8744) = false := by rw [beq_eq_false_iff_ne]; exact h8744
 clear h43 h45 h215 h247 h124 h42 h8743 h8744
 replace Ra := Lib.hid Ra; replace la := Lib.hid la; replace Rb := Lib.hid Rb; replace lb := Lib.hid lb
 go_enter Tryz.func19, Tryz.ntmps19
 go_upto_region 1 with fail
 refine gen_wp (fun w' => Below w.heap.size w w' ∧ Box3 w' w.heap.size (.bool ab) (.slice ap an ac) (.slice aq am ae) ∧ Box3 w' (w.heap.size + 1) (.bool cb) (.slice cp cn cc) (.slice cq cm ce) ∧ Box3 w' (w.heap.size + 2) (.bool false) (.slice none 0 0) (.slice none 0 0))
  ⟨((((Below.refl _ _).alloc (Nat.le_refl _) _).alloc (by simp <;> omega) _).alloc (by simp <;> omega) _), (((Box3.new _ _ _ _ rfl).alloc _).alloc _), ((Box3.new _ _ _ _ (by simp <;> omega)).alloc _), (Box3.new _ _ _ _ (by simp <;> omega))⟩ ?_
 rintro w0 ⟨bb, Xa, Xb, X2⟩
 replace Ra := Ra.out.below bb; replace Rb := Rb.out.below bb
 replace bb := Lib.hid bb; replace Xa := Lib.hid Xa; replace Xb := Lib.hid Xb; replace X2 := Lib.hid X2; replace Ra := Lib.hid Ra; replace Rb := Lib.hid Rb
 have p00 := Xa.out.c0; have p01 := Xa.out.c1; have p02 := Xa.out.c2; have p10 := Xb.out.c0; have p11 := Xb.out.c1; have p12 := Xb.out.c2
 go_wp2_with fail
 clear p00 p01 p02 p10 p11 p12
 refine (comparedP_any f ab ap aq an ac am ae P Q cb cp cq cn cc cm ce R S _ Ra.out la.out Rb.out lb.out).mono ?_
 rintro e v1 ⟨db, dp, dn, dc, dq, dm, de, rfl, D, hb⟩
 replace bb := Lib.hid (below_then bb.out (Nat.le_refl _) hb); replace Xa := Lib.hid (Xa.out.later hb); replace Xb := Lib.hid (Xb.out.later hb); replace X2 := Lib.hid (X2.out.later hb); replace Ra := Lib.hid (Ra.out.below hb); replace Rb := Lib.hid (Rb.out.below hb)
 replace D := Lib.hid D
 clear hb
 replace X2 := X2.out
 replace bb := bb.out
 have q0 := X2.c0; have q1 := X2.c1; have q2 := X2.c2; have q3 := X2.fr 0; have q4 := X2.fr 1; have q5 := X2.fr 2
 have zz := X2.set (.bool db) (.slice dp dn dc) (.slice dq dm de)
 have e0 := zz.c0; have e1 := zz.c1; have e2 := zz.c2
 have Y2 := Lib.hid X2; have bb' := Lib.hid bb
 clear zz X2 bb
 go_wp2_with fail
 refine bodyPost_ret (v := .tuple #[.agg #[.bool db, .slice dp dn dc, .slice dq dm de], .int .i64 ((cmpR f P Q R S).2.2)]) (by simp [results, Tryz.results19, go_sem, e0, e1, e2]) rfl ?_
 exact (ResPost.stored D.out Y2.out bb'.out (by omega))
theorem numbersP_any (f : Int) (ab : Bool) (ap aq : Option Addr) (an ac am ae : Nat) (P : Int) (Q : Nat) (cb : Bool) (cp cq : Option Addr) (cn cc cm ce : Nat) (R : Int) (S : Nat) (w : World) (Ra : Rt w ab ap an ac aq am ae P Q) (la : Low P Q) (Rb : Rt w cb cp cn cc cq cm ce R S) (lb : Low R S) :
  Calls Tryz.prog 19 #[.int .i64 f, .agg #[.bool ab, .slice ap an ac, .slice aq am ae], .agg #[.bool cb, .slice cp cn cc, .slice cq cm ce]] w (NumRes (num2R f P Q R S) w) := by
 by_cases h43 : f = 43
 ·exact numP2_call f ab ap aq an ac am ae P Q cb cp cq cn cc cm ce R S w Ra la Rb lb ((.inl h43))
 by_cases h45 : f = 45
 ·exact numP2_call f ab ap aq an ac am ae P Q cb cp cq cn cc cm ce R S w Ra la Rb lb (.inr ((.inl h45)))
 by_cases h215 : f = 215
 ·exact numP2_call f ab ap aq an ac am ae P Q cb cp cq cn cc cm ce R S w Ra la Rb lb (.inr (.inr ((.inl h215))))
 by_cases h247 : f = 247
 ·exact numP2_call f ab ap aq an ac am ae P Q cb cp cq cn cc cm ce R S w Ra la Rb lb (.inr (.inr (.inr ((.inl h247)))))
 by_cases h124 : f = 124
 ·exact numP2_call f ab ap aq an ac am ae P Q cb cp cq cn cc cm ce R S w Ra la Rb lb (.inr (.inr (.inr (.inr ((.inl h124))))))
 by_cases h42 : f = 42
 ·exact numP2_call f ab ap aq an ac am ae P Q cb cp cq cn cc cm ce R S w Ra la Rb lb (.inr (.inr (.inr (.inr (.inr ((.inl h42)))))))
 by_cases h8743 : f = 8743
 ·exact numP2_call f ab ap aq an ac am ae P Q cb cp cq cn cc cm ce R S w Ra la Rb lb (.inr (.inr (.inr (.inr (.inr (.inr ((.inl h8743))))))))
 by_cases h8744 : f = 8744
 ·exact numP2_call f ab ap aq an ac am ae P Q cb cp cq cn cc cm ce R S w Ra la Rb lb (.inr (.inr (.inr (.inr (.inr (.inr (.inr (h8744))))))))
 have e : num2R f P Q R S = cmpR f P Q R S := by simp only [num2R, cmpR, h43, h45, h215, h247, h124, h42, h8743, h8744, if_false]
 rw [e]
 exact numP2_rest f ab ap aq an ac am ae P Q cb cp cq cn cc cm ce R S w Ra la Rb lb h43 h45 h215 h247 h124 h42 h8743 h8744
end Go.Proofs.YtaepelipkkmeaaaGreat
namespace Go.Proofs.YtaepelipkkmeaaaGreat
open Go.RowKit Num
attribute [local go_sem ↓] Go.wp_at_zero Go.wp_at_succ
def isBoxB (K : Int) (k : Nat) : Bool := decide (K = 2 ∧ k = 1)
theorem isBoxB_two (k : Nat) : ((k : Int) == 1) = isBoxB 2 k := by
 unfold isBoxB
 rw [Bool.eq_iff_iff, beq_iff_eq, decide_eq_true_iff]
 omega
theorem isBoxB_not {K : Int} {k : Nat} (h : K ≠ 2) : isBoxB K k = false := decide_eq_false fun e => h e.1
theorem isBoxB_yes {k : Nat} (h : k = 1) : isBoxB 2 k = true := decide_eq_true ⟨rfl, h⟩
theorem isBox_any (L : Nat) (K C : Int) (b : Bool) (p q r : Option Addr) (n nc m mc k kc : Nat) (w : World) (_ : k ≤ kc) (_ : kc ≤ 9223372036854775807) :
  Calls Tryz.prog 130 #[.agg #[.int .u64 L, .int .i64 K, .bool b, .slice p n nc, .slice q m mc, .int .i64 C, .slice r k kc]] w (Tell (.bool (isBoxB K k)) w) := by
 go_enter Tryz.func130, Tryz.ntmps130
 go_upto_region 1 with fail
 refine told_wp (fun w' => Below w.heap.size w w' ∧ Box7 w' w.heap.size (.int .u64 L) (.int .i64 K) (.bool b) (.slice p n nc) (.slice q m mc) (.int .i64 C) (.slice r k kc))
  ⟨(Below.refl _ _).alloc (Nat.le_refl _) _, Box7.new _ _ _ _ _ _ _ _ rfl⟩ ?_
 rintro w1 ⟨bb, x⟩
 have q1 := x.c1; have q6 := x.c6
 replace bb := Lib.hid bb
 clear x
 by_cases hK : K = 2
 ·subst hK
  have e1 := Lib.hid (isBoxB_two k)
  go_wp2_with fail
  go_ret
  exact ⟨by rw [← e1.out]; rfl, bb.out⟩
 ·have hKb : (K == 2) = false := by rw [beq_eq_false_iff_ne]; exact hK
  have e1 := Lib.hid (isBoxB_not (k := k) hK)
  clear hK
  go_wp2_with fail
  go_ret
  exact ⟨by rw [e1.out]; rfl, bb.out⟩
def BoxedPost (l S n nc m mc : Nat) (ao co : Option Addr) (w : World) (e : Ending) (w' : World) : Prop :=
 ∃ B, e = .returned (.tuple #[.agg #[.int .u64 l, .int .i64 2, .bool false, .slice none 0 0, .slice none 0 0, .int .i64 0, .slice (some ⟨B, 0, none⟩) 1 1], .int .i64 0]) ∧ w.heap.size ≤ B ∧
  (w'.cell? ⟨B, 0, none⟩ = some (.int .u64 S) ∧ w'.cell? ⟨B, 1, none⟩ = some (.slice ao n nc) ∧ w'.cell? ⟨B, 2, none⟩ = some (.slice co m mc)) ∧ Below w.heap.size w w'
theorem boxed_ok (l S n nc m mc : Nat) (ao co : Option Addr) (w : World) :
  Calls Tryz.prog 131 #[.int .u64 l, .agg #[.int .u64 S, .slice ao n nc, .slice co m mc], .int .i64 0] w (BoxedPost l S n nc m mc ao co w) := by
 go_enter Tryz.func131, Tryz.ntmps131
 go_upto_region 1 with fail
 refine told_wp (fun w' => Below w.heap.size w w' ∧ Box3 w' w.heap.size (.int .u64 S) (.slice ao n nc) (.slice co m mc) ∧ Box7 w' (w.heap.size + 1) (.int .u64 0) (.int .i64 0) (.bool false) (.slice none 0 0) (.slice none 0 0) (.int .i64 0) (.slice none 0 0))
  ⟨((Below.refl _ _).alloc (Nat.le_refl _) _).alloc (by simp) _, (Box3.new _ _ _ _ rfl).alloc _, Box7.new _ _ _ _ _ _ _ _ (by simp)⟩ ?_
 rintro w1 ⟨bb, X, Y⟩
 have p0 := X.c0; have p1 := X.c1; have p2 := X.c2
 have hsz := Y.lt
 have hrw := Lib.hid (row_one (w := (((((((w1.setCell ⟨w.heap.size + 1, 0, none⟩ (.int .u64 l)).setCell ⟨w.heap.size + 1, 1, none⟩ (.int .i64 2)).setCell ⟨w.heap.size + 1, 2, none⟩ (.bool false)).setCell ⟨w.heap.size + 1, 3, none⟩ (.slice none 0 0)).setCell ⟨w.heap.size + 1, 4, none⟩ (.slice none 0 0)).setCell ⟨w.heap.size + 1, 5, none⟩ (.int .i64 0)).setCell ⟨w.heap.size + 1, 6, none⟩ (.slice (some ⟨w1.heap.size, 0, none⟩) 1 1))) (.int .u64 S) (.slice ao n nc) (.slice co m mc) 45)
 have f0 := Y.fr 0; have d0 := Y.c0; have f1 := Y.fr 1; have d1 := Y.c1; have f2 := Y.fr 2; have d2 := Y.c2; have f3 := Y.fr 3; have d3 := Y.c3; have f4 := Y.fr 4; have d4 := Y.c4; have f5 := Y.fr 5; have d5 := Y.c5; have f6 := Y.fr 6; have d6 := Y.c6
 have z5 := (Y.setAll (.int .u64 l) (.int .i64 2) (.bool false) (.slice none 0 0) (.slice none 0 0) (.int .i64 0) (.slice (some ⟨w1.heap.size, 0, none⟩) 1 1)).alloc (.cells #[.int .u64 S, .slice ao n nc, .slice co m mc] 45)
 have b4 := below_setAll bb (B := w.heap.size + 1) (by omega) (.int .u64 l) (.int .i64 2) (.bool false) (.slice none 0 0) (.slice none 0 0) (.int .i64 0) (.slice (some ⟨w1.heap.size, 0, none⟩) 1 1)
 have b5 := Lib.hid (b4.alloc b4.size (.cells #[.int .u64 S, .slice ao n nc, .slice co m mc] 45))
 have g0 := z5.c0; have g1 := z5.c1; have g2 := z5.c2; have g3 := z5.c3; have g4 := z5.c4; have g5 := z5.c5; have g6 := z5.c6
 clear z5 X Y bb b4
 go_wp2_with fail
 refine bodyPost_ret (v := .tuple #[.agg #[.int .u64 l, .int .i64 2, .bool false, .slice none 0 0, .slice none 0 0, .int .i64 0, .slice (some ⟨w1.heap.size, 0, none⟩) 1 1], .int .i64 0]) (by simp [results, Tryz.results131, go_sem, g0, g1, g2, g3, g4, g5, g6]) rfl ?_
 have hs2 : (((((((w1.setCell ⟨w.heap.size + 1, 0, none⟩ (.int .u64 l)).setCell ⟨w.heap.size + 1, 1, none⟩ (.int .i64 2)).setCell ⟨w.heap.size + 1, 2, none⟩ (.bool false)).setCell ⟨w.heap.size + 1, 3, none⟩ (.slice none 0 0)).setCell ⟨w.heap.size + 1, 4, none⟩ (.slice none 0 0)).setCell ⟨w.heap.size + 1, 5, none⟩ (.int .i64 0)).setCell ⟨w.heap.size + 1, 6, none⟩ (.slice (some ⟨w1.heap.size, 0, none⟩) 1 1)).heap.size = w1.heap.size := by simp [World.setCell]
 have hr := hrw.out
 rw [hs2] at hr
 exact ⟨w1.heap.size, rfl, by omega, hr, b5.out⟩
theorem boxed_no (l S n nc m mc : Nat) (ao co : Option Addr) (E : Int) (hE : E ≠ 0) (w : World) :
  Calls Tryz.prog 131 #[.int .u64 l, .agg #[.int .u64 S, .slice ao n nc, .slice co m mc], .int .i64 E] w (Tell (.tuple #[.agg #[.int .u64 0, .int .i64 0, .bool false, .slice none 0 0, .slice none 0 0, .int .i64 0, .slice none 0 0], .int .i64 E]) w) := by
 have hEb : (E != 0) = true := bne_iff_ne.2 hE
 clear hE
 go_enter Tryz.func131, Tryz.ntmps131
 go_upto_region 1 with fail
 refine told_wp (fun w' => Below w.heap.size w w' ∧ Box3 w' w.heap.size (.int .u64 S) (.slice ao n nc) (.slice co m mc) ∧ Box7 w' (w.heap.size + 1) (.int .u64 0) (.int .i64 0) (.bool false) (.slice none 0 0) (.slice none 0 0) (.int .i64 0) (.slice none 0 0))
  ⟨((Below.refl _ _).alloc (Nat.le_refl _) _).alloc (by simp) _, (Box3.new _ _ _ _ rfl).alloc _, Box7.new _ _ _ _ _ _ _ _ (by simp)⟩ ?_
 rintro w1 ⟨bb, X, Y⟩
 have f0 := Y.fr 0; have d0 := Y.c0; have f1 := Y.fr 1; have d1 := Y.c1; have f2 := Y.fr 2; have d2 := Y.c2; have f3 := Y.fr 3; have d3 := Y.c3; have f4 := Y.fr 4; have d4 := Y.c4; have f5 := Y.fr 5; have d5 := Y.c5; have f6 := Y.fr 6; have d6 := Y.c6
 have z5 := Y.setAll (.int .u64 0) (.int .i64 0) (.bool false) (.slice none 0 0) (.slice none 0 0) (.int .i64 0) (.slice none 0 0)
 have b5 := Lib.hid (below_setAll bb (B := w.heap.size + 1) (by omega) (.int .u64 0) (.int .i64 0) (.bool false) (.slice none 0 0) (.slice none 0 0) (.int .i64 0) (.slice none 0 0))
 have g0 := z5.c0; have g1 := z5.c1; have g2 := z5.c2; have g3 := z5.c3; have g4 := z5.c4; have g5 := z5.c5; have g6 := z5.c6
 clear z5 X Y bb
 go_wp2_with fail
 refine bodyPost_ret (v := .tuple #[.agg #[.int .u64 0, .int .i64 0, .bool false, .slice none 0 0, .slice none 0 0, .int .i64 0, .slice none 0 0], .int .i64 E]) (by simp [results, Tryz.results131, go_sem, g0, g1, g2, g3, g4, g5, g6]) rfl ?_
 exact ⟨rfl, b5.out⟩
theorem numbered_ok (l n nc m mc : Nat) (b : Bool) (ao bo : Option Addr) (w : World) :
  Calls Tryz.prog 132 #[.int .u64 l, .agg #[.bool b, .slice ao n nc, .slice bo m mc], .int .i64 0] w (Tell (.tuple #[.agg #[.int .u64 l, .int .i64 0, .bool b, .slice ao n nc, .slice bo m mc, .int .i64 0, .slice none 0 0], .int .i64 0]) w) := by
 go_enter Tryz.func132, Tryz.ntmps132
 go_upto_region 1 with fail
 refine told_wp (fun w' => Below w.heap.size w w' ∧ Box3 w' w.heap.size (.bool b) (.slice ao n nc) (.slice bo m mc) ∧ Box7 w' (w.heap.size + 1) (.int .u64 0) (.int .i64 0) (.bool false) (.slice none 0 0) (.slice none 0 0) (.int .i64 0) (.slice none 0 0))
  ⟨((Below.refl _ _).alloc (Nat.le_refl _) _).alloc (by simp) _, (Box3.new _ _ _ _ rfl).alloc _, Box7.new _ _ _ _ _ _ _ _ (by simp)⟩ ?_
 rintro w1 ⟨bb, X, Y⟩
 have p0 := X.c0; have p1 := X.c1; have p2 := X.c2
 have hsz := Y.lt
 have f0 := Y.fr 0; have d0 := Y.c0; have f1 := Y.fr 1; have d1 := Y.c1; have f2 := Y.fr 2; have d2 := Y.c2; have f3 := Y.fr 3; have d3 := Y.c3; have f4 := Y.fr 4; have d4 := Y.c4; have f5 := Y.fr 5; have d5 := Y.c5; have f6 := Y.fr 6; have d6 := Y.c6
 have z5 := Y.setAll (.int .u64 l) (.int .i64 0) (.bool b) (.slice ao n nc) (.slice bo m mc) (.int .i64 0) (.slice none 0 0)
 have b5 := Lib.hid (below_setAll bb (B := w.heap.size + 1) (by omega) (.int .u64 l) (.int .i64 0) (.bool b) (.slice ao n nc) (.slice bo m mc) (.int .i64 0) (.slice none 0 0))
 have g0 := z5.c0; have g1 := z5.c1; have g2 := z5.c2; have g3 := z5.c3; have g4 := z5.c4; have g5 := z5.c5; have g6 := z5.c6
 clear z5 X Y bb
 go_wp2_with fail
 refine bodyPost_ret (v := .tuple #[.agg #[.int .u64 l, .int .i64 0, .bool b, .slice ao n nc, .slice bo m mc, .int .i64 0, .slice none 0 0], .int .i64 0]) (by simp [results, Tryz.results132, go_sem, g0, g1, g2, g3, g4, g5, g6]) rfl ?_
 exact ⟨rfl, b5.out⟩
theorem numbered_no (l n nc m mc : Nat) (b : Bool) (ao bo : Option Addr) (E : Int) (hE : E ≠ 0) (w : World) :
  Calls Tryz.prog 132 #[.int .u64 l, .agg #[.bool b, .slice ao n nc, .slice bo m mc], .int .i64 E] w (Tell (.tuple #[.agg #[.int .u64 0, .int .i64 0, .bool false, .slice none 0 0, .slice none 0 0, .int .i64 0, .slice none 0 0], .int .i64 E]) w) := by
 have hEb : (E != 0) = true := bne_iff_ne.2 hE
 clear hE
 go_enter Tryz.func132, Tryz.ntmps132
 go_upto_region 1 with fail
 refine told_wp (fun w' => Below w.heap.size w w' ∧ Box3 w' w.heap.size (.bool b) (.slice ao n nc) (.slice bo m mc) ∧ Box7 w' (w.heap.size + 1) (.int .u64 0) (.int .i64 0) (.bool false) (.slice none 0 0) (.slice none 0 0) (.int .i64 0) (.slice none 0 0))
  ⟨((Below.refl _ _).alloc (Nat.le_refl _) _).alloc (by simp) _, (Box3.new _ _ _ _ rfl).alloc _, Box7.new _ _ _ _ _ _ _ _ (by simp)⟩ ?_
 rintro w1 ⟨bb, X, Y⟩
 have f0 := Y.fr 0; have d0 := Y.c0; have f1 := Y.fr 1; have d1 := Y.c1; have f2 := Y.fr 2; have d2 := Y.c2; have f3 := Y.fr 3; have d3 := Y.c3; have f4 := Y.fr 4; have d4 := Y.c4; have f5 := Y.fr 5; have d5 := Y.c5; have f6 := Y.fr 6; have d6 := Y.c6
 have z5 := Y.setAll (.int .u64 0) (.int .i64 0) (.bool false) (.slice none 0 0) (.slice none 0 0) (.int .i64 0) (.slice none 0 0)
 have b5 := Lib.hid (below_setAll bb (B := w.heap.size + 1) (by omega) (.int .u64 0) (.int .i64 0) (.bool false) (.slice none 0 0) (.slice none 0 0) (.int .i64 0) (.slice none 0 0))
 have g0 := z5.c0; have g1 := z5.c1; have g2 := z5.c2; have g3 := z5.c3; have g4 := z5.c4; have g5 := z5.c5; have g6 := z5.c6
 clear z5 X Y bb
 go_wp2_with fail
 refine bodyPost_ret (v := .tuple #[.agg #[.int .u64 0, .int .i64 0, .bool false, .slice none 0 0, .slice none 0 0, .int .i64 0, .slice none 0 0], .int .i64 E]) (by simp [results, Tryz.results132, go_sem, g0, g1, g2, g3, g4, g5, g6]) rfl ?_
 exact ⟨rfl, b5.out⟩
theorem leading_one (S T n nc m mc k kc j jc : Nat) (ao co bo eo : Option Addr) (w : World) (_ : n ≤ nc) (_ : nc ≤ 9223372036854775807) (hn : 0 < n) :
  Calls Tryz.prog 85 #[.agg #[.int .u64 S, .slice ao n nc, .slice co m mc], .agg #[.int .u64 T, .slice bo k kc, .slice eo j jc]] w (Tell (.agg #[.int .u64 S, .slice ao n nc, .slice co m mc]) w) := by
 go_enter Tryz.func85, Tryz.ntmps85
 go_upto_region 1 with fail
 refine told_wp (fun w' => Below w.heap.size w w' ∧ Box3 w' w.heap.size (.int .u64 S) (.slice ao n nc) (.slice co m mc) ∧ Box3 w' (w.heap.size + 1) (.int .u64 T) (.slice bo k kc) (.slice eo j jc) ∧ Box3 w' (w.heap.size + 2) (.int .u64 0) (.slice none 0 0) (.slice none 0 0))
  ⟨(((Below.refl _ _).alloc (Nat.le_refl _) _).alloc (by simp) _).alloc (by simp; omega) _, ((Box3.new _ _ _ _ rfl).alloc _).alloc _, (Box3.new _ _ _ _ (by simp)).alloc _, Box3.new _ _ _ _ (by simp)⟩ ?_
 rintro w1 ⟨bb, X, Y, Z⟩
 have x0 := X.c0; have x1 := X.c1; have x2 := X.c2; have y0 := Y.c0; have y1 := Y.c1; have y2 := Y.c2
 have q0 := Z.c0; have q1 := Z.c1; have q2 := Z.c2; have q3 := Z.fr 0; have q4 := Z.fr 1; have q5 := Z.fr 2
 have z := Z.set (.int .u64 S) (.slice ao n nc) (.slice co m mc)
 have e0 := z.c0; have e1 := z.c1; have e2 := z.c2
 have hbw := Lib.hid (below_set3 bb (B := w.heap.size + 2) (by omega) (.int .u64 S) (.slice ao n nc) (.slice co m mc))
 clear z X Y Z bb
 have hd : decide ((0 : Int) < (n : Int)) = true := decide_eq_true (by omega)
 go_wp2_with fail
 refine bodyPost_ret (v := .agg #[.int .u64 S, .slice ao n nc, .slice co m mc]) (by simp [results, Tryz.results85, go_sem, e0, e1, e2]) rfl ?_
 exact ⟨rfl, hbw.out⟩
theorem leading_two (S T n nc m mc k kc j jc : Nat) (ao co bo eo : Option Addr) (w : World) (_ : nc ≤ 9223372036854775807) (hn : n = 0) :
  Calls Tryz.prog 85 #[.agg #[.int .u64 S, .slice ao n nc, .slice co m mc], .agg #[.int .u64 T, .slice bo k kc, .slice eo j jc]] w (Tell (.agg #[.int .u64 T, .slice bo k kc, .slice eo j jc]) w) := by
 subst hn
 go_enter Tryz.func85, Tryz.ntmps85
 go_upto_region 1 with fail
 refine told_wp (fun w' => Below w.heap.size w w' ∧ Box3 w' w.heap.size (.int .u64 S) (.slice ao 0 nc) (.slice co m mc) ∧ Box3 w' (w.heap.size + 1) (.int .u64 T) (.slice bo k kc) (.slice eo j jc) ∧ Box3 w' (w.heap.size + 2) (.int .u64 0) (.slice none 0 0) (.slice none 0 0))
  ⟨(((Below.refl _ _).alloc (Nat.le_refl _) _).alloc (by simp) _).alloc (by simp; omega) _, ((Box3.new _ _ _ _ rfl).alloc _).alloc _, (Box3.new _ _ _ _ (by simp)).alloc _, Box3.new _ _ _ _ (by simp)⟩ ?_
 rintro w1 ⟨bb, X, Y, Z⟩
 have x0 := X.c0; have x1 := X.c1; have x2 := X.c2; have y0 := Y.c0; have y1 := Y.c1; have y2 := Y.c2
 have q0 := Z.c0; have q1 := Z.c1; have q2 := Z.c2; have q3 := Z.fr 0; have q4 := Z.fr 1; have q5 := Z.fr 2
 have z := Z.set (.int .u64 T) (.slice bo k kc) (.slice eo j jc)
 have e0 := z.c0; have e1 := z.c1; have e2 := z.c2
 have hbw := Lib.hid (below_set3 bb (B := w.heap.size + 2) (by omega) (.int .u64 T) (.slice bo k kc) (.slice eo j jc))
 clear z X Y Z bb
 go_wp2_with fail
 refine bodyPost_ret (v := .agg #[.int .u64 T, .slice bo k kc, .slice eo j jc]) (by simp [results, Tryz.results85, go_sem, e0, e1, e2]) rfl ?_
 exact ⟨rfl, hbw.out⟩
theorem openedQ_any (c : CellD) (Q0 : Nat → Prop) (e : Nat → Value) (w : World) (h : CellNQ w Q0 c e) (h2 : c.K = 2 → c.k = 1) :
  Calls Tryz.prog 136 #[.agg #[e 0, e 1, e 2, e 3, e 4, e 5, e 6]] w (TreeQN (innerT c) Q0 w) := by
 obtain ⟨L, K, N, C, k, sub⟩ := c
 replace h2 : K = 2 → k = 1 := h2
 have h' := Lib.hid h
 obtain ⟨p0, pL, p1, pK, ⟨p2, ⟨a3, c3, p3, ha, _⟩, ⟨a4, c4, p4, hb, _⟩⟩, p5, pC, io, kc, p6, hk, hrow⟩ := h
 have hk1 := hk.1; have hk2 := hk.2.1; have hrow' : Hid (RowQ w Q0 io k fun j d0 d1 d2 => ArrQ w Q0 (sub j) d0 d1 d2) := Lib.hid hrow
 have hv := Lib.hid (show (Value.agg #[.int .u64 (0 : Nat), .int .i64 K, .bool N.neg, .slice a3 N.an c3, .slice a4 N.am c4, .int .i64 C, .slice io k kc]) = .agg #[.int .u64 (0 : Nat), e 1, e 2, e 3, e 4, e 5, e 6] from by rw [p1, p2, p3, p4, p5, p6])
 rw [p0, p1, p2, p3, p4, p5, p6]
 clear p0 p1 p2 p3 p4 p5 p6 ha hb pK pC hk hrow
 go_enter Tryz.func136, Tryz.ntmps136
 go_upto_region 1 with fail
 refine told_wp (fun w' => Below w.heap.size w w' ∧ Box7 w' w.heap.size (.int .u64 L) (.int .i64 K) (.bool N.neg) (.slice a3 N.an c3) (.slice a4 N.am c4) (.int .i64 C) (.slice io k kc) ∧ Box3 w' (w.heap.size + 1) (.int .u64 0) (.slice none 0 0) (.slice none 0 0))
  ⟨((Below.refl _ _).alloc (Nat.le_refl _) _).alloc (by simp) _, (Box7.new _ _ _ _ _ _ _ _ rfl).alloc _, Box3.new _ _ _ _ (by simp)⟩ ?_
 rintro w2a ⟨b2, x2, y2⟩
 have a0 := x2.c0; have a1 := x2.c1; have a2 := x2.c2; have a3' := x2.c3; have a4' := x2.c4; have a5 := x2.c5; have a6 := x2.c6
 have hcall := Lib.hid (isBox_any L K C N.neg a3 a4 io N.an c3 N.am c4 k kc w2a hk1 hk2)
 have b2' := Lib.hid b2; have x2' := Lib.hid x2; have y2' := Lib.hid y2
 clear b2 x2 y2
 go_wp2_with fail
 refine hcall.out.mono ?_
 rintro e w2 ⟨rfl, hb2⟩
 have b2 := below_then b2'.out (Nat.le_refl _) hb2; have x2 := x2'.out.later hb2; have y2 := y2'.out.later hb2
 clear b2' x2' y2' hb2 a0 a1 a2 a3' a4' a5 a6 hcall
 have q1 := x2.c1; have q6 := x2.c6
 by_cases hK : K = 2
 ·subst hK
  have hk1' := h2 rfl
  subst hk1'
  rw [isBoxB_yes rfl]
  have hk0 : 0 < 1 := Nat.zero_lt_one
  rcases hrow'.out with h0 | ⟨b, o, rfl, _, hrows⟩
  ·omega
  obtain ⟨u0, u1, u2, r0, r1, r2, r3⟩ := hrows 0 hk0
  obtain ⟨S', n, nc, m, mc, ao, co, e0, e1, e2⟩ := r3.form
  subst e0; subst e1; subst e2
  rw [Nat.zero_mul, Nat.add_zero] at r0 r1 r2
  have s0 := cell_below r0 b2; have s1 := cell_below r1 b2; have s2 := cell_below r2 b2
  have hA' := Lib.hid r3
  have hup := Lib.hid (show innerT ⟨L, 2, N, C, 1, sub⟩ = sub 0 from if_pos rfl)
  clear r0 r1 r2 r3 hrows h2 hk0
  have f0 := y2.fr 0; have f1 := y2.fr 1; have f2 := y2.fr 2; have d0 := y2.c0; have d1 := y2.c1; have d2 := y2.c2
  have z := y2.set (.int .u64 S') (.slice ao n nc) (.slice co m mc)
  have g0 := z.c0; have g1 := z.c1; have g2 := z.c2
  have bw := Lib.hid (below_set3 b2 (B := w.heap.size + 1) (by omega) (.int .u64 S') (.slice ao n nc) (.slice co m mc))
  clear z y2 x2 b2
  go_wp2_with fail
  refine bodyPost_ret (v := .agg #[.int .u64 S', .slice ao n nc, .slice co m mc]) (by simp [results, Tryz.results136, go_sem, g0, g1, g2]) rfl ?_
  rw [hup.out]
  exact ⟨_, _, _, rfl, ArrQ.keep (fun b _ hb => bw.out.block b hb) (fun _ hq _ => .inl hq) _ _ _ _ hA'.out, bw.out⟩
 ·rw [isBoxB_not hK]
  have hup := Lib.hid (show innerT ⟨L, K, N, C, k, sub⟩ = .arr 0 0 (fun _ => 0) 1 (fun _ => 0) (fun _ => K) (fun _ => C) (fun _ => N) (fun _ => k) (fun _ => sub) from if_neg hK)
  have q0 := x2.c0; have fx := x2.fr 0
  have x3 := Lib.hid (x2.set0 (.int .u64 (0 : Nat))); have y3 := Lib.hid (y2.aside7 (D := w.heap.size) (by omega) 0 (.int .u64 (0 : Nat))); have b3 := Lib.hid (b2.setCell (p := ⟨w.heap.size, 0, none⟩) (Nat.le_refl _) (.int .u64 (0 : Nat)))
  clear x2 y2 b2 h2 hK
  go_upto_region 4 with fail
  refine told_wp (fun w' => Below w.heap.size w w' ∧ Box7 w' w.heap.size (.int .u64 (0 : Nat)) (.int .i64 K) (.bool N.neg) (.slice a3 N.an c3) (.slice a4 N.am c4) (.int .i64 C) (.slice io k kc) ∧ Box3 w' (w.heap.size + 1) (.int .u64 0) (.slice none 0 0) (.slice none 0 0)) ⟨b3.out, x3.out, y3.out⟩ ?_
  clear q0 q1 q6 fx b3 x3 y3
  rintro w3 ⟨b3, x3, y3⟩
  have hc0 : CellNQ w Q0 ⟨0, K, N, C, k, sub⟩ (fun i => if i = 0 then .int .u64 (0 : Nat) else e i) := ⟨rfl, (by decide : (0 : Nat) < 18446744073709551616), h'.out.2.2⟩
  have hmade := Lib.hid (madeQ 65 hc0 (by decide : (0 : Nat) < 18446744073709551616) b3 y3 (.int .u64 (0 : Nat)) (.int .i64 K) (.bool N.neg) (.slice a3 N.an c3) (.slice a4 N.am c4) (.int .i64 C) (.slice io k kc) hv.out _ rfl)
  have q0 := x3.c0; have q1 := x3.c1; have q2 := x3.c2; have q3 := x3.c3; have q4 := x3.c4; have q5 := x3.c5; have q6 := x3.c6
  have f0 := y3.fr 0; have f1 := y3.fr 1; have f2 := y3.fr 2; have d0 := y3.c0; have d1 := y3.c1; have d2 := y3.c2
  have hsz : w.heap.size + 1 < w3.heap.size := y3.lt
  have g0 := hmade.out.1.c0; have g1 := hmade.out.1.c1; have g2 := hmade.out.1.c2
  have hz : ((0 : Nat) : Int) = 0 := rfl
  simp only [hz] at g0 g1 g2 q0
  clear b3 x3 y3 hc0 hz
  go_wp2_with fail
  refine bodyPost_ret (v := .agg #[.int .u64 (0 : Nat), .slice none 0 0, .slice (some ⟨w3.heap.size, 0, none⟩) 1 1]) (by simp [results, Tryz.results136, go_sem, g0, g1, g2]) rfl ?_
  rw [hup.out]
  exact ⟨_, _, _, rfl, hmade.out.2.2, hmade.out.2.1⟩
theorem pickedQ_any (A : Tree) (Q0 : Nat → Prop) (c0 c1 c2 : Value) (i : Int) (w : World) (h : ArrQ w Q0 A c0 c1 c2) (i0 : -9223372036854775808 ≤ i) (i1 : i ≤ 9223372036854775807) :
  Calls Tryz.prog 87 #[.agg #[c0, c1, c2], .int .i64 i] w (CellQPost (pickT A i) Q0 w) := by
 obtain _ | ⟨S, n, sh, m, L, K, C, N, k, sub⟩ := A
 ·exact (ArrQ.leaf h).elim
 obtain ⟨rfl, hS, ⟨ao, nc, rfl, hn, _, _⟩, co, mc, rfl, hm, hc⟩ := h
 have n1 := hn.1; have n2 := hn.2.1; have n3 := hn.2.2; have m1' := hm.1; have m2' := hm.2.1; have m3' := hm.2.2
 clear hn hm
 go_enter Tryz.func87, Tryz.ntmps87
 go_upto_region 1 with fail
 refine told_wp (fun w' => Below w.heap.size w w' ∧ Box3 w' w.heap.size (.int .u64 S) (.slice ao n nc) (.slice co m mc) ∧ Box7 w' (w.heap.size + 1) (.int .u64 0) (.int .i64 0) (.bool false) (.slice none 0 0) (.slice none 0 0) (.int .i64 0) (.slice none 0 0))
  ⟨((Below.refl _ _).alloc (Nat.le_refl _) _).alloc (by simp) _, (Box3.new _ _ _ _ rfl).alloc _, Box7.new _ _ _ _ _ _ _ _ (by simp)⟩ ?_
 rintro w1 ⟨bb, X, Y⟩
 have p1 := X.c1; have q2 := X.c2
 clear X
 by_cases hn0 : n = 0
 ·subst hn0
  by_cases hm0 : m = 0
  ·subst hm0
   have hp := Lib.hid (show pickT (.arr S 0 sh 0 L K C N k sub) i = zeroD from by simp [pickT])
   clear hc i0 i1
   have f0 := Y.fr 0; have d0 := Y.c0; have f1 := Y.fr 1; have d1 := Y.c1; have f2 := Y.fr 2; have d2 := Y.c2; have f3 := Y.fr 3; have d3 := Y.c3; have f4 := Y.fr 4; have d4 := Y.c4; have f5 := Y.fr 5; have d5 := Y.c5; have f6 := Y.fr 6; have d6 := Y.c6
   have z5 := Y.setAll (.int .u64 0) (.int .i64 0) (.bool false) (.slice none 0 0) (.slice none 0 0) (.int .i64 0) (.slice none 0 0)
   have b5 := Lib.hid (below_setAll bb (B := w.heap.size + 1) (by omega) (.int .u64 0) (.int .i64 0) (.bool false) (.slice none 0 0) (.slice none 0 0) (.int .i64 0) (.slice none 0 0))
   have g0 := z5.c0; have g1 := z5.c1; have g2 := z5.c2; have g3 := z5.c3; have g4 := z5.c4; have g5 := z5.c5; have g6 := z5.c6
   clear z5 bb Y
   go_wp2_with fail
   refine bodyPost_ret (v := .agg #[.int .u64 0, .int .i64 0, .bool false, .slice none 0 0, .slice none 0 0, .int .i64 0, .slice none 0 0]) (by simp [results, Tryz.results87, go_sem, g0, g1, g2, g3, g4, g5, g6]) rfl ?_
   rw [hp.out]
   exact ⟨fun q => [Value.int .u64 0, .int .i64 0, .bool false, .slice none 0 0, .slice none 0 0, .int .i64 0, .slice none 0 0].getD q undef, rfl, ⟨rfl, (by decide : (0 : Nat) < 18446744073709551616), rfl, ⟨by decide, by decide⟩, num_zero10 _ _, rfl, ⟨by decide, by decide⟩, none, 0, rfl, ⟨Nat.le_refl _, by decide, by decide⟩, .inl rfl⟩, b5.out⟩
  ·have hp := Lib.hid (show pickT (.arr S 0 sh m L K C N k sub) i = ⟨L 0, K 0, N 0, C 0, k 0, sub 0⟩ from if_pos ⟨rfl, by omega⟩)
   have hmd : decide ((m : Int) ≤ 0) = false := decide_eq_false (by omega)
   have hmi : (0 : Int) < (m : Int) := by omega
   clear i0 i1
   rcases hc with h0 | ⟨b, o, rfl, _, hcells⟩
   ·omega
   obtain ⟨e, he, hcell⟩ := hcells 0 (by omega)
   have m0 := cell_below (he 0 (by decide)) bb
   have m1 := cell_below (he 1 (by decide)) bb
   have m2 := cell_below (he 2 (by decide)) bb
   have m3 := cell_below (he 3 (by decide)) bb
   have m4 := cell_below (he 4 (by decide)) bb
   have m5 := cell_below (he 5 (by decide)) bb
   have m6 := cell_below (he 6 (by decide)) bb
   rw [Nat.zero_mul, Nat.add_zero] at m1 m2 m3 m4 m5 m6
   simp only [Nat.zero_mul, Nat.add_zero] at m0
   have hce := Lib.hid hcell
   obtain ⟨p0, pL, p1', pK, ⟨p2, ⟨a3, c3, p3, ha, _⟩, ⟨a4, c4, p4, hb4, _⟩⟩, p5, pC, io, kc, p6, hk, _⟩ := hcell
   have hv := Lib.hid (show (Value.agg #[.int .u64 (L 0 : Nat), .int .i64 (K 0), .bool (N 0).neg, .slice a3 (N 0).an c3, .slice a4 (N 0).am c4, .int .i64 (C 0), .slice io (k 0) kc]) = .agg #[e 0, e 1, e 2, e 3, e 4, e 5, e 6] from by rw [p0, p1', p2, p3, p4, p5, p6])
   rw [p0] at m0; rw [p1'] at m1; rw [p2] at m2; rw [p3] at m3; rw [p4] at m4; rw [p5] at m5; rw [p6] at m6
   clear hcells he p0 p1' p2 p3 p4 p5 p6 ha hb4
   have hk1 := hk.1; have hk2 := hk.2.1
   have f0 := Y.fr 0; have d0 := Y.c0; have f1 := Y.fr 1; have d1 := Y.c1; have f2 := Y.fr 2; have d2 := Y.c2; have f3 := Y.fr 3; have d3 := Y.c3; have f4 := Y.fr 4; have d4 := Y.c4; have f5 := Y.fr 5; have d5 := Y.c5; have f6 := Y.fr 6; have d6 := Y.c6
   have z5 := Y.setAll (.int .u64 (L 0 : Nat)) (.int .i64 (K 0)) (.bool (N 0).neg) (.slice a3 (N 0).an c3) (.slice a4 (N 0).am c4) (.int .i64 (C 0)) (.slice io (k 0) kc)
   have b5 := Lib.hid (below_setAll bb (B := w.heap.size + 1) (by omega) (.int .u64 (L 0 : Nat)) (.int .i64 (K 0)) (.bool (N 0).neg) (.slice a3 (N 0).an c3) (.slice a4 (N 0).am c4) (.int .i64 (C 0)) (.slice io (k 0) kc))
   have g0 := z5.c0; have g1 := z5.c1; have g2 := z5.c2; have g3 := z5.c3; have g4 := z5.c4; have g5 := z5.c5; have g6 := z5.c6
   clear z5 bb Y
   go_wp2_with fail
   refine bodyPost_ret (v := .agg #[.int .u64 (L 0 : Nat), .int .i64 (K 0), .bool (N 0).neg, .slice a3 (N 0).an c3, .slice a4 (N 0).am c4, .int .i64 (C 0), .slice io (k 0) kc]) (by simp [results, Tryz.results87, go_sem, g0, g1, g2, g3, g4, g5, g6]) rfl ?_
   rw [hp.out]
   exact ⟨e, by rw [hv.out], CellQ.keep hce.out (fun b _ hlt => b5.out.block b hlt) (fun _ hq _ => hq) (fun _ d0 d1 d2 hd => ArrQ.keep (fun b _ hlt => b5.out.block b hlt) (fun _ hq _ => hq) _ _ _ _ hd), b5.out⟩
 ·have dn : ((n : Int) == 0) = false := by rw [beq_eq_false_iff_ne]; omega
  by_cases hi0 : i < 0
  ·have hd0 : decide (i < 0) = true := decide_eq_true hi0
   have hp := Lib.hid (show pickT (.arr S n sh m L K C N k sub) i = zeroD from by show (if _ then _ else _) = _; rw [if_neg (fun e => hn0 e.1), if_pos (.inl hi0)])
   clear hn0 hc hi0
   have f0 := Y.fr 0; have d0 := Y.c0; have f1 := Y.fr 1; have d1 := Y.c1; have f2 := Y.fr 2; have d2 := Y.c2; have f3 := Y.fr 3; have d3 := Y.c3; have f4 := Y.fr 4; have d4 := Y.c4; have f5 := Y.fr 5; have d5 := Y.c5; have f6 := Y.fr 6; have d6 := Y.c6
   have z5 := Y.setAll (.int .u64 0) (.int .i64 0) (.bool false) (.slice none 0 0) (.slice none 0 0) (.int .i64 0) (.slice none 0 0)
   have b5 := Lib.hid (below_setAll bb (B := w.heap.size + 1) (by omega) (.int .u64 0) (.int .i64 0) (.bool false) (.slice none 0 0) (.slice none 0 0) (.int .i64 0) (.slice none 0 0))
   have g0 := z5.c0; have g1 := z5.c1; have g2 := z5.c2; have g3 := z5.c3; have g4 := z5.c4; have g5 := z5.c5; have g6 := z5.c6
   clear z5 bb Y
   go_wp2_with fail
   refine bodyPost_ret (v := .agg #[.int .u64 0, .int .i64 0, .bool false, .slice none 0 0, .slice none 0 0, .int .i64 0, .slice none 0 0]) (by simp [results, Tryz.results87, go_sem, g0, g1, g2, g3, g4, g5, g6]) rfl ?_
   rw [hp.out]
   exact ⟨fun q => [Value.int .u64 0, .int .i64 0, .bool false, .slice none 0 0, .slice none 0 0, .int .i64 0, .slice none 0 0].getD q undef, rfl, ⟨rfl, (by decide : (0 : Nat) < 18446744073709551616), rfl, ⟨by decide, by decide⟩, num_zero10 _ _, rfl, ⟨by decide, by decide⟩, none, 0, rfl, ⟨Nat.le_refl _, by decide, by decide⟩, .inl rfl⟩, b5.out⟩
  ·obtain ⟨j, rfl⟩ := Int.eq_ofNat_of_zero_le (Int.not_lt.1 hi0)
   clear hi0
   by_cases hj : m ≤ j
   ·have hd1 : decide ((m : Int) ≤ (j : Int)) = true := decide_eq_true (by omega)
    have hd0 : decide ((j : Int) < 0) = false := decide_eq_false (by omega)
    have hp := Lib.hid (show pickT (.arr S n sh m L K C N k sub) (j : Int) = zeroD from by show (if _ then _ else _) = _; rw [if_neg (fun e => hn0 e.1), if_pos (.inr (.inl (by omega)))])
    clear hn0 hc
    have f0 := Y.fr 0; have d0 := Y.c0; have f1 := Y.fr 1; have d1 := Y.c1; have f2 := Y.fr 2; have d2 := Y.c2; have f3 := Y.fr 3; have d3 := Y.c3; have f4 := Y.fr 4; have d4 := Y.c4; have f5 := Y.fr 5; have d5 := Y.c5; have f6 := Y.fr 6; have d6 := Y.c6
    have z5 := Y.setAll (.int .u64 0) (.int .i64 0) (.bool false) (.slice none 0 0) (.slice none 0 0) (.int .i64 0) (.slice none 0 0)
    have b5 := Lib.hid (below_setAll bb (B := w.heap.size + 1) (by omega) (.int .u64 0) (.int .i64 0) (.bool false) (.slice none 0 0) (.slice none 0 0) (.int .i64 0) (.slice none 0 0))
    have g0 := z5.c0; have g1 := z5.c1; have g2 := z5.c2; have g3 := z5.c3; have g4 := z5.c4; have g5 := z5.c5; have g6 := z5.c6
    clear z5 bb Y
    go_wp2_with fail
    refine bodyPost_ret (v := .agg #[.int .u64 0, .int .i64 0, .bool false, .slice none 0 0, .slice none 0 0, .int .i64 0, .slice none 0 0]) (by simp [results, Tryz.results87, go_sem, g0, g1, g2, g3, g4, g5, g6]) rfl ?_
    rw [hp.out]
    exact ⟨fun q => [Value.int .u64 0, .int .i64 0, .bool false, .slice none 0 0, .slice none 0 0, .int .i64 0, .slice none 0 0].getD q undef, rfl, ⟨rfl, (by decide : (0 : Nat) < 18446744073709551616), rfl, ⟨by decide, by decide⟩, num_zero10 _ _, rfl, ⟨by decide, by decide⟩, none, 0, rfl, ⟨Nat.le_refl _, by decide, by decide⟩, .inl rfl⟩, b5.out⟩
   ·have hd1 : decide ((m : Int) ≤ (j : Int)) = false := decide_eq_false (by omega)
    have hd0 : decide ((j : Int) < 0) = false := decide_eq_false (by omega)
    have hp := Lib.hid (show pickT (.arr S n sh m L K C N k sub) (j : Int) = ⟨L j, K j, N j, C j, k j, sub j⟩ from by show (if _ then _ else _) = _; rw [if_neg (fun e => hn0 e.1), if_neg (by omega)]; rfl)
    have hjm : j < m := by omega
    have hji : (j : Int) < (m : Int) := by omega
    clear hn0
    rcases hc with h0 | ⟨b, o, rfl, _, hcells⟩
    ·omega
    obtain ⟨e, he, hcell⟩ := hcells j (by omega)
    have m0 := cell_below (he 0 (by decide)) bb
    have m1 := cell_below (he 1 (by decide)) bb
    have m2 := cell_below (he 2 (by decide)) bb
    have m3 := cell_below (he 3 (by decide)) bb
    have m4 := cell_below (he 4 (by decide)) bb
    have m5 := cell_below (he 5 (by decide)) bb
    have m6 := cell_below (he 6 (by decide)) bb
    rw [Nat.add_zero] at m0
    have hce := Lib.hid hcell
    obtain ⟨p0, pL, p1', pK, ⟨p2, ⟨a3, c3, p3, ha, _⟩, ⟨a4, c4, p4, hb4, _⟩⟩, p5, pC, io, kc, p6, hk, _⟩ := hcell
    have hv := Lib.hid (show (Value.agg #[.int .u64 (L j : Nat), .int .i64 (K j), .bool (N j).neg, .slice a3 (N j).an c3, .slice a4 (N j).am c4, .int .i64 (C j), .slice io (k j) kc]) = .agg #[e 0, e 1, e 2, e 3, e 4, e 5, e 6] from by rw [p0, p1', p2, p3, p4, p5, p6])
    rw [p0] at m0; rw [p1'] at m1; rw [p2] at m2; rw [p3] at m3; rw [p4] at m4; rw [p5] at m5; rw [p6] at m6
    clear hcells he p0 p1' p2 p3 p4 p5 p6 ha hb4
    have hk1 := hk.1; have hk2 := hk.2.1
    have f0 := Y.fr 0; have d0 := Y.c0; have f1 := Y.fr 1; have d1 := Y.c1; have f2 := Y.fr 2; have d2 := Y.c2; have f3 := Y.fr 3; have d3 := Y.c3; have f4 := Y.fr 4; have d4 := Y.c4; have f5 := Y.fr 5; have d5 := Y.c5; have f6 := Y.fr 6; have d6 := Y.c6
    have z5 := Y.setAll (.int .u64 (L j : Nat)) (.int .i64 (K j)) (.bool (N j).neg) (.slice a3 (N j).an c3) (.slice a4 (N j).am c4) (.int .i64 (C j)) (.slice io (k j) kc)
    have b5 := Lib.hid (below_setAll bb (B := w.heap.size + 1) (by omega) (.int .u64 (L j : Nat)) (.int .i64 (K j)) (.bool (N j).neg) (.slice a3 (N j).an c3) (.slice a4 (N j).am c4) (.int .i64 (C j)) (.slice io (k j) kc))
    have g0 := z5.c0; have g1 := z5.c1; have g2 := z5.c2; have g3 := z5.c3; have g4 := z5.c4; have g5 := z5.c5; have g6 := z5.c6
    clear z5 bb Y
    go_wp2_with fail
    refine bodyPost_ret (v := .agg #[.int .u64 (L j : Nat), .int .i64 (K j), .bool (N j).neg, .slice a3 (N j).an c3, .slice a4 (N j).am c4, .int .i64 (C j), .slice io (k j) kc]) (by simp [results, Tryz.results87, go_sem, g0, g1, g2, g3, g4, g5, g6]) rfl ?_
    rw [hp.out]
    exact ⟨e, by rw [hv.out], CellQ.keep hce.out (fun b _ hlt => b5.out.block b hlt) (fun _ hq _ => hq) (fun _ d0 d1 d2 hd => ArrQ.keep (fun b _ hlt => b5.out.block b hlt) (fun _ hq _ => hq) _ _ _ _ hd), b5.out⟩
end Go.Proofs.YtaepelipkkmeaaaGreat
namespace Go.Proofs.YtaepelipkkmeaaaGreat
open Go.RowKit Num
def SameZPost (n m : Nat) (f g : Nat → Int) (w : World) (e : Ending) (w' : World) : Prop := ∃ r, e = .returned (.bool r) ∧ (r = true ↔ n = m ∧ ∀ j, j < n → f j = g j) ∧ Below w.heap.size w w'
theorem eqZ_any (ao bo : Option Addr) (n nc m mc : Nat) (f g : Nat → Int) (w : World) (hn : n ≤ 9223372036854775807) (hf : SlZ w ao n f) (hg : SlZ w bo m g) :
  Calls Tryz.prog 91 #[.slice ao n nc, .slice bo m mc] w (SameZPost n m f g w) := by
 by_cases hnm : n = m
 ·subst hnm
  go_enter Tryz.func91, Tryz.ntmps91
  go_wp2_with fail
  go_loopw [13] (fun i wr => ∃ j : Nat, j ≤ n ∧ i = .int .i64 j ∧ Hid (∀ i, i < j → f i = g i) ∧ ∃ q, wr = w.drewN q) (fun i _ => n - (intOf i).toNat)
  case atStart => exact ⟨0, Nat.zero_le _, rfl, Lib.hid (fun i hi => absurd hi (Nat.not_lt_zero _)), 0, rfl⟩
  case round =>
   obtain ⟨j, hj, rfl, heq, q, rfl⟩ := hrel
   by_cases hlt : j < n
   ·rcases hf with h | ⟨b, off, rfl, hc⟩
    ·omega
    rcases hg with h | ⟨b', off', rfl, hc'⟩
    ·omega
    have c1 := hc j hlt
    have c2 := hc' j hlt
    clear hc hc'
    by_cases he : f j = g j
    ·rw [← he] at c2
     have heq' : Hid (∀ i, i < j + 1 → f i = g i) := Lib.hid (fun i hi => by
      by_cases hij : i < j
      ·exact heq.out i hij
      ·have : i = j := by omega
       subst this; exact he)
     clear he heq
     go_wp2_with fail
     go_quiet (fail)
     go_wp2_with fail
     go_roundw
     case rel => exact ⟨j + 1, by omega, by go_num, heq', _, rfl⟩
     case measure => simp [intOf]; omega
    ·have he' : (f j == g j) = false := by rw [beq_eq_false_iff_ne]; exact he
     have hid := Lib.hid he
     have hlt' := Lib.hid hlt
     clear he
     go_wp2_with fail
     go_quiet (fail)
     go_wp2_with fail
     go_ret
     exact ⟨false, rfl, ⟨(fun h => by cases h), fun h => absurd (h.2 j hlt'.out) hid.out⟩, below_drewN (below_drewN (Below.refl _ _) _) _⟩
   ·have : j = n := by omega
    subst this
    go_wp2_with fail
    go_ret
    exact ⟨true, rfl, ⟨fun _ => ⟨rfl, heq.out⟩, fun _ => rfl⟩, below_drewN (Below.refl _ _) _⟩
 ·have hd : ((n : Int) == (m : Int)) = false := by rw [beq_eq_false_iff_ne]; omega
  have hnm' := Lib.hid hnm
  clear hf hg
  go_enter Tryz.func91, Tryz.ntmps91
  go_wp2_with fail
  go_ret
  exact ⟨false, rfl, ⟨(fun h => by cases h), fun h => absurd h.1 hnm'.out⟩, Below.refl _ _⟩
end Go.Proofs.YtaepelipkkmeaaaGreat
