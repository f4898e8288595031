/-
  scrimref10.Same: the same array and the same error.
  Blocks without limbs (Shut): where a number that a call handed back does not lie; append keeps its row such a one.
  An array that is made cell by cell, some of whose numbers come from calls (Mk); what One tells, plain.
  scrimref10.One.
  An api.Array that came in, as the walks speak of it.
  Arrays, plain: what is without labels, what has got more; what is packed and unpacked.
  What One and Two make is right; arrays that are alike become such as are (plain).
  What the functions of package scalar are to tell (as hypotheses of the walks of the statements); the document's One and Two, of any word.
  What the functions of package array are to tell (as hypotheses of the walks of the statements).
  scrimref04.Small of a number whose bottom has not one limb; scrimlaw10.small.
  scrimlaw10.Light: it ends with a bool.
  ratio.Small; scalar.IsOne, IsTwo, truth.
  array.Num of a right number; scalar.Number but for not and the product.
-/
import Derived.Test.YtaepelipkkmeaaaGreatMgtA
import Derived.Test.YtaepelipkkmeaaaGreatMgtB
import Derived.Test.YtaepelipkkmeaaaGreatMgtC
import Derived.Test.YtaepelipkkmeaaaGreatMgtD
import Derived.Test.YtaepelipkkmeaaaGreatMgtE
import Derived.Test.YtaepelipkkmeaaaGreatMgtF
import Derived.Test.YtaepelipkkmeaaaGreatMgtG
import Derived.Test.YtaepelipkkmeaaaGreatMgtH
import Derived.Test.YtaepelipkkmeaaaGreatMgtScalarOne1
import Derived.Deep.LoopGhost
import Derived.WalkKit
import Derived.Lib.BitFns
import Derived.Laws.AppendOwn
import Derived.Deep.AppendLies
import Derived.Deep.RegionHeld3
import Derived.Deep.CutRange
import Derived.BigQuiet
import Derived.Deep.DrawnRows
import Derived.Laws.OwnMore
import Derived.Deep.RegionWith
import Derived.WalkSpells
import Derived.WalkLawsBesides
import Derived.Lib.Hide
import Derived.Laws.CopyOwn
import Derived.Lib.Small
import Derived.Lib.Walk
import Derived.Deep.QuietTactic
import Derived.OpenShut
import Derived.SizedLaws
import Derived.Lib.SliceRun
import Derived.Deep.RegionLaw
set_option maxRecDepth 20000
set_option maxHeartbeats 16000000
namespace Go.Proofs.YtaepelipkkmeaaaGreat
open Go.RowKit Num
attribute [local go_sem ↓] Go.wp_at_zero Go.wp_at_succ
def SameE (A B : Tree) (e f : Int) : Prop := e = f ∧ SameT A B
theorem same10_any (A B : Tree) (c0 c1 c2 d0 d1 d2 : Value) (e f : Int) (w : World) (hA : ArrP w A c0 c1 c2) (hB : ArrP w B d0 d1 d2) :
  Calls Tryz.prog 26 #[.agg #[c0, c1, c2], .int .i64 e, .agg #[d0, d1, d2], .int .i64 f] w (BoolPost (SameE A B e f) w) := by
 obtain ⟨S, n, nc, m, mc, ao, co, rfl, rfl, rfl⟩ := (ArrP.within _ _ _ _ hA).form
 obtain ⟨S', n', nc', m', mc', ao', co', rfl, rfl, rfl⟩ := (ArrP.within _ _ _ _ hB).form
 replace hA := Lib.hid hA; replace hB := Lib.hid hB
 by_cases h : e = f
 ·subst h
  go_enter Tryz.func26, Tryz.ntmps26
  go_upto_region 1 with fail
  refine told_wp (fun w' => Below w.heap.size w w' ∧ Box3 w' w.heap.size (.int .u64 S) (.slice ao n nc) (.slice co m mc) ∧ Box3 w' (w.heap.size + 1) (.int .u64 S') (.slice ao' n' nc') (.slice co' m' mc'))
   ⟨((Below.refl _ _).alloc (Nat.le_refl _) _).alloc (by simp) _, (Box3.new _ _ _ _ rfl).alloc _, Box3.new _ _ _ _ (by simp)⟩ ?_
  rintro w1 ⟨bb, X, Y⟩
  have p0 := X.c0; have p1 := X.c1; have p2 := X.c2; have q0 := Y.c0; have q1 := Y.c1; have q2 := Y.c2
  replace bb := Lib.hid bb
  clear X Y
  go_wp2_with fail
  refine (same8_any A B _ _ _ _ _ _ w1 (ArrP.below _ _ _ _ hA.out bb.out) (ArrP.below _ _ _ _ hB.out bb.out)).mono ?_
  rintro e' w2 ⟨r, rfl, hr, hb⟩
  replace hr := Lib.hid hr
  replace bb := Lib.hid (bb.out.trans (hb.mono bb.out.size))
  clear hb p0 p1 p2 q0 q1 q2
  cases r
  ·have hs : Hid (¬ SameE A B e e) := Lib.hid fun k => Bool.false_ne_true (hr.out.2 k.2)
   clear hr
   go_wp2_with fail
   go_ret
   exact ⟨_, rfl, ⟨fun h => absurd h Bool.false_ne_true, fun k => absurd k hs.out⟩, bb.out⟩
  ·have hs : Hid (SameE A B e e) := Lib.hid ⟨rfl, hr.out.1 rfl⟩
   clear hr
   go_wp2_with fail
   go_ret
   exact ⟨_, rfl, ⟨fun _ => hs.out, fun _ => rfl⟩, bb.out⟩
 ·have he : (e == f) = false := by rw [beq_eq_false_iff_ne]; exact h
  go_enter Tryz.func26, Tryz.ntmps26
  have hbel := Lib.hid (((Below.refl w.heap.size w).alloc (Nat.le_refl _) (.cells #[.int .u64 S, .slice ao n nc, .slice co m mc] 45)).alloc (by simp) (.cells #[.int .u64 S', .slice ao' n' nc', .slice co' m' mc'] 45))
  go_wp2_with fail
  go_ret
  exact ⟨_, rfl, ⟨fun h => absurd h Bool.false_ne_true, fun k => absurd k.1 h⟩, hbel.out⟩
end Go.Proofs.YtaepelipkkmeaaaGreat
namespace Go.Proofs.YtaepelipkkmeaaaGreat
open Go.RowKit Num
theorem Shut.below {w w' : World} {U b : Nat} (h : Shut w b) (hb : Below U w w') (hU : b < U) : Shut w' b := h.keep (hb.block b hU)
theorem zeroCells_in {z : Array Value} {n i : Nat} {v : Value} (h : (Builtin.zeroCells z n)[i]? = some v) : v ∈ z := by
 unfold Builtin.zeroCells at h
 rw [Array.getElem?_map] at h
 obtain ⟨j, hj, rfl⟩ := Option.map_eq_some_iff.1 h
 have hlt : i < n * z.size := by
  rcases Nat.lt_or_ge i (n * z.size) with h | h
  ·exact h
  ·rw [Array.getElem?_eq_none (by simpa using h)] at hj; cases hj
 have e : j = i := by
  rw [Array.getElem?_range] at hj
  simp [hlt] at hj
  exact hj.symm
 subst e
 have hz : 0 < z.size := by
  rcases Nat.eq_zero_or_pos z.size with h | h
  ·rw [h, Nat.mul_zero] at hlt; omega
  ·exact h
 have hm : j % z.size < z.size := Nat.mod_lt _ hz
 rw [getElem!_pos z (j % z.size) hm]
 exact Array.getElem_mem hm
theorem append_shut {P : Program} {w : World} (t ty : TypeId) (base : Nat) (e : TypeId) (i : TypeInfo) (z : Value) (size bytes : Nat) (ht : P.underlying t = some (.slice e)) (hi : P.info? e = some i) (hz : i.zero = some z)
  (hsize : i.size = size) (hby : i.bytes = bytes) (hzs : z.cells.size = size) (hsz : 0 < size)
  (v : Value) (n : Nat) (xs : List Value) (hown : w.ownsRow base e size v n xs)
  (ad : Addr) (m c : Nat) (news : List Value) (hl : news.length = m * size) (hnews : ∀ j u, news[j]? = some u → w.cell? (ad.add j) = some u) (h1 : ∀ u ∈ news, u.oneCell' = true)
  (hm : 0 < m) (h63 : n + m ≤ maxLen) (hbytes : (n + m) * bytes ≤ 140737488355328)
  (hz32 : ∀ u ∈ z.cells, ∀ x, u ≠ .int .u32 x) (hn32 : ∀ u ∈ news, ∀ x, u ≠ .int .u32 x) (hv32 : ∀ g, v.ownBlock = some g → Shut w g)
  {v' : Value} {w' : World} (hr : (Builtin.append_ #[t, t] ty #[v, .slice (some ad) m c]).run P w = .ok v' w') : ∀ g, v'.ownBlock = some g → Shut w' g := by
 subst hsize
 subst hby
 have hsmall : n + m ≤ 9223372036854775807 := by simp only [maxLen] at h63; omega
 have grown : ∀ (N : Nat) (ys : List Value), (∀ u ∈ ys, ∀ x, u ≠ .int .u32 x) → Shut (w.drew.alloc (.cells (ys.toArray ++ news.toArray ++ Builtin.zeroCells z.cells N) e)) w.heap.size := fun N ys hys => by
  have hs : w.drew.heap.size = w.heap.size := rfl
  rw [← hs]
  refine Shut.new fun j x hx => ?_
  have hx' := Array.mem_of_getElem? hx
  rw [Array.mem_append, Array.mem_append] at hx'
  rcases hx' with (h | h) | h
  ·exact hys _ (by simpa using h) x rfl
  ·exact hn32 _ (by simpa using h) x rfl
  ·obtain ⟨j', hj'⟩ := Array.mem_iff_getElem?.1 h
   exact hz32 _ (zeroCells_in hj') x rfl
 rcases hown.2 with ⟨rfl, rfl⟩ | ⟨g, cap, cur, rfl, hbg, hg, hnc, hcm, hcs, htake⟩
 ·have h := run_append_nil (P := P) w t ty e i z ht hi hz ad m c news hl hnews hm (by omega) (by simp only [Nat.zero_add] at hbytes; omega)
  rw [h] at hr
  injection hr with e1 e2
  subst e1; subst e2
  intro g hg
  obtain rfl : w.heap.size = g := Option.some.inj hg
  have := grown (grownCap w m 0 e - m) [] (fun u hu => by cases hu)
  simpa using this
 ·by_cases hroom : n + m ≤ cap
  ·have hfit : n * i.size + news.length ≤ cur.size := by rw [hl, hcs, ← Nat.add_mul]; exact Nat.mul_le_mul_right _ hroom
   have h := run_append_room (P := P) w t ty e i ht hi g n cap cur hg ad m c news hl hnews h1 hroom hfit
   rw [h] at hr
   injection hr with e1 e2
   subst e1; subst e2
   intro g' hg'
   obtain rfl : g = g' := Option.some.inj hg'
   have hw := hv32 g rfl
   have hset := setRow_heap w g cur ((cur.toList.take (n * i.size) ++ news ++ cur.toList.drop (n * i.size + news.length)).toArray) _ _ hg
   have hcur : ∀ u ∈ cur.toList, ∀ x, u ≠ .int .u32 x := fun u hu x e => by
    obtain ⟨j, hj⟩ := List.mem_iff_getElem?.1 hu
    refine hw.2 j x ?_
    show (match w.heap[g]? with | some (.cells c _ _) => if (none : Option (Option Addr)).isSome then none else c[j]? | _ => none) = _
    rw [hg]
    rw [Array.getElem?_toList] at hj
    simp [hj, e]
   refine ⟨?_, fun o x e => ?_⟩
   ·rcases Nat.lt_or_ge g (w.setRow g ((cur.toList.take (n * i.size) ++ news ++ cur.toList.drop (n * i.size + news.length)).toArray)).heap.size with h' | h'
    ·exact h'
    ·rw [Array.getElem?_eq_none h'] at hset; cases hset
   ·unfold World.cell? at e
    simp only [hset] at e
    have hin := List.mem_of_getElem? (l := cur.toList.take (n * i.size) ++ news ++ cur.toList.drop (n * i.size + news.length)) (i := o) (a := .int .u32 x) (by simpa using e)
    rw [List.mem_append, List.mem_append] at hin
    rcases hin with (hin | hin) | hin
    ·exact hcur _ (List.mem_of_mem_take hin) x rfl
    ·exact hn32 _ hin x rfl
    ·exact hcur _ (List.mem_of_mem_drop hin) x rfl
  ·have holds : ∀ j u, xs[j]? = some u → w.cell? ((⟨g, 0, none⟩ : Addr).add j) = some u := hown.cells (g := g) rfl
   have h := run_append_grow (P := P) w t ty e i z ht hi hz ⟨g, 0, none⟩ n cap xs hown.1 holds ad m c news hl hnews (by omega) (by omega) (growslice_fits (by omega) hbytes)
   rw [h] at hr
   injection hr with e1 e2
   subst e1; subst e2
   intro g' hg'
   obtain rfl : w.heap.size = g' := Option.some.inj hg'
   refine grown _ xs fun u hu x e => ?_
   obtain ⟨j, hj⟩ := List.mem_iff_getElem?.1 hu
   have := holds j u hj
   rw [Addr.add_lit, Nat.zero_add] at this
   exact (hv32 g rfl).2 j x (by rw [this, e])
theorem wp_append_shut {P : Program} {w : World} {o : Oper} {a : Act} {K : Act → World → Prop} {Q : Exit → Act → World → Prop} (s x : Operand) (t : TypeId)
  (ho : o.op = .call { callee := .builtin .append, args := #[s, x], argTypes := #[t, t] })
  (base : Nat) (e : TypeId) (i : TypeInfo) (z : Value) (size bytes : Nat) (ht : P.underlying t = some (.slice e)) (hi : P.info? e = some i) (hz : i.zero = some z)
  (hsize : i.size = size) (hby : i.bytes = bytes) (hzs : z.cells.size = size) (hsz : 0 < size)
  (v : Value) (n : Nat) (xs : List Value) (hs : a.eval s = v) (hown : w.ownsRow base e size v n xs)
  (ad : Addr) (m c : Nat) (news : List Value) (hx : a.eval x = .slice (some ad) m c) (hl : news.length = m * size) (hnews : ∀ j u, news[j]? = some u → w.cell? (ad.add j) = some u) (h1 : ∀ u ∈ news, u.oneCell' = true)
  (hm : 0 < m) (h63 : n + m ≤ maxLen) (hbytes : (n + m) * bytes ≤ 140737488355328) (hbase : base ≤ w.heap.size)
  (hz32 : ∀ u ∈ z.cells, ∀ x, u ≠ .int .u32 x) (hn32 : ∀ u ∈ news, ∀ x, u ≠ .int .u32 x) (hv32 : ∀ g, v.ownBlock = some g → Shut w g) (H : Nat) (hH : w.heap.size = H)
  (h : ∀ g cap w', w'.ownsRow base e size (.slice (some ⟨g, 0, none⟩) (n + m) cap) (n + m) (xs ++ news) → w.grownBy w' v.ownBlock → (v.ownBlock = some g ∨ g = H) → Shut w' g → K (a.put o.dst (.slice (some ⟨g, 0, none⟩) (n + m) cap)) w') : o.wp P a w K Q := by
 obtain ⟨g, cap, w', hr, h2, h3, h4, h5⟩ := run_append_lies (P := P) w t o.type base e i z size bytes ht hi hz hsize hby hzs hsz v n xs hown ad m c news hl hnews h1 hm h63 hbytes hbase H hH
 have h6 := append_shut t o.type base e i z size bytes ht hi hz hsize hby hzs hsz v n xs hown ad m c news hl hnews h1 hm h63 hbytes hz32 hn32 hv32 hr g rfl
 unfold Oper.wp execOp
 simp only [ho, resolve, invoke, builtin, Sem.run_bind, Sem.run_pure, Result.andThen_ok, List.map_toArray, List.map_cons, List.map_nil, hs, hx, hr]
 exact h g cap w' h2 h3 h4 h6
theorem wpList_append_shut {P : Program} {w : World} {ops : Array Oper} {rest : List Oper} {o : Oper} {a : Act} {Q : Exit → Act → World → Prop} (hgd : o.guard = none) (s x : Operand) (t : TypeId)
  (ho : o.op = .call { callee := .builtin .append, args := #[s, x], argTypes := #[t, t] })
  (base : Nat) (e : TypeId) (i : TypeInfo) (z : Value) (size bytes : Nat) (ht : P.underlying t = some (.slice e)) (hi : P.info? e = some i) (hz : i.zero = some z)
  (hsize : i.size = size) (hby : i.bytes = bytes) (hzs : z.cells.size = size) (hsz : 0 < size)
  (v : Value) (n : Nat) (xs : List Value) (hs : a.eval s = v) (hown : w.ownsRow base e size v n xs)
  (ad : Addr) (m c : Nat) (news : List Value) (hx : a.eval x = .slice (some ad) m c) (hl : news.length = m * size) (hnews : ∀ j u, news[j]? = some u → w.cell? (ad.add j) = some u) (h1 : ∀ u ∈ news, u.oneCell' = true)
  (hm : 0 < m) (h63 : n + m ≤ maxLen) (hbytes : (n + m) * bytes ≤ 140737488355328) (hbase : base ≤ w.heap.size)
  (hz32 : ∀ u ∈ z.cells, ∀ x, u ≠ .int .u32 x) (hn32 : ∀ u ∈ news, ∀ x, u ≠ .int .u32 x) (hv32 : ∀ g, v.ownBlock = some g → Shut w g) (H : Nat) (hH : w.heap.size = H)
  (h : ∀ g cap w', w'.ownsRow base e size (.slice (some ⟨g, 0, none⟩) (n + m) cap) (n + m) (xs ++ news) → w.grownBy w' v.ownBlock → (v.ownBlock = some g ∨ g = H) → Shut w' g → wpList P ops Q rest (a.put o.dst (.slice (some ⟨g, 0, none⟩) (n + m) cap)) w') : wpList P ops Q (o :: rest) a w :=
 wpList_plain hgd fun _ hK => wp_append_shut s x t ho base e i z size bytes ht hi hz hsize hby hzs hsz v n xs hs hown ad m c news hx hl hnews h1 hm h63 hbytes hbase hz32 hn32 hv32 H hH fun g cap w' h2 h3 h4 h5 => hK _ _ (h g cap w' h2 h3 h4 h5)
end Go.Proofs.YtaepelipkkmeaaaGreat
namespace Go.Proofs.YtaepelipkkmeaaaGreat
open Go.RowKit Num
structure Mk (F : CellF) (M Pv : Nat → Prop) (Bo U : Nat) (w wr : World) (o0 a1 : Value) (t : Nat) (V : Value) (es : Nat → List Value) : Prop where
 out : Box3 wr Bo o0 a1 V
 row : wr.ownsRow (Bo + 1) 65 7 V t (rowsN es t)
 cells : ∀ x, x < t → (es x).length = 7 ∧ F x wr (fun b => Pv b ∧ ¬ M b ∧ some b ≠ V.ownBlock ∧ b < U) (fun q => (es x).getD q undef)
 bel : Below w.heap.size w wr
 sh : ∀ b, M b → Shut wr b
 shV : ∀ g, V.ownBlock = some g → Shut wr g
 MU : ∀ b, M b → w.heap.size ≤ b ∧ b ≤ Bo
 MB : M Bo
 BU : Bo + 1 ≤ U
 Uw : U ≤ wr.heap.size
 vU : ∀ g, V.ownBlock = some g → g < U
theorem Mk.sB {F : CellF} {M Pv : Nat → Prop} {Bo U : Nat} {w wr : World} {o0 a1 : Value} {t : Nat} {V : Value} {es : Nat → List Value} (h : Mk F M Pv Bo U w wr o0 a1 t V es) : w.heap.size ≤ Bo := (h.MU _ h.MB).1
theorem Mk.upto {F : CellF} (hF : KeepF F) {M Pv : Nat → Prop} {Bo U : Nat} {w wr w' : World} {o0 a1 : Value} {t : Nat} {V : Value} {es : Nat → List Value} (h : Mk F M Pv Bo U w wr o0 a1 t V es) (hb : Below U wr w') : Mk F M Pv Bo U w w' o0 a1 t V es := by
 have hs := h.sB; have hB := h.BU
 exact ⟨h.out.below hb (by omega), own_upto h.row (fun b hb' => hb.block b hb') h.vU,
  fun x hx => ⟨(h.cells x hx).1, hF x _ _ _ _ _ (h.cells x hx).2 (fun b hq _ => hb.block b hq.2.2.2) fun b hq _ => hq⟩, h.bel.trans (hb.mono (by omega)),
  fun b hm => (h.sh b hm).below hb (by have := (h.MU b hm).2; omega), fun g hg => (h.shV g hg).below hb (h.vU g hg), h.MU, h.MB, h.BU, Nat.le_trans h.Uw hb.size, h.vU⟩
theorem Mk.lift {F : CellF} (hF : KeepF F) {M Pv : Nat → Prop} {Bo U : Nat} {w wr : World} {o0 a1 : Value} {t : Nat} {V : Value} {es : Nat → List Value} (h : Mk F M Pv Bo U w wr o0 a1 t V es) : Mk F M Pv Bo wr.heap.size w wr o0 a1 t V es :=
 ⟨h.out, h.row, fun x hx => ⟨(h.cells x hx).1, hF x _ _ _ _ _ (h.cells x hx).2 (fun _ _ _ => rfl) fun _ hq hb => ⟨hq.1, hq.2.1, hq.2.2.1, hb⟩⟩, h.bel, h.sh, h.shV, h.MU, h.MB, Nat.le_trans h.BU h.Uw, Nat.le_refl _, fun g hg => Nat.lt_of_lt_of_le (h.vU g hg) h.Uw⟩
theorem Mk.step {F : CellF} (hF : KeepF F) {M Pv : Nat → Prop} {Bo U : Nat} {w wk w5 : World} {o0 a1 : Value} {t : Nat} {V : Value} {es : Nat → List Value} (h : Mk F M Pv Bo U w wk o0 a1 t V es) (o : Obj) {g cap : Nat} {x : List Value} (hx : x.length = 7)
  (hown : w5.ownsRow (Bo + 1) 65 7 (.slice (some ⟨g, 0, none⟩) (t + 1) cap) (t + 1) (rowsN es t ++ x)) (hgr : (wk.alloc o).grownBy w5 V.ownBlock) (hat : V.ownBlock = some g ∨ g = wk.heap.size + 1) (hsg : Shut w5 g)
  (hnew : F t wk (fun b => Pv b ∧ ¬ M b ∧ some b ≠ V.ownBlock) (fun q => x.getD q undef)) :
  Mk F M Pv Bo w5.heap.size w (w5.setCell ⟨Bo, 2, none⟩ (.slice (some ⟨g, 0, none⟩) (t + 1) cap)) o0 a1 (t + 1) (.slice (some ⟨g, 0, none⟩) (t + 1) cap) (putL es t x) := by
 have hBU := h.BU; have hUw := h.Uw; have hsB := h.sB
 have hg3 : Bo + 1 ≤ g ∧ g < w5.heap.size := hown.lt g rfl
 have hV : ∀ b, some b = V.ownBlock → Bo + 1 ≤ b ∧ b < U := fun b e => ⟨(h.row.lt b e.symm).1, h.vU b e.symm⟩
 have hk1 : ∀ b, some b ≠ V.ownBlock → b < wk.heap.size → w5.heap[b]? = wk.heap[b]? := fun b h1 h2 => (hgr.block b (by simp; omega) h1).trans (Lib.alloc_old wk o b h2)
 have hk2 : ∀ b, b ≠ Bo → (w5.setCell ⟨Bo, 2, none⟩ (.slice (some ⟨g, 0, none⟩) (t + 1) cap)).heap[b]? = w5.heap[b]? := fun b hb => Below.heap_setCell _ _ _ _ hb
 have hb3 : Below (Bo + 1) wk w5 := ((Below.refl _ wk).alloc (by omega) o).grown hgr (by simp; omega) (fun q hq => (h.row.lt q hq).1)
 have hMn : ∀ b, M b → some b ≠ V.ownBlock := fun b hm e => by have := (hV b e).1; have := (h.MU b hm).2; omega
 have hk : ∀ b, ¬ M b → some b ≠ V.ownBlock → b < wk.heap.size → (w5.setCell ⟨Bo, 2, none⟩ (.slice (some ⟨g, 0, none⟩) (t + 1) cap)).heap[b]? = wk.heap[b]? := fun b h1 h2 h3 => (hk2 b (fun e => h1 (by rw [e]; exact h.MB))).trans (hk1 b h2 h3)
 have hng : ∀ b, some b ≠ V.ownBlock → b < wk.heap.size → some b ≠ (Value.slice (some ⟨g, 0, none⟩) (t + 1) cap).ownBlock := fun b h1 h2 e => by
  simp only [Value.ownBlock, Option.some.injEq] at e
  rcases hat with k | k
  ·exact h1 (by rw [k, e])
  ·omega
 have hsz : wk.heap.size ≤ w5.heap.size := hb3.size
 refine ⟨?_, own_but (by rw [rowsN_snoc] at hown; exact hown) hk2 (fun q hq => by have e : g = q := Option.some.inj hq; omega), fun y hy => ?_, (h.bel.trans (hb3.mono (by omega))).setCell (p := ⟨Bo, 2, none⟩) (by show w.heap.size ≤ Bo; omega) _, fun b hm => ?_, fun q hq => ?_, h.MU, h.MB, by omega, by simp [World.setCell], fun q hq => by cases hq; exact hg3.2⟩
 ·have x3 := h.out.below hb3 (by omega)
  have ne : ∀ {j k : Nat}, j ≠ k → (⟨Bo, j, none⟩ : Addr) ≠ ⟨Bo, k, none⟩ := fun h e => h (by injection e)
  exact ⟨(cell_set_ne (ne (by decide))).trans x3.c0, (cell_set_ne (ne (by decide))).trans x3.c1, World.cell?_setCell_same _ _ _ x3.c2, fun j => by rw [World.frozen?_setCell]; exact x3.fr j⟩
 ·by_cases e : y = t
  ·subst e
   unfold putL
   rw [if_pos rfl]
   exact ⟨hx, hF y _ _ _ _ _ hnew (fun b hq hb => hk b hq.2.1 hq.2.2 hb) fun b hq hb => ⟨hq.1, hq.2.1, hng b hq.2.2 hb, by omega⟩⟩
  ·unfold putL
   rw [if_neg e]
   obtain ⟨k1, k2⟩ := h.cells y (by omega)
   exact ⟨k1, hF y _ _ _ _ _ k2 (fun b hq hb => hk b hq.2.1 hq.2.2.1 hb) fun b hq hb => ⟨hq.1, hq.2.1, hng b hq.2.2.1 hb, by omega⟩⟩
 ·have h1 : Shut w5 b := (h.sh b hm).keep (hk1 b (hMn b hm) (h.sh b hm).1)
  by_cases e : b = Bo
  ·subst e; exact h1.set _ _ fun x e => by cases e
  ·exact h1.other e _ _
 ·have e : g = q := Option.some.inj hq
  subst e
  exact hsg.other (by omega) _ _
theorem Mk.row_cells {F : CellF} (hF : KeepF F) {M Pv : Nat → Prop} {Bo U : Nat} {w wr : World} {o0 a1 : Value} {t : Nat} {V : Value} {es : Nat → List Value} (h : Mk F M Pv Bo U w wr o0 a1 t V es) (ht : t ≤ 140737488355328) (hnew : ∀ b, w.heap.size ≤ b → Pv b) :
  ∃ co cap, V = .slice co t cap ∧ IsN t cap ∧ (t = 0 ∨ ∃ b o, co = some ⟨b, o, none⟩ ∧ (Pv b ∧ ¬ M b) ∧ ∀ i, i < t → ∃ e : Nat → Value, (∀ q, q < 7 → wr.cell? ⟨b, o + i * 7 + q, none⟩ = some (e q)) ∧ F i wr (fun b => Pv b ∧ ¬ M b) e) := by
 have hsB := h.sB
 obtain ⟨co, cap, rfl, h1, h2, hf⟩ := own_form h.row
 refine ⟨co, cap, rfl, ⟨h1, h2, ht⟩, ?_⟩
 rcases hf with h0 | ⟨g, rfl, hg0, hg, _⟩
 ·exact .inl h0
 ·refine .inr ⟨g, 0, rfl, ⟨hnew g (by omega), fun hm => by have := (h.MU g hm).2; omega⟩, fun i hi => ?_⟩
  obtain ⟨k1, k2⟩ := h.cells i hi
  refine ⟨fun q => (es i).getD q undef, fun q hq => ?_, hF i _ _ _ _ _ k2 (fun _ _ _ => rfl) fun b hq _ => ⟨hq.1, hq.2.1⟩⟩
  have hlt : i * 7 + q < t * 7 := by omega
  rw [Nat.zero_add, h.row.cellAt (i * 7 + q) hlt, rowsN_get t (fun i hi => (h.cells i hi).1) i q hi hq]
  show (es i)[q]? = some ((es i).getD q undef)
  rw [List.getD_eq_getElem?_getD, List.getElem?_eq_getElem (by omega)]
  rfl
def oneE (f : Int) : Tree → Int
 | .leaf => 0
 | .arr _ _ _ m _ K _ N _ sub => firstE (fun i => if K i = 0 then (numR f (topF (N i)) (botF (N i))).2.2 else if K i = 1 then 3 else oneE f (sub i 0)) m
noncomputable def oneN (f K : Int) (N : NumF) : NumF := if K = 0 then numF (numR f (topF N) (botF N)).1 (numR f (topF N) (botF N)).2.1 else N
noncomputable def oneT (f : Int) : Tree → Tree
 | .leaf => .leaf
 | .arr S n sh m L K C N k sub => .arr S n sh m L K C (fun i => oneN f (K i) (N i)) k (fun i j => oneT f (sub i j))
def oneR (f : Int) (A : Tree) : Int := if f ∈ onesZ then oneE f A else 8
noncomputable def oneF (f : Int) (L : Nat → Nat) (K C : Nat → Int) (N : Nat → NumF) (k : Nat → Nat) (sub : Nat → Nat → Tree) : CellF :=
 fun x w Q e => CellQ w Q (L x) (K x) (oneN f (K x) (N x)) (C x) (k x) (fun j d0 d1 d2 => ArrQ w Q (oneT f (sub x j)) d0 d1 d2) e
theorem oneF_keep (f : Int) (L : Nat → Nat) (K C : Nat → Int) (N : Nat → NumF) (k : Nat → Nat) (sub : Nat → Nat → Tree) : KeepF (oneF f L K C N k sub) :=
 fun _ _ _ _ _ _ h hk hq => CellQ.keep h hk hq fun _ d0 d1 d2 hd => ArrQ.keep hk hq _ d0 d1 d2 hd
end Go.Proofs.YtaepelipkkmeaaaGreat
namespace Go.Proofs.YtaepelipkkmeaaaGreat
open Go.RowKit Num
theorem no_limb_cell : ∀ u ∈ (Value.agg #[.int .u64 0, .int .i64 0, .bool false, .slice none 0 0, .slice none 0 0, .int .i64 0, .slice none 0 0]).cells, ∀ x, u ≠ .int .u32 x := by
 intro u hu x e
 subst e
 simp [Value.cells] at hu
theorem Mk.clear {F : CellF} {M Q0 : Nat → Prop} {Bo U : Nat} {w wa : World} {o0 a1 : Value} {t : Nat} {V : Value} {es : Nat → List Value} (h : Mk F M (Prov Q0 w) Bo U w wa o0 a1 t V es) (hU : Shut wa U) {b : Nat} (hb : Prov (fun b => Q0 b ∧ b < w.heap.size) wa b) :
  (Prov Q0 w b ∧ ¬ M b ∧ some b ≠ V.ownBlock) ∧ b ≠ U := by
 have hsB := h.sB; have hBU := h.BU; have hUw := h.Uw
 have hUs := hU.1
 refine ⟨⟨hb.trans h.bel fun k => .inl k.1, fun hm => ?_, fun e => ?_⟩, ?_⟩
 ·have hM := h.MU b hm
  rcases hb with k | k | k
  ·have := k.2; omega
  ·omega
  ·exact (h.sh b hm).ne k rfl
 ·have h1 := (h.row.lt b e.symm).1
  have h2 := h.vU b e.symm
  rcases hb with k | k | k
  ·have := k.2; omega
  ·omega
  ·exact (h.shV b e.symm).ne k rfl
 ·rintro rfl
  rcases hb with k | k | k
  ·have := k.2; omega
  ·omega
  ·exact hU.ne k rfl
theorem heap_set234 {w : World} {B b : Nat} (h : b ≠ B) (u2 u3 u4 : Value) : (((w.setCell ⟨B, 2, none⟩ u2).setCell ⟨B, 3, none⟩ u3).setCell ⟨B, 4, none⟩ u4).heap[b]? = w.heap[b]? := by
 rw [Below.heap_setCell _ _ _ _ h, Below.heap_setCell _ _ _ _ h, Below.heap_setCell _ _ _ _ h]
theorem Box7.set234 {w : World} {B : Nat} {z0 z1 z2 z3 z4 z5 z6 : Value} (h : Box7 w B z0 z1 z2 z3 z4 z5 z6) (u2 u3 u4 : Value) : Box7 (((w.setCell ⟨B, 2, none⟩ u2).setCell ⟨B, 3, none⟩ u3).setCell ⟨B, 4, none⟩ u4) B z0 z1 u2 u3 u4 z5 z6 := by
 have ne : ∀ {j k : Nat}, j ≠ k → (⟨B, j, none⟩ : Addr) ≠ ⟨B, k, none⟩ := fun h e => h (by injection e)
 have far : ∀ {j : Nat} {v : Value}, j ≠ 2 → j ≠ 3 → j ≠ 4 → w.cell? ⟨B, j, none⟩ = some v → (((w.setCell ⟨B, 2, none⟩ u2).setCell ⟨B, 3, none⟩ u3).setCell ⟨B, 4, none⟩ u4).cell? ⟨B, j, none⟩ = some v := fun h2 h3 h4 hv =>
  (cell_set_ne (ne h4)).trans ((cell_set_ne (ne h3)).trans ((cell_set_ne (ne h2)).trans hv))
 have e2 : (w.setCell ⟨B, 2, none⟩ u2).cell? ⟨B, 2, none⟩ = some u2 := World.cell?_setCell_same _ _ _ h.c2
 have e3 : ((w.setCell ⟨B, 2, none⟩ u2).setCell ⟨B, 3, none⟩ u3).cell? ⟨B, 3, none⟩ = some u3 := World.cell?_setCell_same _ _ _ ((cell_set_ne (ne (by decide))).trans h.c3)
 have e4 : (((w.setCell ⟨B, 2, none⟩ u2).setCell ⟨B, 3, none⟩ u3).setCell ⟨B, 4, none⟩ u4).cell? ⟨B, 4, none⟩ = some u4 := World.cell?_setCell_same _ _ _ ((cell_set_ne (ne (by decide))).trans ((cell_set_ne (ne (by decide))).trans h.c4))
 exact ⟨far (by decide) (by decide) (by decide) h.c0, far (by decide) (by decide) (by decide) h.c1, (cell_set_ne (ne (by decide))).trans ((cell_set_ne (ne (by decide))).trans e2), (cell_set_ne (ne (by decide))).trans e3, e4, far (by decide) (by decide) (by decide) h.c5, far (by decide) (by decide) (by decide) h.c6, fun j => by rw [World.frozen?_setCell, World.frozen?_setCell, World.frozen?_setCell]; exact h.fr j⟩
theorem one10_t (f : Int) (hf : f ∈ onesZ) : ∀ (A : Tree) (Q0 : Nat → Prop) (dd : Nat) (c0 c1 c2 : Value) (w : World), ArrQ w Q0 A c0 c1 c2 → RightT A dd → partsT A ≤ 4000 →
  Calls Tryz.prog 25 #[.int .i64 f, .agg #[c0, c1, c2]] w (ResQ (oneE f A) (oneT f A) Q0 w) := by
 obtain ⟨iC, hC0, hC1, hC2, hC3⟩ := info_parts infoCell
 intro A
 induction A with
 | leaf => intro Q0 dd c0 c1 c2 w h; exact (ArrQ.leaf h).elim
 | arr S n sh m L K C N k sub ih =>
  intro Q0 dd c0 c1 c2 w h hr hfew
  obtain ⟨rfl, hS, ⟨ao, nc, rfl, hn, hsh, hshz⟩, co, mc, rfl, hm, hc⟩ := ArrQ.keep (Q' := fun b => Q0 b ∧ b < w.heap.size) (fun _ _ _ => rfl) (fun b hq hb => ⟨hq, hb⟩) _ _ _ _ h
  have n1 := hn.1; have n2 := hn.2.1; have n3 := hn.2.2; have m1 := hm.1; have m2 := hm.2.1; have m3 := hm.2.2
  have hr' := Lib.hid hr.2
  have hfew' := Lib.hid hfew
  have hm40 : m ≤ 4000 := by have := parts_here (S := S) (n := n) (m := m) (sh := sh) (L := L) (K := K) (C := C) (N := N) (k := k) (sub := sub); omega
  obtain ⟨er, her⟩ : ∃ er : Nat → Int, er = fun i => if K i = 0 then (numR f (topF (N i)) (botF (N i))).2.2 else if K i = 1 then 3 else oneE f (sub i 0) := ⟨_, rfl⟩
  have hE : oneE f (.arr S n sh m L K C N k sub) = firstE er m := by rw [her]; rfl
  have her' := Lib.hid her; have hE' := Lib.hid hE; have hf' := Lib.hid hf
  have hc' := Lib.hid hc; have hsh' := Lib.hid hsh; have hshz' := Lib.hid hshz; have hSl := Lib.hid hS; have hnI := Lib.hid hn
  clear hc hsh hshz hn hm hfew hr h her hE hS hf
  have hF := oneF_keep f L K C N k sub
  go_enter Tryz.func25, Tryz.ntmps25
  go_upto_region 1 with fail
  refine told_wp (fun w' => Below w.heap.size w w' ∧ Box3 w' w.heap.size (.int .u64 S) (.slice ao n nc) (.slice co m mc) ∧ Box3 w' (w.heap.size + 1) (.int .u64 0) (.slice none 0 0) (.slice none 0 0) ∧ Shut w' (w.heap.size + 1))
   ⟨((Below.refl _ _).alloc (Nat.le_refl _) _).alloc (by simp) _, (Box3.new _ _ _ _ rfl).alloc _, Box3.new _ _ _ _ (by simp), by have := shut3 (w := w.alloc (.cells #[.int .u64 S, .slice ao n nc, .slice co m mc] 45)) (a := 0) (p := none) (q := none) (n := 0) (nc := 0) (m := 0) (mc := 0) (t := 45); simpa using this⟩ ?_
  rintro w1 ⟨bb1, x1, z1, s1⟩
  have hbb := Lib.hid bb1; have hx := Lib.hid x1; have hz := Lib.hid z1; have hs1 := Lib.hid s1
  clear bb1 x1 z1 s1
  go_wp2_with fail
  refine (onesZ_any w1).mono ?_
  rintro e w2 ⟨B, rfl, hl, hb2⟩
  have hl' := Lib.hid hl
  replace hbb := Lib.hid (below_then hbb.out (Nat.le_refl _) hb2); replace hx := Lib.hid (hx.out.later hb2); replace hz := Lib.hid (hz.out.later hb2); replace hs1 := Lib.hid (hs1.out.later hb2)
  clear hl hb2
  go_wp2_with fail
  refine (in6_any _ _ _ _ f w2 (by decide) hl'.out).mono ?_
  rintro e w2' ⟨hin, rfl⟩
  obtain ⟨rfl, hmem⟩ := hin.resolve_right fun k => k.2 ((memZ_list _ _).2 hf'.out)
  have a0 := hx.out.c0; have a1 := hx.out.c1
  clear hmem hin
  obtain ⟨Bo, hBo⟩ : ∃ Bo, Bo = w2.heap.size := ⟨_, rfl⟩
  have hsB : w.heap.size + 2 ≤ Bo := by have := hz.out.lt; omega
  obtain ⟨M, hM⟩ : ∃ M : Nat → Prop, M = fun b => b = w.heap.size + 1 ∨ b = Bo := ⟨_, rfl⟩
  have hM' := Lib.hid hM
  have hmk0 : Mk (oneF f L K C N k sub) M (Prov Q0 w) Bo (Bo + 1) w (w2.alloc (.cells #[.int .u64 S, .slice ao n nc, .slice none 0 0] 45)) (.int .u64 S) (.slice ao n nc) 0 (.slice none 0 0) (fun _ => []) := by
   rw [hM]
   refine ⟨Box3.new _ _ _ _ hBo, World.ownsRow_nil _ _ _ _, fun x hx => by omega, hbb.out.alloc hbb.out.size _, ?_, (fun g hg => by cases hg), ?_, .inr rfl, Nat.le_refl _, (by simp [hBo]), (fun g hg => by cases hg)⟩
   ·rintro b (rfl | rfl)
    ·exact hs1.out.later ((Below.refl _ _).alloc (Nat.le_refl _) _)
    ·rw [hBo]; exact shut3
   ·rintro b (rfl | rfl) <;> omega
  have hxa := hx.out.alloc (.cells #[.int .u64 S, .slice ao n nc, .slice none 0 0] 45)
  have hza := hz.out.alloc (.cells #[.int .u64 S, .slice ao n nc, .slice none 0 0] 45)
  clear hbb hx hz hs1 hl'
  go_upto_region 4 with fail
  rw [← hBo]
  refine told_wp (fun w' => Mk (oneF f L K C N k sub) M (Prov Q0 w) Bo (Bo + 1) w w' (.int .u64 S) (.slice ao n nc) 0 (.slice none 0 0) (fun _ => []) ∧ Box3 w' w.heap.size (.int .u64 S) (.slice ao n nc) (.slice co m mc) ∧ Box3 w' (w.heap.size + 1) (.int .u64 0) (.slice none 0 0) (.slice none 0 0)) ⟨hmk0, hxa, hza⟩ ?_
  clear hmk0 hxa hza a0 a1 hBo hM
  rintro w3 ⟨hv0', hx0', hz0'⟩
  have hv0 := Lib.hid hv0'; have hx0 := Lib.hid hx0'; have hz0 := Lib.hid hz0'
  clear hv0' hx0' hz0'
  go_wp2_with fail
  go_loopw [7] (fun i wr => ∃ (t : Nat) (V : Value) (es : Nat → List Value) (U : Nat), t ≤ m ∧ i = .int .i64 t ∧ Hid (Mk (oneF f L K C N k sub) M (Prov Q0 w) Bo U w wr (.int .u64 S) (.slice ao n nc) t V es) ∧ Hid (Box3 wr w.heap.size (.int .u64 S) (.slice ao n nc) (.slice co m mc)) ∧ Hid (Box3 wr (w.heap.size + 1) (.int .u64 0) (.slice none 0 0) (.slice none 0 0)) ∧ Hid (∀ i, i < t → er i = 0)) (fun i _ => m - (intOfZ i).toNat)
  case atStart => exact ⟨0, _, _, _, Nat.zero_le _, rfl, hv0, hx0, hz0, Lib.hid fun i hi => absurd hi (Nat.not_lt_zero _)⟩
  case round =>
   obtain ⟨t, V, es, U0, ht, rfl, hv1, hx1, hz1, her0⟩ := hrel
   have hv := Lib.hid (hv1.out.lift hF)
   clear hv0 hv1 hx0 hz0
   obtain ⟨U, hU⟩ : ∃ U, U = wr.heap.size := ⟨_, rfl⟩
   rw [← hU] at hv
   have z2 := hx1.out.c2
   by_cases hlt : t < m
   ·rcases hc'.out with h0 | ⟨b, o, rfl, hbD, hcells⟩
    ·omega
    obtain ⟨e, he, q0, qL, q1, qK, ⟨q2, ⟨a1, ac, q3, ha, hsa, hla⟩, ⟨b1, bc, q4, hb', hsb, hlb⟩⟩, q5, qC, io, kc, q6, hk, hrow⟩ := hcells t hlt
    have hCT := Lib.hid (hr'.out t hlt)
    have hrow' := Lib.hid hrow; have hk' := Lib.hid hk; have hqL := Lib.hid qL; have hqK := Lib.hid qK; have hqC := Lib.hid qC
    have hnum := Lib.hid (show NumQ w (fun b => Q0 b ∧ b < w.heap.size) (N t) (.bool (N t).neg) (.slice a1 (N t).an ac) (.slice b1 (N t).am bc) from ⟨rfl, ⟨a1, ac, rfl, ha, hsa, hla⟩, ⟨b1, bc, rfl, hb', hsb, hlb⟩⟩)
    have y0 := cell_below (he 0 (by decide)) hv.out.bel; have y1 := cell_below (he 1 (by decide)) hv.out.bel; have y2 := cell_below (he 2 (by decide)) hv.out.bel; have y3 := cell_below (he 3 (by decide)) hv.out.bel
    have y4 := cell_below (he 4 (by decide)) hv.out.bel; have y5 := cell_below (he 5 (by decide)) hv.out.bel; have y6 := cell_below (he 6 (by decide)) hv.out.bel
    rw [q0, Nat.add_zero] at y0; rw [q1] at y1; rw [q2] at y2; rw [q3] at y3; rw [q4] at y4; rw [q5] at y5; rw [q6] at y6
    have kk1 := hk.1; have kk2 := hk.2.1
    have hbz := (Below.refl U wr).alloc (by omega) (.cells #[.int .u64 (L t), .int .i64 (K t), .bool (N t).neg, .slice a1 (N t).an ac, .slice b1 (N t).am bc, .int .i64 (C t), .slice io (k t) kc] 65)
    have hva := hv.out.upto hF hbz
    have hxx := hx1.out.alloc (.cells #[.int .u64 (L t), .int .i64 (K t), .bool (N t).neg, .slice a1 (N t).an ac, .slice b1 (N t).am bc, .int .i64 (C t), .slice io (k t) kc] 65)
    have hzz := hz1.out.alloc (.cells #[.int .u64 (L t), .int .i64 (K t), .bool (N t).neg, .slice a1 (N t).an ac, .slice b1 (N t).am bc, .int .i64 (C t), .slice io (k t) kc] 65)
    have hsU : Shut (wr.alloc (.cells #[.int .u64 (L t), .int .i64 (K t), .bool (N t).neg, .slice a1 (N t).an ac, .slice b1 (N t).am bc, .int .i64 (C t), .slice io (k t) kc] 65)) U := by rw [hU]; exact shut7
    clear hcells he q0 qL q1 qK q2 q3 q4 q5 qC q6 ha hsa hla hb' hsb hlb hk hrow
    go_upto_region 8 with fail
    rw [← hU]
    refine told_wp (fun w' => Mk (oneF f L K C N k sub) M (Prov Q0 w) Bo U w w' (.int .u64 S) (.slice ao n nc) t V es ∧ Box7 w' U (.int .u64 (L t)) (.int .i64 (K t)) (.bool (N t).neg) (.slice a1 (N t).an ac) (.slice b1 (N t).am bc) (.int .i64 (C t)) (.slice io (k t) kc) ∧ Shut w' U ∧ Box3 w' w.heap.size (.int .u64 S) (.slice ao n nc) (.slice (some ⟨b, o, none⟩) m mc) ∧ Box3 w' (w.heap.size + 1) (.int .u64 0) (.slice none 0 0) (.slice none 0 0)) ⟨hva, Box7.new _ _ _ _ _ _ _ _ hU, hsU, hxx, hzz⟩ ?_
    clear hv hx1 hz1 z2 y0 y1 y2 y3 y4 y5 y6 hbz hva hxx hzz hsU hU
    rintro wa ⟨hva1, xa1, sa1, hx2', hz2'⟩
    have hva := Lib.hid hva1; have xa := Lib.hid xa1; have sa := Lib.hid sa1; have hx2 := Lib.hid hx2'; have hz2 := Lib.hid hz2'
    clear hva1 xa1 sa1 hx2' hz2'
    have p1 := xa.out.c1
    rcases hCT.out with ⟨hK, hC0', hk0, hR⟩ | ⟨hK, _, _, _⟩ | ⟨hK, _, hC0', hk1, hd0, _, hRs⟩
    ·have p2 := xa.out.c2; have p3 := xa.out.c3; have p4 := xa.out.c4
     rw [hK] at p1
     have hKh := Lib.hid hK; have hk0h := Lib.hid hk0
     clear hK hk0 hC0'
     have lw := hR.low
     have R := (show NumP wa (N t) (.bool (N t).neg) (.slice a1 (N t).an ac) (.slice b1 (N t).am bc) from (hnum.out.keep (Q' := fun _ => True) (fun b hq _ => hva.out.bel.block b hq.2) (fun _ _ _ => trivial)).plain').rtS hR
     have hfit := Lib.hid (fit_one f lw)
     obtain ⟨r, hrr⟩ : ∃ r, r = numR f (topF (N t)) (botF (N t)) := ⟨_, rfl⟩
     have hrr' := Lib.hid hrr
     have hcall := number10_any f (N t).neg a1 b1 (N t).an ac (N t).am bc (topF (N t)) (botF (N t)) wa R lw
     rw [← hrr] at hcall hfit
     replace hcall := Lib.hid hcall
     have hert := Lib.hid (show er t = r.2.2 from by rw [her'.out]; show (if K t = 0 then _ else _) = _; rw [if_pos hKh.out, hrr])
     clear R lw hrr
     go_wp2_with fail
     refine hcall.out.mono ?_
     rintro e w2 ⟨nb, po, pn, pc, qo, qn, qc, rfl, R2, hb2⟩
     obtain ⟨rT, rB, rE⟩ := r
     have hva2 := Lib.hid (hva.out.upto hF (hb2.mono hva.out.Uw)); have xa2 := Lib.hid (xa.out.later hb2); have sa2 := Lib.hid (sa.out.later hb2); have hxx := Lib.hid (hx2.out.later hb2); have hzz := Lib.hid (hz2.out.later hb2)
     have hcl := Lib.hid (show ∀ b, HasLimb w2 b → (Prov Q0 w b ∧ ¬ M b ∧ some b ≠ V.ownBlock) ∧ b ≠ U from fun b hb => hva.out.clear sa.out (Prov.limb hb hb2))
     clear hva xa sa hx2 hz2 p1 p2 p3 p4 hcall hb2
     rcases hfit.out with ⟨hE0, hlow⟩ | ⟨hE1, _, _⟩
     ·have hE0' : rE = 0 := hE0
      subst hE0'
      have hNP := R2.numP hlow.2.2.1 hlow.2.2.2
      have u2 := xa2.out.c2; have u3 := xa2.out.c3; have u4 := xa2.out.c4
      have v2 := xa2.out.fr 2; have v3 := xa2.out.fr 3; have v4 := xa2.out.fr 4
      have hU2 := sa2.out.1
      have hbz := ((((Below.refl U w2).setCell (p := ⟨U, 2, none⟩) (Nat.le_refl _) (.bool nb)).setCell (p := ⟨U, 3, none⟩) (Nat.le_refl _) (.slice po pn pc)).setCell (p := ⟨U, 4, none⟩) (Nat.le_refl _) (.slice qo qn qc)).alloc (by simp [World.setCell]; omega) (.cells #[.bool nb, .slice po pn pc, .slice qo qn qc] 24)
      have hkp := fun b (hb : b ≠ U) (hlt : b < w2.heap.size) => (Lib.alloc_old (((w2.setCell ⟨U, 2, none⟩ (.bool nb)).setCell ⟨U, 3, none⟩ (.slice po pn pc)).setCell ⟨U, 4, none⟩ (.slice qo qn qc)) (.cells #[.bool nb, .slice po pn pc, .slice qo qn qc] 24) b (by simpa [World.setCell] using hlt)).trans (heap_set234 (w := w2) hb (.bool nb) (.slice po pn pc) (.slice qo qn qc))
      have hvk0 := hva2.out.upto hF hbz
      have hsB := hva2.out.sB; have hBU2 := hva2.out.BU
      have hxk0 := (((hxx.out.aside (D := U) (by omega) 2 (.bool nb)).aside (D := U) (by omega) 3 (.slice po pn pc)).aside (D := U) (by omega) 4 (.slice qo qn qc)).alloc (.cells #[.bool nb, .slice po pn pc, .slice qo qn qc] 24)
      have hzk0 := (((hzz.out.aside (D := U) (by omega) 2 (.bool nb)).aside (D := U) (by omega) 3 (.slice po pn pc)).aside (D := U) (by omega) 4 (.slice qo qn qc)).alloc (.cells #[.bool nb, .slice po pn pc, .slice qo qn qc] 24)
      have xk0 := (xa2.out.set234 (.bool nb) (.slice po pn pc) (.slice qo qn qc)).alloc (.cells #[.bool nb, .slice po pn pc, .slice qo qn qc] 24)
      have hNQ := hNP.limbs.keep (Q' := fun b => Prov Q0 w b ∧ ¬ M b ∧ some b ≠ V.ownBlock) (fun b hq hb => hkp b (hcl.out b hq).2 hb) (fun b hq _ => (hcl.out b hq).1)
      clear hkp hbz
      go_upto_region 20 with fail
      refine told_wp (fun w' => Mk (oneF f L K C N k sub) M (Prov Q0 w) Bo U w w' (.int .u64 S) (.slice ao n nc) t V es ∧ Box7 w' U (.int .u64 (L t)) (.int .i64 (K t)) (.bool nb) (.slice po pn pc) (.slice qo qn qc) (.int .i64 (C t)) (.slice io (k t) kc) ∧ Box3 w' w.heap.size (.int .u64 S) (.slice ao n nc) (.slice (some ⟨b, o, none⟩) m mc) ∧ Box3 w' (w.heap.size + 1) (.int .u64 0) (.slice none 0 0) (.slice none 0 0) ∧ NumQ w' (fun b => Prov Q0 w b ∧ ¬ M b ∧ some b ≠ V.ownBlock) (numF rT rB) (.bool nb) (.slice po pn pc) (.slice qo qn qc)) ⟨hvk0, xk0, hxk0, hzk0, hNQ⟩ ?_
      clear hva2 xa2 sa2 hxx hzz hcl R2 hNP u2 u3 u4 v2 v3 v4 hvk0 xk0 hxk0 hzk0 hNQ hU2
      rintro wk ⟨hvk1, xk1, hxk1, hzk1, hNQ⟩
      have hnew := Lib.hid (show oneF f L K C N k sub t wk (fun b => Prov Q0 w b ∧ ¬ M b ∧ some b ≠ V.ownBlock) (fun q => [Value.int .u64 (L t), .int .i64 (K t), .bool nb, .slice po pn pc, .slice qo qn qc, .int .i64 (C t), .slice io (k t) kc].getD q undef) from
       ⟨rfl, hqL.out, rfl, hqK.out, by rw [show oneN f (K t) (N t) = numF rT rB from by unfold oneN; rw [if_pos hKh.out, ← hrr'.out]]; exact hNQ, rfl, hqC.out, io, kc, rfl, hk'.out, .inl hk0h.out⟩)
      have hvk := Lib.hid hvk1; have xk := Lib.hid xk1; have hxk := Lib.hid hxk1; have hzk := Lib.hid hzk1
      replace hert := Lib.hid (show er t = 0 from hert.out)
      clear hvk1 xk1 hxk1 hzk1 hNQ
      have her1 := Lib.hid (show ∀ i, i < t + 1 → er i = 0 from fun i hi => by
       by_cases hit : i = t
       ·rw [hit, hert.out]
       ·exact her0.out i (by omega))
      have g2 := hvk.out.out.c2
      have r0 := xk.out.c0; have r1 := xk.out.c1; have r2 := xk.out.c2; have r3 := xk.out.c3; have r4 := xk.out.c4; have r5 := xk.out.c5; have r6 := xk.out.c6
      have hxs := hxk.out.lt; have hzs := hzk.out.lt
      have hBU := hvk.out.BU; have hUw := hvk.out.Uw
      go_wp2_with (at_builtin; refine wpList_append_shut rfl (.tmp 72) (.tmp 74) 43 rfl (Bo + 1) 65 iC _ 7 104 Tryz.underlying43 hC0 hC1 hC2 hC3 rfl (by decide) _ t (rowsN es t) rfl (hvk.out.row.alloc _) ⟨wk.heap.size, 0, none⟩ 1 1 [.int .u64 (L t), .int .i64 (K t), .bool nb, .slice po pn pc, .slice qo qn qc, .int .i64 (C t), .slice io (k t) kc] rfl rfl (seven_at wk _ _ _ _ _ _ _ _) (by intro u hu; simp at hu; rcases hu with rfl | rfl | rfl | rfl | rfl | rfl | rfl <;> rfl) (by decide) (by unfold maxLen; omega) (by omega) (by simp; omega) no_limb_cell no_limb7 (fun g hg => (hvk.out.shV g hg).later ((Below.refl _ _).alloc (Nat.le_refl _) _)) (wk.heap.size + 1) (by simp) ?_)
      intro g cap w5 hown hgr hat hsg
      have hv5 := Lib.hid (hvk.out.step hF _ rfl hown hgr hat hsg hnew.out)
      have hb5 := ((Below.refl (Bo + 1) wk).alloc (by omega) (.cells #[.int .u64 (L t), .int .i64 (K t), .bool nb, .slice po pn pc, .slice qo qn qc, .int .i64 (C t), .slice io (k t) kc] 65)).grown hgr (by simp; omega) (fun q hq => (hvk.out.row.lt q hq).1)
      have x5 := hvk.out.out.below hb5 (by omega)
      have hx5 := Lib.hid ((hxk.out.below hb5 (by omega)).aside (D := Bo) (by omega) 2 (.slice (some ⟨g, 0, none⟩) (t + 1) cap))
      have hz5 := Lib.hid ((hzk.out.below hb5 (by omega)).aside (D := Bo) (by omega) 2 (.slice (some ⟨g, 0, none⟩) (t + 1) cap))
      have g5 := x5.c2; have f5 := x5.fr 2
      clear hown hgr hat hsg hb5 x5 hvk hnew r0 r1 r2 r3 r4 r5 r6 g2 xk hxk hzk
      go_wp2_with fail
      go_roundw
      case rel => exact ⟨t + 1, _, _, _, by omega, by go_num, hv5, hx5, hz5, her1⟩
      case measure => simp [intOfZ]; omega
     ·have hE1' : rE ≠ 0 := hE1
      have hb2' := hva2.out.bel
      have hne : (rE == 0) = false := by rw [beq_eq_false_iff_ne]; exact hE1'
      have hten : er t ≠ 0 := by rw [hert.out]; exact hE1'
      clear hva2 hxx xa2 sa2 hcl
      have hlz := hzz.out.lt
      have z0 := hzz.out.c0; have z1 := hzz.out.c1; have z2 := hzz.out.c2
      have f0 := hzz.out.fr 0; have f1 := hzz.out.fr 1; have f2 := hzz.out.fr 2
      have zz := (hzz.out.set (.int .u64 0) (.slice none 0 0) (.slice none 0 0)).alloc (.cells #[.bool nb, .slice po pn pc, .slice qo qn qc] 24)
      have e0 := zz.c0; have e1 := zz.c1; have e2 := zz.c2
      have hbw := Lib.hid ((below_set3 hb2' (B := w.heap.size + 1) (by omega) (.int .u64 0) (.slice none 0 0) (.slice none 0 0)).alloc (by have := hzz.out.lt; simp [World.setCell]; omega) (.cells #[.bool nb, .slice po pn pc, .slice qo qn qc] 24))
      have hfe := Lib.hid (show oneE f (.arr S n sh m L K C N k sub) = rE ∧ rE ≠ 0 from by
       have h1 := firstE_at her0.out hten m hlt
       have h2 := hten
       rw [← hE'.out] at h1
       rw [h1]
       exact ⟨hert.out, hE1'⟩)
      clear zz
      go_wp2_with fail
      refine bodyPost_ret (v := .tuple #[.agg #[.int .u64 0, .slice none 0 0, .slice none 0 0], .int .i64 (rE)]) (by simp [results, Tryz.results25, go_sem, e0, e1, e2]) rfl ?_
      rw [hfe.out.1]
      exact ⟨⟨_, _, _, rfl, by rw [show resT (rE) (oneT f (.arr S n sh m L K C N k sub)) = zeroT from if_neg hfe.out.2]; exact zero_arr _ _⟩, hbw.out⟩
    ·rw [hK] at p1
     have hKh := Lib.hid hK
     clear hK
     have hert := Lib.hid (show er t = 3 from by rw [her'.out]; show (if K t = 0 then _ else if K t = 1 then _ else _) = _; rw [if_neg (by have := hKh.out; omega), if_pos hKh.out])
     have hten : er t ≠ 0 := by rw [hert.out]; decide
     have hb2' := hva.out.bel
     clear hva xa sa hx2
     have hlz := hz2.out.lt
     have z0 := hz2.out.c0; have z1 := hz2.out.c1; have z2 := hz2.out.c2
     have f0 := hz2.out.fr 0; have f1 := hz2.out.fr 1; have f2 := hz2.out.fr 2
     have zz := (hz2.out.set (.int .u64 0) (.slice none 0 0) (.slice none 0 0))
     have e0 := zz.c0; have e1 := zz.c1; have e2 := zz.c2
     have hbw := Lib.hid (below_set3 hb2' (B := w.heap.size + 1) (by omega) (.int .u64 0) (.slice none 0 0) (.slice none 0 0))
     have hfe := Lib.hid (show oneE f (.arr S n sh m L K C N k sub) = (3 : Int) ∧ (3 : Int) ≠ 0 from by
      have h1 := firstE_at her0.out hten m hlt
      have h2 := hten
      rw [← hE'.out] at h1
      rw [h1]
      exact ⟨hert.out, by decide⟩)
     clear zz
     go_wp2_with fail
     refine bodyPost_ret (v := .tuple #[.agg #[.int .u64 0, .slice none 0 0, .slice none 0 0], .int .i64 ((3 : Int))]) (by simp [results, Tryz.results25, go_sem, e0, e1, e2]) rfl ?_
     rw [hfe.out.1]
     exact ⟨⟨_, _, _, rfl, by rw [show resT ((3 : Int)) (oneT f (.arr S n sh m L K C N k sub)) = zeroT from if_neg hfe.out.2]; exact zero_arr _ _⟩, hbw.out⟩
    ·rw [hK] at p1
     have hKh := Lib.hid hK; have hk1h := Lib.hid hk1
     have p6 := xa.out.c6
     rw [hk1] at p6
     clear hK hC0'
     rcases hrow'.out with h0 | ⟨b', o', rfl, hbQ, hrows⟩
     ·omega
     obtain ⟨d0, d1, d2, r0, r1, r2, r3⟩ := hrows 0 (by omega)
     rw [Nat.zero_mul, Nat.add_zero] at r0 r1 r2
     have s0 := cell_below r0 hva.out.bel; have s1 := cell_below r1 hva.out.bel; have s2 := cell_below r2 hva.out.bel
     have hA := ArrQ.keep (Q' := fun b => Q0 b ∧ b < w.heap.size) (fun b hq _ => hva.out.bel.block b hq.2) (fun b hq _ => hq) _ _ _ _ r3
     obtain ⟨S', n', nc', m', mc', ao', co', e0, e1, e2⟩ := hA.form
     subst e0; subst e1; subst e2
     have hpar : partsT (sub t 0) ≤ 4000 := by
      have := parts_sub (S := S) (n := n) (sh := sh) (L := L) (K := K) (C := C) (N := N) (sub := sub) (k := k) hlt (j := 0) (by omega)
      have := hfew'.out
      omega
     have hcall := ih t 0 (fun b => Q0 b ∧ b < w.heap.size) (dd - 1) _ _ _ wa hA hRs hpar
     obtain ⟨rE, hrE⟩ : ∃ rE, rE = oneE f (sub t 0) := ⟨_, rfl⟩
     have hrE' := Lib.hid hrE
     rw [← hrE] at hcall
     replace hcall := Lib.hid hcall
     have hert := Lib.hid (show er t = rE from by rw [her'.out]; show (if K t = 0 then _ else if K t = 1 then _ else _) = _; rw [if_neg (by have := hKh.out; omega), if_neg (by have := hKh.out; omega), hrE])
     clear hrows r0 r1 r2 r3 hA hpar hrE hk1
     go_wp2_with fail
     refine hcall.out.mono ?_
     rintro e w2 ⟨⟨d0, d1, d2, rfl, hres⟩, hb2⟩
     obtain ⟨S5, n5, nc5, m5, mc5, ao5, co5, e0, e1, e2⟩ := hres.form
     subst e0; subst e1; subst e2
     have hva2 := Lib.hid (hva.out.upto hF (hb2.mono hva.out.Uw)); have xa2 := Lib.hid (xa.out.later hb2); have sa2 := Lib.hid (sa.out.later hb2); have hxx := Lib.hid (hx2.out.later hb2); have hzz := Lib.hid (hz2.out.later hb2)
     have hcl := Lib.hid (show ∀ b, Prov (fun b => Q0 b ∧ b < w.heap.size) wa b → (Prov Q0 w b ∧ ¬ M b ∧ some b ≠ V.ownBlock) ∧ b ≠ U from fun b hb => hva.out.clear sa.out hb)
     have hres' := Lib.hid hres
     clear hva xa sa hx2 hz2 p1 p6 s0 s1 s2 hcall hb2 hres
     by_cases hE0 : rE = 0
     ·subst hE0
      have hA2 := hres'.out
      rw [show resT 0 (oneT f (sub t 0)) = oneT f (sub t 0) from if_pos rfl] at hA2
      have u6 := xa2.out.c6; have v6 := xa2.out.fr 6
      have hU2 := sa2.out.1
      have hbz := (((Below.refl U w2).setCell (p := ⟨U, 6, none⟩) (Nat.le_refl _) (.slice (some ⟨w2.heap.size + 1, 0, none⟩) 1 1)).alloc (by simp [World.setCell]; omega) (.cells #[.int .u64 (S5 : Nat), .slice ao5 n5 nc5, .slice co5 m5 mc5] 45)).alloc (by simp [World.setCell]; omega) (.cells #[.int .u64 (S5 : Nat), .slice ao5 n5 nc5, .slice co5 m5 mc5] 45)
      have hkp := fun b (hb : b ≠ U) (hlt : b < w2.heap.size) => ((Lib.alloc_old ((w2.setCell ⟨U, 6, none⟩ (.slice (some ⟨w2.heap.size + 1, 0, none⟩) 1 1)).alloc (.cells #[.int .u64 (S5 : Nat), .slice ao5 n5 nc5, .slice co5 m5 mc5] 45)) (.cells #[.int .u64 (S5 : Nat), .slice ao5 n5 nc5, .slice co5 m5 mc5] 45) b (by simp [World.setCell]; omega)).trans (Lib.alloc_old (w2.setCell ⟨U, 6, none⟩ (.slice (some ⟨w2.heap.size + 1, 0, none⟩) 1 1)) (.cells #[.int .u64 (S5 : Nat), .slice ao5 n5 nc5, .slice co5 m5 mc5] 45) b (by simpa [World.setCell] using hlt))).trans (Below.heap_setCell (w := w2) ⟨U, 6, none⟩ (.slice (some ⟨w2.heap.size + 1, 0, none⟩) 1 1) b hb)
      have hvk0 := hva2.out.upto hF hbz
      have hsB := hva2.out.sB; have hBU2 := hva2.out.BU
      have hxk0 := ((hxx.out.aside (D := U) (by omega) 6 (.slice (some ⟨w2.heap.size + 1, 0, none⟩) 1 1)).alloc (.cells #[.int .u64 (S5 : Nat), .slice ao5 n5 nc5, .slice co5 m5 mc5] 45)).alloc (.cells #[.int .u64 (S5 : Nat), .slice ao5 n5 nc5, .slice co5 m5 mc5] 45)
      have hzk0 := ((hzz.out.aside (D := U) (by omega) 6 (.slice (some ⟨w2.heap.size + 1, 0, none⟩) 1 1)).alloc (.cells #[.int .u64 (S5 : Nat), .slice ao5 n5 nc5, .slice co5 m5 mc5] 45)).alloc (.cells #[.int .u64 (S5 : Nat), .slice ao5 n5 nc5, .slice co5 m5 mc5] 45)
      have xk0 := ((xa2.out.set6 (.slice (some ⟨w2.heap.size + 1, 0, none⟩) 1 1)).alloc (.cells #[.int .u64 (S5 : Nat), .slice ao5 n5 nc5, .slice co5 m5 mc5] 45)).alloc (.cells #[.int .u64 (S5 : Nat), .slice ao5 n5 nc5, .slice co5 m5 mc5] 45)
      have hAk := ArrQ.keep (Q' := fun b => Prov Q0 w b ∧ ¬ M b ∧ some b ≠ V.ownBlock) (fun b hq hb => hkp b (hcl.out b hq).2 hb) (fun b hq _ => (hcl.out b hq).1) _ _ _ _ hA2
      have hrw := row_one (w := (w2.setCell ⟨U, 6, none⟩ (.slice (some ⟨w2.heap.size + 1, 0, none⟩) 1 1)).alloc (.cells #[.int .u64 (S5 : Nat), .slice ao5 n5 nc5, .slice co5 m5 mc5] 45)) (.int .u64 (S5 : Nat)) (.slice ao5 n5 nc5) (.slice co5 m5 mc5) 45
      have hsz2 : ((w2.setCell ⟨U, 6, none⟩ (.slice (some ⟨w2.heap.size + 1, 0, none⟩) 1 1)).alloc (.cells #[.int .u64 (S5 : Nat), .slice ao5 n5 nc5, .slice co5 m5 mc5] 45)).heap.size = w2.heap.size + 1 := by simp [World.setCell]
      rw [hsz2] at hrw
      have hQn : Prov Q0 w (w2.heap.size + 1) ∧ ¬ M (w2.heap.size + 1) ∧ some (w2.heap.size + 1) ≠ V.ownBlock := ⟨.inr (.inl (by omega)), fun hm => by have := (hva2.out.MU _ hm).2; omega, fun e => by have := hva2.out.vU _ e.symm; omega⟩
      clear hkp hbz hsz2
      go_upto_region 20 with fail
      refine told_wp (fun w' => Mk (oneF f L K C N k sub) M (Prov Q0 w) Bo U w w' (.int .u64 S) (.slice ao n nc) t V es ∧ Box7 w' U (.int .u64 (L t)) (.int .i64 (K t)) (.bool (N t).neg) (.slice a1 (N t).an ac) (.slice b1 (N t).am bc) (.int .i64 (C t)) (.slice (some ⟨w2.heap.size + 1, 0, none⟩) 1 1) ∧ Box3 w' w.heap.size (.int .u64 S) (.slice ao n nc) (.slice (some ⟨b, o, none⟩) m mc) ∧ Box3 w' (w.heap.size + 1) (.int .u64 0) (.slice none 0 0) (.slice none 0 0) ∧ ArrQ w' (fun b => Prov Q0 w b ∧ ¬ M b ∧ some b ≠ V.ownBlock) (oneT f (sub t 0)) (.int .u64 (S5 : Nat)) (.slice ao5 n5 nc5) (.slice co5 m5 mc5) ∧ (w'.cell? ⟨w2.heap.size + 1, 0, none⟩ = some (.int .u64 (S5 : Nat)) ∧ w'.cell? ⟨w2.heap.size + 1, 1, none⟩ = some (.slice ao5 n5 nc5) ∧ w'.cell? ⟨w2.heap.size + 1, 2, none⟩ = some (.slice co5 m5 mc5))) ⟨hvk0, xk0, hxk0, hzk0, hAk, hrw⟩ ?_
      clear hva2 xa2 sa2 hxx hzz hcl hA2 u6 v6 hvk0 xk0 hxk0 hzk0 hAk hrw hU2 hres'
      rintro wk ⟨hvk1, xk1, hxk1, hzk1, hAk, hr0, hr1, hr2⟩
      have hnew := Lib.hid (show oneF f L K C N k sub t wk (fun b => Prov Q0 w b ∧ ¬ M b ∧ some b ≠ V.ownBlock) (fun q => [Value.int .u64 (L t), .int .i64 (K t), .bool (N t).neg, .slice a1 (N t).an ac, .slice b1 (N t).am bc, .int .i64 (C t), .slice (some ⟨w2.heap.size + 1, 0, none⟩) 1 1].getD q undef) from
       ⟨rfl, hqL.out, rfl, hqK.out, by rw [show oneN f (K t) (N t) = N t from by unfold oneN; rw [if_neg (by have := hKh.out; omega)]]; exact hnum.out.keep (fun b hq _ => hvk1.bel.block b hq.2) (fun b hq _ => ⟨.inl hq.1, fun hm => by have := (hvk1.MU b hm).1; have := hq.2; omega, fun e => by have := (hvk1.row.lt b e.symm).1; have := hq.2; omega⟩), rfl, hqC.out, some ⟨w2.heap.size + 1, 0, none⟩, 1, by rw [hk1h.out]; rfl, by rw [hk1h.out]; exact ⟨Nat.le_refl _, by decide, by decide⟩,
        .inr ⟨w2.heap.size + 1, 0, rfl, hQn, fun j hj => by
         obtain rfl : j = 0 := by have := hk1h.out; omega
         exact ⟨_, _, _, hr0, hr1, hr2, hAk⟩⟩⟩)
      have hvk := Lib.hid hvk1; have xk := Lib.hid xk1; have hxk := Lib.hid hxk1; have hzk := Lib.hid hzk1
      clear hvk1 xk1 hxk1 hzk1 hAk hr0 hr1 hr2 hQn
      have her1 := Lib.hid (show ∀ i, i < t + 1 → er i = 0 from fun i hi => by
       by_cases hit : i = t
       ·rw [hit, hert.out]
       ·exact her0.out i (by omega))
      have g2 := hvk.out.out.c2
      have r0 := xk.out.c0; have r1 := xk.out.c1; have r2 := xk.out.c2; have r3 := xk.out.c3; have r4 := xk.out.c4; have r5 := xk.out.c5; have r6 := xk.out.c6
      have hxs := hxk.out.lt; have hzs := hzk.out.lt
      have hBU := hvk.out.BU; have hUw := hvk.out.Uw
      go_wp2_with (at_builtin; refine wpList_append_shut rfl (.tmp 72) (.tmp 74) 43 rfl (Bo + 1) 65 iC _ 7 104 Tryz.underlying43 hC0 hC1 hC2 hC3 rfl (by decide) _ t (rowsN es t) rfl (hvk.out.row.alloc _) ⟨wk.heap.size, 0, none⟩ 1 1 [.int .u64 (L t), .int .i64 (K t), .bool (N t).neg, .slice a1 (N t).an ac, .slice b1 (N t).am bc, .int .i64 (C t), .slice (some ⟨w2.heap.size + 1, 0, none⟩) 1 1] rfl rfl (seven_at wk _ _ _ _ _ _ _ _) (by intro u hu; simp at hu; rcases hu with rfl | rfl | rfl | rfl | rfl | rfl | rfl <;> rfl) (by decide) (by unfold maxLen; omega) (by omega) (by simp; omega) no_limb_cell no_limb7 (fun g hg => (hvk.out.shV g hg).later ((Below.refl _ _).alloc (Nat.le_refl _) _)) (wk.heap.size + 1) (by simp) ?_)
      intro g cap w5 hown hgr hat hsg
      have hv5 := Lib.hid (hvk.out.step hF _ rfl hown hgr hat hsg hnew.out)
      have hb5 := ((Below.refl (Bo + 1) wk).alloc (by omega) (.cells #[.int .u64 (L t), .int .i64 (K t), .bool (N t).neg, .slice a1 (N t).an ac, .slice b1 (N t).am bc, .int .i64 (C t), .slice (some ⟨w2.heap.size + 1, 0, none⟩) 1 1] 65)).grown hgr (by simp; omega) (fun q hq => (hvk.out.row.lt q hq).1)
      have x5 := hvk.out.out.below hb5 (by omega)
      have hx5 := Lib.hid ((hxk.out.below hb5 (by omega)).aside (D := Bo) (by omega) 2 (.slice (some ⟨g, 0, none⟩) (t + 1) cap))
      have hz5 := Lib.hid ((hzk.out.below hb5 (by omega)).aside (D := Bo) (by omega) 2 (.slice (some ⟨g, 0, none⟩) (t + 1) cap))
      have g5 := x5.c2; have f5 := x5.fr 2
      clear hown hgr hat hsg hb5 x5 hvk hnew r0 r1 r2 r3 r4 r5 r6 g2 xk hxk hzk
      go_wp2_with fail
      go_roundw
      case rel => exact ⟨t + 1, _, _, _, by omega, by go_num, hv5, hx5, hz5, her1⟩
      case measure => simp [intOfZ]; omega
     ·have hb2' := hva2.out.bel
      have hne : (rE == 0) = false := by rw [beq_eq_false_iff_ne]; exact hE0
      have hten : er t ≠ 0 := by rw [hert.out]; exact hE0
      clear hva2 hxx xa2 sa2 hcl hres'
      have hlz := hzz.out.lt
      have z0 := hzz.out.c0; have z1 := hzz.out.c1; have z2 := hzz.out.c2
      have f0 := hzz.out.fr 0; have f1 := hzz.out.fr 1; have f2 := hzz.out.fr 2
      have zz := (hzz.out.set (.int .u64 0) (.slice none 0 0) (.slice none 0 0)).alloc (.cells #[.int .u64 (S5 : Nat), .slice ao5 n5 nc5, .slice co5 m5 mc5] 45)
      have e0 := zz.c0; have e1 := zz.c1; have e2 := zz.c2
      have hbw := Lib.hid ((below_set3 hb2' (B := w.heap.size + 1) (by omega) (.int .u64 0) (.slice none 0 0) (.slice none 0 0)).alloc (by have := hzz.out.lt; simp [World.setCell]; omega) (.cells #[.int .u64 (S5 : Nat), .slice ao5 n5 nc5, .slice co5 m5 mc5] 45))
      have hfe := Lib.hid (show oneE f (.arr S n sh m L K C N k sub) = rE ∧ rE ≠ 0 from by
       have h1 := firstE_at her0.out hten m hlt
       have h2 := hten
       rw [← hE'.out] at h1
       rw [h1]
       exact ⟨hert.out, hE0⟩)
      clear zz
      go_wp2_with fail
      refine bodyPost_ret (v := .tuple #[.agg #[.int .u64 0, .slice none 0 0, .slice none 0 0], .int .i64 (rE)]) (by simp [results, Tryz.results25, go_sem, e0, e1, e2]) rfl ?_
      rw [hfe.out.1]
      exact ⟨⟨_, _, _, rfl, by rw [show resT (rE) (oneT f (.arr S n sh m L K C N k sub)) = zeroT from if_neg hfe.out.2]; exact zero_arr _ _⟩, hbw.out⟩
   ·obtain rfl : t = m := by omega
    have hsB2 := hv.out.sB
    obtain ⟨vo, vc, rfl, hvc, hrc⟩ := hv.out.row_cells hF (by omega) (fun b hb => .inr (.inl hb))
    have hbel := hv.out.bel
    have hE0 : firstE er t = 0 := (firstE_zero t).2 her0.out
    have p0 := hv.out.out.c0; have p1 := hv.out.out.c1; have p2 := hv.out.out.c2
    have g0 := hz1.out.c0; have g1 := hz1.out.c1; have g2 := hz1.out.c2
    have f0 := hz1.out.fr 0; have f1 := hz1.out.fr 1; have f2 := hz1.out.fr 2
    have z := hz1.out.set (.int .u64 S) (.slice ao n nc) (.slice vo t vc)
    have e0 := z.c0; have e1 := z.c1; have e2 := z.c2
    have hbw := Lib.hid (below_set3 hbel (B := w.heap.size + 1) (by omega) (.int .u64 S) (.slice ao n nc) (.slice vo t vc))
    have hM1 : M (w.heap.size + 1) := by rw [hM'.out]; exact .inl rfl
    have hk0 := fun b (hb : b ≠ w.heap.size + 1) => heap_set012 (w := wr) (B := w.heap.size + 1) (b := b) hb (.int .u64 S) (.slice ao n nc) (.slice vo t vc)
    have hres0 : ArrQ wr (fun b => Prov Q0 w b ∧ ¬ M b) (oneT f (.arr S n sh t L K C N k sub)) (.int .u64 S) (.slice ao n nc) (.slice vo t vc) := by
     refine ⟨rfl, hSl.out, ⟨ao, nc, rfl, hnI.out, hsh'.out.keep (fun b hq _ => hbel.block b hq.2) (fun b hq _ => ⟨.inl hq.1, fun hm => by have := (hv.out.MU b hm).1; have := hq.2; omega⟩), hshz'.out⟩, vo, vc, rfl, hvc, hrc⟩
    have hres := Lib.hid (ArrQ.keep (Q' := Prov Q0 w) (fun b hq _ => hk0 b fun e => hq.2 (by rw [e]; exact hM1)) (fun b hq _ => hq.1) _ _ _ _ hres0)
    clear z hv hx1 hz1 hrc hvc hbel hk0 hres0
    go_wp2_with fail
    refine bodyPost_ret (v := .tuple #[.agg #[.int .u64 S, .slice ao n nc, .slice vo t vc], .int .i64 0]) (by simp [results, Tryz.results25, go_sem, e0, e1, e2]) rfl ?_
    rw [hE'.out, hE0]
    exact ⟨⟨_, _, _, rfl, hres.out⟩, hbw.out⟩
end Go.Proofs.YtaepelipkkmeaaaGreat
namespace Go.Proofs.YtaepelipkkmeaaaGreat
open Go.RowKit Num Go.ChangeShapes
section
variable {H : Type} {enc : TypeId × Value → H} {P : Program} {W : World}
end
variable {H : Type} {enc : TypeId × Value → H} {W : World}
theorem seven_of {cs : List Value} (h : cs.length = 7) : ∃ e : Nat → Value, cs = [e 0, e 1, e 2, e 3, e 4, e 5, e 6] := by
 match cs, h with
 | [c0, c1, c2, c3, c4, c5, c6], _ => exact ⟨fun i => [c0, c1, c2, c3, c4, c5, c6].getD i c0, rfl⟩
def ArrIn (enc : TypeId × Value → H) (W : World) (fuel : Nat) : Prop := ∀ (cs : List Value) (x : DataW H × List MemPlace), DataW.trod enc Tryz.prog W 0 (fun _ => true) true fuel 45 cs = some x → (∀ k ∈ x.1.weights Tryz.prog 45, k ≤ reachBytes) → ∃ (A : Tree) (c0 c1 c2 : Value), cs = [c0, c1, c2] ∧ ArrP W A c0 c1 c2
theorem cell_in {fuel : Nat} (ih : ∀ m, m < fuel → ArrIn enc W m) {cs : List Value} {x : DataW H × List MemPlace} (h : DataW.trod enc Tryz.prog W 0 (fun _ => true) true fuel 65 cs = some x) (hw : ∀ k ∈ x.1.weights Tryz.prog 65, k ≤ reachBytes) :
  ∃ (c : CellD) (e : Nat → Value), cs = [e 0, e 1, e 2, e 3, e 4, e 5, e 6] ∧ CellR W c e := by
 obtain ⟨n, hn, hl, hf⟩ := struct_open Tryz.underlying65 h hw
 have kC : Tryz.prog.cellsOf 65 = 7 := by kernel_rfl
 obtain ⟨e, rfl⟩ := seven_of (hl.trans kC)
 obtain ⟨y0, h0, _⟩ := hf 0 _ rfl
 obtain ⟨y1, h1, _⟩ := hf 1 _ rfl
 obtain ⟨y2, h2, w2⟩ := hf 2 _ rfl
 obtain ⟨y3, h3, _⟩ := hf 3 _ rfl
 obtain ⟨y4, h4, w4⟩ := hf 4 _ rfl
 have ku : Tryz.prog.cellsOf 42 = 1 := by kernel_rfl
 have ki : Tryz.prog.cellsOf 3 = 1 := by kernel_rfl
 have kN : Tryz.prog.cellsOf 24 = 3 := by kernel_rfl
 have kS : Tryz.prog.cellsOf 63 = 1 := by kernel_rfl
 have h0' : DataW.trod enc Tryz.prog W 0 (fun _ => true) true n 42 [e 0] = some y0 := by simpa [ku] using h0
 have h1' : DataW.trod enc Tryz.prog W 0 (fun _ => true) true n 3 [e 1] = some y1 := by simpa [ki] using h1
 have h2' : DataW.trod enc Tryz.prog W 0 (fun _ => true) true n 24 [e 2, e 3, e 4] = some y2 := by simpa [kN] using h2
 have h3' : DataW.trod enc Tryz.prog W 0 (fun _ => true) true n 3 [e 5] = some y3 := by simpa [ki] using h3
 have h4' : DataW.trod enc Tryz.prog W 0 (fun _ => true) true n 63 [e 6] = some y4 := by simpa [kS] using h4
 obtain ⟨v0, q0, _, r0⟩ := DataW.trod_int Tryz.underlying42 h0'
 obtain ⟨v1, q1, _, r1⟩ := DataW.trod_int Tryz.underlying3 h1'
 obtain ⟨v3, q3, _, r3⟩ := DataW.trod_int Tryz.underlying3 h3'
 obtain ⟨N, hN⟩ := num_in h2' w2
 obtain ⟨ao, k, kc, q6, hk, hr⟩ := row_open Tryz.underlying63 (show Tryz.prog.cellsOf 45 = 3 by kernel_rfl) (by decide) (show 0 < Tryz.prog.bytesOf 45 from of_decide_eq_true (by kernel_rfl)) h4' w4
 have b0 := bounds_u64 r0
 have e0 : e 0 = .int .u64 (v0.toNat : Nat) := by rw [Int.toNat_of_nonneg b0.1]; simpa using q0
 have e1 : e 1 = .int .i64 v1 := by simpa using q1
 have e5 : e 5 = .int .i64 v3 := by simpa using q3
 have hL : IsL v0.toNat := by show v0.toNat < 18446744073709551616; omega
 rcases hr with hk0 | ⟨b, o, rfl, hr⟩
 ·exact ⟨⟨v0.toNat, v1, N, v3, k, fun _ => .leaf⟩, e, rfl, e0, hL, e1, bounds_i64 r1, hN, e5, bounds_i64 r3, ao, kc, q6, hk, .inl hk0⟩
 ·obtain ⟨sub, hsub⟩ := pick Tree.leaf (p := fun j A => ∃ d0 d1 d2, W.cell? ⟨b, o + j * 3, none⟩ = some d0 ∧ W.cell? ⟨b, o + j * 3 + 1, none⟩ = some d1 ∧ W.cell? ⟨b, o + j * 3 + 2, none⟩ = some d2 ∧ ArrP W A d0 d1 d2) fun j hj => by
   obtain ⟨m, cs, y, hm, _, p2, p3, p4⟩ := hr j hj
   obtain ⟨A, d0, d1, d2, rfl, hA⟩ := ih m (by omega) cs y p3 p4
   exact ⟨A, d0, d1, d2, by simpa using p2 0 (by decide), by simpa using p2 1 (by decide), by simpa using p2 2 (by decide), hA⟩
  exact ⟨⟨v0.toNat, v1, N, v3, k, sub⟩, e, rfl, e0, hL, e1, bounds_i64 r1, hN, e5, bounds_i64 r3, _, kc, q6, hk, .inr ⟨b, o, rfl, hsub⟩⟩
theorem arr_in : ∀ fuel, ArrIn enc W fuel := by
 intro fuel
 induction fuel using Nat.strongRecOn with
 | ind fuel ih =>
  intro cs x h hw
  obtain ⟨n, hn, hl, hf⟩ := struct_open Tryz.underlying45 h hw
  have kA : Tryz.prog.cellsOf 45 = 3 := by kernel_rfl
  obtain ⟨c0, c1, c2, rfl⟩ := three_of (hl.trans kA)
  obtain ⟨y0, h0, _⟩ := hf 0 _ rfl
  obtain ⟨y1, h1, w1⟩ := hf 1 _ rfl
  obtain ⟨y2, h2, w2⟩ := hf 2 _ rfl
  have ku : Tryz.prog.cellsOf 42 = 1 := by kernel_rfl
  have ks : Tryz.prog.cellsOf 27 = 1 := by kernel_rfl
  have kS : Tryz.prog.cellsOf 43 = 1 := by kernel_rfl
  have h0' : DataW.trod enc Tryz.prog W 0 (fun _ => true) true n 42 [c0] = some y0 := by simpa [ku] using h0
  have h1' : DataW.trod enc Tryz.prog W 0 (fun _ => true) true n 27 [c1] = some y1 := by simpa [ks] using h1
  have h2' : DataW.trod enc Tryz.prog W 0 (fun _ => true) true n 43 [c2] = some y2 := by simpa [kS] using h2
  obtain ⟨v0, q0, _, r0⟩ := DataW.trod_int Tryz.underlying42 h0'
  obtain ⟨ao, p, nc, rfl, hp, sh, hsh, hz⟩ := ints_in h1' w1
  obtain ⟨co, m, mc, rfl, hm, hr⟩ := row_open Tryz.underlying43 (show Tryz.prog.cellsOf 65 = 7 by kernel_rfl) (by decide) (show 0 < Tryz.prog.bytesOf 65 from of_decide_eq_true (by kernel_rfl)) h2' w2
  have b0 := bounds_u64 r0
  have e0 : c0 = .int .u64 (v0.toNat : Nat) := by rw [Int.toNat_of_nonneg b0.1]; simpa using q0
  have hL : IsL v0.toNat := by show v0.toNat < 18446744073709551616; omega
  rcases hr with hm0 | ⟨b, o, rfl, hr⟩
  ·exact ⟨.arr v0.toNat p sh m (fun _ => 0) (fun _ => 0) (fun _ => 0) (fun _ => zeroN) (fun _ => 0) (fun _ _ => .leaf), _, _, _, rfl, e0, hL, ⟨ao, nc, rfl, hp, hsh, hz⟩, co, mc, rfl, hm, .inl hm0⟩
  ·obtain ⟨cd, hcd⟩ := pick (⟨0, 0, zeroN, 0, 0, fun _ => .leaf⟩ : CellD) (p := fun i c => ∃ e : Nat → Value, (∀ t, t < 7 → W.cell? ⟨b, o + i * 7 + t, none⟩ = some (e t)) ∧ CellR W c e) fun i hi => by
    obtain ⟨m', cs, y, hm', _, p2, p3, p4⟩ := hr i hi
    obtain ⟨c, e, rfl, hc⟩ := cell_in (fun q hq => ih q (by omega)) p3 p4
    refine ⟨c, e, fun t ht => ?_, hc⟩
    rw [p2 t ht]
    rcases t with _ | _ | _ | _ | _ | _ | _ | t
    all_goals first | rfl | omega
   exact ⟨.arr v0.toNat p sh m (fun i => (cd i).L) (fun i => (cd i).K) (fun i => (cd i).C) (fun i => (cd i).N) (fun i => (cd i).k) (fun i => (cd i).sub), _, _, _, rfl, e0, hL, ⟨ao, nc, rfl, hp, hsh, hz⟩, _, mc, rfl, hm, .inr ⟨b, o, rfl, hcd⟩⟩
end Go.Proofs.YtaepelipkkmeaaaGreat
namespace Go.Proofs.YtaepelipkkmeaaaGreat
open Go.RowKit Num
def FullT : Tree → Prop
 | .leaf => False
 | .arr _ _ _ m _ _ _ _ k sub => ∀ i, i < m → ∀ j, j < k i → FullT (sub i j)
theorem ArrP.full {w : World} : ∀ (A : Tree) (c0 c1 c2 : Value), ArrP w A c0 c1 c2 → FullT A := by
 intro A
 induction A with
 | leaf => intro c0 c1 c2 h; exact (ArrP.leaf h).elim
 | arr S n sh m L K C N k sub ih =>
  intro c0 c1 c2 h i hi j hj
  obtain ⟨_, _, h3⟩ := arr_labels h
  obtain ⟨d0, d1, d2, r⟩ := h3 i hi j hj
  exact ih i j d0 d1 d2 r
theorem same_refl : ∀ A, FullT A → SameT A A := by
 intro A
 induction A with
 | leaf => intro h; exact h.elim
 | arr S n sh m L K C N k sub ih =>
  intro h
  exact ⟨rfl, ⟨rfl, fun _ _ => rfl⟩, rfl, fun i hi => ⟨rfl, rfl, rfl, ⟨rfl, ⟨rfl, fun _ _ => rfl⟩, rfl, fun _ _ => rfl⟩, rfl, fun j hj => ih i j (h i hi j hj)⟩⟩
end Go.Proofs.YtaepelipkkmeaaaGreat
namespace Go.Proofs.YtaepelipkkmeaaaGreat
open Go.RowKit Num
theorem oneN_right {f K : Int} {N : NumF} (h : RightF N) (hK : K = 0) (hE : (numR f (topF N) (botF N)).2.2 = 0) : RightF (oneN f K N) := by
 unfold oneN
 rw [if_pos hK]
 rcases fit_one f h.low with ⟨_, hl⟩ | ⟨h1, _, _⟩
 ·exact numF_right hl
 ·exact absurd hE h1
theorem one_simple (f : Int) (A : Tree) : simpleT (oneT f A) = simpleT A := by
 obtain _ | ⟨S, n, sh, m, L, K, C, N, k, sub⟩ := A <;> rfl
theorem one_right (f : Int) : ∀ (A : Tree) (d : Nat), RightT A d → oneE f A = 0 → RightT (oneT f A) d := by
 intro A
 induction A with
 | leaf => intro d h; exact h.elim
 | arr S n sh m L K C N k sub ih =>
  intro d h hE
  have hE' := (firstE_zero (e := fun i => if K i = 0 then (numR f (topF (N i)) (botF (N i))).2.2 else if K i = 1 then 3 else oneE f (sub i 0)) m).1 hE
  refine ⟨h.1, fun i hi => ?_⟩
  have hi0 := hE' i hi
  rcases h.2 i hi with ⟨hK, hC, hk, hR⟩ | ⟨hK, _, _, _⟩ | ⟨hK, hz, hC, hk, hd, hs, hR⟩
  ·simp only [if_pos hK] at hi0
   exact .inl ⟨hK, hC, hk, oneN_right hR hK hi0⟩
  ·simp only [if_neg (show ¬ K i = 0 by omega), if_pos hK] at hi0
   exact absurd hi0 (by decide)
  ·simp only [if_neg (show ¬ K i = 0 by omega), if_neg (show ¬ K i = 1 by omega)] at hi0
   refine .inr (.inr ⟨hK, ?_, hC, hk, hd, ?_, ih i 0 _ hR hi0⟩)
   ·show zeroF (oneN f (K i) (N i)) = true
    unfold oneN; rw [if_neg (by omega)]; exact hz
   ·rw [one_simple]; exact hs
end Go.Proofs.YtaepelipkkmeaaaGreat
namespace Go.Proofs.YtaepelipkkmeaaaGreat
open Go.RowKit Num
def OneSC : Prop := ∀ (f : Int) (A : Tree) (c0 c1 c2 : Value) (w : World), IsZ f → ArrP w A c0 c1 c2 → FewT A → RightT A 8 → Calls Tryz.prog 24 #[.int .i64 f, .agg #[c0, c1, c2]] w (ResP (oneR f A) (oneT f A) w)
theorem one10_none (f : Int) (hf : f ∉ onesZ) (A T : Tree) (c0 c1 c2 : Value) (w : World) (h : ArrP w A c0 c1 c2) : Calls Tryz.prog 25 #[.int .i64 f, .agg #[c0, c1, c2]] w (ResP 8 T w) := by
 obtain ⟨S, n, nc, m, mc, ao, co, rfl, rfl, rfl⟩ := (ArrP.within _ _ _ _ h).form
 have hf' := Lib.hid hf
 clear h hf
 go_enter Tryz.func25, Tryz.ntmps25
 go_upto_region 1 with fail
 refine told_wp (fun w' => Below w.heap.size w w' ∧ Box3 w' (w.heap.size + 1) (.int .u64 0) (.slice none 0 0) (.slice none 0 0))
  ⟨((Below.refl _ _).alloc (Nat.le_refl _) _).alloc (by simp) _, Box3.new _ _ _ _ (by simp)⟩ ?_
 rintro w1 ⟨bb1, z1⟩
 have hbb := Lib.hid bb1; have hz := Lib.hid z1
 clear bb1 z1
 go_wp2_with fail
 refine (onesZ_any w1).mono ?_
 rintro e w2 ⟨B, rfl, hl, hb2⟩
 replace hbb := Lib.hid (below_then hbb.out (Nat.le_refl _) hb2); replace hz := Lib.hid (hz.out.later hb2)
 have hl' := Lib.hid hl
 clear hl hb2
 go_wp2_with fail
 refine (in6_any _ _ _ _ f w2 (by decide) hl'.out).mono ?_
 rintro e w2' ⟨hin, rfl⟩
 obtain ⟨rfl, hmem⟩ := hin.resolve_left fun k => hf'.out ((memZ_list _ _).1 k.2)
 clear hmem hin hl'
 have z0 := hz.out.c0; have z1 := hz.out.c1; have z2 := hz.out.c2
 have f0 := hz.out.fr 0; have f1 := hz.out.fr 1; have f2 := hz.out.fr 2
 have zz := hz.out.set (.int .u64 0) (.slice none 0 0) (.slice none 0 0)
 have e0 := zz.c0; have e1 := zz.c1; have e2 := zz.c2
 have hbw := Lib.hid (below_set3 hbb.out (B := w.heap.size + 1) (by omega) (.int .u64 0) (.slice none 0 0) (.slice none 0 0))
 clear zz
 go_wp2_with fail
 refine bodyPost_ret (v := .tuple #[.agg #[.int .u64 0, .slice none 0 0, .slice none 0 0], .int .i64 8]) (by simp [results, Tryz.results25, go_sem, e0, e1, e2]) rfl ?_
 exact ⟨_, _, _, rfl, ArrQ.plain _ _ _ _ (zero_arr _ (fun _ => True)), hbw.out⟩
theorem one10_any (f : Int) (A : Tree) (c0 c1 c2 : Value) (w : World) (h : ArrP w A c0 c1 c2) (hf : FewT A) (hr : RightT A 8) : Calls Tryz.prog 25 #[.int .i64 f, .agg #[c0, c1, c2]] w (ResP (oneR f A) (oneT f A) w) := by
 unfold oneR
 by_cases hm : f ∈ onesZ
 ·rw [if_pos hm]
  exact (one10_t f hm A _ 8 c0 c1 c2 w (ArrP.within _ _ _ _ h) hr hf.1).mono fun _ _ => ResQ.plain
 ·rw [if_neg hm]
  exact one10_none f hm A _ c0 c1 c2 w h
end Go.Proofs.YtaepelipkkmeaaaGreat
namespace Go.Proofs.YtaepelipkkmeaaaGreat
open Go.RowKit Num
theorem BoolPost.tell {P : Prop} {b : Bool} {w w' : World} {e : Ending} (hb : b = true ↔ P) (h : BoolPost P w e w') : Tell (.bool b) w e w' := by
 obtain ⟨r, rfl, hr, hw⟩ := h
 obtain rfl : r = b := Bool.eq_iff_iff.2 (hr.trans hb.symm)
 exact ⟨rfl, hw⟩
end Go.Proofs.YtaepelipkkmeaaaGreat
namespace Go.Proofs.YtaepelipkkmeaaaGreat
open Go.RowKit Num
attribute [local go_sem ↓] Go.wp_at_zero Go.wp_at_succ
theorem small4_cell (N : NumF) (ao bo : Option Addr) (ac bc : Nat) (w : World) (h : NumP w N (.bool N.neg) (.slice ao N.an ac) (.slice bo N.am bc)) (hr : RightF N ∨ zeroF N = true) :
  Calls Tryz.prog 13 #[.agg #[.bool N.neg, .slice ao N.an ac, .slice bo N.am bc]] w (SmallPost w) := by
 rcases hr with hr | hz
 ·refine (small4_any _ _ _ _ _ _ _ _ _ w (h.rtS hr) hr.low).mono ?_
  rintro e w' ⟨rfl, hb⟩
  exact ⟨_, _, small_bounds, rfl, hb⟩
 ·have h0 : N.am = 0 := by
   unfold zeroF at hz
   rw [Bool.and_eq_true, Bool.and_eq_true, decide_eq_true_eq] at hz
   exact of_decide_eq_true hz.2
  refine (small4_not _ _ _ _ _ _ _ w (by omega)).mono ?_
  rintro e w' ⟨rfl, hb⟩
  exact ⟨0, false, ⟨by decide, by decide⟩, rfl, hb⟩
end Go.Proofs.YtaepelipkkmeaaaGreat
namespace Go.Proofs.YtaepelipkkmeaaaGreat
open Go.RowKit Num
theorem cell_num {K : Int} {N : NumF} {C : Int} {k : Nat} {s : Bool} {d : Nat} {R : Prop} (h : CellT K N C k s d R) : RightF N ∨ zeroF N = true := by
 rcases h with ⟨_, _, _, h⟩ | ⟨_, h, _, _⟩ | ⟨_, h, _⟩
 ·exact .inl h
 ·exact .inr h
 ·exact .inr h
theorem light10_any : ∀ (A : Tree) (dd : Nat) (c0 c1 c2 : Value) (w : World), ArrP w A c0 c1 c2 → RightT A dd →
  Calls Tryz.prog 23 #[.agg #[c0, c1, c2]] w (SomeBool w) := by
 intro A
 induction A with
 | leaf => intro dd c0 c1 c2 w h; exact (ArrP.leaf h).elim
 | arr S n sh m L K C N k sub ih =>
  intro dd c0 c1 c2 w h hr
  obtain ⟨rfl, hS, ⟨ao, nc, rfl, hn, _, _⟩, co, mc, rfl, hm, hc⟩ := h
  have n1 := hn.1; have n2 := hn.2.1; have n3 := hn.2.2; have m1 := hm.1; have m2 := hm.2.1; have m3 := hm.2.2
  have hr' := Lib.hid hr.2; have hc' := Lib.hid hc
  clear hc hn hm hr hS
  go_enter Tryz.func23, Tryz.ntmps23
  go_upto_region 1 with fail
  refine told_wp (fun w' => Below w.heap.size w w' ∧ Box3 w' w.heap.size (.int .u64 S) (.slice ao n nc) (.slice co m mc)) ⟨(Below.refl _ _).alloc (Nat.le_refl _) _, Box3.new _ _ _ _ rfl⟩ ?_
  rintro w1 ⟨b1, x1⟩
  have hv0 := Lib.hid b1; have hx0 := Lib.hid x1
  clear b1 x1
  go_wp2_with fail
  go_loopw [3] (fun i wr => ∃ (t : Nat), t ≤ m ∧ i = .int .i64 t ∧ Hid (Below w.heap.size w wr) ∧ Hid (Box3 wr w.heap.size (.int .u64 S) (.slice ao n nc) (.slice co m mc))) (fun i _ => m - (intOfZ i).toNat)
  case atStart => exact ⟨0, Nat.zero_le _, rfl, hv0, hx0⟩
  case round =>
   obtain ⟨t, ht, rfl, hv, hx⟩ := hrel
   clear hv0 hx0
   have z2 := hx.out.c2
   by_cases hlt : t < m
   ·rcases hc'.out with h0 | ⟨b, o, rfl, hcells⟩
    ·omega
    obtain ⟨e, he, q0, qL, q1, qK, ⟨q2, ⟨a1, ac, q3, ha, hsa, hla⟩, ⟨b1, bc, q4, hb', hsb, hlb⟩⟩, q5, qC, io, kc, q6, hk, hrow⟩ := hcells t hlt
    have hCT := Lib.hid (hr'.out t hlt)
    have hrow' : Hid (RowP w io (k t) fun j d0 d1 d2 => ArrP w (sub t j) d0 d1 d2) := Lib.hid hrow
    have hnum := Lib.hid (show NumP w (N t) (.bool (N t).neg) (.slice a1 (N t).an ac) (.slice b1 (N t).am bc) from ⟨rfl, ⟨a1, ac, rfl, ha, hsa, hla⟩, ⟨b1, bc, rfl, hb', hsb, hlb⟩⟩)
    have y0 := cell_below (he 0 (by decide)) hv.out; have y1 := cell_below (he 1 (by decide)) hv.out; have y2 := cell_below (he 2 (by decide)) hv.out; have y3 := cell_below (he 3 (by decide)) hv.out
    have y4 := cell_below (he 4 (by decide)) hv.out; have y5 := cell_below (he 5 (by decide)) hv.out; have y6 := cell_below (he 6 (by decide)) hv.out
    rw [q0, Nat.add_zero] at y0; rw [q1] at y1; rw [q2] at y2; rw [q3] at y3; rw [q4] at y4; rw [q5] at y5; rw [q6] at y6
    have kk1 := hk.1; have kk2 := hk.2.1
    have l1 := ha.1; have l2 := ha.2.1; have l3 := hb'.1; have l4 := hb'.2.1
    have hv2 := hv.out.alloc hv.out.size (.cells #[.int .u64 (L t), .int .i64 (K t), .bool (N t).neg, .slice a1 (N t).an ac, .slice b1 (N t).am bc, .int .i64 (C t), .slice io (k t) kc] 65)
    have hx2 := hx.out.alloc (.cells #[.int .u64 (L t), .int .i64 (K t), .bool (N t).neg, .slice a1 (N t).an ac, .slice b1 (N t).am bc, .int .i64 (C t), .slice io (k t) kc] 65)
    have hy2 := Box7.new (w := wr) (B := wr.heap.size) (.int .u64 (L t)) (.int .i64 (K t)) (.bool (N t).neg) (.slice a1 (N t).an ac) (.slice b1 (N t).am bc) (.int .i64 (C t)) (.slice io (k t) kc) 65 rfl
    obtain ⟨U, hU⟩ : ∃ U, U = wr.heap.size := ⟨_, rfl⟩
    clear hcells he q0 qL q1 qK q2 q3 q4 q5 qC q6 ha hsa hla hb' hsb hlb hk hrow
    go_upto_region 5 with fail
    rw [← hU] at hy2 ⊢
    refine told_wp (fun wx => Below w.heap.size w wx ∧ Box3 wx w.heap.size (.int .u64 S) (.slice ao n nc) (.slice (some ⟨b, o, none⟩) m mc) ∧ Box7 wx U (.int .u64 (L t)) (.int .i64 (K t)) (.bool (N t).neg) (.slice a1 (N t).an ac) (.slice b1 (N t).am bc) (.int .i64 (C t)) (.slice io (k t) kc)) ⟨hv2, hx2, hy2⟩ ?_
    clear hv hx z2 y0 y1 y2 y3 y4 y5 y6 hv2 hx2 hy2 hU
    rintro wa ⟨va, xa, ya⟩
    have p2 := ya.c2; have p3 := ya.c3; have p4 := ya.c4
    have hva := Lib.hid va; have hxa := Lib.hid xa; have hya := Lib.hid ya
    clear va xa ya
    go_wp2_with fail
    refine (small4_cell (N t) a1 b1 ac bc wa (hnum.out.below hva.out) (cell_num hCT.out)).mono ?_
    rintro e2 wb ⟨kk, r, hkk, rfl, hb⟩
    have hv := Lib.hid (below_then hva.out (Nat.le_refl _) hb); have x := Lib.hid (hxa.out.later hb); have y := Lib.hid (hya.out.later hb)
    obtain ⟨hkk1, hkk2⟩ := hkk
    clear hva hxa hya hb p2 p3 p4
    have p0 := y.out.c0; have p1 := y.out.c1; have p2 := y.out.c2; have p3 := y.out.c3; have p4 := y.out.c4; have p5 := y.out.c5; have p6 := y.out.c6
    go_upto_region 6 with fail
    go_cut [55] from 26 to 55 (fun s wx => ∃ f : Bool, s = .bool f ∧ wx = wb)
    case first =>
     by_cases h1 : 4 < (N t).an
     ·have d1 : decide ((4 : Int) < ((N t).an : Int)) = true := decide_eq_true (by omega)
      by_cases h2 : 4 < (N t).am
      ·have d2 : decide ((4 : Int) < ((N t).am : Int)) = true := decide_eq_true (by omega)
       cases r
       ·first
        | (exfalso; omega)
        | (go_wp2_with fail; go_meet; exact ⟨_, rfl, rfl⟩)
       ·by_cases h3 : 300 < kk
        ·have d3 : decide ((300 : Int) < kk) = true := decide_eq_true (by omega)
         by_cases h4 : kk < -300
         ·have d4 : decide (kk < (-300 : Int)) = true := decide_eq_true (by omega)
          by_cases h5 : 1 < (N t).an
          ·have d5 : decide ((1 : Int) < ((N t).an : Int)) = true := decide_eq_true (by omega)
           first
           | (exfalso; omega)
           | (go_wp2_with fail; go_meet; exact ⟨_, rfl, rfl⟩)
          ·have d5 : decide ((1 : Int) < ((N t).an : Int)) = false := decide_eq_false (by omega)
           first
           | (exfalso; omega)
           | (go_wp2_with fail; go_meet; exact ⟨_, rfl, rfl⟩)
         ·have d4 : decide (kk < (-300 : Int)) = false := decide_eq_false (by omega)
          by_cases h5 : 1 < (N t).an
          ·have d5 : decide ((1 : Int) < ((N t).an : Int)) = true := decide_eq_true (by omega)
           first
           | (exfalso; omega)
           | (go_wp2_with fail; go_meet; exact ⟨_, rfl, rfl⟩)
          ·have d5 : decide ((1 : Int) < ((N t).an : Int)) = false := decide_eq_false (by omega)
           first
           | (exfalso; omega)
           | (go_wp2_with fail; go_meet; exact ⟨_, rfl, rfl⟩)
        ·have d3 : decide ((300 : Int) < kk) = false := decide_eq_false (by omega)
         by_cases h4 : kk < -300
         ·have d4 : decide (kk < (-300 : Int)) = true := decide_eq_true (by omega)
          by_cases h5 : 1 < (N t).an
          ·have d5 : decide ((1 : Int) < ((N t).an : Int)) = true := decide_eq_true (by omega)
           first
           | (exfalso; omega)
           | (go_wp2_with fail; go_meet; exact ⟨_, rfl, rfl⟩)
          ·have d5 : decide ((1 : Int) < ((N t).an : Int)) = false := decide_eq_false (by omega)
           first
           | (exfalso; omega)
           | (go_wp2_with fail; go_meet; exact ⟨_, rfl, rfl⟩)
         ·have d4 : decide (kk < (-300 : Int)) = false := decide_eq_false (by omega)
          by_cases h5 : 1 < (N t).an
          ·have d5 : decide ((1 : Int) < ((N t).an : Int)) = true := decide_eq_true (by omega)
           first
           | (exfalso; omega)
           | (go_wp2_with fail; go_meet; exact ⟨_, rfl, rfl⟩)
          ·have d5 : decide ((1 : Int) < ((N t).an : Int)) = false := decide_eq_false (by omega)
           first
           | (exfalso; omega)
           | (go_wp2_with fail; go_meet; exact ⟨_, rfl, rfl⟩)
      ·have d2 : decide ((4 : Int) < ((N t).am : Int)) = false := decide_eq_false (by omega)
       cases r
       ·first
        | (exfalso; omega)
        | (go_wp2_with fail; go_meet; exact ⟨_, rfl, rfl⟩)
       ·by_cases h3 : 300 < kk
        ·have d3 : decide ((300 : Int) < kk) = true := decide_eq_true (by omega)
         by_cases h4 : kk < -300
         ·have d4 : decide (kk < (-300 : Int)) = true := decide_eq_true (by omega)
          by_cases h5 : 1 < (N t).an
          ·have d5 : decide ((1 : Int) < ((N t).an : Int)) = true := decide_eq_true (by omega)
           first
           | (exfalso; omega)
           | (go_wp2_with fail; go_meet; exact ⟨_, rfl, rfl⟩)
          ·have d5 : decide ((1 : Int) < ((N t).an : Int)) = false := decide_eq_false (by omega)
           first
           | (exfalso; omega)
           | (go_wp2_with fail; go_meet; exact ⟨_, rfl, rfl⟩)
         ·have d4 : decide (kk < (-300 : Int)) = false := decide_eq_false (by omega)
          by_cases h5 : 1 < (N t).an
          ·have d5 : decide ((1 : Int) < ((N t).an : Int)) = true := decide_eq_true (by omega)
           first
           | (exfalso; omega)
           | (go_wp2_with fail; go_meet; exact ⟨_, rfl, rfl⟩)
          ·have d5 : decide ((1 : Int) < ((N t).an : Int)) = false := decide_eq_false (by omega)
           first
           | (exfalso; omega)
           | (go_wp2_with fail; go_meet; exact ⟨_, rfl, rfl⟩)
        ·have d3 : decide ((300 : Int) < kk) = false := decide_eq_false (by omega)
         by_cases h4 : kk < -300
         ·have d4 : decide (kk < (-300 : Int)) = true := decide_eq_true (by omega)
          by_cases h5 : 1 < (N t).an
          ·have d5 : decide ((1 : Int) < ((N t).an : Int)) = true := decide_eq_true (by omega)
           first
           | (exfalso; omega)
           | (go_wp2_with fail; go_meet; exact ⟨_, rfl, rfl⟩)
          ·have d5 : decide ((1 : Int) < ((N t).an : Int)) = false := decide_eq_false (by omega)
           first
           | (exfalso; omega)
           | (go_wp2_with fail; go_meet; exact ⟨_, rfl, rfl⟩)
         ·have d4 : decide (kk < (-300 : Int)) = false := decide_eq_false (by omega)
          by_cases h5 : 1 < (N t).an
          ·have d5 : decide ((1 : Int) < ((N t).an : Int)) = true := decide_eq_true (by omega)
           first
           | (exfalso; omega)
           | (go_wp2_with fail; go_meet; exact ⟨_, rfl, rfl⟩)
          ·have d5 : decide ((1 : Int) < ((N t).an : Int)) = false := decide_eq_false (by omega)
           first
           | (exfalso; omega)
           | (go_wp2_with fail; go_meet; exact ⟨_, rfl, rfl⟩)
     ·have d1 : decide ((4 : Int) < ((N t).an : Int)) = false := decide_eq_false (by omega)
      by_cases h2 : 4 < (N t).am
      ·have d2 : decide ((4 : Int) < ((N t).am : Int)) = true := decide_eq_true (by omega)
       cases r
       ·first
        | (exfalso; omega)
        | (go_wp2_with fail; go_meet; exact ⟨_, rfl, rfl⟩)
       ·by_cases h3 : 300 < kk
        ·have d3 : decide ((300 : Int) < kk) = true := decide_eq_true (by omega)
         by_cases h4 : kk < -300
         ·have d4 : decide (kk < (-300 : Int)) = true := decide_eq_true (by omega)
          by_cases h5 : 1 < (N t).an
          ·have d5 : decide ((1 : Int) < ((N t).an : Int)) = true := decide_eq_true (by omega)
           first
           | (exfalso; omega)
           | (go_wp2_with fail; go_meet; exact ⟨_, rfl, rfl⟩)
          ·have d5 : decide ((1 : Int) < ((N t).an : Int)) = false := decide_eq_false (by omega)
           first
           | (exfalso; omega)
           | (go_wp2_with fail; go_meet; exact ⟨_, rfl, rfl⟩)
         ·have d4 : decide (kk < (-300 : Int)) = false := decide_eq_false (by omega)
          by_cases h5 : 1 < (N t).an
          ·have d5 : decide ((1 : Int) < ((N t).an : Int)) = true := decide_eq_true (by omega)
           first
           | (exfalso; omega)
           | (go_wp2_with fail; go_meet; exact ⟨_, rfl, rfl⟩)
          ·have d5 : decide ((1 : Int) < ((N t).an : Int)) = false := decide_eq_false (by omega)
           first
           | (exfalso; omega)
           | (go_wp2_with fail; go_meet; exact ⟨_, rfl, rfl⟩)
        ·have d3 : decide ((300 : Int) < kk) = false := decide_eq_false (by omega)
         by_cases h4 : kk < -300
         ·have d4 : decide (kk < (-300 : Int)) = true := decide_eq_true (by omega)
          by_cases h5 : 1 < (N t).an
          ·have d5 : decide ((1 : Int) < ((N t).an : Int)) = true := decide_eq_true (by omega)
           first
           | (exfalso; omega)
           | (go_wp2_with fail; go_meet; exact ⟨_, rfl, rfl⟩)
          ·have d5 : decide ((1 : Int) < ((N t).an : Int)) = false := decide_eq_false (by omega)
           first
           | (exfalso; omega)
           | (go_wp2_with fail; go_meet; exact ⟨_, rfl, rfl⟩)
         ·have d4 : decide (kk < (-300 : Int)) = false := decide_eq_false (by omega)
          by_cases h5 : 1 < (N t).an
          ·have d5 : decide ((1 : Int) < ((N t).an : Int)) = true := decide_eq_true (by omega)
           first
           | (exfalso; omega)
           | (go_wp2_with fail; go_meet; exact ⟨_, rfl, rfl⟩)
          ·have d5 : decide ((1 : Int) < ((N t).an : Int)) = false := decide_eq_false (by omega)
           first
           | (exfalso; omega)
           | (go_wp2_with fail; go_meet; exact ⟨_, rfl, rfl⟩)
      ·have d2 : decide ((4 : Int) < ((N t).am : Int)) = false := decide_eq_false (by omega)
       cases r
       ·first
        | (exfalso; omega)
        | (go_wp2_with fail; go_meet; exact ⟨_, rfl, rfl⟩)
       ·by_cases h3 : 300 < kk
        ·have d3 : decide ((300 : Int) < kk) = true := decide_eq_true (by omega)
         by_cases h4 : kk < -300
         ·have d4 : decide (kk < (-300 : Int)) = true := decide_eq_true (by omega)
          by_cases h5 : 1 < (N t).an
          ·have d5 : decide ((1 : Int) < ((N t).an : Int)) = true := decide_eq_true (by omega)
           first
           | (exfalso; omega)
           | (go_wp2_with fail; go_meet; exact ⟨_, rfl, rfl⟩)
          ·have d5 : decide ((1 : Int) < ((N t).an : Int)) = false := decide_eq_false (by omega)
           first
           | (exfalso; omega)
           | (go_wp2_with fail; go_meet; exact ⟨_, rfl, rfl⟩)
         ·have d4 : decide (kk < (-300 : Int)) = false := decide_eq_false (by omega)
          by_cases h5 : 1 < (N t).an
          ·have d5 : decide ((1 : Int) < ((N t).an : Int)) = true := decide_eq_true (by omega)
           first
           | (exfalso; omega)
           | (go_wp2_with fail; go_meet; exact ⟨_, rfl, rfl⟩)
          ·have d5 : decide ((1 : Int) < ((N t).an : Int)) = false := decide_eq_false (by omega)
           first
           | (exfalso; omega)
           | (go_wp2_with fail; go_meet; exact ⟨_, rfl, rfl⟩)
        ·have d3 : decide ((300 : Int) < kk) = false := decide_eq_false (by omega)
         by_cases h4 : kk < -300
         ·have d4 : decide (kk < (-300 : Int)) = true := decide_eq_true (by omega)
          by_cases h5 : 1 < (N t).an
          ·have d5 : decide ((1 : Int) < ((N t).an : Int)) = true := decide_eq_true (by omega)
           first
           | (exfalso; omega)
           | (go_wp2_with fail; go_meet; exact ⟨_, rfl, rfl⟩)
          ·have d5 : decide ((1 : Int) < ((N t).an : Int)) = false := decide_eq_false (by omega)
           first
           | (exfalso; omega)
           | (go_wp2_with fail; go_meet; exact ⟨_, rfl, rfl⟩)
         ·have d4 : decide (kk < (-300 : Int)) = false := decide_eq_false (by omega)
          by_cases h5 : 1 < (N t).an
          ·have d5 : decide ((1 : Int) < ((N t).an : Int)) = true := decide_eq_true (by omega)
           first
           | (exfalso; omega)
           | (go_wp2_with fail; go_meet; exact ⟨_, rfl, rfl⟩)
          ·have d5 : decide ((1 : Int) < ((N t).an : Int)) = false := decide_eq_false (by omega)
           first
           | (exfalso; omega)
           | (go_wp2_with fail; go_meet; exact ⟨_, rfl, rfl⟩)
    case rest =>
     obtain ⟨f, rfl, rfl⟩ := hcut
     cases f with
     | true =>
      go_wp2_with fail
      go_ret
      exact ⟨⟨_, rfl⟩, hv.out⟩
     | false =>
     go_upto_region 8 with fail
     go_cut [64] from 56 to 64 (fun s wx => ∃ f : Bool, s = .bool f ∧ wx = wc)
     case first =>
      cases r
      ·first
       | (exfalso; omega)
       | (go_wp2_with fail; go_meet; exact ⟨_, rfl, rfl⟩)
      ·by_cases h3 : 100000 < kk
       ·have d3 : decide ((100000 : Int) < kk) = true := decide_eq_true (by omega)
        by_cases h4 : kk < -100000
        ·have d4 : decide (kk < (-100000 : Int)) = true := decide_eq_true (by omega)
         first
         | (exfalso; omega)
         | (go_wp2_with fail; go_meet; exact ⟨_, rfl, rfl⟩)
        ·have d4 : decide (kk < (-100000 : Int)) = false := decide_eq_false (by omega)
         first
         | (exfalso; omega)
         | (go_wp2_with fail; go_meet; exact ⟨_, rfl, rfl⟩)
       ·have d3 : decide ((100000 : Int) < kk) = false := decide_eq_false (by omega)
        by_cases h4 : kk < -100000
        ·have d4 : decide (kk < (-100000 : Int)) = true := decide_eq_true (by omega)
         first
         | (exfalso; omega)
         | (go_wp2_with fail; go_meet; exact ⟨_, rfl, rfl⟩)
        ·have d4 : decide (kk < (-100000 : Int)) = false := decide_eq_false (by omega)
         first
         | (exfalso; omega)
         | (go_wp2_with fail; go_meet; exact ⟨_, rfl, rfl⟩)
     case rest =>
      obtain ⟨f, rfl, rfl⟩ := hcut
      cases f with
      | true =>
       go_wp2_with fail
       go_ret
       exact ⟨⟨_, rfl⟩, hv.out⟩
      | false =>
       go_upto_region 10 with fail
       have hyy := y
       obtain ⟨kt, hkt⟩ : ∃ kt, kt = k t := ⟨_, rfl⟩
       rw [← hkt] at hyy kk1
       have hkt' := Lib.hid hkt
       clear hkt y p0 p1 p2 p3 p4 p5 p6
       go_wp2_with fail
       go_loopw [7] (fun j wi => ∃ (u : Nat), u ≤ kt ∧ j = .int .i64 u ∧ Hid (Below w.heap.size w wi) ∧ Hid (Box3 wi w.heap.size (.int .u64 S) (.slice ao n nc) (.slice (some ⟨b, o, none⟩) m mc)) ∧ Hid (Box7 wi U (.int .u64 (L t)) (.int .i64 (K t)) (.bool (N t).neg) (.slice a1 (N t).an ac) (.slice b1 (N t).am bc) (.int .i64 (C t)) (.slice io kt kc))) (fun j _ => kt - (intOfZ j).toNat)
       case atStart => exact ⟨0, Nat.zero_le _, rfl, hv, x, hyy⟩
       case round =>
        obtain ⟨u, hu, rfl, hvi, hxi, hyi⟩ := hrel
        clear hv x hyy
        have p6 := hyi.out.c6
        by_cases hul : u < kt
        ·have hku := Lib.hid (show u < k t by rw [← hkt'.out]; exact hul)
         rcases hrow'.out with h0 | ⟨b', o', rfl, hrows⟩
         ·have := hku.out; omega
         obtain ⟨d0, d1, d2, r0, r1, r2, r3⟩ := hrows u hku.out
         obtain ⟨S', n', nc', m', mc', ao', co', e0, e1, e2⟩ := (ArrP.within _ _ _ _ r3).form
         subst e0; subst e1; subst e2
         have s0 := cell_below r0 hvi.out; have s1 := cell_below r1 hvi.out; have s2 := cell_below r2 hvi.out
         have hA := Lib.hid (ArrP.below _ _ _ _ r3 hvi.out)
         have hsR := Lib.hid (show RightT (sub t u) (dd - 1) from by
          rcases hCT.out with ⟨_, _, hk0, _⟩ | ⟨_, _, hk0, _⟩ | ⟨_, _, _, hk1, _, _, hR⟩
          ·have := hku.out; omega
          ·have := hku.out; omega
          ·have hu0 : u = 0 := by have := hku.out; omega
           rw [hu0]; exact hR)
         clear hrows r0 r1 r2 r3
         go_wp2_with fail
         refine (ih t u (dd - 1) _ _ _ _ hA.out hsR.out).mono ?_
         rintro e2 w4 ⟨⟨r, rfl⟩, hb4⟩
         have hv4 := Lib.hid (below_then hvi.out (Nat.le_refl _) hb4); have x4 := Lib.hid (hxi.out.later hb4); have y4 := Lib.hid (hyi.out.later hb4)
         clear hvi hxi hyi hA s0 s1 s2 p6 hb4
         cases r
         ·go_wp2_with fail
          go_ret
          exact ⟨⟨_, rfl⟩, hv4.out⟩
         ·go_wp2_with fail
          go_roundw
          case rel => exact ⟨u + 1, by omega, by go_num, hv4, x4, y4⟩
          case measure => simp [intOfZ]; omega
        ·obtain rfl : u = kt := by omega
         go_wp2_with fail
         go_roundw
         case rel => exact ⟨t + 1, by omega, by go_num, hvi, hxi⟩
         case measure => simp [intOfZ]; omega
   ·obtain rfl : t = m := by omega
    go_wp2_with fail
    go_ret
    exact ⟨⟨_, rfl⟩, hv.out⟩
end Go.Proofs.YtaepelipkkmeaaaGreat
namespace Go.Proofs.YtaepelipkkmeaaaGreat
open Go.RowKit Num
theorem isOne_any (f : Int) (w : World) : Calls Tryz.prog 8 #[.int .i64 f] w (Tell (.bool (decide (f ∈ onesZ))) w) := by
 go_enter Tryz.func8, Tryz.ntmps8
 go_wp2_with fail
 all_goals (go_ret; refine ⟨?_, Below.refl _ _⟩; refine congrArg (fun b => Ending.returned (Value.bool b)) ?_)
 all_goals first
  | (rename_i h; rw [beq_iff_eq] at h; subst h; rfl)
  | (symm; rw [decide_eq_false_iff_not]; simp only [beq_eq_false_iff_ne, ne_eq] at *; simp only [onesZ, List.mem_cons, List.not_mem_nil, or_false, not_or]; repeat (first | assumption | refine ⟨by assumption, ?_⟩))
end Go.Proofs.YtaepelipkkmeaaaGreat
namespace Go.Proofs.YtaepelipkkmeaaaGreat
open Go.RowKit Num
attribute [local go_sem ↓] Go.wp_at_zero Go.wp_at_succ
theorem cmp_sgn (P : Int) : cmpI P 0 = P.sign := by have := cmp_diff P 0; rw [Int.sub_zero] at this; exact this.symm
theorem sign_bounds (P : Int) : -1 ≤ P.sign ∧ P.sign ≤ 1 := by rw [← cmp_sgn]; exact cmpI_small P 0
attribute [local go_sem] fieldNumP
theorem numP_plus (ab : Bool) (ap aq : Option Addr) (an ac am ae : Nat) (P : Int) (Q : Nat) (w : World) (Ra : Rt w ab ap an ac aq am ae P Q) (la : Low P Q) :
  Calls Tryz.prog 17 #[.int .i64 43, .agg #[.bool ab, .slice ap an ac, .slice aq am ae]] w (ResPost P Q 0 w) := by
 replace Ra := Lib.hid Ra; replace la := Lib.hid la
 go_enter Tryz.func17, Tryz.ntmps17
 go_upto_region 1 with fail
 refine gen_wp (fun w' => Below w.heap.size w w' ∧ Box3 w' w.heap.size (.bool ab) (.slice ap an ac) (.slice aq am ae) ∧ Box3 w' (w.heap.size + 1) (.bool false) (.slice none 0 0) (.slice none 0 0))
  ⟨(((Below.refl _ _).alloc (Nat.le_refl _) _).alloc (by simp <;> omega) _), ((Box3.new _ _ _ _ rfl).alloc _), (Box3.new _ _ _ _ (by simp <;> omega))⟩ ?_
 rintro w0 ⟨bb, Xa, X2⟩
 replace Ra := Ra.out.below bb
 replace bb := Lib.hid bb; replace Xa := Lib.hid Xa; replace X2 := Lib.hid X2; replace Ra := Lib.hid Ra
 have p00 := Xa.out.c0; have p01 := Xa.out.c1; have p02 := Xa.out.c2
 go_wp2_with fail
 clear p00 p01 p02
 refine (numRt_any ab ap aq an ac am ae P Q _ Ra.out la.out).mono ?_
 rintro e v1 ⟨db, dp, dn, dc, dq, dm, de, rfl, D, hb⟩
 replace bb := Lib.hid (below_then bb.out (Nat.le_refl _) hb); replace Xa := Lib.hid (Xa.out.later hb); replace X2 := Lib.hid (X2.out.later hb); replace Ra := Lib.hid (Ra.out.below hb)
 replace D := Lib.hid D
 clear hb
 replace X2 := X2.out
 replace bb := bb.out
 have q0 := X2.c0; have q1 := X2.c1; have q2 := X2.c2; have q3 := X2.fr 0; have q4 := X2.fr 1; have q5 := X2.fr 2
 have zz := X2.set (.bool db) (.slice dp dn dc) (.slice dq dm de)
 have e0 := zz.c0; have e1 := zz.c1; have e2 := zz.c2
 have Y2 := Lib.hid X2; have bb' := Lib.hid bb
 clear zz X2 bb
 go_wp2_with fail
 refine bodyPost_ret (v := .tuple #[.agg #[.bool db, .slice dp dn dc, .slice dq dm de], .int .i64 (0)]) (by simp [results, Tryz.results17, go_sem, e0, e1, e2]) rfl ?_
 exact (ResPost.stored D.out Y2.out bb'.out (by omega))
theorem numP_minus (ab : Bool) (ap aq : Option Addr) (an ac am ae : Nat) (P : Int) (Q : Nat) (w : World) (Ra : Rt w ab ap an ac aq am ae P Q) (la : Low P Q) :
  Calls Tryz.prog 17 #[.int .i64 45, .agg #[.bool ab, .slice ap an ac, .slice aq am ae]] w (ResPost (-P) Q 0 w) := by
 replace Ra := Lib.hid Ra; replace la := Lib.hid la
 go_enter Tryz.func17, Tryz.ntmps17
 go_upto_region 1 with fail
 refine gen_wp (fun w' => Below w.heap.size w w' ∧ Box3 w' w.heap.size (.bool ab) (.slice ap an ac) (.slice aq am ae) ∧ Box3 w' (w.heap.size + 1) (.bool false) (.slice none 0 0) (.slice none 0 0))
  ⟨(((Below.refl _ _).alloc (Nat.le_refl _) _).alloc (by simp <;> omega) _), ((Box3.new _ _ _ _ rfl).alloc _), (Box3.new _ _ _ _ (by simp <;> omega))⟩ ?_
 rintro w0 ⟨bb, Xa, X2⟩
 replace Ra := Ra.out.below bb
 replace bb := Lib.hid bb; replace Xa := Lib.hid Xa; replace X2 := Lib.hid X2; replace Ra := Lib.hid Ra
 have p00 := Xa.out.c0; have p01 := Xa.out.c1; have p02 := Xa.out.c2
 go_wp2_with fail
 clear p00 p01 p02
 refine (neg_any ab ap aq an ac am ae P Q _ Ra.out la.out).mono ?_
 rintro e v1 ⟨db, dp, dn, dc, dq, dm, de, rfl, D, hb⟩
 replace bb := Lib.hid (below_then bb.out (Nat.le_refl _) hb); replace Xa := Lib.hid (Xa.out.later hb); replace X2 := Lib.hid (X2.out.later hb); replace Ra := Lib.hid (Ra.out.below hb)
 replace D := Lib.hid D
 clear hb
 replace X2 := X2.out
 replace bb := bb.out
 have q0 := X2.c0; have q1 := X2.c1; have q2 := X2.c2; have q3 := X2.fr 0; have q4 := X2.fr 1; have q5 := X2.fr 2
 have zz := X2.set (.bool db) (.slice dp dn dc) (.slice dq dm de)
 have e0 := zz.c0; have e1 := zz.c1; have e2 := zz.c2
 have Y2 := Lib.hid X2; have bb' := Lib.hid bb
 clear zz X2 bb
 go_wp2_with fail
 refine bodyPost_ret (v := .tuple #[.agg #[.bool db, .slice dp dn dc, .slice dq dm de], .int .i64 (0)]) (by simp [results, Tryz.results17, go_sem, e0, e1, e2]) rfl ?_
 exact (ResPost.stored D.out Y2.out bb'.out (by omega))
theorem numP_ceil (ab : Bool) (ap aq : Option Addr) (an ac am ae : Nat) (P : Int) (Q : Nat) (w : World) (Ra : Rt w ab ap an ac aq am ae P Q) (la : Low P Q) :
  Calls Tryz.prog 17 #[.int .i64 8968, .agg #[.bool ab, .slice ap an ac, .slice aq am ae]] w (ResPost (-((-P).fdiv Q)) 1 0 w) := by
 replace Ra := Lib.hid Ra; replace la := Lib.hid la
 go_enter Tryz.func17, Tryz.ntmps17
 go_upto_region 1 with fail
 refine gen_wp (fun w' => Below w.heap.size w w' ∧ Box3 w' w.heap.size (.bool ab) (.slice ap an ac) (.slice aq am ae) ∧ Box3 w' (w.heap.size + 1) (.bool false) (.slice none 0 0) (.slice none 0 0))
  ⟨(((Below.refl _ _).alloc (Nat.le_refl _) _).alloc (by simp <;> omega) _), ((Box3.new _ _ _ _ rfl).alloc _), (Box3.new _ _ _ _ (by simp <;> omega))⟩ ?_
 rintro w0 ⟨bb, Xa, X2⟩
 replace Ra := Ra.out.below bb
 replace bb := Lib.hid bb; replace Xa := Lib.hid Xa; replace X2 := Lib.hid X2; replace Ra := Lib.hid Ra
 have p00 := Xa.out.c0; have p01 := Xa.out.c1; have p02 := Xa.out.c2
 go_wp2_with fail
 clear p00 p01 p02
 refine (ceil_any ab ap aq an ac am ae P Q _ Ra.out la.out).mono ?_
 rintro e v1 ⟨db, dp, dn, dc, dq, dm, de, rfl, D, hb⟩
 replace bb := Lib.hid (below_then bb.out (Nat.le_refl _) hb); replace Xa := Lib.hid (Xa.out.later hb); replace X2 := Lib.hid (X2.out.later hb); replace Ra := Lib.hid (Ra.out.below hb)
 replace D := Lib.hid D
 clear hb
 replace X2 := X2.out
 replace bb := bb.out
 have q0 := X2.c0; have q1 := X2.c1; have q2 := X2.c2; have q3 := X2.fr 0; have q4 := X2.fr 1; have q5 := X2.fr 2
 have zz := X2.set (.bool db) (.slice dp dn dc) (.slice dq dm de)
 have e0 := zz.c0; have e1 := zz.c1; have e2 := zz.c2
 have Y2 := Lib.hid X2; have bb' := Lib.hid bb
 clear zz X2 bb
 go_wp2_with fail
 refine bodyPost_ret (v := .tuple #[.agg #[.bool db, .slice dp dn dc, .slice dq dm de], .int .i64 (0)]) (by simp [results, Tryz.results17, go_sem, e0, e1, e2]) rfl ?_
 exact (ResPost.stored D.out Y2.out bb'.out (by omega))
theorem numP_floor (ab : Bool) (ap aq : Option Addr) (an ac am ae : Nat) (P : Int) (Q : Nat) (w : World) (Ra : Rt w ab ap an ac aq am ae P Q) (la : Low P Q) :
  Calls Tryz.prog 17 #[.int .i64 8970, .agg #[.bool ab, .slice ap an ac, .slice aq am ae]] w (ResPost (P.fdiv Q) 1 0 w) := by
 replace Ra := Lib.hid Ra; replace la := Lib.hid la
 go_enter Tryz.func17, Tryz.ntmps17
 go_upto_region 1 with fail
 refine gen_wp (fun w' => Below w.heap.size w w' ∧ Box3 w' w.heap.size (.bool ab) (.slice ap an ac) (.slice aq am ae) ∧ Box3 w' (w.heap.size + 1) (.bool false) (.slice none 0 0) (.slice none 0 0))
  ⟨(((Below.refl _ _).alloc (Nat.le_refl _) _).alloc (by simp <;> omega) _), ((Box3.new _ _ _ _ rfl).alloc _), (Box3.new _ _ _ _ (by simp <;> omega))⟩ ?_
 rintro w0 ⟨bb, Xa, X2⟩
 replace Ra := Ra.out.below bb
 replace bb := Lib.hid bb; replace Xa := Lib.hid Xa; replace X2 := Lib.hid X2; replace Ra := Lib.hid Ra
 have p00 := Xa.out.c0; have p01 := Xa.out.c1; have p02 := Xa.out.c2
 go_wp2_with fail
 clear p00 p01 p02
 refine (floor_any ab ap aq an ac am ae P Q _ Ra.out la.out).mono ?_
 rintro e v1 ⟨db, dp, dn, dc, dq, dm, de, rfl, D, hb⟩
 replace bb := Lib.hid (below_then bb.out (Nat.le_refl _) hb); replace Xa := Lib.hid (Xa.out.later hb); replace X2 := Lib.hid (X2.out.later hb); replace Ra := Lib.hid (Ra.out.below hb)
 replace D := Lib.hid D
 clear hb
 replace X2 := X2.out
 replace bb := bb.out
 have q0 := X2.c0; have q1 := X2.c1; have q2 := X2.c2; have q3 := X2.fr 0; have q4 := X2.fr 1; have q5 := X2.fr 2
 have zz := X2.set (.bool db) (.slice dp dn dc) (.slice dq dm de)
 have e0 := zz.c0; have e1 := zz.c1; have e2 := zz.c2
 have Y2 := Lib.hid X2; have bb' := Lib.hid bb
 clear zz X2 bb
 go_wp2_with fail
 refine bodyPost_ret (v := .tuple #[.agg #[.bool db, .slice dp dn dc, .slice dq dm de], .int .i64 (0)]) (by simp [results, Tryz.results17, go_sem, e0, e1, e2]) rfl ?_
 exact (ResPost.stored D.out Y2.out bb'.out (by omega))
theorem numP_abs (ab : Bool) (ap aq : Option Addr) (an ac am ae : Nat) (P : Int) (Q : Nat) (w : World) (Ra : Rt w ab ap an ac aq am ae P Q) (la : Low P Q) :
  Calls Tryz.prog 17 #[.int .i64 124, .agg #[.bool ab, .slice ap an ac, .slice aq am ae]] w (ResPost (P.natAbs : Int) Q 0 w) := by
 replace Ra := Lib.hid Ra; replace la := Lib.hid la
 go_enter Tryz.func17, Tryz.ntmps17
 go_upto_region 1 with fail
 refine gen_wp (fun w' => Below w.heap.size w w' ∧ Box3 w' w.heap.size (.bool ab) (.slice ap an ac) (.slice aq am ae) ∧ Box3 w' (w.heap.size + 1) (.bool false) (.slice none 0 0) (.slice none 0 0))
  ⟨(((Below.refl _ _).alloc (Nat.le_refl _) _).alloc (by simp <;> omega) _), ((Box3.new _ _ _ _ rfl).alloc _), (Box3.new _ _ _ _ (by simp <;> omega))⟩ ?_
 rintro w0 ⟨bb, Xa, X2⟩
 replace Ra := Ra.out.below bb
 replace bb := Lib.hid bb; replace Xa := Lib.hid Xa; replace X2 := Lib.hid X2; replace Ra := Lib.hid Ra
 have p00 := Xa.out.c0; have p01 := Xa.out.c1; have p02 := Xa.out.c2
 go_wp2_with fail
 clear p00 p01 p02
 refine (abs_any ab ap aq an ac am ae P Q _ Ra.out la.out).mono ?_
 rintro e v1 ⟨db, dp, dn, dc, dq, dm, de, rfl, D, hb⟩
 replace bb := Lib.hid (below_then bb.out (Nat.le_refl _) hb); replace Xa := Lib.hid (Xa.out.later hb); replace X2 := Lib.hid (X2.out.later hb); replace Ra := Lib.hid (Ra.out.below hb)
 replace D := Lib.hid D
 clear hb
 replace X2 := X2.out
 replace bb := bb.out
 have q0 := X2.c0; have q1 := X2.c1; have q2 := X2.c2; have q3 := X2.fr 0; have q4 := X2.fr 1; have q5 := X2.fr 2
 have zz := X2.set (.bool db) (.slice dp dn dc) (.slice dq dm de)
 have e0 := zz.c0; have e1 := zz.c1; have e2 := zz.c2
 have Y2 := Lib.hid X2; have bb' := Lib.hid bb
 clear zz X2 bb
 go_wp2_with fail
 refine bodyPost_ret (v := .tuple #[.agg #[.bool db, .slice dp dn dc, .slice dq dm de], .int .i64 (0)]) (by simp [results, Tryz.results17, go_sem, e0, e1, e2]) rfl ?_
 exact (ResPost.stored D.out Y2.out bb'.out (by omega))
theorem numP_times (ab : Bool) (ap aq : Option Addr) (an ac am ae : Nat) (P : Int) (Q : Nat) (w : World) (Ra : Rt w ab ap an ac aq am ae P Q) (la : Low P Q) :
  Calls Tryz.prog 17 #[.int .i64 215, .agg #[.bool ab, .slice ap an ac, .slice aq am ae]] w (ResPost (cmpI P 0) 1 0 w) := by
 have hsb := Lib.hid (sign_bounds P)
 rw [cmp_sgn]
 replace Ra := Lib.hid Ra; replace la := Lib.hid la
 go_enter Tryz.func17, Tryz.ntmps17
 go_upto_region 1 with fail
 refine gen_wp (fun w' => Below w.heap.size w w' ∧ Box3 w' w.heap.size (.bool ab) (.slice ap an ac) (.slice aq am ae) ∧ Box3 w' (w.heap.size + 1) (.bool false) (.slice none 0 0) (.slice none 0 0))
  ⟨(((Below.refl _ _).alloc (Nat.le_refl _) _).alloc (by simp <;> omega) _), ((Box3.new _ _ _ _ rfl).alloc _), (Box3.new _ _ _ _ (by simp <;> omega))⟩ ?_
 rintro w0 ⟨bb, Xa, X2⟩
 replace Ra := Ra.out.below bb
 replace bb := Lib.hid bb; replace Xa := Lib.hid Xa; replace X2 := Lib.hid X2; replace Ra := Lib.hid Ra
 have p00 := Xa.out.c0; have p01 := Xa.out.c1; have p02 := Xa.out.c2
 go_wp2_with fail
 clear p00 p01 p02
 refine (sign_any ab ap aq an ac am ae P Q _ Ra.out la.out).mono ?_
 rintro e v1 ⟨rfl, hb⟩
 replace bb := Lib.hid (below_then bb.out (Nat.le_refl _) hb); replace Xa := Lib.hid (Xa.out.later hb); replace X2 := Lib.hid (X2.out.later hb); replace Ra := Lib.hid (Ra.out.below hb)
 clear hb
 go_wp2_with fail
 refine (of_any _ _ (by have := hsb.out; omega) (by have := hsb.out; omega)).mono ?_
 rintro e v2 ⟨db, dp, dn, dc, dq, dm, de, rfl, D, hb⟩
 replace bb := Lib.hid (below_then bb.out (Nat.le_refl _) hb); replace Xa := Lib.hid (Xa.out.later hb); replace X2 := Lib.hid (X2.out.later hb); replace Ra := Lib.hid (Ra.out.below hb)
 replace D := Lib.hid D
 clear hb
 replace X2 := X2.out
 replace bb := bb.out
 have q0 := X2.c0; have q1 := X2.c1; have q2 := X2.c2; have q3 := X2.fr 0; have q4 := X2.fr 1; have q5 := X2.fr 2
 have zz := X2.set (.bool db) (.slice dp dn dc) (.slice dq dm de)
 have e0 := zz.c0; have e1 := zz.c1; have e2 := zz.c2
 have Y2 := Lib.hid X2; have bb' := Lib.hid bb
 clear zz X2 bb
 go_wp2_with fail
 refine bodyPost_ret (v := .tuple #[.agg #[.bool db, .slice dp dn dc, .slice dq dm de], .int .i64 (0)]) (by simp [results, Tryz.results17, go_sem, e0, e1, e2]) rfl ?_
 exact (ResPost.stored D.out Y2.out bb'.out (by omega))
theorem numP_div (ab : Bool) (ap aq : Option Addr) (an ac am ae : Nat) (P : Int) (Q : Nat) (w : World) (Ra : Rt w ab ap an ac aq am ae P Q) (la : Low P Q) :
  Calls Tryz.prog 17 #[.int .i64 247, .agg #[.bool ab, .slice ap an ac, .slice aq am ae]] w (ResPost (mkT ((1 : Int) * Q) (((1 : Nat) : Int) * P)) (mkB ((1 : Int) * Q) (((1 : Nat) : Int) * P)) (mkE ((1 : Int) * Q) (((1 : Nat) : Int) * P)) w) := by
 replace Ra := Lib.hid Ra; replace la := Lib.hid la
 go_enter Tryz.func17, Tryz.ntmps17
 go_upto_region 1 with fail
 refine gen_wp (fun w' => Below w.heap.size w w' ∧ Box3 w' w.heap.size (.bool ab) (.slice ap an ac) (.slice aq am ae) ∧ Box3 w' (w.heap.size + 1) (.bool false) (.slice none 0 0) (.slice none 0 0))
  ⟨(((Below.refl _ _).alloc (Nat.le_refl _) _).alloc (by simp <;> omega) _), ((Box3.new _ _ _ _ rfl).alloc _), (Box3.new _ _ _ _ (by simp <;> omega))⟩ ?_
 rintro w0 ⟨bb, Xa, X2⟩
 replace Ra := Ra.out.below bb
 replace bb := Lib.hid bb; replace Xa := Lib.hid Xa; replace X2 := Lib.hid X2; replace Ra := Lib.hid Ra
 go_upto_region 9 with fail
 replace bb := bb.out; replace Xa := Xa.out; replace X2 := X2.out; replace Ra := Ra.out
 have bb := bb.drew; have Xa := Xa.drew; have X2 := X2.drew; have Ra := Ra.drew
 have sa0 := True.intro
 go_region_held3 (fun w' => w'.cell? ⟨w.heap.size, 0, none⟩ = some (.bool ab) ∧ w'.cell? ⟨w.heap.size, 1, none⟩ = some (.slice ap an ac) ∧ w'.cell? ⟨w.heap.size, 2, none⟩ = some (.slice aq am ae))
  (first | with_reducible exact ⟨Xa.c0, Xa.c1, Xa.c2⟩ | with_reducible exact ⟨(Xa.other3 (by omega) _ _ _).c0, (Xa.other3 (by omega) _ _ _).c1, (Xa.other3 (by omega) _ _ _).c2⟩ | go_keep)
  (first
  | (go_at_call 50; clear sa0; refine (of_any 1 _ (by decide) (by decide)).mono ?_; rintro e w' ⟨ob, op, on, oc, oq, om, oe, rfl, O, hb⟩; have bb := below_then bb (Nat.le_refl _) hb; have Xa := Xa.later hb; have X2 := X2.later hb; have Ra := Ra.below hb; clear hb; have sa1 := True.intro)
  | (go_at_call 52; clear sa1; refine (div4_any ob op oq on oc om oe 1 1 ab ap aq an ac am ae P Q _ O (low_one (Nat.lt_of_lt_of_le (show (1 : Int).natAbs < pw 1 by decide) (pw_le (by omega)))) Ra la.out).mono ?_; rintro e w' ⟨db, dp, dn, dc, dq, dm, de, rfl, D, hb⟩; have bb := below_then bb (Nat.le_refl _) hb; have Xa := Xa.later hb; have X2 := X2.later hb; have Ra := Ra.below hb; have O := O.below hb; clear hb; have q0 := X2.c0; have q1 := X2.c1; have q2 := X2.c2; have q3 := X2.fr 0; have q4 := X2.fr 1; have q5 := X2.fr 2; have sa2 := True.intro))
 have zz := X2.set (.bool db) (.slice dp dn dc) (.slice dq dm de)
 have e0 := zz.c0; have e1 := zz.c1; have e2 := zz.c2
 have Y2 := Lib.hid X2; have bb' := Lib.hid bb
 clear zz X2 bb
 go_wp2_with fail
 refine bodyPost_ret (v := .tuple #[.agg #[.bool db, .slice dp dn dc, .slice dq dm de], .int .i64 (mkE ((1 : Int) * Q) (((1 : Nat) : Int) * P))]) (by simp [results, Tryz.results17, go_sem, e0, e1, e2]) rfl ?_
 exact (ResPost.stored D Y2.out bb'.out (by omega))
theorem numP_none (f : Int) (ab : Bool) (ap aq : Option Addr) (an ac am ae : Nat) (P : Int) (Q : Nat) (w : World) (Ra : Rt w ab ap an ac aq am ae P Q) (la : Low P Q) (h43 : f ≠ 43) (h45 : f ≠ 45) (h215 : f ≠ 215) (h247 : f ≠ 247) (h8968 : f ≠ 8968) (h8970 : f ≠ 8970) (h124 : f ≠ 124) (h126 : f ≠ 126) (h33 : f ≠ 33) :
  Calls Tryz.prog 17 #[.int .i64 f, .agg #[.bool ab, .slice ap an ac, .slice aq am ae]] w (ResPost 0 0 8 w) := by
 have g43 : (f == 43) = false := by rw [beq_eq_false_iff_ne]; exact h43
 have g45 : (f == 45) = false := by rw [beq_eq_false_iff_ne]; exact h45
 have g215 : (f == 215) = false := by rw [beq_eq_false_iff_ne]; exact h215
 have g247 : (f == 247) = false := by rw [beq_eq_false_iff_ne]; exact h247
 have g8968 : (f == 8968) = false := by rw [beq_eq_false_iff_ne]; exact h8968
 have g8970 : (f == 8970) = false := by rw [beq_eq_false_iff_ne]; exact h8970
 have g124 : (f == 124) = false := by rw [beq_eq_false_iff_ne]; exact h124
 have g126 : (f == 126) = false := by rw [beq_eq_false_iff_ne]; exact h126
 have g33 : (f == 33) = false := by rw [beq_eq_false_iff_ne]; exact h33
 clear h43 h45 h215 h247 h8968 h8970 h124 h126 h33
 replace Ra := Lib.hid Ra; replace la := Lib.hid la
 go_enter Tryz.func17, Tryz.ntmps17
 go_upto_region 1 with fail
 refine gen_wp (fun w' => Below w.heap.size w w' ∧ Box3 w' w.heap.size (.bool ab) (.slice ap an ac) (.slice aq am ae) ∧ Box3 w' (w.heap.size + 1) (.bool false) (.slice none 0 0) (.slice none 0 0))
  ⟨(((Below.refl _ _).alloc (Nat.le_refl _) _).alloc (by simp <;> omega) _), ((Box3.new _ _ _ _ rfl).alloc _), (Box3.new _ _ _ _ (by simp <;> omega))⟩ ?_
 rintro w0 ⟨bb, Xa, X2⟩
 replace Ra := Ra.out.below bb
 replace bb := Lib.hid bb; replace Xa := Lib.hid Xa; replace X2 := Lib.hid X2; replace Ra := Lib.hid Ra
 replace X2 := X2.out
 replace bb := bb.out
 have q0 := X2.c0; have q1 := X2.c1; have q2 := X2.c2; have q3 := X2.fr 0; have q4 := X2.fr 1; have q5 := X2.fr 2
 have zz := X2.set (.bool false) (.slice none 0 0) (.slice none 0 0)
 have e0 := zz.c0; have e1 := zz.c1; have e2 := zz.c2
 have Y2 := Lib.hid X2; have bb' := Lib.hid bb
 clear zz X2 bb
 go_wp2_with fail
 refine bodyPost_ret (v := .tuple #[.agg #[.bool false, .slice none 0 0, .slice none 0 0], .int .i64 (8)]) (by simp [results, Tryz.results17, go_sem, e0, e1, e2]) rfl ?_
 exact (ResPost.stored (rt_zero _) Y2.out bb'.out (by omega))
end Go.Proofs.YtaepelipkkmeaaaGreat
