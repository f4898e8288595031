/-
  scrimlaw09.ViewCovers, walked.
-/
import Derived.Test.YtlfilpjiepdejaaMrgJ
import Derived.Test.YtlfilpjiepdejaaMrgVj
namespace Go.Proofs.Ytlfilpjiepdejaa
open Go.RowKit Num

/-- What Cover tells of an array whose blocks are below D. -/
def CoverQC : Prop := ∀ (A : Tree) (l D : Nat) (c0 c1 c2 : Value) (w : World), ArrQ w (· < D) A c0 c1 c2 → D ≤ w.heap.size → FewT A → IsL l → Calls Try.prog 20 #[.agg #[c0, c1, c2], .int .u64 l] w (TreeQ (coverT A l false) D w)

/-- An array of blocks below D. -/
def ArrD (w : World) (D : Nat) (A : Tree) (c0 c1 c2 : Value) : Prop := ArrQ w (· < D) A c0 c1 c2 ∧ D ≤ w.heap.size

theorem ArrD.below {w w' : World} {D : Nat} {A : Tree} {c0 c1 c2 : Value} (h : ArrD w D A c0 c1 c2) (hb : Below w.heap.size w w') : ArrD w' D A c0 c1 c2 := ⟨ArrQ.keep (fun b _ h' => hb.block b h') (fun _ hq _ => hq) _ _ _ _ h.1, Nat.le_trans h.2 hb.size⟩

theorem ArrD.alloc {w : World} {D : Nat} {A : Tree} {c0 c1 c2 : Value} (h : ArrD w D A c0 c1 c2) (o : Obj) : ArrD (w.alloc o) D A c0 c1 c2 := h.below ((Below.refl _ w).alloc (Nat.le_refl _) o)

theorem ArrD.drew {w : World} {D : Nat} {A : Tree} {c0 c1 c2 : Value} (h : ArrD w D A c0 c1 c2) : ArrD w.drew D A c0 c1 c2 := h.below (Below.refl _ _).drew

theorem set3_block {w : World} {P b : Nat} (h : b ≠ P) (u0 u1 u2 : Value) : (((w.setCell ⟨P, 0, none⟩ u0).setCell ⟨P, 1, none⟩ u1).setCell ⟨P, 2, none⟩ u2).heap[b]? = w.heap[b]? := by
  rw [Below.heap_setCell _ _ _ _ h, Below.heap_setCell _ _ _ _ h, Below.heap_setCell _ _ _ _ h]

theorem set3_size (w : World) (P : Nat) (u0 u1 u2 : Value) : (((w.setCell ⟨P, 0, none⟩ u0).setCell ⟨P, 1, none⟩ u1).setCell ⟨P, 2, none⟩ u2).heap.size = w.heap.size := by simp [World.setCell]

theorem ArrD.set3 {w : World} {D P : Nat} {A : Tree} {c0 c1 c2 : Value} (h : ArrD w D A c0 c1 c2) (hP : D ≤ P) (u0 u1 u2 : Value) : ArrD (((w.setCell ⟨P, 0, none⟩ u0).setCell ⟨P, 1, none⟩ u1).setCell ⟨P, 2, none⟩ u2) D A c0 c1 c2 :=
  ⟨ArrQ.keep (fun b hq _ => set3_block (by omega) _ _ _) (fun _ hq _ => hq) _ _ _ _ h.1, by rw [set3_size]; exact h.2⟩

/-- An array that a call has made: of blocks below D, and from U on, below V. -/
def ArrU (w : World) (D U V : Nat) (A : Tree) (c0 c1 c2 : Value) : Prop := ArrQ w (fun b => (b < D ∨ U ≤ b) ∧ b < V) A c0 c1 c2 ∧ V ≤ w.heap.size

theorem ArrU.below {w w' : World} {D U V : Nat} {A : Tree} {c0 c1 c2 : Value} (h : ArrU w D U V A c0 c1 c2) (hb : Below w.heap.size w w') : ArrU w' D U V A c0 c1 c2 := ⟨ArrQ.keep (fun b _ h' => hb.block b h') (fun _ hq _ => hq) _ _ _ _ h.1, Nat.le_trans h.2 hb.size⟩

theorem ArrU.alloc {w : World} {D U V : Nat} {A : Tree} {c0 c1 c2 : Value} (h : ArrU w D U V A c0 c1 c2) (o : Obj) : ArrU (w.alloc o) D U V A c0 c1 c2 := h.below ((Below.refl _ w).alloc (Nat.le_refl _) o)

theorem ArrU.drew {w : World} {D U V : Nat} {A : Tree} {c0 c1 c2 : Value} (h : ArrU w D U V A c0 c1 c2) : ArrU w.drew D U V A c0 c1 c2 := h.below (Below.refl _ _).drew

theorem ArrU.set3 {w : World} {D U V P : Nat} {A : Tree} {c0 c1 c2 : Value} (h : ArrU w D U V A c0 c1 c2) (hP : ¬ ((P < D ∨ U ≤ P) ∧ P < V)) (u0 u1 u2 : Value) : ArrU (((w.setCell ⟨P, 0, none⟩ u0).setCell ⟨P, 1, none⟩ u1).setCell ⟨P, 2, none⟩ u2) D U V A c0 c1 c2 :=
  ⟨ArrQ.keep (fun b hq _ => set3_block (fun e => hP (by subst e; exact hq)) _ _ _) (fun _ hq _ => hq) _ _ _ _ h.1, by rw [set3_size]; exact h.2⟩

/-- What such a call tells. -/
def TreeU (A : Tree) (D : Nat) (w : World) (e : Ending) (w' : World) : Prop := ∃ (U S n nc m mc : Nat) (ao co : Option Addr), U = w.heap.size ∧ e = .returned (.agg #[.int .u64 S, .slice ao n nc, .slice co m mc]) ∧ ArrU w' D U w'.heap.size A (.int .u64 S) (.slice ao n nc) (.slice co m mc) ∧ Below w.heap.size w w'

theorem coverU (hC : CoverQC) (A : Tree) (l D : Nat) (c0 c1 c2 : Value) (w : World) (h : ArrD w D A c0 c1 c2) (hf : FewT A) (hl : IsL l) : Calls Try.prog 20 #[.agg #[c0, c1, c2], .int .u64 l] w (TreeU (coverT A l false) D w) := by
  refine (hC A l D c0 c1 c2 w h.1 h.2 hf hl).mono ?_
  rintro e w' ⟨⟨f0, f1, f2, rfl, hA⟩, hb⟩
  obtain ⟨S, n, nc, m, mc, ao, co, rfl, rfl, rfl⟩ := hA.form
  exact ⟨_, S, n, nc, m, mc, ao, co, rfl, rfl, ⟨ArrQ.keep (fun _ _ _ => rfl) (fun b hq h' => ⟨hq, h'⟩) _ _ _ _ hA, Nat.le_refl _⟩, hb⟩

theorem made23' {W w' : World} {u0 u1 u2 v0 v1 v2 : Value} {t s : TypeId} (hb : Below ((W.alloc (.cells #[u0, u1, u2] t)).alloc (.cells #[v0, v1, v2] s)).drew.heap.size ((W.alloc (.cells #[u0, u1, u2] t)).alloc (.cells #[v0, v1, v2] s)).drew w') :
    Box3 w' W.heap.size u0 u1 u2 ∧ Box3 w' (W.heap.size + 1) v0 v1 v2 := ⟨((Box3.new u0 u1 u2 t rfl).alloc _).drew.later hb, (Box3.new v0 v1 v2 s (by simp)).drew.later hb⟩

theorem made23 {W w' : World} {u0 u1 u2 v0 v1 v2 : Value} {t s : TypeId} (hb : Below ((W.alloc (.cells #[u0, u1, u2] t)).alloc (.cells #[v0, v1, v2] s)).heap.size ((W.alloc (.cells #[u0, u1, u2] t)).alloc (.cells #[v0, v1, v2] s)) w') :
    Box3 w' W.heap.size u0 u1 u2 ∧ Box3 w' (W.heap.size + 1) v0 v1 v2 := ⟨((Box3.new u0 u1 u2 t rfl).alloc _).later hb, (Box3.new v0 v1 v2 s (by simp)).later hb⟩

theorem tree_not_leaf {w : World} {A : Tree} {c0 c1 c2 : Value} (h : ArrP w A c0 c1 c2) : A ≠ .leaf := fun e => by rw [e] at h; exact h

set_option maxRecDepth 20000 in
set_option maxHeartbeats 32000000 in
theorem covers9_walk (hA : Awake9C) (hK : AlikeVC) (hC : CoverQC) (A B : Tree) (o l : Nat) (a0 a1 a2 b0 b1 b2 : Value) (w : World) (ha : ArrP w A a0 a1 a2) (hb : ArrP w B b0 b1 b2) (ho : IsL o) (hl : IsL l) :
    Calls Try.prog 7 #[.agg #[a0, a1, a2], .agg #[b0, b1, b2], .int .u64 o, .int .u64 l] w (Tell (.bool true) w) := by
  replace hA := Lib.hid hA; replace hK := Lib.hid hK; replace hC := Lib.hid hC; replace ho := Lib.hid ho; replace hl := Lib.hid hl
  obtain ⟨Sa, na, nca, ma, mca, aoa, coa, rfl, rfl, rfl⟩ := (ArrP.within _ _ _ _ ha).form
  replace ha := Lib.hid ha
  obtain ⟨Sb, nb, ncb, mb, mcb, aob, cob, rfl, rfl, rfl⟩ := (ArrP.within _ _ _ _ hb).form
  replace hb := Lib.hid hb
  go_enter Try.func7, Try.ntmps7
  go_upto_region 1 with fail
  refine told_wp (fun w' => Below w.heap.size w w' ∧ Box3 w' w.heap.size (.int .u64 Sa) (.slice aoa na nca) (.slice coa ma mca) ∧ Box3 w' (w.heap.size + 1) (.int .u64 Sb) (.slice aob nb ncb) (.slice cob mb mcb))
    ⟨(((Below.refl _ _).alloc (Nat.le_refl _) _).alloc (by first | (simp; done) | (simp; omega)) _), ((Box3.new _ _ _ _ rfl).alloc _), (Box3.new _ _ _ _ (by first | (simp; done) | (simp; omega)))⟩ ?_
  rintro w0 ⟨bb, xa, xb⟩
  replace bb := Lib.hid bb; replace xa := Lib.hid xa; replace xb := Lib.hid xb
  have q0 := xa.out.c0; have q1 := xa.out.c1; have q2 := xa.out.c2
  go_wp2_with fail
  refine (few8_any A _ _ _ w0 (ha.out.later bb.out)).mono ?_
  rintro e w1 ⟨⟨r, rfl, hr⟩, hb⟩
  clear q0 q1 q2
  cases r with
  | false =>
    replace bb := Lib.hid (below_then bb.out (Nat.le_refl _) hb)
    clear hb hr xa xb
    go_wp2_with fail
    refine (hA.out _).mono ?_
    rintro e wz ⟨rfl, hb⟩
    replace bb := Lib.hid (below_then bb.out (Nat.le_refl _) hb)
    clear hb
    go_wp2_with fail
    go_ret
    exact ⟨rfl, bb.out⟩
  | true =>
    have hFa := Lib.hid (hr rfl)
    replace bb := Lib.hid (below_then bb.out (Nat.le_refl _) hb); replace xa := Lib.hid (xa.out.later hb); replace xb := Lib.hid (xb.out.later hb)
    clear hb hr
    have q0 := xb.out.c0; have q1 := xb.out.c1; have q2 := xb.out.c2
    go_wp2_with fail
    refine (few8_any B _ _ _ w1 (hb.out.later bb.out)).mono ?_
    rintro e w2 ⟨⟨r, rfl, hr⟩, hb⟩
    clear q0 q1 q2
    cases r with
    | false =>
      replace bb := Lib.hid (below_then bb.out (Nat.le_refl _) hb)
      clear hb hr xa xb
      go_wp2_with fail
      refine (hA.out _).mono ?_
      rintro e wz ⟨rfl, hb⟩
      replace bb := Lib.hid (below_then bb.out (Nat.le_refl _) hb)
      clear hb
      go_wp2_with fail
      go_ret
      exact ⟨rfl, bb.out⟩
    | true =>
      have hFb := Lib.hid (hr rfl)
      replace bb := Lib.hid (below_then bb.out (Nat.le_refl _) hb); replace xa := Lib.hid (xa.out.later hb); replace xb := Lib.hid (xb.out.later hb)
      clear hb hr
      replace bb := bb.out; replace xa := xa.out; replace xb := xb.out
      have a := ha.out.later bb
      have b := hb.out.later bb
      go_upto_region 3 with fail
      refine told_wp (fun w' => Below w.heap.size w w' ∧ Box3 w' w.heap.size (.int .u64 Sa) (.slice aoa na nca) (.slice coa ma mca) ∧ Box3 w' (w.heap.size + 1) (.int .u64 Sb) (.slice aob nb ncb) (.slice cob mb mcb) ∧ ArrP w' A (.int .u64 Sa) (.slice aoa na nca) (.slice coa ma mca) ∧ ArrP w' B (.int .u64 Sb) (.slice aob nb ncb) (.slice cob mb mcb)) ⟨bb, xa, xb, a, b⟩ ?_
      clear bb xa xb a b
      rintro u0 ⟨bb, xa, xb, a, b⟩
      replace a : ArrD u0 u0.heap.size A (.int .u64 Sa) (.slice aoa na nca) (.slice coa ma mca) := ⟨ArrP.within _ _ _ _ a, Nat.le_refl _⟩
      replace b : ArrD u0 u0.heap.size B (.int .u64 Sb) (.slice aob nb ncb) (.slice cob mb mcb) := ⟨ArrP.within _ _ _ _ b, Nat.le_refl _⟩
      go_cut [9, 10] from 20 to 25 (fun s t wx => ∃ (P Q Sx nx ncx mx mcx Sy ny ncy my mcy : Nat) (aox cox aoy coy : Option Addr), s = .pointer (some ⟨P, 0, none⟩) ∧ t = .pointer (some ⟨Q, 0, none⟩) ∧ Box3 wx P (.int .u64 Sx) (.slice aox nx ncx) (.slice cox mx mcx) ∧ Box3 wx Q (.int .u64 Sy) (.slice aoy ny ncy) (.slice coy my mcy) ∧ Box3 wx w.heap.size (.int .u64 Sa) (.slice aoa na nca) (.slice coa ma mca) ∧ Box3 wx (w.heap.size + 1) (.int .u64 Sb) (.slice aob nb ncb) (.slice cob mb mcb) ∧ ArrP wx (coverT A l false) (.int .u64 Sx) (.slice aox nx ncx) (.slice cox mx mcx) ∧ ArrP wx (coverT B l false) (.int .u64 Sy) (.slice aoy ny ncy) (.slice coy my mcy) ∧ ArrP wx A (.int .u64 Sa) (.slice aoa na nca) (.slice coa ma mca) ∧ ArrP wx B (.int .u64 Sb) (.slice aob nb ncb) (.slice cob mb mcb) ∧ Below w.heap.size w wx)
      case first =>
        have lxa := xa.lt
        have lxb := xb.lt
        have bs := bb.size
        have sa0 := True.intro
        go_region_held3 (fun w' => w'.cell? ⟨w.heap.size, 0, none⟩ = some (.int .u64 Sa) ∧ w'.cell? ⟨w.heap.size, 1, none⟩ = some (.slice aoa na nca) ∧ w'.cell? ⟨w.heap.size, 2, none⟩ = some (.slice coa ma mca) ∧ w'.cell? ⟨w.heap.size + 1, 0, none⟩ = some (.int .u64 Sb) ∧ w'.cell? ⟨w.heap.size + 1, 1, none⟩ = some (.slice aob nb ncb) ∧ w'.cell? ⟨w.heap.size + 1, 2, none⟩ = some (.slice cob mb mcb))
          (first | with_reducible exact ⟨(xa.drew).c0, (xa.drew).c1, (xa.drew).c2, (xb.drew).c0, (xb.drew).c1, (xb.drew).c2⟩ | with_reducible exact ⟨((xa.alloc _).drew).c0, ((xa.alloc _).drew).c1, ((xa.alloc _).drew).c2, ((xb.alloc _).drew).c0, ((xb.alloc _).drew).c1, ((xb.alloc _).drew).c2⟩ | with_reducible exact ⟨(((xa.alloc _).alloc _).drew).c0, (((xa.alloc _).alloc _).drew).c1, (((xa.alloc _).alloc _).drew).c2, (((xb.alloc _).alloc _).drew).c0, (((xb.alloc _).alloc _).drew).c1, (((xb.alloc _).alloc _).drew).c2⟩ | with_reducible exact ⟨xa.c0, xa.c1, xa.c2, xb.c0, xb.c1, xb.c2⟩ | with_reducible exact ⟨(xa.alloc _).c0, (xa.alloc _).c1, (xa.alloc _).c2, (xb.alloc _).c0, (xb.alloc _).c1, (xb.alloc _).c2⟩ | with_reducible exact ⟨((xa.alloc _).alloc _).c0, ((xa.alloc _).alloc _).c1, ((xa.alloc _).alloc _).c2, ((xb.alloc _).alloc _).c0, ((xb.alloc _).alloc _).c1, ((xb.alloc _).alloc _).c2⟩ | with_reducible exact ⟨(xa.other3 (by omega) _ _ _).c0, (xa.other3 (by omega) _ _ _).c1, (xa.other3 (by omega) _ _ _).c2, (xb.other3 (by omega) _ _ _).c0, (xb.other3 (by omega) _ _ _).c1, (xb.other3 (by omega) _ _ _).c2⟩ | with_reducible exact ⟨((xa.other3 (by omega) _ _ _).alloc _).c0, ((xa.other3 (by omega) _ _ _).alloc _).c1, ((xa.other3 (by omega) _ _ _).alloc _).c2, ((xb.other3 (by omega) _ _ _).alloc _).c0, ((xb.other3 (by omega) _ _ _).alloc _).c1, ((xb.other3 (by omega) _ _ _).alloc _).c2⟩ | with_reducible exact ⟨((xa.other3 (by omega) _ _ _).other3 (by omega) _ _ _).c0, ((xa.other3 (by omega) _ _ _).other3 (by omega) _ _ _).c1, ((xa.other3 (by omega) _ _ _).other3 (by omega) _ _ _).c2, ((xb.other3 (by omega) _ _ _).other3 (by omega) _ _ _).c0, ((xb.other3 (by omega) _ _ _).other3 (by omega) _ _ _).c1, ((xb.other3 (by omega) _ _ _).other3 (by omega) _ _ _).c2⟩ | go_keep)
          (first
          | (go_at_call 20; clear sa0; refine (coverU hC.out A l u0.heap.size _ _ _ _ ?_ hFa.out hl.out).mono ?_; (first | with_reducible exact (a.drew) | with_reducible exact ((a.alloc _).drew) | with_reducible exact (((a.alloc _).alloc _).drew)); rintro e u1 ⟨U1, Sx, nx, ncx, mx, mcx, aox, cox, hU1, rfl, Xx, hb⟩; (try simp at hU1); have hc : Below u0.heap.size u0 u1 := (by first | exact (Below.refl _ _).drew.trans hb | exact ((Below.refl _ _).alloc (by first | exact Nat.le_refl _ | (simp; done) | (simp; omega)) _).drew.trans (hb.mono (by first | (simp; done) | (simp; omega))) | exact (((Below.refl _ _).alloc (by first | exact Nat.le_refl _ | (simp; done) | (simp; omega)) _).alloc (by first | exact Nat.le_refl _ | (simp; done) | (simp; omega)) _).drew.trans (hb.mono (by first | (simp; done) | (simp; omega)))); have hz0 := hc.size; have xa := xa.later hc; have xb := xb.later hc; have a := a.below hc; have b := b.below hc; have bb := below_then bb (Nat.le_refl _) hc; (first | (with_reducible have mm := made23' hb; obtain ⟨m10, m11⟩ := mm) | (with_reducible have m10 := made13' hb) | skip); (try have k10 := m10.lt); (try have k11 := m11.lt); clear hb hc; have sa1 := True.intro)
          | (go_at_call 20; clear sa1; refine (coverU hC.out B l u0.heap.size _ _ _ _ ?_ hFb.out hl.out).mono ?_; (first | with_reducible exact b | with_reducible exact (b.alloc _) | with_reducible exact ((b.alloc _).alloc _)); rintro e u2 ⟨U2, Sy, ny, ncy, my, mcy, aoy, coy, hU2, rfl, Xy, hb⟩; (try simp at hU2); have hc : Below u1.heap.size u1 u2 := (by first | with_reducible exact hb | exact ((Below.refl _ _).alloc (by first | exact Nat.le_refl _ | (simp; done) | (simp; omega)) _).trans (hb.mono (by first | (simp; done) | (simp; omega))) | exact (((Below.refl _ _).alloc (by first | exact Nat.le_refl _ | (simp; done) | (simp; omega)) _).alloc (by first | exact Nat.le_refl _ | (simp; done) | (simp; omega)) _).trans (hb.mono (by first | (simp; done) | (simp; omega)))); have hz1 := hc.size; have xa := xa.later hc; have xb := xb.later hc; have a := a.below hc; have b := b.below hc; have Xx := Xx.below hc; have bb := below_then bb (Nat.le_refl _) hc; (try have m10 := m10.later hc); (try have m11 := m11.later hc); (first | (with_reducible have mm := made23 hb; obtain ⟨m20, m21⟩ := mm) | (with_reducible have m20 := made13 hb) | skip); (try have k10 := m10.lt); (try have k11 := m11.lt); (try have k20 := m20.lt); (try have k21 := m21.lt); (try (have f100 := m10.c0; have f101 := m10.c1; have f102 := m10.fr 0; have f103 := m10.fr 1; have f104 := m10.c2; have f105 := m10.fr 2)); (try (have f110 := m11.c0; have f111 := m11.c1; have f112 := m11.fr 0; have f113 := m11.fr 1; have f114 := m11.c2; have f115 := m11.fr 2)); (try (have f200 := m20.c0; have f201 := m20.c1; have f202 := m20.fr 0; have f203 := m20.fr 1; have f204 := m20.c2; have f205 := m20.fr 2)); (try (have f210 := m21.c0; have f211 := m21.c1; have f212 := m21.fr 0; have f213 := m21.fr 1; have f214 := m21.c2; have f215 := m21.fr 2)); clear hb hc; have sa2 := True.intro))
        · go_wp2_with fail; go_meet; exact ⟨_, _, _, _, _, _, _, _, _, _, _, _, _, _, _, _, rfl, rfl, ((Box3.new _ _ _ _ (by first | (simp; done) | rfl)).alloc _), (Box3.new _ _ _ _ (by first | (simp; done) | rfl)), ((xa.alloc _).alloc _), ((xb.alloc _).alloc _), ((Xx.alloc _).alloc _).1.plainly, ((Xy.alloc _).alloc _).1.plainly, ((a.alloc _).alloc _).1.plainly, ((b.alloc _).alloc _).1.plainly, (Below.alloc (Below.alloc bb (by first | omega | (simp; omega) | (simp; done)) _) (by first | omega | (simp; omega) | (simp; done)) _)⟩
        · go_wp2_with fail; go_meet; exact ⟨_, _, _, _, _, _, _, _, _, _, _, _, _, _, _, _, rfl, rfl, (Box3.new _ _ _ _ (by first | (simp; done) | rfl)), ((Box3.new _ _ _ _ (by first | (simp; done) | rfl)).alloc _), ((xa.alloc _).alloc _), ((xb.alloc _).alloc _), ((Xx.alloc _).alloc _).1.plainly, ((Xy.alloc _).alloc _).1.plainly, ((a.alloc _).alloc _).1.plainly, ((b.alloc _).alloc _).1.plainly, (Below.alloc (Below.alloc bb (by first | omega | (simp; omega) | (simp; done)) _) (by first | omega | (simp; omega) | (simp; done)) _)⟩
        · go_wp2_with fail; go_meet; exact ⟨_, _, _, _, _, _, _, _, _, _, _, _, _, _, _, _, rfl, rfl, ((m20.set _ _ _).alloc _), (Box3.new _ _ _ _ (by first | (simp; done) | rfl)), ((xa.other3 (by omega) _ _ _).alloc _), ((xb.other3 (by omega) _ _ _).alloc _), ((Xx.set3 (by omega) _ _ _).alloc _).1.plainly, ((Xy.set3 (by omega) _ _ _).alloc _).1.plainly, ((a.set3 (by omega) _ _ _).alloc _).1.plainly, ((b.set3 (by omega) _ _ _).alloc _).1.plainly, (Below.alloc (below_set3 bb (by omega) _ _ _) (by first | omega | (simp; omega) | (simp; done)) _)⟩
        · go_wp2_with fail; go_meet; exact ⟨_, _, _, _, _, _, _, _, _, _, _, _, _, _, _, _, rfl, rfl, ((m20.set _ _ _).other3 (by omega) _ _ _), ((m21.other3 (by omega) _ _ _).set _ _ _), ((xa.other3 (by omega) _ _ _).other3 (by omega) _ _ _), ((xb.other3 (by omega) _ _ _).other3 (by omega) _ _ _), ((Xx.set3 (by omega) _ _ _).set3 (by omega) _ _ _).1.plainly, ((Xy.set3 (by omega) _ _ _).set3 (by omega) _ _ _).1.plainly, ((a.set3 (by omega) _ _ _).set3 (by omega) _ _ _).1.plainly, ((b.set3 (by omega) _ _ _).set3 (by omega) _ _ _).1.plainly, (below_set3 (below_set3 bb (by omega) _ _ _) (by omega) _ _ _)⟩
        · go_wp2_with fail; go_meet; exact ⟨_, _, _, _, _, _, _, _, _, _, _, _, _, _, _, _, rfl, rfl, (Box3.new _ _ _ _ (by first | (simp; done) | rfl)), ((m20.set _ _ _).alloc _), ((xa.other3 (by omega) _ _ _).alloc _), ((xb.other3 (by omega) _ _ _).alloc _), ((Xx.set3 (by omega) _ _ _).alloc _).1.plainly, ((Xy.set3 (by omega) _ _ _).alloc _).1.plainly, ((a.set3 (by omega) _ _ _).alloc _).1.plainly, ((b.set3 (by omega) _ _ _).alloc _).1.plainly, (Below.alloc (below_set3 bb (by omega) _ _ _) (by first | omega | (simp; omega) | (simp; done)) _)⟩
        · go_wp2_with fail; go_meet; exact ⟨_, _, _, _, _, _, _, _, _, _, _, _, _, _, _, _, rfl, rfl, ((m21.set _ _ _).other3 (by omega) _ _ _), ((m20.other3 (by omega) _ _ _).set _ _ _), ((xa.other3 (by omega) _ _ _).other3 (by omega) _ _ _), ((xb.other3 (by omega) _ _ _).other3 (by omega) _ _ _), ((Xx.set3 (by omega) _ _ _).set3 (by omega) _ _ _).1.plainly, ((Xy.set3 (by omega) _ _ _).set3 (by omega) _ _ _).1.plainly, ((a.set3 (by omega) _ _ _).set3 (by omega) _ _ _).1.plainly, ((b.set3 (by omega) _ _ _).set3 (by omega) _ _ _).1.plainly, (below_set3 (below_set3 bb (by omega) _ _ _) (by omega) _ _ _)⟩
        · go_wp2_with fail; go_meet; exact ⟨_, _, _, _, _, _, _, _, _, _, _, _, _, _, _, _, rfl, rfl, ((m10.set _ _ _).alloc _), (Box3.new _ _ _ _ (by first | (simp; done) | rfl)), ((xa.other3 (by omega) _ _ _).alloc _), ((xb.other3 (by omega) _ _ _).alloc _), ((Xx.set3 (by omega) _ _ _).alloc _).1.plainly, ((Xy.set3 (by omega) _ _ _).alloc _).1.plainly, ((a.set3 (by omega) _ _ _).alloc _).1.plainly, ((b.set3 (by omega) _ _ _).alloc _).1.plainly, (Below.alloc (below_set3 bb (by omega) _ _ _) (by first | omega | (simp; omega) | (simp; done)) _)⟩
        · go_wp2_with fail; go_meet; exact ⟨_, _, _, _, _, _, _, _, _, _, _, _, _, _, _, _, rfl, rfl, ((m10.set _ _ _).other3 (by omega) _ _ _), ((m20.other3 (by omega) _ _ _).set _ _ _), ((xa.other3 (by omega) _ _ _).other3 (by omega) _ _ _), ((xb.other3 (by omega) _ _ _).other3 (by omega) _ _ _), ((Xx.set3 (by omega) _ _ _).set3 (by omega) _ _ _).1.plainly, ((Xy.set3 (by omega) _ _ _).set3 (by omega) _ _ _).1.plainly, ((a.set3 (by omega) _ _ _).set3 (by omega) _ _ _).1.plainly, ((b.set3 (by omega) _ _ _).set3 (by omega) _ _ _).1.plainly, (below_set3 (below_set3 bb (by omega) _ _ _) (by omega) _ _ _)⟩
        · go_wp2_with fail; go_meet; exact ⟨_, _, _, _, _, _, _, _, _, _, _, _, _, _, _, _, rfl, rfl, ((m10.set _ _ _).other3 (by omega) _ _ _), ((m11.other3 (by omega) _ _ _).set _ _ _), ((xa.other3 (by omega) _ _ _).other3 (by omega) _ _ _), ((xb.other3 (by omega) _ _ _).other3 (by omega) _ _ _), ((Xx.set3 (by omega) _ _ _).set3 (by omega) _ _ _).1.plainly, ((Xy.set3 (by omega) _ _ _).set3 (by omega) _ _ _).1.plainly, ((a.set3 (by omega) _ _ _).set3 (by omega) _ _ _).1.plainly, ((b.set3 (by omega) _ _ _).set3 (by omega) _ _ _).1.plainly, (below_set3 (below_set3 bb (by omega) _ _ _) (by omega) _ _ _)⟩
        · go_wp2_with fail; go_meet; exact ⟨_, _, _, _, _, _, _, _, _, _, _, _, _, _, _, _, rfl, rfl, (Box3.new _ _ _ _ (by first | (simp; done) | rfl)), ((m10.set _ _ _).alloc _), ((xa.other3 (by omega) _ _ _).alloc _), ((xb.other3 (by omega) _ _ _).alloc _), ((Xx.set3 (by omega) _ _ _).alloc _).1.plainly, ((Xy.set3 (by omega) _ _ _).alloc _).1.plainly, ((a.set3 (by omega) _ _ _).alloc _).1.plainly, ((b.set3 (by omega) _ _ _).alloc _).1.plainly, (Below.alloc (below_set3 bb (by omega) _ _ _) (by first | omega | (simp; omega) | (simp; done)) _)⟩
        · go_wp2_with fail; go_meet; exact ⟨_, _, _, _, _, _, _, _, _, _, _, _, _, _, _, _, rfl, rfl, ((m20.set _ _ _).other3 (by omega) _ _ _), ((m10.other3 (by omega) _ _ _).set _ _ _), ((xa.other3 (by omega) _ _ _).other3 (by omega) _ _ _), ((xb.other3 (by omega) _ _ _).other3 (by omega) _ _ _), ((Xx.set3 (by omega) _ _ _).set3 (by omega) _ _ _).1.plainly, ((Xy.set3 (by omega) _ _ _).set3 (by omega) _ _ _).1.plainly, ((a.set3 (by omega) _ _ _).set3 (by omega) _ _ _).1.plainly, ((b.set3 (by omega) _ _ _).set3 (by omega) _ _ _).1.plainly, (below_set3 (below_set3 bb (by omega) _ _ _) (by omega) _ _ _)⟩
        · go_wp2_with fail; go_meet; exact ⟨_, _, _, _, _, _, _, _, _, _, _, _, _, _, _, _, rfl, rfl, ((m11.set _ _ _).other3 (by omega) _ _ _), ((m10.other3 (by omega) _ _ _).set _ _ _), ((xa.other3 (by omega) _ _ _).other3 (by omega) _ _ _), ((xb.other3 (by omega) _ _ _).other3 (by omega) _ _ _), ((Xx.set3 (by omega) _ _ _).set3 (by omega) _ _ _).1.plainly, ((Xy.set3 (by omega) _ _ _).set3 (by omega) _ _ _).1.plainly, ((a.set3 (by omega) _ _ _).set3 (by omega) _ _ _).1.plainly, ((b.set3 (by omega) _ _ _).set3 (by omega) _ _ _).1.plainly, (below_set3 (below_set3 bb (by omega) _ _ _) (by omega) _ _ _)⟩
      obtain ⟨P, Q, Sx, nx, ncx, mx, mcx, Sy, ny, ncy, my, mcy, aox, cox, aoy, coy, rfl, rfl, p, q, xa', xb', X, Y, a', b', bb'⟩ := hcut
      clear bb xa xb a b
      replace p := Lib.hid p; replace q := Lib.hid q; replace xa' := Lib.hid xa'; replace xb' := Lib.hid xb'; replace X := Lib.hid X; replace Y := Lib.hid Y; replace a' := Lib.hid a'; replace b' := Lib.hid b'; replace bb' := Lib.hid bb'
      go_wp2_with fail
      refine (seesF_any l o _ hl.out ho.out).mono ?_
      rintro e v1 ⟨rfl, rfl⟩
      obtain ⟨bK, hbK⟩ := bool_of (AlikeT A B o)
      replace hbK := Lib.hid hbK
      cases hsee : seesL l o with
      | false =>
        have hAK := Lib.hid (cover_hidden hsee (tree_not_leaf a'.out) (tree_not_leaf b'.out))
        clear hsee xa' xb' a' b'
        have q0 := p.out.c0; have q1 := p.out.c1; have q2 := p.out.c2; have r0 := q.out.c0; have r1 := q.out.c1; have r2 := q.out.c2
        go_wp2_with fail
        refine ((hK.out _ _ o _ _ _ _ _ _ _ X.out Y.out (few_cover _ _ hFa.out) (few_cover _ _ hFb.out) ho.out).mono fun _ _ h => BoolPost.tell (b := true) ⟨fun _ => hAK.out, fun _ => rfl⟩ h).mono ?_
        rintro e v2 ⟨rfl, hb2⟩
        replace bb' := Lib.hid (below_then bb'.out (Nat.le_refl _) hb2)
        clear hb2 q0 q1 q2 r0 r1 r2 p q X Y
        go_wp2_with fail
        refine (hA.out _).mono ?_
        rintro e v3 ⟨rfl, hb2⟩
        replace bb' := Lib.hid (below_then bb'.out (Nat.le_refl _) hb2)
        clear hb2
        go_wp2_with fail
        go_ret
        exact ⟨rfl, bb'.out⟩
      | true =>
        have hsee' := Lib.hid hsee
        clear hsee
        have q0 := xa'.out.c0; have q1 := xa'.out.c1; have q2 := xa'.out.c2; have r0 := xb'.out.c0; have r1 := xb'.out.c1; have r2 := xb'.out.c2
        go_wp2_with fail
        refine ((hK.out _ _ o _ _ _ _ _ _ _ a'.out b'.out hFa.out hFb.out ho.out).mono fun _ _ h => BoolPost.tell hbK.out h).mono ?_
        rintro e v2 ⟨rfl, hb2⟩
        replace bb' := Lib.hid (below_then bb'.out (Nat.le_refl _) hb2); replace p := Lib.hid (p.out.later hb2); replace q := Lib.hid (q.out.later hb2); replace X := Lib.hid (X.out.later hb2); replace Y := Lib.hid (Y.out.later hb2)
        clear hb2 q0 q1 q2 r0 r1 r2 xa' xb' a' b'
        cases bK with
        | false =>
          go_wp2_with fail
          refine (hA.out _).mono ?_
          rintro e v3 ⟨rfl, hb2⟩
          replace bb' := Lib.hid (below_then bb'.out (Nat.le_refl _) hb2)
          clear hb2
          go_wp2_with fail
          go_ret
          exact ⟨rfl, bb'.out⟩
        | true =>
          have hAK := Lib.hid (cover_seen hsee'.out A B (hbK.out.1 (by first | exact rfl | trivial)))
          have q0 := p.out.c0; have q1 := p.out.c1; have q2 := p.out.c2; have r0 := q.out.c0; have r1 := q.out.c1; have r2 := q.out.c2
          go_wp2_with fail
          refine ((hK.out _ _ o _ _ _ _ _ _ _ X.out Y.out (few_cover _ _ hFa.out) (few_cover _ _ hFb.out) ho.out).mono fun _ _ h => BoolPost.tell (b := true) ⟨fun _ => hAK.out, fun _ => rfl⟩ h).mono ?_
          rintro e v3 ⟨rfl, hb2⟩
          replace bb' := Lib.hid (below_then bb'.out (Nat.le_refl _) hb2)
          clear hb2 q0 q1 q2 r0 r1 r2 p q X Y
          go_wp2_with fail
          refine (hA.out _).mono ?_
          rintro e v4 ⟨rfl, hb2⟩
          replace bb' := Lib.hid (below_then bb'.out (Nat.le_refl _) hb2)
          clear hb2
          go_wp2_with fail
          go_ret
          exact ⟨rfl, bb'.out⟩

end Go.Proofs.Ytlfilpjiepdejaa
