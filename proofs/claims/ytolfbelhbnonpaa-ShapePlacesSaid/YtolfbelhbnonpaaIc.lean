/-
  Rows of ints that a call makes, written into and appended to; scrimref07.next.
-/
import Derived.Test.YtolfbelhbnonpaaIb
import Derived.Laws.OwnMore
import Derived.BigQuiet
import Derived.Deep.CutRange
namespace Go.Proofs.Ytolfbelhbnonpaa
open Go.RowKit

theorem own_base {w : World} {B C size n : Nat} {e : TypeId} {v : Value} {xs : List Value} (h : w.ownsRow B e size v n xs) (hC : C ≤ B) : w.ownsRow C e size v n xs := by
  refine ⟨h.1, ?_⟩
  rcases h.2 with h0 | ⟨g, cap, cur, hv, hb, rest⟩
  · exact .inl h0
  · exact .inr ⟨g, cap, cur, hv, by omega, rest⟩

theorem own_slz {w : World} {B n cap : Nat} {t : TypeId} {ao : Option Addr} {f : Nat → Int} (h : w.ownsRow B t 1 (.slice ao n cap) n (intCells f n)) : n ≤ cap ∧ cap ≤ 9223372036854775807 ∧ SlZ w ao n f := by
  obtain ⟨a, c, e, h1, h2, h3⟩ := owns_ints h
  cases e
  exact ⟨h1, h2, h3⟩

theorem own_some {w : World} {B n : Nat} {t : TypeId} {v : Value} {f : Nat → Int} (h : w.ownsRow B t 1 v n (intCells f n)) (hn : 0 < n) : ∃ g cap, v = .slice (some ⟨g, 0, none⟩) n cap ∧ n ≤ cap ∧ cap ≤ 9223372036854775807 ∧ B ≤ g := by
  rcases h.2 with ⟨_, hn0⟩ | ⟨g, cap, cur, hv, hb, hg, hnc, hcm, hcs, ht⟩
  · omega
  · exact ⟨g, cap, hv, hnc, by unfold maxLen at hcm; omega, hb⟩

theorem intCells_congr {f g : Nat → Int} {n : Nat} (h : ∀ j, j < n → f j = g j) : intCells f n = intCells g n :=
  List.map_congr_left fun j hj => by rw [h j (List.mem_range.1 hj)]

theorem intCells_put (f : Nat → Int) (n i : Nat) (x : Int) : (intCells f n).set i (.int .i64 x) = intCells (putZ f i x) n := by
  refine List.ext_getElem? fun j => ?_
  rw [List.getElem?_set]
  by_cases hj : j < n
  · rw [intCells_get _ _ _ hj, intCells_get _ _ _ hj]
    unfold putZ
    by_cases e : i = j
    · subst e; simp [intCells_length, hj]
    · rw [if_neg e, if_neg fun k => e k.symm]
  · have h1 : (intCells f n)[j]? = none := List.getElem?_eq_none (by rw [intCells_length]; omega)
    have h2 : (intCells (putZ f i x) n)[j]? = none := List.getElem?_eq_none (by rw [intCells_length]; omega)
    rw [h1, h2]
    by_cases e : i = j
    · subst e; simp [intCells_length, hj]
    · simp [e]

/-- m numbers behind n others. -/
def joinZ (F : Nat → Int) (n : Nat) (f : Nat → Int) (j : Nat) : Int := if j < n then F j else f (j - n)

theorem intCells_join (F f : Nat → Int) (n m : Nat) : intCells F n ++ intCells f m = intCells (joinZ F n f) (n + m) := by
  unfold intCells
  rw [List.range_add, List.map_append, List.map_map]
  congr 1
  · refine List.map_congr_left fun t ht => ?_
    have := List.mem_range.1 ht
    unfold joinZ
    rw [if_pos this]
  · refine List.map_congr_left fun t _ => ?_
    show Value.int .i64 (f t) = Value.int .i64 (joinZ F n f (n + t))
    unfold joinZ
    rw [if_neg (by omega), Nat.add_sub_cancel_left]

theorem run_append_ints {P : Program} {w : World} (base : Nat) (t ty e : TypeId) (i : TypeInfo) (bytes : Nat) (ht : P.underlying t = some (.slice e)) (hi : P.info? e = some i) (hz : i.zero = some (.int .i64 0)) (hsize : i.size = 1) (hby : i.bytes = bytes)
    (v : Value) (n : Nat) (F : Nat → Int) (hown : w.ownsRow base e 1 v n (intCells F n)) (ao : Option Addr) (m c : Nat) (f : Nat → Int) (hf : SlZ w ao m f) (h63 : n + m ≤ maxLen) (hbytes : (n + m) * bytes ≤ 140737488355328) (hbase : base ≤ w.heap.size) :
    ∃ v' w', (Builtin.append_ #[t, t] ty #[v, .slice ao m c]).run P w = .ok v' w' ∧ w'.ownsRow base e 1 v' (n + m) (intCells (joinZ F n f) (n + m)) ∧ w.grownBy w' v.ownBlock := by
  cases ao with
  | some a =>
    have hnews : ∀ j u, (intCells f m)[j]? = some u → w.cell? (a.add j) = some u := by
      intro j u hu
      have hj : j < m := by
        have := (List.getElem?_eq_some_iff.1 hu).1
        rwa [intCells_length] at this
      rw [intCells_get f m j hj] at hu
      rcases hf with h | ⟨b, off, e1, hc⟩
      · omega
      · cases e1
        rw [← hu, ← hc j hj, Addr.add_lit]
    obtain ⟨v', w', hr, h1, h2, _⟩ := run_append_own (P := P) w base t ty e i (.int .i64 0) 1 bytes ht hi hz hsize hby rfl (by decide) v n (intCells F n) hown a m c (intCells f m) (by rw [intCells_length, Nat.mul_one]) hnews (by intro u hu; obtain ⟨x, _, rfl⟩ := List.mem_map.1 hu; rfl) h63 hbytes hbase
    rw [intCells_join] at h1
    exact ⟨v', w', hr, h1, h2⟩
  | none =>
    have hm : m = 0 := by
      rcases hf with h | ⟨b, off, e1, hc⟩
      · exact h
      · cases e1
    subst hm
    refine ⟨v, w, ?_, ?_, ⟨rfl, rfl, rfl, Nat.le_refl _, fun _ _ _ => rfl⟩⟩
    · rcases hown.2 with ⟨rfl, rfl⟩ | ⟨g, cap, cur, rfl, _, _, hnc, _⟩
      · simp [Builtin.append_, run_underlying ht, sizeOf, typeInfo, hi, Builtin.lenOf, Builtin.firstCells]
      · simp [Builtin.append_, run_underlying ht, sizeOf, typeInfo, hi, Builtin.lenOf, Builtin.firstCells, hnc, storeCells]
    · rw [← intCells_join]
      simpa [intCells] using hown

theorem wpList_append_ints {P : Program} {w : World} {ops : Array Oper} {rest : List Oper} {o : Oper} {a : Act} {Q : Exit → Act → World → Prop} (hgd : o.guard = none) (s x : Operand) (t : TypeId)
    (ho : o.op = .call { callee := .builtin .append, args := #[s, x], argTypes := #[t, t] })
    (base : Nat) (e : TypeId) (i : TypeInfo) (bytes : Nat) (ht : P.underlying t = some (.slice e)) (hi : P.info? e = some i) (hz : i.zero = some (.int .i64 0)) (hsize : i.size = 1) (hby : i.bytes = bytes)
    (v : Value) (n : Nat) (F : Nat → Int) (hs : a.eval s = v) (hown : w.ownsRow base e 1 v n (intCells F n)) (ao : Option Addr) (m c : Nat) (f : Nat → Int) (hx : a.eval x = .slice ao m c) (hf : SlZ w ao m f)
    (h63 : n + m ≤ maxLen) (hbytes : (n + m) * bytes ≤ 140737488355328) (hbase : base ≤ w.heap.size)
    (h : ∀ v' w', w'.ownsRow base e 1 v' (n + m) (intCells (joinZ F n f) (n + m)) → w.grownBy w' v.ownBlock → wpList P ops Q rest (a.put o.dst v') w') : wpList P ops Q (o :: rest) a w := by
  refine wpList_plain hgd fun K hK => ?_
  obtain ⟨v', w', hr, h2, h3⟩ := run_append_ints (P := P) base t o.type e i bytes ht hi hz hsize hby v n F hown ao m c f hf h63 hbytes hbase
  unfold Oper.wp execOp
  simp only [ho, resolve, invoke, builtin, Sem.run_bind, Sem.run_pure, Result.andThen_ok, List.map_toArray, List.map_cons, List.map_nil, hs, hx, hr]
  exact hK _ _ (h v' w' h2 h3)

/-- A row of ints that a call has made. -/
def MadeZ (n : Nat) (R : (Nat → Int) → Prop) (w : World) (e : Ending) (w' : World) : Prop :=
  ∃ v h, e = .returned v ∧ w'.ownsRow w.heap.size 3 1 v n (intCells h n) ∧ Below w.heap.size w w' ∧ R h

set_option maxRecDepth 20000 in
set_option maxHeartbeats 4000000 in
theorem next7_any (so : Option Addr) (n nc : Nat) (f : Nat → Int) (ao : Option Addr) (ac : Nat) (g : Nat → Int) (w : World) (hn : n ≤ 6) (hf : SlZ w so n f) (hg : SlZ w ao n g) (hi : ∀ j, j < n → f j ≤ 2048) (hp : Fits f g n) :
    Calls Try.prog 25 #[.slice so n nc, .slice ao n ac] w (MadeZ n (fun h => cellZ f g n + 1 < prodZ f n → PlaceIs f h n (cellZ f g n + 1)) w) := by
  obtain ⟨i64, hi0, hz0, hz1, hz2⟩ := info_parts info64
  have hf' := Lib.hid hf; have hg' := Lib.hid hg
  clear hf hg
  by_cases h0 : n = 0
  · subst h0
    go_enter Try.func25, Try.ntmps25
    go_wp2_with (at_builtin; refine wpList_append_ints rfl (.tmp 7) (.tmp 8) 22 rfl w.heap.size 3 i64 8 Try.underlying22 hi0 hz0 hz1 hz2 _ 0 (fun _ => 0) rfl (World.ownsRow_nil _ _ _ _) ao 0 ac g rfl hg'.out (by unfold maxLen; omega) (by omega) (Nat.le_refl _) ?_)
    intro v' w' hown hgr
    have hown' := Lib.hid hown
    have hb := Lib.hid ((Below.refl w.heap.size w).grown hgr (Nat.le_refl _) (fun q hq => by cases hq))
    clear hown hgr
    go_wp2_with fail
    go_loopw [6] (fun i wr => i = .int .i64 (-1) ∧ wr = w') (fun _ _ => 0)
    case atStart => exact ⟨rfl, rfl⟩
    case round =>
      obtain ⟨rfl, rfl⟩ := hrel
      go_wp2_with fail
      go_ret
      exact ⟨v', _, rfl, hown'.out, hb.out, fun h => by have h2 : (0 : Int) + 1 < 1 := h; omega⟩
  · have hn1 : 0 < n := by omega
    clear h0
    go_enter Try.func25, Try.ntmps25
    go_wp2_with (at_builtin; refine wpList_append_ints rfl (.tmp 7) (.tmp 8) 22 rfl w.heap.size 3 i64 8 Try.underlying22 hi0 hz0 hz1 hz2 _ 0 (fun _ => 0) rfl (World.ownsRow_nil _ _ _ _) ao n ac g rfl hg'.out (by unfold maxLen; omega) (by omega) (Nat.le_refl _) ?_)
    intro v' w1 hown hgr
    have hb := Lib.hid ((Below.refl w.heap.size w).grown hgr (Nat.le_refl _) (fun q hq => by cases hq))
    rw [intCells_congr (g := g) (fun j hj => by unfold joinZ; rw [if_neg (by omega), Nat.sub_zero])] at hown
    obtain ⟨B, cap, rfl, hc1, hc2, hB⟩ := own_some hown hn1
    have hown' := Lib.hid hown
    have hca := Lib.hid (carried_start (f := f) (g := g) (n := n) (c := cellZ f g n) ⟨hp, rfl⟩ (fun _ _ => rfl))
    have hp' := Lib.hid hp; have hi' := Lib.hid hi
    clear hown hgr hp hi
    go_wp2_with fail
    go_loopw [6] (fun i wr => ∃ (k : Nat) (h : Nat → Int), k ≤ n ∧ i = .int .i64 ((k : Int) - 1) ∧ Hid (wr.ownsRow w.heap.size 3 1 (.slice (some ⟨B, 0, none⟩) n cap) n (intCells h n)) ∧ Hid (Carried f g h n k (cellZ f g n)) ∧ Hid (Below w.heap.size w wr)) (fun i _ => (intOfZ i + 1).toNat)
    case atStart => exact ⟨n, g, Nat.le_refl _, by rfl, hown', hca, hb⟩
    case round =>
      obtain ⟨k, h, hk, rfl, ho, hc, hbr⟩ := hrel
      clear hown' hca hb
      cases k with
      | zero =>
        have e0 : (((0 : Nat) : Int) - 1) = -1 := rfl
        rw [e0]
        go_wp2_with fail
        go_ret
        exact ⟨_, h, rfl, ho.out, hbr.out, fun hl => by have := carried_last hc.out; omega⟩
      | succ k =>
        have e0 : (((k + 1 : Nat) : Int) - 1) = (k : Int) := by omega
        rw [e0]
        have hgk := hc.out.2.1 k (by omega)
        have hfit := hp'.out k (by omega)
        have hfk := hi'.out k (by omega)
        have c1 : wr.cell? ⟨B, k, none⟩ = some (.int .i64 (g k)) := by rw [ho.out.cellAt k (by omega), intCells_get h n k (by omega), hgk]
        have f1 : wr.frozen? ⟨B, k, none⟩ = false := ho.out.frozenAt k
        have hs1 := ho.out.stored k (.int .i64 (g k + 1))
        have hw := Lib.hid (show wr.setCell ⟨B, k, none⟩ (.int .i64 (g k + 1)) = wr.setCell ⟨B, k, none⟩ (.int .i64 (g k + 1)) from rfl)
        have ho2 := Lib.hid (show (wr.setCell ⟨B, k, none⟩ (.int .i64 (g k + 1))).ownsRow w.heap.size 3 1 (.slice (some ⟨B, 0, none⟩) n cap) n (intCells (putZ h k (g k + 1)) n) by rw [← intCells_put]; exact hs1.1)
        have hb2 := Lib.hid (show Below w.heap.size w (wr.setCell ⟨B, k, none⟩ (.int .i64 (g k + 1))) from hbr.out.setCell (p := ⟨B, k, none⟩) hB _)
        have hmu : (k : Int) + 1 = (k : Int) + 1 := rfl
        clear hs1 hw hmu hgk
        obtain ⟨x, hx⟩ : ∃ x, x = g k := ⟨_, rfl⟩
        rw [← hx] at c1 hfit ho2 hb2
        have hx' := Lib.hid hx
        clear hx
        by_cases hlt : x + 1 < f k
        · go_upto_region 7 with fail
          refine told_wp (fun w' => w'.ownsRow w.heap.size 3 1 (.slice (some ⟨B, 0, none⟩) n cap) n (intCells (putZ h k (x + 1)) n) ∧ Below w.heap.size w w') ⟨ho2.out, hb2.out⟩ ?_
          clear ho2 hb2 c1 f1 ho hbr
          rintro w2 ⟨ho2, hb2⟩
          have c2 : w2.cell? ⟨B, k, none⟩ = some (.int .i64 (x + 1)) := by rw [ho2.cellAt k (by omega), intCells_get _ n k (by omega)]; unfold putZ; rw [if_pos rfl]
          have hfr := hf'.out.below hb2
          rcases hfr with h0 | ⟨b, off, rfl, hcs⟩
          · omega
          have c3 := hcs k (by omega)
          have ho3 := Lib.hid ho2; have hb3 := Lib.hid hb2; have hlt' := Lib.hid hlt
          clear ho2 hb2 hcs
          go_quiet (fail)
          go_wp2_with fail
          go_ret
          exact ⟨_, _, rfl, owns_later ho3.out (below_drewN (Below.refl _ _) _), below_drewN hb3.out _, fun hl => by
            have h1 := hc.out; have h2 := hlt'.out; have h3 := hx'.out
            rw [h3] at h2 ⊢
            exact carried_done ⟨hp'.out, rfl⟩ h1 h2⟩
        · have he := Lib.hid (show g k + 1 = f k by rw [← hx'.out]; omega)
          go_upto_region 7 with fail
          refine told_wp (fun w' => w'.ownsRow w.heap.size 3 1 (.slice (some ⟨B, 0, none⟩) n cap) n (intCells (putZ h k (x + 1)) n) ∧ Below w.heap.size w w') ⟨ho2.out, hb2.out⟩ ?_
          clear ho2 hb2 c1 f1 ho hbr
          rintro w2 ⟨ho2, hb2⟩
          have c2 : w2.cell? ⟨B, k, none⟩ = some (.int .i64 (x + 1)) := by rw [ho2.cellAt k (by omega), intCells_get _ n k (by omega)]; unfold putZ; rw [if_pos rfl]
          have hfr := hf'.out.below hb2
          rcases hfr with h0 | ⟨b, off, rfl, hcs⟩
          · omega
          have c3 := hcs k (by omega)
          have ho3 := Lib.hid ho2; have hb3 := Lib.hid hb2
          clear ho2 hb2 hcs
          go_quiet (fail)
          have ho4 := Lib.hid (owns_later ho3.out (below_drewN (Below.refl _ _) nq)); have hb4 := Lib.hid (below_drewN hb3.out nq)
          clear ho3 hb3
          have f2 : (w2.drewN nq).frozen? ⟨B, k, none⟩ = false := ho4.out.frozenAt k
          go_wp2_with fail
          go_roundw
          case rel =>
            refine ⟨k, putZ (putZ h k (x + 1)) k 0, by omega, by go_num, Lib.hid ?_, Lib.hid ?_, Lib.hid (hb4.out.setCell (p := ⟨B, k, none⟩) hB _)⟩
            · rw [← intCells_put]; exact (ho4.out.stored k (.int .i64 0)).1
            · obtain ⟨q1, q2, q3, q4⟩ := carried_step hc.out he.out
              refine ⟨q1, fun j hj => ?_, fun j hj hj2 => ?_, q4⟩
              · rw [← q2 j hj]; unfold putZ; rw [if_neg (by omega), if_neg (by omega), if_neg (by omega)]
              · rw [← q3 j hj hj2]; unfold putZ; by_cases e : j = k
                · rw [if_pos e, if_pos e]
                · rw [if_neg e, if_neg e, if_neg e]
          case measure => simp [intOfZ]

end Go.Proofs.Ytolfbelhbnonpaa
