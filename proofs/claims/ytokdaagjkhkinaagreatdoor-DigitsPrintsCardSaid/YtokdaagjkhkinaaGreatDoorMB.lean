/-
  nat.takeGroup; nat.Norm's own limbs; bytes.TrimRight and slices.Reverse of digits.
  nat.Text: the decimal digits.
  nat.isText.
  nat.takeTimes and nat.putBack: x times a number, taken off; a number, put back.
  Plain facts on long division: a guess from the top limbs is never too small; what a guess that is not too great means; the whole division.
  nat.divideLimb: one limb of a quotient.
  nat.moveUp and nat.moveDown: a number times, and by, a power of two below 2^32.
  nat.DivMod: the quotient and the rest.
  nat.word, fromWord, gcdOfWords and Gcd: the greatest number that divides both.
  A law on append that the kit lacks: nothing, whatever its address, appended to a nil slice.
  scrimref02.Same and Norm, scrimlaw02.few and awake.
-/
import Derived.Test.YtokdaagjkhkinaaGreatDoorMA
import Derived.RegionTactic
import Derived.BigRegion
import Derived.ChangeAlike
import Derived.Deep.LoopGhost
import Derived.Laws.BytesArg
import Derived.Deep.RegionWith
import Derived.WalkKit
namespace Go.Proofs.YtokdaagjkhkinaaGreatDoor
open Go.RowKit Num

def GroupPost (b n V : Nat) (w : World) (e : Ending) (w' : World) : Prop :=
  ∃ (r : Nat) (F' : Nat → Nat), r = V % 1000000000 ∧ e = .returned (.int .u32 r) ∧ Blk w' b n F' ∧ Lim F' n ∧ val F' n = V / 1000000000 ∧ w.grownBy w' (some b)

set_option maxHeartbeats 1000000 in
theorem takeGroup_any (b n cs : Nat) (F : Nat → Nat) (w : World) (hn : n ≤ 1000000) (hF : Blk w b n F) (lF : Lim F n) :
    Calls Tryz.prog 39 #[.slice (some ⟨b, 0, none⟩) n cs] w (GroupPost b n (val F n) w) := by
  have hF' := Lib.hid hF; have lF' := Lib.hid lF
  clear hF lF
  go_enter Tryz.func39, Tryz.ntmps39
  go_wp2_with fail
  go_loopw [3, 4] (fun r i wr => ∃ (j R : Nat) (G : Nat → Nat), j ≤ n ∧ i = .int .i64 ((j : Int) - 1) ∧ r = .int .u64 R ∧ R < 1000000000 ∧ R = val (fun t => F (j + t)) (n - j) % 1000000000 ∧ Blk wr b n G ∧ Lim G n ∧ (∀ t, t < j → G t = F t) ∧
      val (fun t => G (j + t)) (n - j) = val (fun t => F (j + t)) (n - j) / 1000000000 ∧ w.grownBy wr (some b)) (fun _ i _ => (intOf i + 1).toNat)
  case atStart =>
    refine ⟨n, 0, F, Nat.le_refl _, rfl, rfl, by omega, ?_, hF'.out, lF'.out, fun _ _ => rfl, ?_, grown_refl _ _⟩
    · rw [Nat.sub_self, val_zero]
    · rw [Nat.sub_self, val_zero]
  case round =>
    obtain ⟨j, R, G, hj, rfl, rfl, hR, hRe0, hblk0, hlim0, hz0, hval0, hgr0⟩ := hrel
    have hRe := Lib.hid hRe0; have hblk := Lib.hid hblk0; have hlim := Lib.hid hlim0; have hz := Lib.hid hz0; have hval := Lib.hid hval0; have hgr := Lib.hid hgr0
    clear hRe0 hblk0 hlim0 hz0 hval0 hgr0
    by_cases h0 : j = 0
    · subst h0
      go_wp2_with fail
      go_ret
      refine ⟨R, G, ?_, rfl, hblk.out, hlim.out, ?_, hgr.out⟩
      · rw [hRe.out]; congr 1; exact val_congr (fun t _ => by rw [Nat.zero_add])
      · have e := hval.out
        rw [val_congr (f := fun t => G (0 + t)) (g := G) (fun t _ => by rw [Nat.zero_add]), val_congr (f := fun t => F (0 + t)) (g := F) (fun t _ => by rw [Nat.zero_add])] at e
        exact e
    · obtain ⟨s, rfl⟩ : ∃ s, j = s + 1 := ⟨j - 1, by omega⟩
      have hcell := hblk.out.cell s (by omega)
      have hfree := hblk.out.free s
      have bG := hlim.out s (by omega)
      have eG := Lib.hid (hz.out s (by omega))
      have hor := or_shift R (G s) (by omega) (by omega) (by omega) (by omega)
      have hq : (R * 4294967296 + G s) / 1000000000 < 4294967296 := by omega
      clear h0
      go_wp2_with fail
      go_roundw
      case rel =>
        have en : n - s = n - (s + 1) + 1 := by omega
        obtain ⟨d1, d2, d3⟩ := short_div (U := val (fun t => F (s + 1 + t)) (n - (s + 1))) (D := 1000000000) (x := F s) (by decide) (by rw [← eG.out]; exact bG)
        rw [← hRe.out, ← eG.out] at d1 d2
        refine ⟨s, (R * 4294967296 + G s) % 1000000000, put G s ((R * 4294967296 + G s) / 1000000000), by omega, int_eq (by omega), int_eq (by omega), by omega, ?_, hblk.out.set s (by omega) _ _ (by omega), put_lim hlim.out hq, ?_, ?_, grown_setCell hgr.out _ _⟩
        · rw [en, val_cons', ← eG.out, d2]
        · intro t ht
          rw [put_ne (by omega)]
          exact hz.out t (by omega)
        · rw [en, val_cons', val_cons', put_at, val_congr (f := fun t => put G s ((R * 4294967296 + G s) / 1000000000) (s + 1 + t)) (g := fun t => G (s + 1 + t)) (fun t _ => put_ne (by omega)), hval.out, ← eG.out, d1]
      case measure => simp [intOf]

/-- nat.Norm's limbs lie in a block of their own. -/
def OwnPost (v : Nat) (w : World) (e : Ending) (w' : World) : Prop :=
  ∃ (B k : Nat) (f : Nat → Nat), e = .returned (.slice (some ⟨B, 0, none⟩) k k) ∧ w.heap.size ≤ B ∧ B < w'.heap.size ∧ Blk w' B k f ∧ Canon v k f ∧ Below w.heap.size w w'

set_option maxHeartbeats 400000 in
theorem norm_own (ao : Option Addr) (n nc : Nat) (f : Nat → Nat) (w : World) (A : Arg w ao n nc f) :
    Calls Tryz.prog 37 #[.slice ao n nc] w (OwnPost (val f n) w) := by
  obtain ⟨hn, hnc, hnb, hf, lf⟩ := A
  obtain ⟨i32, hi, hz0, hz1, hz2⟩ := info_parts info32
  go_enter Tryz.func37, Tryz.ntmps37
  go_wp2_with fail
  refine (trim_any ao n nc f w hn (by omega) hf).mono ?_
  rintro e w' ⟨k, hk, rfl, htf0, hvf0, rfl⟩
  have htf := Lib.hid htf0; have hvf := Lib.hid hvf0; clear htf0 hvf0
  go_wp2_with (at_make; refine wpList_make_full _ rfl (.tmp 7) (.tmp 7) 22 rfl w.heap.size 35 i32 (.int .u32 0) 1 Tryz.underlying22 hi hz0 hz1 .i64 .i64 _ _ k rfl rfl rfl rfl (by rw [hz2]; omega) (by unfold maxLen; omega) (Nat.le_refl _) ?_)
  intro w1 hown hgrow
  have hheap := heap_of_made hown
  have hsl1 := (hf.mono hk).grown (b := w.heap.size) (hf.mono hk).off (grown_any hgrow _)
  have hbel : Below w.heap.size w w1 := (Below.refl _ w).grown hgrow (Nat.le_refl _) (fun _ h => by cases h)
  obtain ⟨cs, hcs0⟩ : ∃ cs, cs = limbCells f k := ⟨_, rfl⟩
  have hlen : cs.length = k := by rw [hcs0, limbCells_length]
  have hlen' := Lib.hid hlen
  have hone : ∀ v ∈ cs, v.oneCell' = true := by rw [hcs0]; exact limbCells_one f k
  have hat : 0 < cs.length → (some (⟨w.heap.size, 0, none⟩ : Addr)) = some ⟨w.heap.size, 0, none⟩ ∧ ∃ ad, ao = some ad ∧ ∀ j v, cs[j]? = some v → w1.cell? (ad.add j) = some v := by
    rw [hcs0]; exact fun h => ⟨rfl, hsl1.cellsAt h⟩
  have hheap' := Lib.hid hheap
  have hcs := Lib.hid hcs0
  clear hcs0 hown hheap hlen
  go_wp2_with (with_reducible refine wpList_copy_splice rfl (.tmp 9) (.tmp 10) 22 22 rfl 35 Tryz.underlying22 size32 (some ⟨w.heap.size, 0, none⟩) ao k k k nc rfl rfl w.heap.size 0 (List.replicate k (Value.int .u32 0)) 35 hheap'.out cs ?c1 hat ?c2 hone w.heap.size w hbel (Nat.le_refl _) ?_)
  case c1 => simp [hlen'.out]
  case c2 => simp [hlen'.out]
  intro w2 hg2 hb2
  go_wp2_with fail
  go_ret
  have hblk : Blk w2 w.heap.size k f := Blk.of_heap hg2.out (fun j hj => by
    have e : splice (List.replicate k (Value.int .u32 0)) 0 cs = cs := by simp [splice, hlen'.out]
    rw [e, hcs.out, limbCells_get f k j hj])
  exact ⟨w.heap.size, k, f, rfl, Nat.le_refl _, (Array.getElem?_eq_some_iff.1 hg2.out).1, hblk, ⟨lf.mono hk, htf.out, hvf.out⟩, hb2⟩

/-- A block of bytes of the call's own. -/
structure Byt (w : World) (b N : Nat) (F : Nat → Nat) : Prop where
  cell : ∀ j, j < N → w.cell? ⟨b, j, none⟩ = some (.int .u8 (F j))
  free : ∀ j, w.frozen? ⟨b, j, none⟩ = false

set_option maxHeartbeats 400000 in
theorem trimByte_any (b n cap : Nat) (F : Nat → Nat) (w : World) (hcap : n ≤ cap) (hmax : cap ≤ 9223372036854775807) (hc : ∀ j, j < n → w.cell? ⟨b, j, none⟩ = some (.int .u8 (F j))) :
    Calls Tryz.prog 60 #[.slice (some ⟨b, 0, none⟩) n cap, .int .u8 48] w fun e w' => ∃ k, k ≤ n ∧ e = .returned (.slice (some ⟨b, 0, none⟩) k cap) ∧ (k = 0 ∨ F (k - 1) ≠ 48) ∧ (∀ t, k ≤ t → t < n → F t = 48) ∧ w = w' := by
  go_enter Tryz.func60, Tryz.ntmps60
  go_wp2
  go_loop [0] (fun a => ∃ k : Nat, k ≤ n ∧ a = .slice (some ⟨b, 0, none⟩) k cap ∧ (∀ t, k ≤ t → t < n → F t = 48)) (fun a => lenOf a)
  case atStart => exact ⟨n, Nat.le_refl _, rfl, fun t h1 h2 => by omega⟩
  case round =>
    obtain ⟨k, hk, rfl, hv0⟩ := hrel
    have hv := Lib.hid hv0; clear hv0
    by_cases h0 : k = 0
    · subst h0
      go_wp2
      go_ret
      exact ⟨0, Nat.zero_le _, rfl, .inl rfl, hv.out, rfl⟩
    · have hpos : 0 < k := by omega
      have hcell := hc (k - 1) (by omega)
      clear hc
      by_cases hz : F (k - 1) = 48
      · have hzi : ((F (k - 1) : Int) == 48) = true := by simp [hz]
        have hz' := Lib.hid hz; clear hz
        go_wp2
        go_round
        case rel =>
          refine ⟨k - 1, by omega, rfl, fun t h1 h2 => ?_⟩
          by_cases ht : t = k - 1
          · rw [ht]; exact hz'.out
          · exact hv.out t (by omega) h2
        case measure => simp [lenOf]; omega
      · have hzi : ((F (k - 1) : Int) == 48) = false := by rw [beq_eq_false_iff_ne]; omega
        go_wp2
        go_ret
        exact ⟨k, hk, rfl, .inr hz, hv.out, rfl⟩

set_option maxHeartbeats 400000 in
theorem trimRight_any (b n cap : Nat) (F : Nat → Nat) (w : World) (hcap : n ≤ cap) (hmax : cap ≤ 9223372036854775807) (hc : ∀ j, j < n → w.cell? ⟨b, j, none⟩ = some (.int .u8 (F j))) (hn : 0 < n) :
    Calls Tryz.prog 40 #[.slice (some ⟨b, 0, none⟩) n cap, .string { data := #[48] }] w fun e w' => ∃ k, k ≤ n ∧ e = .returned (.slice (some ⟨b, 0, none⟩) k cap) ∧ (k = 0 ∨ F (k - 1) ≠ 48) ∧ (∀ t, k ≤ t → t < n → F t = 48) ∧ w = w' := by
  have hc' := Lib.hid hc
  have hn0 : ((n : Int) == 0) = false := by rw [beq_eq_false_iff_ne]; omega
  have h48 : ((({ data := #[48] } : ByteArray)[0]'(by decide)).toNat) = 48 := rfl
  clear hc
  go_enter Tryz.func40, Tryz.ntmps40
  go_wp2_with fail
  refine (trimByte_any b n cap F w hcap hmax hc'.out).mono ?_
  rintro e w' ⟨k, hk, rfl, ht0, hz0, rfl⟩
  have ht := Lib.hid ht0; have hz := Lib.hid hz0
  clear ht0 hz0
  go_wp2_with fail
  go_ret
  exact ⟨k, hk, rfl, ht.out, hz.out, rfl⟩

set_option maxHeartbeats 400000 in
theorem trimRight_none (w : World) :
    Calls Tryz.prog 40 #[.slice none 0 0, .string { data := #[48] }] w fun e w' => e = .returned (.slice none 0 0) ∧ w = w' := by
  go_enter Tryz.func40, Tryz.ntmps40
  go_wp2_with fail
  go_ret
  exact ⟨rfl, rfl⟩

theorem Byt.set {w : World} {b N : Nat} {F : Nat → Nat} (h : Byt w b N F) (i : Nat) (hi : i < N) (v : Int) (x : Nat) (hv : v = (x : Int)) : Byt (w.setCell ⟨b, i, none⟩ (.int .u8 v)) b N (put F i x) := by
  subst hv
  refine ⟨fun j hj => ?_, fun j => by rw [World.frozen?_setCell]; exact h.free j⟩
  by_cases c : j = i
  · subst c
    rw [put_at]
    exact World.cell?_setCell_same _ _ _ (h.cell j hj)
  · rw [put_ne c, World.cell?_setCell_other _ _ _ _ (fun e => c (by injection e with _ e2; exact e2.symm))]
    exact h.cell j hj

set_option maxHeartbeats 1000000 in
theorem reverse_any (b n cap : Nat) (F : Nat → Nat) (w : World) (hn : n ≤ 1000000) (hF : Byt w b n F) :
    Calls Tryz.prog 41 #[.slice (some ⟨b, 0, none⟩) n cap] w fun e w' => ∃ G, e = .returned (.tuple #[]) ∧ Byt w' b n G ∧ (∀ t, t < n → G t = F (n - 1 - t)) ∧ w.grownBy w' (some b) := by
  have hF' := Lib.hid hF
  clear hF
  go_enter Tryz.func41, Tryz.ntmps41
  go_wp2_with fail
  go_loopw [2, 3] (fun i k wr => ∃ (j : Nat) (G : Nat → Nat), 2 * j ≤ n + 1 ∧ i = .int .i64 j ∧ k = .int .i64 ((n : Int) - 1 - j) ∧ Byt wr b n G ∧ (∀ t, t < n → (t < j ∨ n - j ≤ t) → G t = F (n - 1 - t)) ∧ (∀ t, j ≤ t → t < n - j → G t = F t) ∧ w.grownBy wr (some b))
    (fun i _ _ => n + 1 - (intOf i).toNat)
  case atStart => exact ⟨0, F, by omega, rfl, int_eq (by omega), hF'.out, fun t h1 h2 => by omega, fun _ _ _ => rfl, grown_refl _ _⟩
  case round =>
    obtain ⟨j, G, hj, rfl, rfl, hblk0, hout0, hin0, hgr0⟩ := hrel
    have hblk := Lib.hid hblk0; have hout := Lib.hid hout0; have hin := Lib.hid hin0; have hgr := Lib.hid hgr0
    clear hblk0 hout0 hin0 hgr0
    by_cases hlt : 2 * j + 1 < n
    · have c1 := hblk.out.cell j (by omega)
      have c2 := hblk.out.cell (n - 1 - j) (by omega)
      have f1 := hblk.out.free j
      have f2 := hblk.out.free (n - 1 - j)
      have e1 : ((n : Int) - 1 - j).toNat = n - 1 - j := by omega
      go_wp2_with fail
      go_region
      go_wp2_with fail
      go_roundw
      case rel =>
        have hb2 := (hblk.out.set j (by omega) (G (n - 1 - j) : Int) (G (n - 1 - j)) rfl).set (n - 1 - j) (by omega) (G j : Int) (G j) rfl
        refine ⟨j + 1, put (put G j (G (n - 1 - j))) (n - 1 - j) (G j), by omega, by go_num, int_eq (by omega), ⟨hb2.cell, hb2.free⟩, ?_, ?_, grown_drew (grown_setCell (grown_setCell hgr.out _ _) _ _)⟩
        · intro t h1 h2
          by_cases t1 : t = n - 1 - j
          · rw [t1, put_at, hin.out j (Nat.le_refl _) (by omega)]
            congr 1
            omega
          · rw [put_ne t1]
            by_cases t2 : t = j
            · rw [t2, put_at, hin.out (n - 1 - j) (by omega) (by omega)]
            · rw [put_ne t2]
              exact hout.out t h1 (by omega)
        · intro t h1 h2
          rw [put_ne (by omega), put_ne (by omega)]
          exact hin.out t (by omega) (by omega)
      case measure => simp [intOf]; omega
    · go_wp2_with fail
      go_end0
      refine ⟨G, rfl, hblk.out, fun t ht => ?_, hgr.out⟩
      by_cases c : t < j ∨ n - j ≤ t
      · exact hout.out t ht c
      · rw [hin.out t (by omega) (by omega)]
        congr 1
        omega

end Go.Proofs.YtokdaagjkhkinaaGreatDoor

namespace Go.Proofs.YtokdaagjkhkinaaGreatDoor
open Go.RowKit Num

theorem info8 : (Tryz.prog.info? 5).map (fun i => (i.zero, i.size, i.bytes)) = some (some (.int .u8 0), 1, 1) := by kernel_rfl

/-- n bytes as cells. -/
def byteCells (F : Nat → Nat) (n : Nat) : List Value := (List.range n).map fun j => .int .u8 (F j)

theorem byteCells_length (F : Nat → Nat) (n : Nat) : (byteCells F n).length = n := by simp [byteCells]

theorem byteCells_get (F : Nat → Nat) (n j : Nat) (h : j < n) : (byteCells F n)[j]? = some (.int .u8 (F j)) := by simp [byteCells, h]

theorem byteCells_snoc (F : Nat → Nat) (j x : Nat) (v : Int) (h : v = (x : Int)) : byteCells F j ++ [Value.int .u8 v] = byteCells (put F j x) (j + 1) := by
  subst h
  unfold byteCells
  rw [List.range_succ, List.map_append]
  congr 1
  · exact List.map_congr_left fun t ht => by rw [put_ne (by have := List.mem_range.1 ht; omega)]
  · simp [put_at]

theorem byteCells_congr {F G : Nat → Nat} {n : Nat} (h : ∀ j, j < n → F j = G j) : byteCells F n = byteCells G n :=
  List.map_congr_left fun j hj => by rw [h j (List.mem_range.1 hj)]

theorem new_at (w : World) (v : Value) (t : TypeId) : ∀ j u, [v][j]? = some u → (w.alloc (.cells #[v] t)).cell? ((⟨w.heap.size, 0, none⟩ : Addr).add j) = some u := by
  intro j u h
  match j, h with
  | 0, h =>
    simp at h
    subst h
    simp [Addr.add]

/-- One byte more behind those that the call's own slice holds. -/
theorem wpList_append_byte {P : Program} {w0 : World} {ops : Array Oper} {rest : List Oper} {o : Oper} {a : Act} {Q : Exit → Act → World → Prop} (hgd : o.guard = none) (s x : Operand) (t : TypeId)
    (ho : o.op = .call { callee := .builtin .append, args := #[s, x], argTypes := #[t, t] }) (base : Nat) (e : TypeId) (i : TypeInfo) (ht : P.underlying t = some (.slice e)) (hi : P.info? e = some i)
    (hz : i.zero = some (Value.int .u8 0)) (h1 : i.size = 1) (h4 : i.bytes = 1) (v : Value) (n : Nat) (F : Nat → Nat) (tt : TypeId) (z : Int) (y : Nat) (hs : a.eval s = v) (hx : a.eval x = .slice (some ⟨w0.heap.size, 0, none⟩) 1 1)
    (hown : w0.ownsRow base e 1 v n (byteCells F n)) (hzy : z = (y : Int)) (hn : n ≤ 1000000) (hb : base ≤ w0.heap.size)
    (h : ∀ v' w', w'.ownsRow base e 1 v' (n + 1) (byteCells (put F n y) (n + 1)) → Below base w0 w' → wpList P ops Q rest (a.put o.dst v') w') :
    wpList P ops Q (o :: rest) a (w0.alloc (.cells #[.int .u8 z] tt)) := by
  refine wpList_append_own _ hgd s x t ho base e i (.int .u8 0) 1 1 ht hi hz h1 h4 rfl (by decide) v n (byteCells F n) hs (hown.alloc _) ⟨w0.heap.size, 0, none⟩ 1 1 [.int .u8 z] hx rfl (new_at w0 _ tt) ?_ (by unfold maxLen; omega) (by omega) (by simp; omega) ?_
  · intro u hu
    simp at hu
    subst hu
    rfl
  · intro v' w' hown' hgr _
    rw [byteCells_snoc F n y z hzy] at hown'
    refine h v' w' hown' ?_
    exact ((Below.refl base w0).alloc hb _).grown hgr (by simp; omega) (fun k hk => (hown.lt k hk).1)

theorem owns_kept {w w' : World} {base n b : Nat} {t : TypeId} {v : Value} {xs : List Value} (h : w.ownsRow base t 1 v n xs) (hg : w.grownBy w' (some b)) (hb : b < base) : w'.ownsRow base t 1 v n xs := by
  refine h.kept hg ?_
  cases hv : v.ownBlock with
  | none => exact .inl rfl
  | some k =>
    refine .inr (fun e => ?_)
    cases e
    have := (h.lt b hv).1
    omega

theorem owns_bytes {w : World} {base n : Nat} {t : TypeId} {v : Value} {F : Nat → Nat} (h : w.ownsRow base t 1 v n (byteCells F n)) (hn : 0 < n) :
    ∃ g cap, v = .slice (some ⟨g, 0, none⟩) n cap ∧ n ≤ cap ∧ cap ≤ 9223372036854775807 ∧ base ≤ g ∧ Byt w g n F := by
  rcases h.2 with ⟨_, hn0⟩ | ⟨g, cap, cur, hv, hb, hg, hnc, hcm, hcs, ht⟩
  · omega
  · subst hv
    exact ⟨g, cap, rfl, hnc, by unfold maxLen at hcm; omega, hb, fun j hj => by rw [h.cellAt j (by omega), byteCells_get F n j hj], fun j => h.frozenAt j⟩

theorem Num.dval_trim {d : Nat → Nat} {k L : Nat} (hk : k ≤ L) (hz : ∀ t, k ≤ t → t < L → d t = 0) : dval d L = dval d k := by
  induction L with
  | zero => obtain rfl : k = 0 := by omega
            rfl
  | succ L ih =>
    by_cases c : k = L + 1
    · rw [c]
    · rw [dval_nought (hz L (by omega) (by omega)), ih (by omega) (fun t a b => hz t a (by omega))]

theorem Num.group_step {d : Nat → Nat} {M G T V : Nat} (h : dval d M + 10 ^ M * G + T = V) : dval (put d M (G % 10)) (M + 1) + 10 ^ (M + 1) * (G / 10) + T = V := by
  rw [dval_put_succ, ten_succ]
  have e := Nat.mod_add_div G 10
  have e1 : 10 ^ M * G = G % 10 * 10 ^ M + 10 * 10 ^ M * (G / 10) := by
    have : 10 ^ M * G = 10 ^ M * (G % 10 + 10 * (G / 10)) := by rw [e]
    rw [this, Nat.mul_add, Nat.mul_comm (10 ^ M) (G % 10), ← Nat.mul_assoc, Nat.mul_comm (10 ^ M) 10]
  omega

theorem Num.ten_few {L M : Nat} (h : 10 ^ L < pw M) : L < 32 * M := by
  rw [pw_two'] at h
  have b : (2 : Nat) ^ (32 * M) ≤ 10 ^ (32 * M) := Nat.pow_le_pow_left (by decide) _
  exact (Nat.pow_lt_pow_iff_right (by decide)).1 (Nat.lt_of_lt_of_le h b)

theorem Num.dec_few {d : Nat → Nat} {L V V0 M : Nat} (h : dval d L + 10 ^ L * V = V0) (hV : 0 < V) (h0 : V0 < pw M) : L < 32 * M := by
  have a : 10 ^ L * 1 ≤ 10 ^ L * V := Nat.mul_le_mul_left _ hV
  exact ten_few (by omega)

theorem byteCells_put (d : Nat → Nat) (n x : Nat) : byteCells (put (fun j => 48 + d j) n (48 + x)) (n + 1) = byteCells (fun j => 48 + put d n x j) (n + 1) :=
  byteCells_congr fun j _ => by
    by_cases c : j = n
    · rw [c, put_at, put_at]
    · rw [put_ne c, put_ne c]

def TextPost (V : Nat) (w : World) (e : Ending) (w' : World) : Prop :=
  ∃ (k : Nat) (d : Nat → Nat) (s : ByteArray), e = .returned (.string s) ∧ Dcan V k d ∧ s.data.toList = decText d k ∧ Below w.heap.size w w'

set_option maxRecDepth 20000 in
set_option maxHeartbeats 4000000 in
theorem text_any (ao : Option Addr) (n nc : Nat) (f : Nat → Nat) (w : World) (A : Arg w ao n nc f) (M : Nat) (h40 : n ≤ M) (hM : M ≤ 400) :
    Calls Tryz.prog 19 #[.slice ao n nc] w (TextPost (val f n) w) := by
  obtain ⟨i8, hi, hz0, hz1, hz2⟩ := info_parts info8
  have hV0 : val f n < pw M := Nat.lt_of_lt_of_le (val_lt A.lim) (pw_le h40)
  have hA := Lib.hid A
  clear A
  obtain ⟨V0, hV⟩ : ∃ V0, V0 = val f n := ⟨_, rfl⟩
  rw [← hV] at hV0 ⊢
  have hV' := Lib.hid hV; have hVs := Lib.hid hV0
  clear hV hV0
  go_enter Tryz.func19, Tryz.ntmps19
  go_wp2_with fail
  refine (norm_own ao n nc f w hA.out).mono ?_
  rw [← hV'.out]
  rintro e w1 ⟨B, K, F0, rfl, hB, hB1, hblk0, hcan0, hbel0⟩
  have hblk1 := Lib.hid hblk0; have hcan1 := Lib.hid hcan0; have hbel1 := Lib.hid hbel0
  have hK : K ≤ M := hcan0.len_le hVs.out
  clear hblk0 hcan0 hbel0
  go_wp2_with fail
  go_loopg [3, 4] V0 (fun V dv rv wr => ∃ (L k : Nat) (F d : Nat → Nat), rv = .slice (some ⟨B, 0, none⟩) k K ∧ k ≤ K ∧ Blk wr B k F ∧ Canon V k F ∧ wr.ownsRow w1.heap.size 5 1 dv L (byteCells (fun j => 48 + d j) L) ∧ Dig d L ∧
      dval d L + 10 ^ L * V = V0 ∧ (L = 0 → dv = .slice none 0 0) ∧ Below w.heap.size w wr ∧ w1.heap.size ≤ wr.heap.size)
  case atStart =>
    exact ⟨0, K, F0, fun _ => 0, rfl, Nat.le_refl _, hblk1.out, hcan1.out, World.ownsRow_nil _ _ _ _, fun j h => by omega, by simp [dval], fun _ => rfl, hbel1.out, Nat.le_refl _⟩
  case round =>
    obtain ⟨L, k, F, d, rfl, hk, hblk0, hcan0, hown0, hdig0, hval0, hnil0, hbel0, hsz⟩ := hrel
    have hblk := Lib.hid hblk0; have hcan := Lib.hid hcan0; have hown := Lib.hid hown0; have hdig := Lib.hid hdig0; have hval := Lib.hid hval0; have hnil := Lib.hid hnil0; have hbel := Lib.hid hbel0
    clear hblk0 hcan0 hown0 hdig0 hval0 hnil0 hbel0
    by_cases h0 : k = 0
    · subst h0
      have hg0 : gk = 0 := hcan.out.ne_zero.1 rfl
      have hd1 := Lib.hid (show dval d L = V0 by have := hval.out; rw [hg0, Nat.mul_zero] at this; exact this)
      by_cases hL0 : L = 0
      · subst hL0
        have hu := hnil.out rfl
        subst hu
        go_wp2_with fail
        refine (trimRight_none wr).mono ?_
        rintro e w' ⟨rfl, rfl⟩
        go_wp2_with fail
        go_ret
        exact ⟨0, d, _, rfl, ⟨fun j h => by omega, .inl rfl, hd1.out⟩, rfl, hbel.out⟩
      · obtain ⟨g, cap, rfl, hcap, hmax, hg, hbyt0⟩ := owns_bytes hown.out (Nat.pos_of_ne_zero hL0)
        have hbyt := Lib.hid hbyt0
        clear hbyt0
        go_wp2_with fail
        refine (trimRight_any g L cap _ wr hcap hmax hbyt.out.cell (Nat.pos_of_ne_zero hL0)).mono ?_
        rintro e w' ⟨k, hk', rfl, ht0, hz0, rfl⟩
        have hval2 := Lib.hid ((dval_trim hk' (fun t a b => by have := hz0 t a b; omega)).symm.trans hd1.out)
        have htop : Top d k := ht0.imp id (fun h => by omega)
        have hdig2 := Lib.hid (hdig.out.mono hk')
        clear hz0
        by_cases hk0 : k = 0
        · subst hk0
          go_wp2_with fail
          go_ret
          exact ⟨0, d, _, rfl, ⟨hdig2.out, .inl rfl, hval2.out⟩, rfl, hbel.out⟩
        · have hkl : k - 1 < 32 * M := ten_few (Nat.lt_of_le_of_lt (dval_ge (n := k - 1) (htop.resolve_left hk0)) (by rw [show k - 1 + 1 = k by omega, hval2.out]; exact hVs.out))
          have htop' := Lib.hid htop
          have hkz : ((k : Int) == 0) = false := by rw [beq_eq_false_iff_ne]; omega
          clear htop ht0
          go_wp2_with fail
          refine (reverse_any g k cap _ wr (by omega) ⟨fun j hj => hbyt.out.cell j (by omega), hbyt.out.free⟩).mono ?_
          rintro e w5 ⟨G, rfl, hbyt5, hG, hgr5⟩
          have hb5 := Lib.hid hbyt5; have hG' := Lib.hid hG
          have hbel5 := Lib.hid (hbel.out.grown hgr5 hbel.out.size (fun q hq => by cases hq; omega))
          clear hbyt5 hG hgr5
          have hconv := run_convert_bytes_arg (P := Tryz.prog) w5 64 5 Tryz.underlying64 Tryz.underlying5 g 0 k cap ((List.range k).map fun j => (G j : Int)) (by simp) (fun i hi => by simp [hi]; exact hb5.out.cell i hi) 9 Tryz.underlying9
          go_wp2_with fail
          go_ret
          refine ⟨k, d, _, rfl, ⟨hdig2.out, htop'.out, hval2.out⟩, ?_, hbel5.out⟩
          rw [strOfNums_data]
          unfold decText digBytes
          rw [if_neg hk0, List.map_map]
          exact List.map_congr_left fun j hj => by
            simp only [Function.comp, Int.toNat_natCast]
            rw [hG'.out j (List.mem_range.1 hj)]
    · have hg0 : 0 < gk := Nat.pos_of_ne_zero (fun e => h0 (hcan.out.ne_zero.2 e))
      have hL := dec_few (M := M) hval.out hg0 hVs.out
      have hkp : 0 < k := by omega
      go_wp2_with fail
      refine (takeGroup_any B k K F wr (by omega) hblk.out hcan.out.lim).mono ?_
      rw [hcan.out.val]
      rintro e w2 ⟨r, F', hr0, rfl, hblk0, hlim0, hval0, hgr0⟩
      have hr := Lib.hid hr0; have hblk2 := Lib.hid hblk0; have hlim2 := Lib.hid hlim0; have hval2 := Lib.hid hval0; have hgr2 := Lib.hid hgr0
      have hrl : r < 1000000000 := by rw [hr0]; exact Nat.mod_lt _ (by decide)
      have hown2 := Lib.hid (owns_kept hown.out hgr0 hB1)
      have hbel2 := Lib.hid (hbel.out.grown hgr0 hbel.out.size (fun q hq => by cases hq; exact hB))
      have hsz2 : w1.heap.size ≤ w2.heap.size := Nat.le_trans hsz hgr0.size
      clear hr0 hblk0 hlim0 hval0 hgr0
      go_wp2_with fail
      obtain ⟨wo, hwo⟩ : ∃ wo : World, wo = wr := ⟨_, rfl⟩
      obtain ⟨q, hq0⟩ : ∃ q, q = gk / 1000000000 := ⟨_, rfl⟩
      have hq := Lib.hid hq0
      clear hwo hq0
      go_loopw [3, 5, 15] (fun dv gv iv wr => ∃ (c G : Nat) (e : Nat → Nat), c ≤ 9 ∧ iv = .int .i64 c ∧ gv = .int .u32 G ∧ G < 10 ^ (9 - c) ∧ wr.ownsRow w1.heap.size 5 1 dv (L + c) (byteCells (fun j => 48 + e j) (L + c)) ∧ Dig e (L + c) ∧
          dval e (L + c) + 10 ^ (L + c) * G + 10 ^ (L + 9) * q = V0 ∧ Below w1.heap.size w2 wr) (fun _ _ iv _ => 9 - (intOf iv).toNat)
      case atStart =>
        refine ⟨0, r, d, by omega, rfl, rfl, hrl, hown2.out, hdig.out, ?_, Below.refl _ _⟩
        have e1 := hval.out
        have e2 := Nat.mod_add_div gk 1000000000
        rw [← hr.out, ← hq.out] at e2
        rw [← e2, Nat.mul_add, ← Nat.mul_assoc] at e1
        rw [Nat.add_zero, Nat.pow_add, show (10 : Nat) ^ 9 = 1000000000 from rfl]
        omega
      case round =>
        obtain ⟨c, G, e, hc, rfl, rfl, hG, hown0, hdig0, hval0, hbel0⟩ := hrel
        have hown3 := Lib.hid hown0; have hdig3 := Lib.hid hdig0; have hval3 := Lib.hid hval0; have hbel3 := Lib.hid hbel0; have hG' := Lib.hid hG
        have hGl : G < 1000000000 := by
          have : (10 : Nat) ^ (9 - c) ≤ 10 ^ 9 := ten_le (by omega)
          have e9 : (10 : Nat) ^ 9 = 1000000000 := rfl
          omega
        clear hown0 hdig0 hval0 hbel0 hG
        by_cases hlt : c < 9
        · go_wp2_with (at_builtin; refine wpList_append_byte rfl (.tmp 17) (.tmp 22) 64 rfl w1.heap.size 5 i8 Tryz.underlying64 hi hz0 hz1 hz2 _ (L + c) (fun j => 48 + e j) _ _ (48 + G % 10) rfl rfl hown3.out (by omega) (by omega) (Nat.le_trans hsz2 hbel3.out.size) ?_)
          intro v' w4 hown1 hb1
          rw [byteCells_put] at hown1
          have hown4 := Lib.hid hown1; have hbel4 := Lib.hid (hbel3.out.trans hb1)
          clear hown1 hb1
          go_wp2_with fail
          go_roundw
          case rel =>
            refine ⟨c + 1, G / 10, put e (L + c) (G % 10), by omega, by go_num, int_eq (by omega), ?_, hown4.out, put_dig hdig3.out (Nat.mod_lt _ (by decide)), group_step hval3.out, hbel4.out⟩
            have h1 := hG'.out
            rw [show 9 - c = 9 - (c + 1) + 1 by omega, ten_succ] at h1
            omega
          case measure => simp [intOf]; omega
        · obtain rfl : c = 9 := by omega
          have hG0 := Lib.hid (show G = 0 by have := hG'.out; simp at this; exact this)
          have hblk3 := Lib.hid (hblk2.out.below hbel3.out hB1)
          go_wp2_with fail
          refine (trim_any (some ⟨B, 0, none⟩) k K F' _ hk (by omega) (Sl.of_blk0 hblk3.out k (Nat.le_refl _))).mono ?_
          rintro e' w' ⟨p, hp, rfl, htp0, hvp0, rfl⟩
          have htp := Lib.hid htp0; have hvp := Lib.hid hvp0; clear htp0 hvp0
          go_wp2_with fail
          go_roundg q
          case measure => rw [hq.out]; exact Nat.div_lt_self hg0 (by decide)
          case rel =>
            refine ⟨L + 9, p, F', e, rfl, by omega, hblk3.out.mono hp, ⟨hlim2.out.mono hp, htp.out, ?_⟩, hown3.out, hdig3.out, ?_, fun h => by omega, hbel2.out.trans (hbel3.out.mono hbel1.out.size), Nat.le_trans hsz2 hbel3.out.size⟩
            · rw [hvp.out, hval2.out, hq.out]
            · have e1 := hval3.out
              rw [hG0.out, Nat.mul_zero, Nat.add_zero] at e1
              exact e1

end Go.Proofs.YtokdaagjkhkinaaGreatDoor

namespace Go.Proofs.YtokdaagjkhkinaaGreatDoor
open Go.RowKit Num

/-- The j-th byte; 0: there is none. -/
def byt (s : ByteArray) (j : Nat) : Nat := (s.data.toList.getD j 0).toNat

theorem byt_at (s : ByteArray) (j : Nat) (h : j < s.size) : (s[j]'h).toNat = byt s j := by
  unfold byt
  rw [List.getD_eq_getElem?_getD, List.getElem?_eq_getElem (by simpa using h)]
  rfl

theorem byt_lt (s : ByteArray) (j : Nat) : byt s j < 256 := UInt8.toNat_lt _

/-- Is it a number's text? -/
def IsT (s : ByteArray) : Prop := 0 < s.size ∧ (∀ j, j < s.size → 48 ≤ byt s j ∧ byt s j ≤ 57) ∧ (s.size = 1 ∨ byt s 0 ≠ 48)

set_option maxRecDepth 20000 in
set_option maxHeartbeats 1000000 in
theorem isText_any (s : ByteArray) (hs : s.size ≤ 1000000) (w : World) :
    Calls Tryz.prog 77 #[.string s] w fun e w' => (e = .returned (.bool false) ∧ ¬ IsT s ∨ e = .returned (.bool true) ∧ IsT s) ∧ w = w' := by
  go_enter Tryz.func77, Tryz.ntmps77
  go_wp2_with fail
  go_loop [6] (fun i => ∃ j : Nat, j ≤ s.size ∧ i = .int .i64 j ∧ ∀ t, t < j → 48 ≤ byt s t ∧ byt s t ≤ 57) (fun i => s.size - (intOf i).toNat)
  case atStart => exact ⟨0, Nat.zero_le _, rfl, fun t h => by omega⟩
  case round =>
    obtain ⟨j, hj, rfl, hd0⟩ := hrel
    have hd := Lib.hid hd0; clear hd0
    by_cases hlt : j < s.size
    · have hb := byt_at s j hlt
      by_cases c1 : byt s j < 48
      · go_wp2_with fail
        go_ret
        exact ⟨.inl ⟨rfl, fun h => by have := h.2.1 j hlt; omega⟩, rfl⟩
      · by_cases c2 : 57 < byt s j
        · go_wp2_with fail
          go_ret
          exact ⟨.inl ⟨rfl, fun h => by have := h.2.1 j hlt; omega⟩, rfl⟩
        · go_wp2_with fail
          go_round
          case rel =>
            refine ⟨j + 1, by omega, by go_num, fun t ht => ?_⟩
            by_cases e : t = j
            · rw [e]; omega
            · exact hd.out t (by omega)
          case measure => simp [intOf]; omega
    · obtain rfl : j = s.size := by omega
      have hl : s.toList = s.data.toList := ByteArray.toList_eq s
      have hn : s.data.toList.length = s.size := by rw [Array.length_toList]; rfl
      by_cases e0 : s.size = 0
      · have hz : s.toList = [] := by rw [hl]; exact List.eq_nil_of_length_eq_zero (by omega)
        have h1 : (s.toList == [48]) = false := by rw [hz]; rfl
        have h2 : s.toList.isEmpty = true := by rw [hz]; rfl
        clear hl hn hz
        go_wp2_with fail
        go_ret
        exact ⟨.inl ⟨rfl, fun h => by have := h.1; omega⟩, rfl⟩
      · have h2 : s.toList.isEmpty = false := by
          rw [hl]
          cases h : s.data.toList with
          | nil => rw [h] at hn; simp at hn; omega
          | cons x xs => rfl
        have h3 := byt_at s 0 (Nat.pos_of_ne_zero e0)
        by_cases e1 : s.toList = [48]
        · have h1 : (s.toList == [48]) = true := by rw [e1]; rfl
          have hs1 : s.size = 1 := by rw [← hn, ← hl, e1]; rfl
          clear hl hn
          go_wp2_with fail
          go_ret
          exact ⟨.inr ⟨rfl, by omega, hd.out, .inl hs1⟩, rfl⟩
        · have h1 : (s.toList == [48]) = false := by simpa using e1
          by_cases e2 : byt s 0 = 48
          · have h4 : ((byt s 0 : Int) != 48) = false := by simp [e2]
            have hne : Hid (¬ IsT s) := Lib.hid <| by
              intro h
              rcases h.2.2 with g | g
              · refine e1 (hl.trans ?_)
                obtain ⟨x, hx⟩ := List.length_eq_one_iff.1 (hn.trans g)
                unfold byt at e2
                rw [hx] at e2
                simp at e2
                have e3 : x = 48 := UInt8.toNat_inj.1 e2
                rw [hx, e3]
              · exact g e2
            clear hl hn e1 e2
            go_wp2_with fail
            go_ret
            exact ⟨.inl ⟨rfl, hne.out⟩, rfl⟩
          · have h4 : ((byt s 0 : Int) != 48) = true := by simp; omega
            clear hl hn e1
            go_wp2_with fail
            go_ret
            exact ⟨.inr ⟨rfl, by omega, hd.out, .inr e2⟩, rfl⟩

end Go.Proofs.YtokdaagjkhkinaaGreatDoor

namespace Go.Proofs.YtokdaagjkhkinaaGreatDoor
open Go.RowKit Num

theorem bne_toNat {c : Nat} (h : c ≤ 1) : ((c : Int) != 0).toNat = c := by
  have : c = 0 ∨ c = 1 := by omega
  rcases this with rfl | rfl <;> rfl

/-- takeTimes: in a block of N limbs the m + 1 limbs from off on become themselves less x times the other number, and 2^(32 (m + 1)) if that is below 0. -/
def TakePost (b N off m x : Nat) (F g : Nat → Nat) (w : World) (e : Ending) (w' : World) : Prop :=
  ∃ (B : Bool) (F' : Nat → Nat), e = .returned (.bool B) ∧ Blk w' b N F' ∧ Lim F' N ∧ (∀ j, (j < off ∨ off + (m + 1) ≤ j) → F' j = F j) ∧
    val (fun j => F' (off + j)) (m + 1) + x * val g m = val (fun j => F (off + j)) (m + 1) + B.toNat * pw (m + 1) ∧ w.grownBy w' (some b)

set_option maxHeartbeats 1000000 in
theorem takeTimes_any (b N off m cs : Nat) (bo : Option Addr) (mc x : Nat) (F g : Nat → Nat) (w : World) (hN : off + (m + 1) ≤ N) (hmb : m ≤ 1000000)
    (hF : Blk w b N F) (lF : Lim F N) (hg : Sl w bo m g) (hi : Off b bo m) (lg : Lim g m) (hx : x < 4294967296) :
    Calls Tryz.prog 106 #[.slice (some ⟨b, off, none⟩) (m + 1) cs, .slice bo m mc, .int .u32 x] w (TakePost b N off m x F g w) := by
  have hF' := Lib.hid hF; have lF' := Lib.hid lF; have hg' := Lib.hid hg; have hi' := Lib.hid hi; have lg' := Lib.hid lg
  clear hF lF hg hi lg
  go_enter Tryz.func106, Tryz.ntmps106
  go_wp2_with fail
  go_loopw [7, 16] (fun cv i wr => ∃ (k : Nat) (G : Nat → Nat) (c : Nat), k ≤ m ∧ i = .int .i64 k ∧ cv = .int .u64 c ∧ c < 4294967296 ∧ Blk wr b N G ∧ Lim G N ∧ (∀ j, (j < off ∨ off + k ≤ j) → G j = F j) ∧
      val (fun j => G (off + j)) k + x * val g k = val (fun j => F (off + j)) k + c * pw k ∧ w.grownBy wr (some b))
    (fun _ i _ => m - (intOf i).toNat)
  case atStart => exact ⟨0, F, 0, Nat.zero_le _, rfl, rfl, by omega, hF'.out, lF'.out, fun _ _ => rfl, rfl, grown_refl _ _⟩
  case round =>
    obtain ⟨k, G, c, hk, rfl, rfl, hc, hblk1, hlim1, hsame1, hval1, hgr1⟩ := hrel
    have hlim := Lib.hid hlim1; have hval := Lib.hid hval1; have hgr := Lib.hid hgr1; have hblk := Lib.hid hblk1; have hsame := Lib.hid hsame1; clear hlim1 hval1 hgr1 hblk1 hsame1
    by_cases hlt : k < m
    · have hcell := hblk.out.cell (off + k) (by omega)
      have hfree := hblk.out.free (off + k)
      have bG := hlim.out (off + k) (by omega)
      have bg := lg'.out k hlt
      have hfit0 := (take_carry hc hx bg bG 0 (.inl rfl)).1
      have hsgr := hg'.out.grown hi'.out hgr.out
      rcases hsgr with h | ⟨b2, off2, rfl, hcg⟩
      · omega
      have hcg' := hcg k hlt
      clear hcg
      have hne : b2 ≠ b := by
        rcases hi'.out with h | h
        · omega
        · exact h _ rfl
      obtain ⟨P, hP⟩ : ∃ P, P = x * g k := ⟨_, rfl⟩
      have hPi : (x : Int) * (g k : Int) = (P : Int) := by rw [hP]; exact (Int.natCast_mul x (g k)).symm
      rw [← hP] at hfit0
      have hP' := Lib.hid hP; clear hP
      have bl : (c + P) % 4294967296 < 4294967296 := Nat.mod_lt _ (by decide)
      go_wp2_with fail
      rw [show ((c : Int) + (P : Int)) % 4294967296 = (((c + P) % 4294967296 : Nat) : Int) by omega]
      refine (sub32_nat0 (G (off + k)) ((c + P) % 4294967296) wr bG bl).mono ?_
      rintro e w' ⟨rfl, rfl⟩
      obtain ⟨q1, q2, q3⟩ := sub_eq bG bl (Nat.zero_le 1)
      have hb : subC (G (off + k)) ((c + P) % 4294967296) 0 = 0 ∨ (subC (G (off + k)) ((c + P) % 4294967296) 0 = 1 ∧ G (off + k) < (c + x * g k) % 4294967296) := by
        rw [← hP'.out]; unfold subC; split
        · exact .inl rfl
        · exact .inr ⟨rfl, by omega⟩
      have hfit1 := (take_carry hc hx bg bG _ hb).2
      rw [← hP'.out] at hfit1
      have hb' := Lib.hid hb; clear hb
      have q1' := Lib.hid q1; clear q1
      go_wp2_with fail
      go_roundw
      case rel =>
        refine ⟨k + 1, put G (off + k) (subD (G (off + k)) ((c + P) % 4294967296) 0), (c + P) / 4294967296 + subC (G (off + k)) ((c + P) % 4294967296) 0, by omega, by go_num, int_eq (by omega), by omega,
          hblk.out.set (off + k) (by omega) _ _ rfl, put_lim hlim.out q2, ?_, ?_, grown_setCell hgr.out _ _⟩
        · intro j hj
          rw [put_ne (by omega)]
          exact hsame.out j (by omega)
        · have e1 : val (fun j => put G (off + k) (subD (G (off + k)) ((c + P) % 4294967296) 0) (off + j)) k = val (fun j => G (off + j)) k := val_congr fun j hj => put_ne (by omega)
          have e2 : G (off + k) = F (off + k) := hsame.out _ (by omega)
          have e3 := q1'.out
          rw [val_succ, val_succ, val_succ, pw_succ, e1, put_at, ← e2]
          refine take_step (b := subC (G (off + k)) ((c + P) % 4294967296) 0) hval.out ?_ ?_
          · rw [← hP'.out]; omega
          · rw [← hP'.out]
      case measure => simp [intOf]; omega
    · obtain rfl : k = m := by omega
      have hcell := hblk.out.cell (off + k) (by omega)
      have hfree := hblk.out.free (off + k)
      have bG := hlim.out (off + k) (by omega)
      go_wp2_with fail
      refine (sub32_nat0 (G (off + k)) c wr bG hc).mono ?_
      rintro e w' ⟨rfl, rfl⟩
      obtain ⟨q1, q2, q3⟩ := sub_eq bG hc (Nat.zero_le 1)
      have q1' := Lib.hid q1; clear q1
      go_wp2_with fail
      go_ret
      refine ⟨_, put G (off + k) (subD (G (off + k)) c 0), rfl, hblk.out.set (off + k) (by omega) _ _ rfl, put_lim hlim.out q2, ?_, ?_, grown_setCell hgr.out _ _⟩
      · intro j hj
        rw [put_ne (by omega)]
        exact hsame.out j (by omega)
      · have e1 : val (fun j => put G (off + k) (subD (G (off + k)) c 0) (off + j)) k = val (fun j => G (off + j)) k := val_congr fun j hj => put_ne (by omega)
        have e2 : G (off + k) = F (off + k) := hsame.out _ (by omega)
        rw [bne_toNat q3, val_succ, val_succ, e1, put_at, ← e2, pw_succ]
        have e3 := congrArg (· * pw k) q1'.out
        simp only [Nat.add_mul] at e3
        have e4 := hval.out
        have e5 : subC (G (off + k)) c 0 * (4294967296 * pw k) = 4294967296 * subC (G (off + k)) c 0 * pw k := by rw [Nat.mul_left_comm, Nat.mul_assoc]
        omega

/-- putBack: the m + 1 limbs from off on become themselves and the other number, less 2^(32 (m + 1)) if that is no less. -/
def BackPost (b N off m : Nat) (F g : Nat → Nat) (w : World) (e : Ending) (w' : World) : Prop :=
  ∃ (B : Bool) (F' : Nat → Nat), e = .returned (.bool B) ∧ Blk w' b N F' ∧ Lim F' N ∧ (∀ j, (j < off ∨ off + (m + 1) ≤ j) → F' j = F j) ∧
    val (fun j => F' (off + j)) (m + 1) + B.toNat * pw (m + 1) = val (fun j => F (off + j)) (m + 1) + val g m ∧ w.grownBy w' (some b)

set_option maxHeartbeats 1000000 in
theorem putBack_any (b N off m cs : Nat) (bo : Option Addr) (mc : Nat) (F g : Nat → Nat) (w : World) (hN : off + (m + 1) ≤ N) (hmb : m ≤ 1000000)
    (hF : Blk w b N F) (lF : Lim F N) (hg : Sl w bo m g) (hi : Off b bo m) (lg : Lim g m) :
    Calls Tryz.prog 107 #[.slice (some ⟨b, off, none⟩) (m + 1) cs, .slice bo m mc] w (BackPost b N off m F g w) := by
  have hF' := Lib.hid hF; have lF' := Lib.hid lF; have hg' := Lib.hid hg; have hi' := Lib.hid hi; have lg' := Lib.hid lg
  clear hF lF hg hi lg
  go_enter Tryz.func107, Tryz.ntmps107
  go_wp2_with fail
  go_loopw [5, 9] (fun cv i wr => ∃ (k : Nat) (G : Nat → Nat) (c : Nat), k ≤ m + 1 ∧ i = .int .i64 k ∧ cv = .int .u32 c ∧ c ≤ 1 ∧ Blk wr b N G ∧ Lim G N ∧ (∀ j, (j < off ∨ off + k ≤ j) → G j = F j) ∧
      val (fun j => G (off + j)) k + c * pw k = val (fun j => F (off + j)) k + val (at0 g m) k ∧ w.grownBy wr (some b))
    (fun _ i _ => m + 1 - (intOf i).toNat)
  case atStart => exact ⟨0, F, 0, Nat.zero_le _, rfl, rfl, by omega, hF'.out, lF'.out, fun _ _ => rfl, rfl, grown_refl _ _⟩
  case round =>
    obtain ⟨k, G, c, hk, rfl, rfl, hc, hblk1, hlim1, hsame1, hval1, hgr1⟩ := hrel
    have hlim := Lib.hid hlim1; have hval := Lib.hid hval1; have hgr := Lib.hid hgr1; have hblk := Lib.hid hblk1; have hsame := Lib.hid hsame1; clear hlim1 hval1 hgr1 hblk1 hsame1
    by_cases hlt : k < m + 1
    · have hcell := hblk.out.cell (off + k) (by omega)
      have hfree := hblk.out.free (off + k)
      have bG := hlim.out (off + k) (by omega)
      have bg := at0_lt lg'.out k
      have hsgr := Lib.hid (hg'.out.grown hi'.out hgr.out)
      go_wp2_with fail
      go_region_with (first
        | (go_at_call 103; refine (limb_any bo m mc k g _ (by omega) (by exact hsgr.out)).mono ?_; rintro e w' ⟨rfl, rfl⟩; rw [Int.toNat_natCast])
        | (go_at_call 121; refine (add32_any (G (off + k)) (at0 g m k) c _ (by omega) (by omega) (by omega) (by omega) (by omega) (by omega)).mono ?_; rintro e w' ⟨rfl, rfl⟩))
      all_goals
        go_wp2_with fail
        go_roundw
        case rel =>
          refine ⟨k + 1, put G (off + k) ((G (off + k) + at0 g m k + c) % 4294967296), (G (off + k) + at0 g m k + c) / 4294967296, by omega, by go_num, int_eq (by omega), by omega, ?_,
            put_lim hlim.out (Nat.mod_lt _ (by decide)), ?_, ?_, ?_⟩
          · first | exact (hblk.out.set (off + k) (by omega) _ _ (by omega)).drew | exact hblk.out.set (off + k) (by omega) _ _ (by omega)
          · intro j hj
            rw [put_ne (by omega)]
            exact hsame.out j (by omega)
          · have e1 : val (fun j => put G (off + k) ((G (off + k) + at0 g m k + c) % 4294967296) (off + j)) k = val (fun j => G (off + j)) k := val_congr fun j hj => put_ne (by omega)
            have e2 : G (off + k) = F (off + k) := hsame.out _ (by omega)
            rw [val_succ, val_succ, val_succ, pw_succ, e1, put_at, ← e2]
            exact sum_step hval.out (by omega)
          · first | exact grown_drew (grown_setCell hgr.out _ _) | exact grown_setCell hgr.out _ _
        case measure => simp [intOf]; omega
    · obtain rfl : k = m + 1 := by omega
      have e1 := hval.out
      rw [val_at0_ge (Nat.le_succ m)] at e1
      have e2 := Lib.hid e1
      clear e1
      go_wp2_with fail
      go_ret
      exact ⟨_, G, rfl, hblk.out, hlim.out, hsame.out, by rw [bne_toNat hc]; exact e2.out, hgr.out⟩

end Go.Proofs.YtokdaagjkhkinaaGreatDoor

namespace Go.Proofs.YtokdaagjkhkinaaGreatDoor.Num

theorem guess_ok {F g : Nat → Nat} {m : Nat} (lF : Lim F (m + 1 + 1)) (hlt : F (m + 1) < g m) :
    val F (m + 1 + 1) / val g (m + 1) ≤ (F (m + 1) * 4294967296 + F m) / g m := by
  have hg : 0 < g m := by omega
  have hp := pw_pos m
  rw [Nat.le_div_iff_mul_le hg]
  have h1 : val F (m + 1 + 1) / val g (m + 1) * val g (m + 1) ≤ val F (m + 1 + 1) := Nat.div_mul_le_self _ _
  have h2 : val F (m + 1 + 1) < (F (m + 1) * 4294967296 + F m + 1) * pw m := by
    have a := val_lt (lF.mono (show m ≤ m + 1 + 1 by omega))
    rw [val_succ, val_succ, pw_succ, Nat.add_mul, Nat.add_mul, Nat.mul_assoc]
    omega
  generalize val F (m + 1 + 1) / val g (m + 1) = q at *
  have h3 : q * (g m * pw m) ≤ q * val g (m + 1) := Nat.mul_le_mul_left _ (by rw [val_succ]; omega)
  have h4 : q * g m * pw m < (F (m + 1) * 4294967296 + F m + 1) * pw m := by
    rw [Nat.mul_assoc]; omega
  exact Nat.lt_succ_iff.1 ((Nat.mul_lt_mul_right hp).1 h4)

/-- Nothing is left to give back: the guess is the quotient. -/
theorem guess_done {T q D R : Nat} (h : T + q * D = R) (hq : R / D ≤ q) (hD : 0 < D) : q = R / D ∧ T = R % D := by
  have a : q ≤ R / D := by rw [Nat.le_div_iff_mul_le hD]; omega
  have e : q = R / D := by omega
  refine ⟨e, ?_⟩
  have := Nat.div_add_mod' R D
  rw [← e] at this
  omega

/-- Something is to be given back: the guess is too great. -/
theorem guess_great {T q D R P : Nat} (h : T + q * D = R + P) (hT : T < P) (hD : 0 < D) : R / D + 1 ≤ q := by
  rw [Nat.succ_le_iff, Nat.div_lt_iff_lt_mul hD]
  omega

theorem give_back {T T' q D R P B : Nat} (h : T + (q + 1) * D = R + P) (h' : T' + B * P = T + D) (hB : B ≤ 1) : T' + q * D = R + (1 - B) * P := by
  rw [Nat.add_mul] at h
  have : B = 0 ∨ B = 1 := by omega
  rcases this with rfl | rfl <;> omega

/-- A number below D times 2^(32 j) has nothing from limb j + m on, if D is of m limbs. -/
theorem high_noughts {F : Nat → Nat} {N j m D : Nat} (hD : D ≤ pw m) (h : val F N < D * pw j) : ∀ t, j + m ≤ t → t < N → F t = 0 := by
  intro t h1 h2
  apply Classical.byContradiction
  intro h0
  have a := val_ge h0
  have b : val F (t + 1) ≤ val F N := by
    obtain ⟨k, rfl⟩ := Nat.le.dest (show t + 1 ≤ N by omega)
    rw [val_add F (t + 1) k]
    omega
  have c : pw (j + m) ≤ pw t := pw_le h1
  have d : D * pw j ≤ pw m * pw j := Nat.mul_le_mul_right _ hD
  rw [pw_add, Nat.mul_comm] at c
  omega

theorem val_window {F : Nat → Nat} {N i k : Nat} (hk : i + k ≤ N) (hz : ∀ t, i + k ≤ t → t < N → F t = 0) : val F N = val F i + pw i * val (fun t => F (i + t)) k := by
  rw [← val_add]
  obtain ⟨d, rfl⟩ := Nat.le.dest hk
  rw [val_add F (i + k) d]
  have : val (fun t => F (i + k + t)) d = 0 := by
    rw [val_congr (g := fun _ => 0) (fun t ht => hz (i + k + t) (by omega) (by omega)), val_noughts]
  rw [this]; simp

theorem val_cons (h : Nat → Nat) (n : Nat) : val h (n + 1) = h 0 + 4294967296 * val (fun j => h (j + 1)) n := by
  have e := val_add h 1 n
  rw [Nat.add_comm 1 n] at e
  rw [e, val_congr (f := fun j => h (1 + j)) (g := fun j => h (j + 1)) (fun j _ => by rw [Nat.add_comm])]
  simp [val, pw]

/-- Where a division begins: what is divided is below the divisor times 2^(32 (t + 1)). -/
theorem div_start {x y u k l t : Nat} (hx : x < pw k) (hk : k = l + 1 + t) (hy : 2147483648 * pw l ≤ y) (hu : u < 32) : x * 2 ^ u < y * pw (t + 1) := by
  have h1 : (2 : Nat) ^ u ≤ 2147483648 := by
    have : (2 : Nat) ^ u ≤ 2 ^ 31 := Nat.pow_le_pow_right (by decide) (by omega)
    exact this
  have h2 : x * 2 ^ u < pw k * 2 ^ u := (Nat.mul_lt_mul_right (Nat.pow_pos (by decide))).2 hx
  have h3 : pw k * 2 ^ u ≤ pw k * 2147483648 := Nat.mul_le_mul_left _ h1
  have h4 : 2147483648 * pw l * pw (t + 1) ≤ y * pw (t + 1) := Nat.mul_le_mul_right _ hy
  rw [Nat.mul_assoc, ← pw_add] at h4
  have h5 : l + (t + 1) = k := by omega
  rw [h5, Nat.mul_comm] at h4
  omega

theorem lead_big {g : Nat → Nat} {l P : Nat} (h : 2147483648 ≤ g l * P) : 2147483648 * pw l ≤ val g (l + 1) * P := by
  rw [val_succ, Nat.add_mul]
  have h1 : 2147483648 * pw l ≤ g l * P * pw l := Nat.mul_le_mul_right _ h
  have h2 : g l * pw l * P = g l * P * pw l := Nat.mul_right_comm _ _ _
  omega

/-- One limb of the quotient. -/
theorem div_round {V V' L P Rw D Q A q : Nat} (hV : V = L + P * Rw) (hV' : V' = L + P * (Rw % D)) (hA : V + D * (P * 4294967296) * Q = A) (hq : q = Rw / D) (hL : L < P) (hD : 0 < D) :
    V' + D * P * (q + 4294967296 * Q) = A ∧ V' < D * P := by
  have e := Nat.div_add_mod Rw D
  have e1 : P * Rw = D * P * q + P * (Rw % D) := by
    rw [hq]
    have : P * Rw = P * (D * (Rw / D) + Rw % D) := by rw [e]
    rw [this, Nat.mul_add, ← Nat.mul_assoc, Nat.mul_comm P D]
  constructor
  · rw [Nat.mul_add]
    have e2 : D * P * (4294967296 * Q) = D * (P * 4294967296) * Q := by rw [← Nat.mul_assoc, Nat.mul_assoc D P]
    omega
  · have h1 : P * (Rw % D + 1) ≤ P * D := Nat.mul_le_mul_left _ (Nat.mod_lt _ hD)
    rw [Nat.mul_add, Nat.mul_comm P D] at h1
    omega

theorem div_window {V L P Rw D : Nat} (hV : V = L + P * Rw) (h : V < D * (P * 4294967296)) : Rw < 4294967296 * D := by
  have e : D * (P * 4294967296) = P * (4294967296 * D) := by rw [Nat.mul_left_comm, Nat.mul_comm D]
  rw [e, hV] at h
  have : P * Rw < P * (4294967296 * D) := by omega
  exact Nat.lt_of_mul_lt_mul_left this

/-- The whole division: by a divisor and a number, both moved up. -/
theorem div_whole {V D Q A x y u : Nat} (hA : V + D * Q = A) (hx : A = x * 2 ^ u) (hy : D = y * 2 ^ u) (hV : V < D) : Q = x / y ∧ V / 2 ^ u = x % y := by
  have hp : 0 < 2 ^ u := Nat.pow_pos (by decide)
  have hy0 : 0 < y := Nat.pos_of_ne_zero (fun e => by rw [hy, e] at hV; omega)
  have e1 : D * Q = y * Q * 2 ^ u := by rw [hy, Nat.mul_right_comm]
  have hQ : y * Q * 2 ^ u ≤ x * 2 ^ u := by omega
  have hQ' : y * Q ≤ x := Nat.le_of_mul_le_mul_right hQ hp
  have e2 : V = (x - y * Q) * 2 ^ u := by rw [Nat.sub_mul]; omega
  have e3 : V / 2 ^ u = x - y * Q := by rw [e2, Nat.mul_div_cancel _ hp]
  have lt : x - y * Q < y := by
    rw [e2, hy] at hV
    exact (Nat.mul_lt_mul_right hp).1 hV
  have := Nat.div_mod_unique (b := y) (a := x) (c := x - y * Q) (d := Q) hy0
  obtain ⟨a, b⟩ := this.2 ⟨by omega, lt⟩
  exact ⟨a.symm, by rw [e3, b]⟩

/-- Moved up till its top bit is 1, a number has as many limbs. -/
theorem lead_len {g : Nat → Nat} {m P : Nat} (lg : Lim g m) (h : g m * P < 4294967296) (hPE : ∃ E, P * E = 4294967296) : val g (m + 1) * P < pw (m + 1) := by
  obtain ⟨E, hE⟩ := hPE
  have hP : 0 < P := Nat.pos_of_ne_zero (fun e => by rw [e] at hE; simp at hE)
  have h1 : g m < E := by
    rw [← hE, Nat.mul_comm P] at h
    exact (Nat.mul_lt_mul_right hP).1 h
  have h2 : val g (m + 1) < (g m + 1) * pw m := by
    have := val_lt lg
    rw [val_succ, Nat.add_mul]; omega
  have h3 : (g m + 1) * pw m ≤ E * pw m := Nat.mul_le_mul_right _ h1
  have h4 : val g (m + 1) * P < E * pw m * P := (Nat.mul_lt_mul_right hP).2 (by omega)
  have h5 : E * pw m * P = pw (m + 1) := by rw [pw_succ, ← hE, Nat.mul_right_comm, Nat.mul_comm E]
  omega

end Go.Proofs.YtokdaagjkhkinaaGreatDoor.Num

namespace Go.Proofs.YtokdaagjkhkinaaGreatDoor
open Go.RowKit Num

/-- divideLimb, at a value R of the m + 1 limbs from off on, and a divisor D: it tells the quotient, and leaves the rest there. -/
def LimbPost (b N off m R D : Nat) (F : Nat → Nat) (w : World) (e : Ending) (w' : World) : Prop :=
  ∃ (q : Nat) (F' : Nat → Nat), q = R / D ∧ e = .returned (.int .u32 q) ∧ Blk w' b N F' ∧ Lim F' N ∧ (∀ j, (j < off ∨ off + (m + 1) ≤ j) → F' j = F j) ∧
    val (fun j => F' (off + j)) (m + 1) = R % D ∧ w.grownBy w' (some b)

set_option maxHeartbeats 2000000 in
theorem divideLimb_any (b N off m cs : Nat) (bo : Option Addr) (mc : Nat) (F g : Nat → Nat) (w : World) (hN : off + (m + 1 + 1) ≤ N) (hmb : m + 1 ≤ 1000000)
    (hF : Blk w b N F) (lF : Lim F N) (hg : Sl w bo (m + 1) g) (hi : Off b bo (m + 1)) (lg : Lim g (m + 1)) (hR : val (fun j => F (off + j)) (m + 1 + 1) < 4294967296 * val g (m + 1)) :
    Calls Tryz.prog 85 #[.slice (some ⟨b, off, none⟩) (m + 1 + 1) cs, .slice bo (m + 1) mc] w (LimbPost b N off (m + 1) (val (fun j => F (off + j)) (m + 1 + 1)) (val g (m + 1)) F w) := by
  have hD : 0 < val g (m + 1) := Nat.pos_of_ne_zero (fun e => by rw [e] at hR; omega)
  have hq0 : val (fun j => F (off + j)) (m + 1 + 1) / val g (m + 1) < 4294967296 := (Nat.div_lt_iff_lt_mul hD).2 hR
  obtain ⟨R, hR0⟩ : ∃ R, R = val (fun j => F (off + j)) (m + 1 + 1) := ⟨_, rfl⟩
  obtain ⟨D, hD0⟩ : ∃ D, D = val g (m + 1) := ⟨_, rfl⟩
  have hgs := @guess_ok (fun j => F (off + j)) g m (fun j hj => lF (off + j) (by omega))
  have c1 := hF.cell (off + (m + 1)) (by omega)
  have c2 := hF.cell (off + m) (by omega)
  have b1 := lF (off + (m + 1)) (by omega)
  have b2 := lF (off + m) (by omega)
  have b3 := lg m (by omega)
  rcases hg with h | ⟨b', off', rfl, hcg⟩
  · omega
  have c3 := hcg m (by omega)
  have hsl := Lib.hid (show Sl w (some ⟨b', off', none⟩) (m + 1) g from .inr ⟨b', off', rfl, hcg⟩)
  have hF' := Lib.hid hF; have lF' := Lib.hid lF; have hi' := Lib.hid hi; have lg' := Lib.hid lg; have hR' := Lib.hid hR0; have hD' := Lib.hid hD0
  rw [← hR0, ← hD0] at hq0 hR hgs
  rw [← hD0] at hD
  rw [← hR0, ← hD0]
  have hgs' := Lib.hid hgs
  have hq0' := Lib.hid hq0
  clear hcg hF lF hi lg hR0 hD0 hgs hR hq0
  by_cases hlt : F (off + (m + 1)) < g m
  focus
    obtain ⟨gq, hgq0⟩ : ∃ gq, gq = (F (off + (m + 1)) * 4294967296 + F (off + m)) / g m := ⟨_, rfl⟩
    have hgi : ((F (off + (m + 1)) : Int) * 4294967296 + (F (off + m) : Int)) / (g m : Int) = (gq : Int) := by rw [hgq0, Int.natCast_ediv, Int.natCast_add, Int.natCast_mul]; rfl
    have hgq : gq < 4294967296 := by
      rw [hgq0, Nat.div_lt_iff_lt_mul (by omega)]
      have : (F (off + (m + 1)) + 1) * 4294967296 ≤ g m * 4294967296 := Nat.mul_le_mul_right _ hlt
      omega
    have hgo : R / D ≤ gq := by rw [hgq0]; exact hgs'.out hlt
    have hgo' := Lib.hid hgo
    clear hgo hgq0
    go_enter Tryz.func85, Tryz.ntmps85
    go_wp2_with fail
    go_quiet (fail)
    go_wp2_with fail
    obtain ⟨w2, hw2⟩ : ∃ w2, w2 = w.drewN nq := ⟨_, rfl⟩
    have d1 : w2.cell? ⟨b, off + (m + 1), none⟩ = some (.int .u32 (F (off + (m + 1)))) := by rw [hw2]; exact c1
    have d2 : w2.cell? ⟨b, off + m, none⟩ = some (.int .u32 (F (off + m))) := by rw [hw2]; exact c2
    have d3 : w2.cell? ⟨b', off' + m, none⟩ = some (.int .u32 (g m)) := by rw [hw2]; exact c3
    rw [← hw2]
    have hw := Lib.hid hw2
    clear hw2 c1 c2 c3
    go_quiet ((go_at_call 105; exact Calls.quiet_of (div32_any _ _ _ _ (by omega) (by omega) (by omega) (by omega) (by omega) (by omega))))
    go_wp2_with fail
    clear d1 d2 d3 hgi
    obtain ⟨w3, hw3⟩ : ∃ w3, w3 = w2.drewN nq := ⟨_, rfl⟩
    rw [← hw3]
    have blk3 : Hid (Blk w3 b N F) := by rw [hw3, hw.out]; exact (hF'.out.drewN _).drewN _
    have sl3 : Hid (Sl w3 (some ⟨b', off', none⟩) (m + 1) g) := by rw [hw3, hw.out]; exact hsl.out.same (fun _ => rfl)
    have gr3 : Hid (w.grownBy w3 (some b)) := by rw [hw3, hw.out]; exact grown_drewN (grown_drewN (grown_refl _ _) _) _
    clear hw3 hw
  rotate_left
  focus
    obtain ⟨gq, hgq0⟩ : ∃ gq : Nat, gq = 4294967295 := ⟨_, rfl⟩
    have hgq : gq < 4294967296 := by omega
    have hgo' : Hid (R / D ≤ gq) := by have := hq0'.out; show R / D ≤ gq; omega
    have hgi : (4294967295 : Int) = (gq : Int) := by rw [hgq0]; rfl
    clear hgq0
    have hgi' := Lib.hid hgi
    clear hgi
    go_enter Tryz.func85, Tryz.ntmps85
    go_wp2_with fail
    go_quiet (fail)
    go_wp2_with fail
    clear c1 c2 c3
    obtain ⟨w3, hw3⟩ : ∃ w3, w3 = w.drewN nq := ⟨_, rfl⟩
    rw [← hw3, hgi'.out]
    have blk3 : Hid (Blk w3 b N F) := by rw [hw3]; exact hF'.out.drewN _
    have sl3 : Hid (Sl w3 (some ⟨b', off', none⟩) (m + 1) g) := by rw [hw3]; exact hsl.out.same (fun _ => rfl)
    have gr3 : Hid (w.grownBy w3 (some b)) := by rw [hw3]; exact grown_drewN (grown_refl _ _) _
    clear hw3 hgi'
  all_goals
    refine (takeTimes_any b N off (m + 1) cs (some ⟨b', off', none⟩) mc gq F g w3 hN (by omega) blk3.out lF'.out sl3.out hi'.out lg'.out hgq).mono ?_
    rintro e w4 ⟨B, G, rfl, hblk1, hlim1, hsame1, hval1, hgr1⟩
    have hlim := Lib.hid hlim1; have hval := Lib.hid hval1; have hgr := Lib.hid (grown_trans gr3.out hgr1); have hblk := Lib.hid hblk1; have hsame := Lib.hid hsame1
    clear hlim1 hval1 hgr1 hblk1 hsame1 gr3 sl3 blk3
    go_wp2_with fail
    go_loopw [6, 7] (fun gv bv wr => ∃ (q : Nat) (B : Bool) (G : Nat → Nat), gv = .int .u32 q ∧ bv = .bool B ∧ q < 4294967296 ∧ R / D ≤ q ∧ Blk wr b N G ∧ Lim G N ∧ (∀ j, (j < off ∨ off + (m + 1 + 1) ≤ j) → G j = F j) ∧
        val (fun j => G (off + j)) (m + 1 + 1) + q * D = R + B.toNat * pw (m + 1 + 1) ∧ w.grownBy wr (some b)) (fun gv _ _ => (intOf gv).toNat)
    case atStart =>
      refine ⟨gq, B, G, rfl, rfl, hgq, hgo'.out, hblk.out, hlim.out, hsame.out, ?_, hgr.out⟩
      rw [hD'.out, hR'.out]
      exact hval.out
    case round =>
      obtain ⟨q, C, H, rfl, rfl, hq, hqo1, hblk1, hlim1, hsame1, hval1, hgr1⟩ := hrel
      clear hblk hlim hsame hval hgr
      have hlim := Lib.hid hlim1; have hval := Lib.hid hval1; have hgr := Lib.hid hgr1; have hblk := Lib.hid hblk1; have hsame := Lib.hid hsame1; have hqo := Lib.hid hqo1
      clear hlim1 hval1 hgr1 hblk1 hsame1 hqo1
      have hT : val (fun j => H (off + j)) (m + 1 + 1) < pw (m + 1 + 1) := val_lt (fun j hj => hlim.out (off + j) (by omega))
      cases C
      · have e1 := hval.out
        rw [Bool.toNat_false, Nat.zero_mul, Nat.add_zero] at e1
        have e2 := Lib.hid (guess_done e1 hqo.out hD)
        clear e1 hT
        go_wp2_with fail
        go_ret
        exact ⟨q, H, e2.out.1, rfl, hblk.out, hlim.out, hsame.out, e2.out.2, hgr.out⟩
      · have e1 := hval.out
        rw [Bool.toNat_true, Nat.one_mul] at e1
        have e2 := Lib.hid (guess_great e1 hT hD)
        have q1 : 1 ≤ q := Nat.le_trans (Nat.succ_le_succ (Nat.zero_le _)) e2.out
        have e3 := Lib.hid e1
        clear e1 hT
        have slr := hsl.out.grown hi'.out hgr.out
        go_wp2_with fail
        refine (putBack_any b N off (m + 1) cs (some ⟨b', off', none⟩) mc H g wr hN hmb hblk.out hlim.out slr hi'.out lg'.out).mono ?_
        rintro e w5 ⟨B2, G2, rfl, hblk2, hlim2, hsame2, hval2, hgr2⟩
        have hlim' := Lib.hid hlim2; have hval' := Lib.hid hval2; have hgr' := Lib.hid (grown_trans hgr.out hgr2); have hblk' := Lib.hid hblk2; have hsame' := Lib.hid hsame2
        clear hlim2 hval2 hgr2 hblk2 hsame2
        go_wp2_with fail
        go_roundw
        case rel =>
          refine ⟨q - 1, !B2, G2, int_eq (by omega), rfl, by omega, Nat.le_sub_of_add_le e2.out, hblk'.out, hlim'.out, fun j hj => (hsame'.out j hj).trans (hsame.out j hj), ?_, hgr'.out⟩
          have e4 := hval'.out
          rw [← hD'.out] at e4
          have e5 := e3.out
          have eq1 : q = q - 1 + 1 := by omega
          rw [eq1] at e5
          have e6 := give_back e5 e4 (by cases B2 <;> decide)
          rw [e6]
          cases B2 <;> rfl
        case measure => simp [intOf]; omega

end Go.Proofs.YtokdaagjkhkinaaGreatDoor

namespace Go.Proofs.YtokdaagjkhkinaaGreatDoor
open Go.RowKit Num

/-- moveUp: new limbs, one more. -/
def UpPost (n v : Nat) (w : World) (e : Ending) (w' : World) : Prop :=
  ∃ B F, e = .returned (.slice (some ⟨B, 0, none⟩) (n + 1) (n + 1)) ∧ w.heap.size ≤ B ∧ B < w'.heap.size ∧ Blk w' B (n + 1) F ∧ Lim F (n + 1) ∧ val F (n + 1) = v ∧ Below w.heap.size w w'

set_option maxHeartbeats 1000000 in
theorem moveUp_any (ao : Option Addr) (n nc u : Nat) (f : Nat → Nat) (w : World) (hu : u < 32) (A : Arg w ao n nc f) :
    Calls Tryz.prog 84 #[.slice ao n nc, .int .i64 u] w (UpPost n (val f n * 2 ^ u) w) := by
  obtain ⟨hn, hnc, hnb, hf, lf⟩ := A
  obtain ⟨i32, hi, hz0, hz1, hz2⟩ := info_parts info32
  go_enter Tryz.func84, Tryz.ntmps84
  go_wp2_with (at_make; refine wpList_make_full _ rfl (.tmp 11) (.tmp 11) 22 rfl w.heap.size 35 i32 (.int .u32 0) 1 Tryz.underlying22 hi hz0 hz1 .i64 .i64 _ _ (n + 1) rfl rfl (by omega) (by omega) (by rw [hz2]; omega) (by unfold maxLen; omega) (Nat.le_refl _) ?_)
  intro w1 hown hgrow
  have hblk0 := Lib.hid (Blk.of_made hown)
  have hgr0 := Lib.hid (grown_any hgrow (some w.heap.size))
  clear hown hgrow
  have hsf := Lib.hid hf; have hlf := Lib.hid lf
  clear hf lf
  go_wp2_with fail
  go_loopw [15] (fun i wr => ∃ (j : Nat) (F : Nat → Nat), j ≤ n ∧ i = .int .i64 j ∧ Blk wr w.heap.size (n + 1) F ∧ Lim F (n + 1) ∧ (∀ t, j < t → F t = 0) ∧ F j < 2 ^ u ∧ val F (j + 1) = val f j * 2 ^ u ∧ w.grownBy wr (some w.heap.size))
    (fun i _ => n - (intOf i).toNat)
  case atStart =>
    exact ⟨0, fun _ => 0, Nat.zero_le _, rfl, hblk0.out, fun j _ => (by decide : 0 < 4294967296), fun _ _ => rfl, Nat.pow_pos (by decide), by rw [val_succ, val_zero, val_zero]; simp, hgr0.out⟩
  case round =>
    obtain ⟨j, F, hj, rfl, hblk1, hlim1, hz1, hlow1, hval1, hgr1⟩ := hrel
    have hlim := Lib.hid hlim1; have hval := Lib.hid hval1; have hgr := Lib.hid hgr1; have hblk := Lib.hid hblk1; have hz := Lib.hid hz1; have hlow := Lib.hid hlow1; clear hlim1 hval1 hgr1 hblk1 hz1 hlow1
    have hsfr := hsf.out.grown hsf.out.off hgr.out
    by_cases hlt : j < n
    · rcases hsfr with h | ⟨b, off, rfl, hcf⟩
      · omega
      have hcf' := hcf j hlt
      have bf := hlf.out j hlt
      clear hcf
      have hcell := hblk.out.cell j (by omega)
      have hcell' := hblk.out.cell (j + 1) (by omega)
      have hfree := hblk.out.free j
      have hfree' := hblk.out.free (j + 1)
      go_wp2_with fail
      go_roundw
      case rel =>
        obtain ⟨b1, b2, b3⟩ := up_lo_lt hu bf hlow.out
        rw [up_lo hu bf hlow.out, up_hi hu bf]
        refine ⟨j + 1, put (put F j (F j + f j * 2 ^ u % 4294967296)) (j + 1) (f j * 2 ^ u / 4294967296), by omega, by go_num, (hblk.out.set j (by omega) _ _ rfl).set (j + 1) (by omega) _ _ rfl,
          put_lim (put_lim hlim.out b1) b3, ?_, ?_, ?_, grown_setCell (grown_setCell hgr.out _ _) _ _⟩
        · intro t ht
          rw [put_ne (by omega), put_ne (by omega)]
          exact hz.out t (by omega)
        · rw [put_at]; exact b2
        · rw [val_succ f]; exact up_round hval.out
      case measure => simp [intOf]; omega
    · obtain rfl : j = n := by omega
      have hB : w.heap.size < wr.heap.size := hblk.out.lt (by omega)
      go_wp2_with fail
      go_ret
      exact ⟨w.heap.size, F, rfl, Nat.le_refl _, hB, hblk.out, hlim.out, hval.out, grown_below hgr.out (Nat.le_refl _) (Nat.le_refl _)⟩

/-- moveDown, in its own limbs. -/
def DownPost (b n v : Nat) (w : World) (e : Ending) (w' : World) : Prop :=
  ∃ F, e = .returned (.tuple #[]) ∧ Blk w' b n F ∧ Lim F n ∧ val F n = v ∧ w.grownBy w' (some b)

set_option maxHeartbeats 1000000 in
theorem moveDown_any (b n u : Nat) (F : Nat → Nat) (w : World) (hn : n ≤ 1000001) (hu : u < 32) (hF : Blk w b n F) (lF : Lim F n) :
    Calls Tryz.prog 86 #[.slice (some ⟨b, 0, none⟩) n n, .int .i64 u] w (DownPost b n (val F n / 2 ^ u) w) := by
  have hF' := Lib.hid hF; have lF' := Lib.hid lF
  clear hF lF
  go_enter Tryz.func86, Tryz.ntmps86
  go_wp2_with fail
  go_loopw [9] (fun i wr => ∃ (j : Nat) (G : Nat → Nat), j ≤ n ∧ i = .int .i64 j ∧ Blk wr b n G ∧ Lim G n ∧ (∀ t, j ≤ t → G t = F t) ∧ (2 ^ u * val G j + at0 F n 0 % 2 ^ u = val F j + at0 F n j % 2 ^ u * pw j) ∧ w.grownBy wr (some b))
    (fun i _ => n - (intOf i).toNat)
  case atStart =>
    refine ⟨0, F, Nat.zero_le _, rfl, hF'.out, lF'.out, fun _ _ => rfl, ?_, grown_refl _ _⟩
    simp [pw, val]
  case round =>
    obtain ⟨j, G, hj, rfl, hblk1, hlim1, hz1, hval1, hgr1⟩ := hrel
    have hlim := Lib.hid hlim1; have hval := Lib.hid hval1; have hgr := Lib.hid hgr1; have hblk := Lib.hid hblk1; have hz := Lib.hid hz1; clear hlim1 hval1 hgr1 hblk1 hz1
    by_cases hlt : j < n
    · have hcell := hblk.out.cell j hlt
      have hfree := hblk.out.free j
      go_wp2_with fail
      refine (limb_any (some ⟨b, 0, none⟩) n n (j + 1) G wr (by omega) (Sl.of_blk0 hblk.out n (Nat.le_refl _))).mono ?_
      rintro e w' ⟨rfl, rfl⟩
      rw [show ((j : Int) + 1).toNat = j + 1 by omega]
      go_wp2_with fail
      have bh := at0_lt hlim.out (j + 1)
      have bl := hlim.out j hlt
      have eh : at0 G n (j + 1) = at0 F n (j + 1) := by
        unfold at0; split
        · exact hz.out _ (by omega)
        · rfl
      have el : G j = F j := hz.out j (Nat.le_refl _)
      go_roundw
      case rel =>
        rw [down_word hu bh bl]
        refine ⟨j + 1, put G j (at0 G n (j + 1) % 2 ^ u * 2 ^ (32 - u) + G j / 2 ^ u), by omega, by go_num, hblk.out.set j hlt _ _ rfl,
          put_lim hlim.out (down_limb (pow_parts hu) bl (Nat.pow_pos (by decide))).2, ?_, ?_, grown_setCell hgr.out _ _⟩
        · intro t ht
          rw [put_ne (by omega)]
          exact hz.out t (by omega)
        · have e := hval.out
          rw [at0_in hlt] at e
          rw [val_put_succ, val_succ, pw_succ, eh, el]
          exact down_step (pow_parts hu) e
      case measure => simp [intOf]; omega
    · obtain rfl : j = n := by omega
      go_wp2_with fail
      go_end0
      refine ⟨G, rfl, hblk.out, hlim.out, ?_, hgr.out⟩
      have e := hval.out
      rw [at0_out (Nat.le_refl _), Nat.zero_mod, Nat.zero_mul, Nat.add_zero] at e
      rw [← e, Nat.mul_add_div (Nat.pow_pos (by decide)), Nat.div_eq_of_lt (Nat.mod_lt _ (Nat.pow_pos (by decide))), Nat.add_zero]

end Go.Proofs.YtokdaagjkhkinaaGreatDoor

namespace Go.Proofs.YtokdaagjkhkinaaGreatDoor
open Go.RowKit Num

def DivPost (x y : Nat) (w : World) (e : Ending) (w' : World) : Prop :=
  Below w.heap.size w w' ∧ ((y = 0 ∧ e = .returned (.tuple #[.slice none 0 0, .slice none 0 0, .bool false])) ∨
    (y ≠ 0 ∧ ∃ ao n nc f bo m mc g, e = .returned (.tuple #[.slice ao n nc, .slice bo m mc, .bool true]) ∧ n ≤ nc ∧ nc ≤ 9223372036854775807 ∧ m ≤ mc ∧ mc ≤ 9223372036854775807 ∧
      Sl w' ao n f ∧ Canon (x / y) n f ∧ Sl w' bo m g ∧ Canon (x % y) m g))

set_option maxRecDepth 100000 in
set_option maxHeartbeats 2000000 in
theorem divMod_any (ao bo : Option Addr) (n nc m mc : Nat) (f g : Nat → Nat) (w : World) (A : Arg w ao n nc f) (B : Arg w bo m mc g) :
    Calls Tryz.prog 52 #[.slice ao n nc, .slice bo m mc] w (DivPost (val f n) (val g m) w) := by
  obtain ⟨hn, hnc, hnb, hf, lf⟩ := A
  obtain ⟨hm, hmc, hmb, hg, lg⟩ := B
  obtain ⟨i32, hi, hz0, hz1, hz2⟩ := info_parts info32
  go_enter Tryz.func52, Tryz.ntmps52
  go_wp2_with fail
  refine (trim_any ao n nc f w hn (by omega) hf).mono ?_
  rintro e w' ⟨k, hk, rfl, htf0, hvf0, rfl⟩
  have htf := Lib.hid htf0; have hvf := Lib.hid hvf0; clear htf0 hvf0
  go_wp2_with fail
  refine (trim_any bo m mc g w hm (by omega) hg).mono ?_
  rintro e w' ⟨l, hl, rfl, htg0, hvg0, rfl⟩
  have htg := Lib.hid htg0; have hvg := Lib.hid hvg0; clear htg0 hvg0
  have hsf := Lib.hid (hf.mono hk); have hsg := Lib.hid (hg.mono hl)
  have hlf := Lib.hid (lf.mono hk); have hlg := Lib.hid (lg.mono hl)
  clear hf hg lf lg
  by_cases hl0 : l = 0
  · subst hl0
    go_wp2_with fail
    go_ret3
    exact ⟨Below.refl _ _, .inl ⟨by rw [← hvg.out]; rfl, rfl⟩⟩
  have hgz : val g m ≠ 0 := by
    rw [← hvg.out]
    exact fun e => hl0 ((Canon.ne_zero ⟨hlg.out, htg.out, rfl⟩).2 e)
  by_cases hkl : k < l
  · have hxy : val f n < val g m := by rw [← hvf.out, ← hvg.out]; exact val_lt_of_len hlf.out htg.out hkl
    have hxy' := Lib.hid hxy; have hgz' := Lib.hid hgz
    clear hxy hgz
    go_wp2_with fail
    refine (norm_any ao k nc f w ⟨by omega, by omega, by omega, hsf.out, hlf.out⟩).mono ?_
    rintro e w1 ⟨co, q, qc, h, rfl, hq, hqc, hsh, hch, hbel⟩
    have hsh' := Lib.hid hsh; have hch' := Lib.hid hch; have hbel' := Lib.hid hbel
    clear hsh hch hbel
    go_wp2_with fail
    go_ret3
    refine ⟨hbel'.out, .inr ⟨hgz'.out, none, 0, 0, fun _ => 0, co, q, qc, h, rfl, Nat.le_refl _, by omega, hq, hqc, .inl rfl, ?_, hsh'.out, ?_⟩⟩
    · rw [Nat.div_eq_of_lt hxy'.out]; exact canon_zero _
    · rw [Nat.mod_eq_of_lt hxy'.out, ← hvf.out]; exact hch'.out
  obtain ⟨l, rfl⟩ : ∃ l', l = l' + 1 := ⟨l - 1, by omega⟩
  have hgz' := Lib.hid hgz
  clear hgz
  have htop : g l ≠ 0 := by
    rcases htg.out with h | h
    · omega
    · exact h
  have blg := hlg.out l (by omega)
  rcases hsg.out with h | ⟨b', off', hbo, hcg⟩
  · omega
  subst hbo
  have c1 := hcg l (by omega)
  clear hcg
  obtain ⟨u1, u2, u3⟩ := lead_fits (g l) htop blg
  obtain ⟨u, hu⟩ : ∃ u, u = lead (g l) := ⟨_, rfl⟩
  rw [← hu] at u1 u2 u3
  have u2' := Lib.hid u2; have u3' := Lib.hid u3
  clear u2 u3 htop
  have hu' := Lib.hid hu
  clear hu
  go_wp2_with fail
  refine (lead_any (g l) w blg).mono ?_
  rintro e w' ⟨rfl, rfl⟩
  rw [← hu'.out]
  go_wp2_with fail
  refine (moveUp_any ao k nc u f w u1 ⟨by omega, by omega, by omega, hsf.out, hlf.out⟩).mono ?_
  rintro e w1 ⟨B1, F1, rfl, hB1, hB1', hblk1, hlim1, hval1, hbel1⟩
  have hb1 := Lib.hid hblk1; have hl1 := Lib.hid hlim1; have hv1 := Lib.hid hval1; have hw1 := Lib.hid hbel1
  clear hblk1 hlim1 hval1 hbel1 c1
  go_wp2_with fail
  refine (moveUp_any (some ⟨b', off', none⟩) (l + 1) mc u g w1 u1 ⟨by omega, by omega, by omega, hsg.out.below hw1.out, hlg.out⟩).mono ?_
  rintro e w2 ⟨B2, F2, rfl, hB2, hB2', hblk2, hlim2, hval2, hbel2⟩
  have hb2 := Lib.hid hblk2; have hl2 := Lib.hid hlim2; have hv2 := Lib.hid hval2; have hw2 := Lib.hid (hw1.out.trans (hbel2.mono hw1.out.size)); have hb1' := Lib.hid (hb1.out.below hbel2 hB1')
  have hsz := hbel2.size
  clear hblk2 hlim2 hval2 hbel2 hb1
  go_wp2_with fail
  refine (trim_any (some ⟨B2, 0, none⟩) (l + 1 + 1) (l + 1 + 1) F2 w2 (Nat.le_refl _) (by omega) (Sl.of_blk0 hb2.out _ (Nat.le_refl _))).mono ?_
  rintro e w' ⟨d, hd, rfl, htd0, hvd0, rfl⟩
  have htd := Lib.hid htd0; have hvd := Lib.hid hvd0; clear htd0 hvd0
  have hDv : val F2 d = val g (l + 1) * 2 ^ u := hvd.out.trans hv2.out
  have hcanon : Canon (val g (l + 1) * 2 ^ u) d F2 := ⟨hl2.out.mono hd, htd.out, hDv⟩
  have hd1 : d ≤ l + 1 := hcanon.len_le (lead_len (hlg.out.mono (Nat.le_succ l)) u2'.out ⟨_, pow_parts u1⟩)
  have hd2 : l + 1 ≤ d := len_le_of_val_le (hl2.out.mono hd) htg.out (by rw [hDv]; exact Nat.le_mul_of_pos_right _ (Nat.pow_pos (by decide)))
  obtain rfl : d = l + 1 := by omega
  obtain ⟨t, ht⟩ : ∃ t, k = l + 1 + t := ⟨k - (l + 1), by omega⟩
  subst ht
  have hD1 : val F2 (l + 1) ≤ pw (l + 1) := Nat.le_of_lt (val_lt (hl2.out.mono hd))
  have hst := div_start (x := val f (l + 1 + t)) (y := val F2 (l + 1)) (u := u) (t := t) (val_lt hlf.out) rfl (by rw [hDv]; exact lead_big u3'.out) u1
  have hcan := Lib.hid hcanon; have hDv' := Lib.hid hDv; have hD1' := Lib.hid hD1; have hst' := Lib.hid hst
  have hDpos : 0 < val F2 (l + 1) := Nat.pos_of_ne_zero (fun e => by have := hst'.out; rw [e] at this; omega)
  have hDpos' := Lib.hid hDpos
  clear hDv hcanon hd1 hd2 hD1 hst hDpos
  go_wp2_with (at_make; refine wpList_make_full _ rfl (.tmp 45) (.tmp 45) 22 rfl w2.heap.size 35 i32 (.int .u32 0) 1 Tryz.underlying22 hi hz0 hz1 .i64 .i64 _ _ (t + 1) rfl rfl (by omega) (by omega) (by rw [hz2]; omega) (by unfold maxLen; omega) (Nat.le_refl _) ?_)
  intro w3 hown hgrow
  have hbl3 : Below w2.heap.size w2 w3 := (Below.refl _ w2).grown hgrow (Nat.le_refl _) (fun _ h => by cases h)
  have hb3 := Lib.hid (Blk.of_made hown)
  have hB3 : w2.heap.size < w3.heap.size := hb3.out.lt (by omega)
  have hb13 := Lib.hid (hb1'.out.below hbl3 (by omega))
  have hb23 := Lib.hid ((hb2.out.mono (Nat.le_succ (l + 1))).below hbl3 hB2')
  have hw3 := Lib.hid (hw2.out.trans (hbl3.mono hw2.out.size))
  obtain ⟨B3, hB30⟩ : ∃ B3, B3 = w2.heap.size := ⟨_, rfl⟩
  rw [← hB30] at hb3 hB3 hB2' ⊢
  have hsz1 := hw1.out.size
  have hne12 : B2 ≠ B1 := by omega
  have hne13 : B1 ≠ B3 := by omega
  have hne23 : B2 ≠ B3 := by omega
  have hle1 : w.heap.size ≤ B1 := hB1
  have hle3 : w.heap.size ≤ B3 := by have := hw2.out.size; omega
  clear hown hgrow hbl3 hB30
  obtain ⟨D, hD⟩ : ∃ D, D = val F2 (l + 1) := ⟨_, rfl⟩
  obtain ⟨A, hA⟩ : ∃ A, A = val f (l + 1 + t) * 2 ^ u := ⟨_, rfl⟩
  obtain ⟨NN, hNN⟩ : ∃ NN, NN = l + 1 + t + 1 := ⟨_, rfl⟩
  have hD' := Lib.hid hD; have hA' := Lib.hid hA; have hNN' := Lib.hid hNN
  have hN1 : NN ≤ 1000001 := by omega
  have hN2 : l + t + 2 ≤ NN := by omega
  have hN3 : NN ≤ l + t + 2 := by omega
  clear hD hA hNN
  go_wp2_with fail
  go_loopw [11] (fun i wr => ∃ (j : Nat) (F Q : Nat → Nat), j ≤ t + 1 ∧ i = .int .i64 ((j : Int) - 1) ∧ Blk wr B1 NN F ∧ Lim F NN ∧ Blk wr B3 (t + 1) Q ∧ Lim Q (t + 1) ∧ Blk wr B2 (l + 1) F2 ∧
      val F NN + D * pw j * val (fun s => Q (j + s)) (t + 1 - j) = A ∧ val F NN < D * pw j ∧ Below w.heap.size w wr) (fun i _ => (intOf i + 1).toNat)
  case atStart =>
    refine ⟨t + 1, F1, fun _ => 0, Nat.le_refl _, int_eq (by omega), by rw [hNN'.out]; exact hb13.out, by rw [hNN'.out]; exact hl1.out, hb3.out, fun j _ => (by decide : 0 < 4294967296), hb23.out, ?_, ?_, hw3.out⟩
    · rw [Nat.sub_self, val_zero, Nat.mul_zero, Nat.add_zero, hNN'.out, hv1.out, hA'.out]
    · rw [hNN'.out, hv1.out, hD'.out]; exact hst'.out
  case round =>
    obtain ⟨j, F, Q, hj, rfl, hbF1, hlF1, hbQ1, hlQ1, hbD1, hval1, hlt1, hbel1⟩ := hrel
    have hbF := Lib.hid hbF1; have hlF := Lib.hid hlF1; have hbQ := Lib.hid hbQ1; have hlQ := Lib.hid hlQ1; have hbD := Lib.hid hbD1; have hval := Lib.hid hval1; have hlt := Lib.hid hlt1; have hbel := Lib.hid hbel1
    clear hbF1 hlF1 hbQ1 hlQ1 hbD1 hval1 hlt1 hbel1
    have z1 : B1 < wr.heap.size := hbF.out.lt (by omega)
    have z2 : B2 < wr.heap.size := hbD.out.lt (by omega)
    have z3 : B3 < wr.heap.size := hbQ.out.lt (by omega)
    have hDD : D ≤ pw (l + 1) := by rw [hD'.out]; exact hD1'.out
    have hDP : 0 < D := by rw [hD'.out]; exact hDpos'.out
    have hDD' := Lib.hid hDD; clear hDD
    by_cases h0 : j = 0
    · subst h0
      have hfin := div_whole (V := val F NN) (D := D) (Q := val (fun s => Q (0 + s)) (t + 1 - 0)) (A := A) (x := val f (l + 1 + t)) (y := val g (l + 1)) (u := u) (by have := hval.out; rwa [show pw 0 = 1 from rfl, Nat.mul_one] at this) hA'.out
        (by rw [hD'.out]; exact hDv'.out) (by have := hlt.out; rwa [show pw 0 = 1 from rfl, Nat.mul_one] at this)
      rw [hvf.out, hvg.out] at hfin
      have hQe : val (fun s => Q (0 + s)) (t + 1 - 0) = val Q (t + 1) := val_congr (fun x _ => by rw [Nat.zero_add])
      rw [hQe] at hfin
      have hfin' := Lib.hid hfin
      clear hfin hQe
      rw [← hNN'.out]
      go_wp2_with fail
      refine (moveDown_any B1 NN u F wr (by omega) u1 hbF.out hlF.out).mono ?_
      rintro e w5 ⟨F3, rfl, hb5, hl5, hv5, hg5⟩
      have hb5' := Lib.hid hb5; have hl5' := Lib.hid hl5; have hv5' := Lib.hid hv5
      have hqq := Lib.hid (hbQ.out.kept z3 hg5 (Ne.symm hne13))
      have hbel5 := Lib.hid (hbel.out.grown hg5 (by have := hbel.out.size; omega) (fun k hk => by cases hk; exact hle1))
      clear hb5 hl5 hv5 hg5
      go_wp2_with fail
      refine (trim_any (some ⟨B3, 0, none⟩) (t + 1) (t + 1) Q w5 (Nat.le_refl _) (by omega) (Sl.of_blk0 hqq.out _ (Nat.le_refl _))).mono ?_
      rintro e w' ⟨q1, hq1, rfl, htq0, hvq0, rfl⟩
      have htq := Lib.hid htq0; have hvq := Lib.hid hvq0; clear htq0 hvq0
      go_wp2_with fail
      refine (trim_any (some ⟨B1, 0, none⟩) NN NN F3 w5 (Nat.le_refl _) (by omega) (Sl.of_blk0 hb5'.out _ (Nat.le_refl _))).mono ?_
      rintro e w' ⟨r1, hr1, rfl, htr0, hvr0, rfl⟩
      have htr := Lib.hid htr0; have hvr := Lib.hid hvr0; clear htr0 hvr0
      go_wp2_with fail
      go_ret3
      refine ⟨hbel5.out, .inr ⟨hgz'.out, some ⟨B3, 0, none⟩, q1, t + 1, Q, some ⟨B1, 0, none⟩, r1, NN, F3, rfl, hq1, by omega, hr1, by omega, Sl.of_blk0 hqq.out _ hq1, ?_, Sl.of_blk0 hb5'.out _ hr1, ?_⟩⟩
      · exact ⟨hlQ.out.mono hq1, htq.out, hvq.out.trans hfin'.out.1⟩
      · exact ⟨hl5'.out.mono hr1, htr.out, (hvr.out.trans hv5'.out).trans hfin'.out.2⟩
    · obtain ⟨s, rfl⟩ : ∃ s, j = s + 1 := ⟨j - 1, by omega⟩
      have hz := high_noughts hDD'.out hlt.out
      have hwin := val_window (F := F) (N := NN) (i := s) (k := l + 1 + 1) (by omega) (fun x h1 h2 => hz x (by omega) h2)
      have hRw := div_window (L := val F s) (P := pw s) (Rw := val (fun x => F (s + x)) (l + 1 + 1)) (D := D) hwin (by have := hlt.out; rw [pw_succ, Nat.mul_comm 4294967296] at this; exact this)
      have hz' := Lib.hid hz; have hwin' := Lib.hid hwin; have hRw' := Lib.hid hRw
      clear hz hwin hRw h0
      go_wp2_with fail
      rw [show s + (l + 1) + 1 - s = l + 1 + 1 by omega]
      refine (divideLimb_any B1 NN s l (l + 1 + t + 1 - s) (some ⟨B2, 0, none⟩) (l + 1 + 1) F F2 wr (by omega) (by omega) hbF.out hlF.out (Sl.of_blk0 hbD.out _ (Nat.le_refl _)) (.inr (fun a ha => by cases ha; exact hne12)) (hl2.out.mono (Nat.le_succ _)) (by rw [← hD'.out]; exact hRw'.out)).mono ?_
      rw [← hD'.out]
      rintro e w5 ⟨q, F', hq, rfl, hb5, hl5, hs5, hv5, hg5⟩
      have hq' := Lib.hid hq; have hb5' := Lib.hid hb5; have hl5' := Lib.hid hl5; have hs5' := Lib.hid hs5; have hv5' := Lib.hid hv5; have hg5' := Lib.hid hg5
      have hqq := Lib.hid (hbQ.out.kept z3 hg5 (Ne.symm hne13))
      have hdd := Lib.hid (hbD.out.kept z2 hg5 hne12)
      have hq4 : q < 4294967296 := by rw [hq]; exact (Nat.div_lt_iff_lt_mul hDP).2 hRw'.out
      have z35 : B3 < w5.heap.size := Nat.lt_of_lt_of_le z3 hg5.size
      have z15 : B1 < w5.heap.size := Nat.lt_of_lt_of_le z1 hg5.size
      have z25 : B2 < w5.heap.size := Nat.lt_of_lt_of_le z2 hg5.size
      clear hq hb5 hl5 hs5 hv5 hg5
      have hcell := hqq.out.cell s (by omega)
      have hfree := hqq.out.free s
      go_wp2_with fail
      go_roundw
      case rel =>
        have hg6 : w5.grownBy (w5.setCell ⟨B3, s, none⟩ (.int .u32 q)) (some B3) := grown_setCell (grown_refl _ _) _ _
        have hwin2 : val F' NN = val F' s + pw s * val (fun x => F' (s + x)) (l + 1 + 1) :=
          val_window (by omega) (fun x h1 h2 => (hs5'.out x (by omega)).trans (hz'.out x (by omega) h2))
        have hlow : val F' s = val F s := val_congr (fun x hx => hs5'.out x (by omega))
        rw [hlow, hv5'.out] at hwin2
        have hv := hval.out
        rw [pw_succ, Nat.mul_comm 4294967296] at hv
        obtain ⟨r1, r2⟩ := div_round hwin'.out hwin2 hv hq'.out (val_lt (hlF.out.mono (by omega))) hDP
        refine ⟨s, F', put Q s q, by omega, int_eq (by omega), hb5'.out.kept z15 hg6 hne13, hl5'.out, hqq.out.set s (by omega) _ _ rfl, put_lim hlQ.out hq4, hdd.out.kept z25 hg6 hne23, ?_, r2, ?_⟩
        · rw [← r1]
          have e : t + 1 - s = t + 1 - (s + 1) + 1 := by omega
          rw [e, val_cons, Nat.add_zero, put_at]
          have e3 : val (fun x => put Q s q (s + (x + 1))) (t + 1 - (s + 1)) = val (fun x => Q (s + 1 + x)) (t + 1 - (s + 1)) := val_congr (fun x _ => by rw [put_ne (by omega), show s + (x + 1) = s + 1 + x by omega])
          rw [e3]
        · exact (hbel.out.grown hg5'.out (by have := hbel.out.size; omega) (fun k hk => by cases hk; exact hle1)).grown hg6 (by have := hbel.out.size; have := hg5'.out.size; omega) (fun k hk => by cases hk; exact hle3)
      case measure => simp [intOf]

end Go.Proofs.YtokdaagjkhkinaaGreatDoor

namespace Go.Proofs.YtokdaagjkhkinaaGreatDoor
open Go.RowKit Num

theorem val_two {f : Nat → Nat} {n : Nat} (h : n ≤ 2) : at0 f n 1 * 4294967296 + at0 f n 0 = val f n := by
  rw [← val_at0_ge h]
  simp [val, pw]
  omega

set_option maxHeartbeats 400000 in
theorem word_any (ao : Option Addr) (n nc : Nat) (f : Nat → Nat) (w : World) (h2 : n ≤ 2) (hs : Sl w ao n f) (lf : Lim f n) :
    Calls Tryz.prog 82 #[.slice ao n nc] w fun e w' => e = .returned (.int .u64 (val f n)) ∧ w = w' := by
  have b0 := at0_lt lf 0
  have b1 := at0_lt lf 1
  have hor := or_shift (at0 f n 1) (at0 f n 0) (by omega) (by omega) (by omega) (by omega)
  have hv := Lib.hid (val_two (f := f) h2)
  go_enter Tryz.func82, Tryz.ntmps82
  go_wp2_with fail
  refine (limb_any ao n nc 1 f w (by omega) hs).mono ?_
  rintro e w' ⟨rfl, rfl⟩
  rw [show (1 : Int).toNat = 1 from rfl]
  go_wp2_with fail
  refine (limb_any ao n nc 0 f w (by omega) hs).mono ?_
  rintro e w' ⟨rfl, rfl⟩
  rw [show (0 : Int).toNat = 0 from rfl]
  go_wp2_with fail
  go_ret
  exact ⟨ret_num (by rw [← hv.out]; omega), rfl⟩

set_option maxHeartbeats 400000 in
theorem gcdOfWords_any (x y : Nat) (w : World) (hx : x < 18446744073709551616) (hy : y < 18446744073709551616) :
    Calls Tryz.prog 81 #[.int .u64 x, .int .u64 y] w fun e w' => e = .returned (.int .u64 (Nat.gcd x y)) ∧ ∃ q, w' = w.drewN q := by
  obtain ⟨G, hG0⟩ : ∃ G, G = Nat.gcd x y := ⟨_, rfl⟩
  rw [← hG0]
  have hG := Lib.hid hG0
  clear hG0
  go_enter Tryz.func81, Tryz.ntmps81
  go_wp2_with fail
  go_loopw [0, 1] (fun a b wr => ∃ u v : Nat, a = .int .u64 u ∧ b = .int .u64 v ∧ u < 18446744073709551616 ∧ v < 18446744073709551616 ∧ G = Nat.gcd u v ∧ ∃ q, wr = w.drewN q) (fun _ b _ => (intOf b).toNat)
  case atStart => exact ⟨x, y, rfl, rfl, hx, hy, hG.out, 0, rfl⟩
  case round =>
    obtain ⟨u, v, rfl, rfl, hu, hv, hg0, hq0⟩ := hrel
    have hg := Lib.hid hg0; have hq := Lib.hid hq0
    clear hg0 hq0
    by_cases h0 : v = 0
    · subst h0
      go_wp2_with fail
      go_ret
      exact ⟨ret_num (by rw [hg.out, Nat.gcd_zero_right]), hq.out⟩
    · have hb : ((v : Int) != 0) = true := by rw [bne_iff_ne]; omega
      have hm : (u : Int) % (v : Int) = ((u % v : Nat) : Int) := by omega
      have hm' := Lib.hid hm
      have hm0 : 0 ≤ (u : Int) % (v : Int) := by omega
      have hlt : u % v < v := Nat.mod_lt _ (by omega)
      clear hm
      go_wp2_with fail
      go_quiet (fail)
      go_wp2_with fail
      go_roundw
      case rel =>
        obtain ⟨q, hq'⟩ := hq.out
        exact ⟨v, u % v, rfl, int_eq hm'.out, hv, by omega, by rw [hg.out, Nat.gcd_comm, Nat.gcd_rec, Nat.gcd_comm], drewN_trans hq' _⟩
      case measure => simp [intOf]; omega

set_option maxHeartbeats 400000 in
theorem fromWord_any (x : Nat) (w : World) (hx : x < 18446744073709551616) :
    Calls Tryz.prog 80 #[.int .u64 x] w (NumPost x w) := by
  go_enter Tryz.func80, Tryz.ntmps80
  go_wp2_with fail
  obtain ⟨w1, hw1⟩ : ∃ w1, w1 = w.alloc (.cells #[.int .u32 ((x : Int) % 4294967296), .int .u32 ((x : Int) / 4294967296)] 35) := ⟨_, rfl⟩
  rw [← hw1]
  have hblk : Blk w1 w.heap.size 2 (put (put (fun _ => 0) 0 (x % 4294967296)) 1 (x / 4294967296)) := by
    refine ⟨fun j hj => ?_, fun j => ?_⟩
    · rw [hw1, World.cell?_alloc_new]
      have : j = 0 ∨ j = 1 := by omega
      rcases this with rfl | rfl
      · rw [put_ne (by decide), put_at]; simp
      · rw [put_at]; simp
    · rw [hw1, World.frozen?_alloc_new]
  have hbel : Below w.heap.size w w1 := by rw [hw1]; exact (Below.refl _ _).alloc (Nat.le_refl _) _
  have hsl := Lib.hid (Sl.of_blk0 hblk 2 (Nat.le_refl _)); have hbel' := Lib.hid hbel
  clear hblk hbel hw1
  refine (trim_any (some ⟨w.heap.size, 0, none⟩) 2 2 _ w1 (Nat.le_refl _) (by omega) hsl.out).mono ?_
  rintro e w' ⟨k, hk, rfl, htf0, hvf0, rfl⟩
  have htf := Lib.hid htf0; have hvf := Lib.hid hvf0; clear htf0 hvf0
  go_wp2_with fail
  go_ret
  refine ⟨_, k, 2, _, rfl, hk, by omega, hsl.out.mono hk, ⟨?_, htf.out, ?_⟩, hbel'.out⟩
  · refine Lim.mono (n := 2) (fun j hj => ?_) hk
    have : j = 0 ∨ j = 1 := by omega
    rcases this with rfl | rfl
    · rw [put_ne (by decide), put_at]; exact Nat.mod_lt _ (by decide)
    · rw [put_at]; omega
  · rw [hvf.out, val_succ, val_succ, val_zero, put_at, put_ne (by decide), put_at]
    simp [pw]
    omega

/-- A number of at most 1000000 limbs without noughts on top, that may be handed on. -/
theorem Num.Canon.arg {w : World} {ao : Option Addr} {n nc v : Nat} {f : Nat → Nat} (h : Canon v n f) (hs : Sl w ao n f) (hn : n ≤ nc) (hc : nc ≤ 9223372036854775807) (hv : v < pw 1000000) : Arg w ao n nc f :=
  ⟨hn, hc, h.len_le hv, hs, h.lim⟩

set_option maxHeartbeats 1000000 in
theorem gcd_any (ao bo : Option Addr) (n nc m mc : Nat) (f g : Nat → Nat) (w : World) (A : Arg w ao n nc f) (B : Arg w bo m mc g) :
    Calls Tryz.prog 51 #[.slice ao n nc, .slice bo m mc] w (NumPost (Nat.gcd (val f n) (val g m)) w) := by
  have vx : val f n < pw 1000000 := Nat.lt_of_lt_of_le (val_lt A.lim) (pw_le A.few)
  have vy : val g m < pw 1000000 := Nat.lt_of_lt_of_le (val_lt B.lim) (pw_le B.few)
  obtain ⟨X, hX⟩ : ∃ X, X = val f n := ⟨_, rfl⟩
  obtain ⟨Y, hY⟩ : ∃ Y, Y = val g m := ⟨_, rfl⟩
  obtain ⟨G, hG0⟩ : ∃ G, G = Nat.gcd X Y := ⟨_, rfl⟩
  obtain ⟨T, hT⟩ : ∃ T, T = pw 1000000 := ⟨_, rfl⟩
  rw [← hX, ← hY, ← hG0]
  rw [← hT] at vx vy
  rw [← hX] at vx
  rw [← hY] at vy
  have hX' := Lib.hid hX; have hY' := Lib.hid hY; have hG' := Lib.hid hG0; have hT' := Lib.hid hT; have vx' := Lib.hid vx; have vy' := Lib.hid vy
  have hA := Lib.hid A; have hB := Lib.hid B
  clear hX hY hG0 hT vx vy A B
  go_enter Tryz.func51, Tryz.ntmps51
  go_wp2_with fail
  refine (norm_any ao n nc f w hA.out).mono ?_
  rintro e w1 ⟨co, q, qc, h, rfl, hq, hqc, hsh, hch, hbel⟩
  have hsh' := Lib.hid hsh; have hch' := Lib.hid hch; have hbel' := Lib.hid hbel
  clear hsh hch hbel
  go_wp2_with fail
  refine (norm_any bo m mc g w1 (hB.out.below hbel'.out)).mono ?_
  rintro e w2 ⟨do_, r, rc, i, rfl, hr, hrc, hsi, hci, hbel⟩
  have hsi' := Lib.hid hsi; have hci' := Lib.hid hci; have hbel2 := Lib.hid (hbel'.out.trans (hbel.mono hbel'.out.size)); have hsh2 := Lib.hid (hsh'.out.below hbel)
  clear hsi hci hbel hsh'
  go_wp2_with fail
  go_loopg [0, 1] Y (fun y a b wr => ∃ (x : Nat) (ao : Option Addr) (n nc : Nat) (f : Nat → Nat) (bo : Option Addr) (m mc : Nat) (g : Nat → Nat), a = .slice ao n nc ∧ b = .slice bo m mc ∧ n ≤ nc ∧ nc ≤ 9223372036854775807 ∧ m ≤ mc ∧ mc ≤ 9223372036854775807 ∧
      Sl wr ao n f ∧ Canon x n f ∧ Sl wr bo m g ∧ Canon y m g ∧ x < T ∧ y < T ∧ G = Nat.gcd x y ∧ Below w.heap.size w wr)
  case atStart =>
    exact ⟨X, co, q, qc, h, do_, r, rc, i, rfl, rfl, hq, hqc, hr, hrc, hsh2.out, by rw [hX'.out]; exact hch'.out, hsi'.out, by rw [hY'.out]; exact hci'.out, vx'.out, vy'.out, hG'.out, hbel2.out⟩
  case round =>
    obtain ⟨x, ao, n, nc, f, bo, m, mc, g, rfl, rfl, hn, hnc, hm, hmc, hsf0, hcf0, hsg0, hcg0, hx0, hy0, hg0, hbel0⟩ := hrel
    have hsf := Lib.hid hsf0; have hcf := Lib.hid hcf0; have hsg := Lib.hid hsg0; have hcg := Lib.hid hcg0; have hx := Lib.hid hx0; have hy := Lib.hid hy0; have hg := Lib.hid hg0; have hbel := Lib.hid hbel0
    clear hsf0 hcf0 hsg0 hcg0 hx0 hy0 hg0 hbel0
    by_cases hm0 : m = 0
    · subst hm0
      go_wp2_with fail
      go_ret
      refine ⟨ao, n, nc, f, rfl, hn, hnc, hsf.out, ?_, hbel.out⟩
      have e : gk = 0 := hcg.out.ne_zero.1 rfl
      have e2 := hg.out
      rw [e, Nat.gcd_zero_right] at e2
      rw [e2]; exact hcf.out
    · have hy1 : 0 < gk := Nat.pos_of_ne_zero (fun e => hm0 (hcg.out.ne_zero.2 e))
      by_cases hsmall : n ≤ 2 ∧ m ≤ 2
      · obtain ⟨s1, s2⟩ := hsmall
        have wx : x < 18446744073709551616 := Nat.lt_of_lt_of_le hcf.out.lt_pw (pw_le s1)
        have wy : gk < 18446744073709551616 := Nat.lt_of_lt_of_le hcg.out.lt_pw (pw_le s2)
        go_wp2_with fail
        refine (word_any ao n nc f wr s1 hsf.out hcf.out.lim).mono ?_
        rw [hcf.out.val]
        rintro e w' ⟨rfl, rfl⟩
        go_wp2_with fail
        refine (word_any bo m mc g wr s2 hsg.out hcg.out.lim).mono ?_
        rw [hcg.out.val]
        rintro e w' ⟨rfl, rfl⟩
        go_wp2_with fail
        refine (gcdOfWords_any x gk wr wx wy).mono ?_
        rw [← hg.out]
        have wg : G < 18446744073709551616 := by rw [hg.out]; exact Nat.lt_of_le_of_lt (Nat.gcd_le_right _ hy1) wy
        rintro e w' ⟨rfl, p, rfl⟩
        go_wp2_with fail
        refine (fromWord_any G (wr.drewN p) wg).mono ?_
        rintro e w3 ⟨ao3, n3, nc3, f3, rfl, h1, h2, h3, h4, h5⟩
        have h3' := Lib.hid h3; have h4' := Lib.hid h4
        have hbel3 := Lib.hid ((below_drewN hbel.out p).trans (h5.mono hbel.out.size))
        clear h3 h4 h5
        go_wp2_with fail
        go_ret
        exact ⟨ao3, n3, nc3, f3, rfl, h1, h2, h3'.out, h4'.out, hbel3.out⟩
      · by_cases s1 : n ≤ 2
        · have s2 : ¬ m ≤ 2 := fun h => hsmall ⟨s1, h⟩
          clear hsmall
          go_wp2_with fail
          refine (divMod_any ao bo n nc m mc f g wr (hcf.out.arg hsf.out hn hnc (by rw [← hT'.out]; exact hx.out)) (hcg.out.arg hsg.out hm hmc (by rw [← hT'.out]; exact hy.out))).mono ?_
          rw [hcf.out.val, hcg.out.val]
          rintro e w3 ⟨hb3, h3⟩
          rcases h3 with ⟨h3, _⟩ | ⟨_, ao3, n3, nc3, f3, bo3, m3, mc3, g3, rfl, _, _, hm3, hmc3, _, _, hsg3, hcg3⟩
          · exact absurd h3 (Nat.pos_iff_ne_zero.1 hy1)
          have hb3' := Lib.hid hb3; have hsg3' := Lib.hid hsg3; have hcg3' := Lib.hid hcg3; have hsg4 := Lib.hid (hsg.out.below hb3)
          have hbel3 := Lib.hid (hbel.out.trans (hb3.mono hbel.out.size))
          clear hb3 hsg3 hcg3
          go_wp2_with fail
          go_roundg (x % gk)
          case measure => exact Nat.mod_lt _ hy1
          case rel =>
            exact ⟨gk, bo, m, mc, g, bo3, m3, mc3, g3, rfl, rfl, hm, hmc, hm3, hmc3, hsg4.out, hcg.out, hsg3'.out, hcg3'.out, hy.out, Nat.lt_trans (Nat.mod_lt _ hy1) hy.out, by rw [hg.out, Nat.gcd_comm, Nat.gcd_rec, Nat.gcd_comm], hbel3.out⟩
        · clear hsmall
          go_wp2_with fail
          refine (divMod_any ao bo n nc m mc f g wr (hcf.out.arg hsf.out hn hnc (by rw [← hT'.out]; exact hx.out)) (hcg.out.arg hsg.out hm hmc (by rw [← hT'.out]; exact hy.out))).mono ?_
          rw [hcf.out.val, hcg.out.val]
          rintro e w3 ⟨hb3, h3⟩
          rcases h3 with ⟨h3, _⟩ | ⟨_, ao3, n3, nc3, f3, bo3, m3, mc3, g3, rfl, _, _, hm3, hmc3, _, _, hsg3, hcg3⟩
          · exact absurd h3 (Nat.pos_iff_ne_zero.1 hy1)
          have hb3' := Lib.hid hb3; have hsg3' := Lib.hid hsg3; have hcg3' := Lib.hid hcg3; have hsg4 := Lib.hid (hsg.out.below hb3)
          have hbel3 := Lib.hid (hbel.out.trans (hb3.mono hbel.out.size))
          clear hb3 hsg3 hcg3
          go_wp2_with fail
          go_roundg (x % gk)
          case measure => exact Nat.mod_lt _ hy1
          case rel =>
            exact ⟨gk, bo, m, mc, g, bo3, m3, mc3, g3, rfl, rfl, hm, hmc, hm3, hmc3, hsg4.out, hcg.out, hsg3'.out, hcg3'.out, hy.out, Nat.lt_trans (Nat.mod_lt _ hy1) hy.out, by rw [hg.out, Nat.gcd_comm, Nat.gcd_rec, Nat.gcd_comm], hbel3.out⟩

end Go.Proofs.YtokdaagjkhkinaaGreatDoor

namespace Go.Proofs.YtokdaagjkhkinaaGreatDoor
open Go.RowKit

theorem wpList_append_empty {P : Program} {w : World} {ops : Array Oper} {rest : List Oper} {o : Oper} {a : Act} {Q : Exit → Act → World → Prop} (hgd : o.guard = none) (s x : Operand) (t : TypeId)
    (ho : o.op = .call { callee := .builtin .append, args := #[s, x], argTypes := #[t, t] }) (e : TypeId) (i : TypeInfo) (ht : P.underlying t = some (.slice e)) (hi : P.info? e = some i)
    (ao : Option Addr) (c : Nat) (hs : a.eval s = .slice none 0 0) (hx : a.eval x = .slice ao 0 c)
    (h : wpList P ops Q rest (a.put o.dst (.slice none 0 0)) w) : wpList P ops Q (o :: rest) a w := by
  refine wpList_plain hgd fun K hK => ?_
  have hrun : (Builtin.append_ #[t, t] o.type #[.slice none 0 0, .slice ao 0 c]).run P w = .ok (.slice none 0 0) w := by
    cases ao <;> simp [Builtin.append_, run_underlying ht, sizeOf, typeInfo, hi, Builtin.lenOf, Builtin.firstCells, loadCells, loadCellsFrom]
  unfold Oper.wp
  simp [execOp, ho, resolve, invoke, builtin, hs, hx, hrun, Result.andThen]
  exact hK _ _ h

end Go.Proofs.YtokdaagjkhkinaaGreatDoor

namespace Go.Proofs.YtokdaagjkhkinaaGreatDoor
open Go.RowKit Num

set_option maxHeartbeats 400000 in
/-- Same, of the same limbs. -/
theorem same_yes (ao bo : Option Addr) (n nc mc : Nat) (f g : Nat → Nat) (w : World) (hn : n ≤ 9223372036854775807) (hf : Sl w ao n f) (hg : Sl w bo n g) (he : ∀ j, j < n → f j = g j) :
    Calls Tryz.prog 27 #[.slice ao n nc, .slice bo n mc] w fun e w' => e = .returned (.bool true) ∧ ∃ q, w' = w.drewN q := by
  have he' := Lib.hid he
  clear he
  go_enter Tryz.func27, Tryz.ntmps27
  go_wp2_with fail
  go_loopw [5] (fun i wr => ∃ j : Nat, j ≤ n ∧ i = .int .i64 j ∧ ∃ q, wr = w.drewN q) (fun i _ => n - (intOf i).toNat)
  case atStart => exact ⟨0, Nat.zero_le _, rfl, 0, rfl⟩
  case round =>
    obtain ⟨j, hj, rfl, q, rfl⟩ := hrel
    by_cases hlt : j < n
    · rcases hf with h | ⟨b, off, rfl, hc⟩
      · omega
      rcases hg with h | ⟨b', off', rfl, hc'⟩
      · omega
      have c1 := hc j hlt
      have c2 := hc' j hlt
      rw [← he'.out j hlt] at c2
      clear hc hc'
      go_wp2_with fail
      go_quiet (fail)
      go_wp2_with fail
      go_roundw
      case rel => exact ⟨j + 1, by omega, by go_num, _, rfl⟩
      case measure => simp [intOf]; omega
    · go_wp2_with fail
      go_ret
      exact ⟨rfl, q, rfl⟩

theorem same_canon (ao bo : Option Addr) (v n nc m mc : Nat) (f g : Nat → Nat) (w : World) (hn : n ≤ nc) (hnc : nc ≤ 9223372036854775807) (hf : Sl w ao n f) (hg : Sl w bo m g) (cf : Canon v n f) (cg : Canon v m g) :
    Calls Tryz.prog 27 #[.slice ao n nc, .slice bo m mc] w fun e w' => e = .returned (.bool true) ∧ ∃ q, w' = w.drewN q := by
  obtain rfl := cf.len cg
  exact same_yes ao bo n nc mc f g w (by omega) hf hg (cf.eq cg)

theorem owns_slice {w : World} {base n : Nat} {t : TypeId} {v : Value} {f : Nat → Nat} (h : w.ownsRow base t 1 v n (limbCells f n)) :
    ∃ ao cap, v = .slice ao n cap ∧ n ≤ cap ∧ cap ≤ 9223372036854775807 ∧ Sl w ao n f := by
  rcases h.2 with ⟨rfl, rfl⟩ | ⟨g, cap, cur, hv, hb, hg, hnc, hcm, hcs, ht⟩
  · exact ⟨none, 0, rfl, Nat.le_refl _, by omega, .inl rfl⟩
  · subst hv
    refine ⟨_, cap, rfl, hnc, by unfold maxLen at hcm; omega, ?_⟩
    by_cases h0 : n = 0
    · exact .inl h0
    · refine .inr ⟨g, 0, rfl, fun j hj => ?_⟩
      rw [Nat.zero_add, h.cellAt j (by omega), limbCells_get f n j hj]

set_option maxHeartbeats 1000000 in
theorem refNorm_any (ao : Option Addr) (n nc : Nat) (f : Nat → Nat) (w : World) (A : Arg w ao n nc f) :
    Calls Tryz.prog 54 #[.slice ao n nc] w (NumPost (val f n) w) := by
  obtain ⟨i32, hi, hz0, hz1, hz2⟩ := info_parts info32
  obtain ⟨hn, hnc, hnb, hf, lf⟩ := A
  have lf' := Lib.hid lf
  clear lf
  rcases hf with rfl | ⟨b, off, rfl, hc⟩
  · go_enter Tryz.func54, Tryz.ntmps54
    go_wp2_with fail
    go_loop [3] (fun i => i = .int .i64 0) (fun i => (intOf i).toNat)
    case atStart => exact rfl
    case round =>
      obtain rfl := hrel
      go_wp2_with (at_builtin; refine wpList_append_empty rfl (.tmp 19) (.tmp 22) 22 rfl 35 i32 Tryz.underlying22 hi _ _ rfl rfl ?_)
      all_goals
        go_ret
        exact ⟨none, 0, 0, f, rfl, Nat.le_refl _, by omega, .inl rfl, canon_zero f, Below.refl _ _⟩
  · go_enter Tryz.func54, Tryz.ntmps54
    go_wp2_with fail
    go_loop [3] (fun i => ∃ k : Nat, k ≤ n ∧ i = .int .i64 k ∧ val f k = val f n) (fun i => (intOf i).toNat)
    case atStart => exact ⟨n, Nat.le_refl _, rfl, rfl⟩
    case round =>
      obtain ⟨k, hk, rfl, hv0⟩ := hrel
      have hv := Lib.hid hv0; clear hv0
      by_cases h0 : k = 0
      · subst h0
        go_wp2_with (at_builtin; refine wpList_append_empty rfl (.tmp 19) (.tmp 22) 22 rfl 35 i32 Tryz.underlying22 hi _ _ rfl rfl ?_)
        go_ret
        exact ⟨none, 0, 0, f, rfl, Nat.le_refl _, by omega, .inl rfl, by rw [← hv.out]; exact canon_zero f, Below.refl _ _⟩
      · have hpos : 0 < k := by omega
        have hcell := hc (k - 1) (by omega)
        have hc' := Lib.hid hc
        clear hc
        by_cases hz : f (k - 1) = 0
        · have hzi : ((f (k - 1) : Int) == 0) = true := by simp [hz]
          have hz' := Lib.hid hz; clear hz
          go_wp2_with fail
          go_round
          case rel =>
            have hk1 : k = k - 1 + 1 := by omega
            have e := val_nought hz'.out
            rw [← hk1] at e
            exact ⟨k - 1, by omega, int_eq (by omega), e.symm.trans hv.out⟩
          case measure => simp [intOf]; omega
        · have hzi : ((f (k - 1) : Int) == 0) = false := by simp [hz]
          have hone := limbCells_one f k
          have hlen := limbCells_length f k
          have hat := limbCells_at (w := w) (b := b) (off := off) (n := k) (f := f) (fun j hj => hc'.out j (by omega))
          obtain ⟨cs, hcs⟩ : ∃ cs, cs = limbCells f k := ⟨_, rfl⟩
          rw [← hcs] at hone hlen hat
          have hcs' := Lib.hid hcs; have hlen' := Lib.hid hlen
          clear hcs hlen
          go_wp2_with (at_builtin; refine wpList_append_own _ rfl (.tmp 19) (.tmp 22) 22 rfl w.heap.size 35 i32 (.int .u32 0) 1 4 Tryz.underlying22 hi hz0 hz1 hz2 rfl (by decide) _ _ _ rfl (World.ownsRow_nil _ _ _ _) ⟨b, off, none⟩ k nc cs rfl (by rw [hlen'.out]; omega) hat hone (by unfold maxLen; omega) (by omega) (Nat.le_refl _) ?_)
          intro v' w1 hown hgr hnil
          rw [hcs'.out] at hown
          obtain ⟨ao', cap', rfl, g1, g2, g3⟩ := owns_slice hown
          have g3' := Lib.hid g3
          have hb := Lib.hid ((Below.refl w.heap.size w).grown hgr (Nat.le_refl _) (fun _ h => by cases h))
          clear hown hgr hnil g3
          go_wp2_with fail
          go_ret
          exact ⟨ao', k, cap', f, rfl, g1, g2, g3'.out, ⟨lf'.out.mono hk, .inr hz, hv.out⟩, hb.out⟩

end Go.Proofs.YtokdaagjkhkinaaGreatDoor
