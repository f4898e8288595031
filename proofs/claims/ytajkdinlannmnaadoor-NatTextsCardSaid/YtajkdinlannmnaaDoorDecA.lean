/-
  nat.takeGroup; nat.Norm's own limbs; bytes.TrimRight and slices.Reverse of digits.
-/
import Derived.Test.YtajkdinlannmnaaDoorDec
import Derived.Test.YtajkdinlannmnaaDoorNorm
import Derived.Test.YtajkdinlannmnaaDoorBits
import Derived.Test.YtajkdinlannmnaaDoorNum3
import Derived.Test.YtajkdinlannmnaaDoorCmp
import Derived.RegionTactic
import Derived.BigRegion
import Derived.ChangeAlike
namespace Go.Proofs.YtajkdinlannmnaaDoor
open Go.RowKit Num

def GroupPost (b n V : Nat) (w : World) (e : Ending) (w' : World) : Prop :=
  ∃ (r : Nat) (F' : Nat → Nat), r = V % 1000000000 ∧ e = .returned (.int .u32 r) ∧ Blk w' b n F' ∧ Lim F' n ∧ val F' n = V / 1000000000 ∧ w.grownBy w' (some b)

set_option maxHeartbeats 1000000 in
theorem takeGroup_any (b n cs : Nat) (F : Nat → Nat) (w : World) (hn : n ≤ 1000000) (hF : Blk w b n F) (lF : Lim F n) :
    Calls Tryd.prog 14 #[.slice (some ⟨b, 0, none⟩) n cs] w (GroupPost b n (val F n) w) := by
  have hF' := Lib.hid hF; have lF' := Lib.hid lF
  clear hF lF
  go_enter Tryd.func14, Tryd.ntmps14
  go_wp2_with fail
  go_loopw [3, 4] (fun r i wr => ∃ (j R : Nat) (G : Nat → Nat), j ≤ n ∧ i = .int .i64 ((j : Int) - 1) ∧ r = .int .u64 R ∧ R < 1000000000 ∧ R = val (fun t => F (j + t)) (n - j) % 1000000000 ∧ Blk wr b n G ∧ Lim G n ∧ (∀ t, t < j → G t = F t) ∧
      val (fun t => G (j + t)) (n - j) = val (fun t => F (j + t)) (n - j) / 1000000000 ∧ w.grownBy wr (some b)) (fun _ i _ => (intOf i + 1).toNat)
  case atStart =>
    refine ⟨n, 0, F, Nat.le_refl _, rfl, rfl, by omega, ?_, hF'.out, lF'.out, fun _ _ => rfl, ?_, grown_refl _ _⟩
    · rw [Nat.sub_self, val_zero]
    · rw [Nat.sub_self, val_zero]
  case round =>
    obtain ⟨j, R, G, hj, rfl, rfl, hR, hRe0, hblk0, hlim0, hz0, hval0, hgr0⟩ := hrel
    have hRe := Lib.hid hRe0; have hblk := Lib.hid hblk0; have hlim := Lib.hid hlim0; have hz := Lib.hid hz0; have hval := Lib.hid hval0; have hgr := Lib.hid hgr0
    clear hRe0 hblk0 hlim0 hz0 hval0 hgr0
    by_cases h0 : j = 0
    · subst h0
      go_wp2_with fail
      go_ret
      refine ⟨R, G, ?_, rfl, hblk.out, hlim.out, ?_, hgr.out⟩
      · rw [hRe.out]; congr 1; exact val_congr (fun t _ => by rw [Nat.zero_add])
      · have e := hval.out
        rw [val_congr (f := fun t => G (0 + t)) (g := G) (fun t _ => by rw [Nat.zero_add]), val_congr (f := fun t => F (0 + t)) (g := F) (fun t _ => by rw [Nat.zero_add])] at e
        exact e
    · obtain ⟨s, rfl⟩ : ∃ s, j = s + 1 := ⟨j - 1, by omega⟩
      have hcell := hblk.out.cell s (by omega)
      have hfree := hblk.out.free s
      have bG := hlim.out s (by omega)
      have eG := Lib.hid (hz.out s (by omega))
      have hor := or_shift R (G s) (by omega) (by omega) (by omega) (by omega)
      have hq : (R * 4294967296 + G s) / 1000000000 < 4294967296 := by omega
      clear h0
      go_wp2_with fail
      go_roundw
      case rel =>
        have en : n - s = n - (s + 1) + 1 := by omega
        obtain ⟨d1, d2, d3⟩ := short_div (U := val (fun t => F (s + 1 + t)) (n - (s + 1))) (D := 1000000000) (x := F s) (by decide) (by rw [← eG.out]; exact bG)
        rw [← hRe.out, ← eG.out] at d1 d2
        refine ⟨s, (R * 4294967296 + G s) % 1000000000, put G s ((R * 4294967296 + G s) / 1000000000), by omega, int_eq (by omega), int_eq (by omega), by omega, ?_, hblk.out.set s (by omega) _ _ (by omega), put_lim hlim.out hq, ?_, ?_, grown_setCell hgr.out _ _⟩
        · rw [en, val_cons', ← eG.out, d2]
        · intro t ht
          rw [put_ne (by omega)]
          exact hz.out t (by omega)
        · rw [en, val_cons', val_cons', put_at, val_congr (f := fun t => put G s ((R * 4294967296 + G s) / 1000000000) (s + 1 + t)) (g := fun t => G (s + 1 + t)) (fun t _ => put_ne (by omega)), hval.out, ← eG.out, d1]
      case measure => simp [intOf]

/-- nat.Norm's limbs lie in a block of their own. -/
def OwnPost (v : Nat) (w : World) (e : Ending) (w' : World) : Prop :=
  ∃ (B k : Nat) (f : Nat → Nat), e = .returned (.slice (some ⟨B, 0, none⟩) k k) ∧ w.heap.size ≤ B ∧ B < w'.heap.size ∧ Blk w' B k f ∧ Canon v k f ∧ Below w.heap.size w w'

set_option maxHeartbeats 400000 in
theorem norm_own (ao : Option Addr) (n nc : Nat) (f : Nat → Nat) (w : World) (A : Arg w ao n nc f) :
    Calls Tryd.prog 12 #[.slice ao n nc] w (OwnPost (val f n) w) := by
  obtain ⟨hn, hnc, hnb, hf, lf⟩ := A
  obtain ⟨i32, hi, hz0, hz1, hz2⟩ := info_parts info32
  go_enter Tryd.func12, Tryd.ntmps12
  go_wp2_with fail
  refine (trim_any ao n nc f w hn (by omega) hf).mono ?_
  rintro e w' ⟨k, hk, rfl, htf0, hvf0, rfl⟩
  have htf := Lib.hid htf0; have hvf := Lib.hid hvf0; clear htf0 hvf0
  go_wp2_with (at_make; refine wpList_make_full _ rfl (.tmp 7) (.tmp 7) 22 rfl w.heap.size 31 i32 (.int .u32 0) 1 Tryd.underlying22 hi hz0 hz1 .i64 .i64 _ _ k rfl rfl rfl rfl (by rw [hz2]; omega) (by unfold maxLen; omega) (Nat.le_refl _) ?_)
  intro w1 hown hgrow
  have hheap := heap_of_made hown
  have hsl1 := (hf.mono hk).grown (b := w.heap.size) (hf.mono hk).off (grown_any hgrow _)
  have hbel : Below w.heap.size w w1 := (Below.refl _ w).grown hgrow (Nat.le_refl _) (fun _ h => by cases h)
  obtain ⟨cs, hcs0⟩ : ∃ cs, cs = limbCells f k := ⟨_, rfl⟩
  have hlen : cs.length = k := by rw [hcs0, limbCells_length]
  have hlen' := Lib.hid hlen
  have hone : ∀ v ∈ cs, v.oneCell' = true := by rw [hcs0]; exact limbCells_one f k
  have hat : 0 < cs.length → (some (⟨w.heap.size, 0, none⟩ : Addr)) = some ⟨w.heap.size, 0, none⟩ ∧ ∃ ad, ao = some ad ∧ ∀ j v, cs[j]? = some v → w1.cell? (ad.add j) = some v := by
    rw [hcs0]; exact fun h => ⟨rfl, hsl1.cellsAt h⟩
  have hheap' := Lib.hid hheap
  have hcs := Lib.hid hcs0
  clear hcs0 hown hheap hlen
  go_wp2_with (with_reducible refine wpList_copy_splice rfl (.tmp 9) (.tmp 10) 22 22 rfl 31 Tryd.underlying22 size32 (some ⟨w.heap.size, 0, none⟩) ao k k k nc rfl rfl w.heap.size 0 (List.replicate k (Value.int .u32 0)) 31 hheap'.out cs ?c1 hat ?c2 hone w.heap.size w hbel (Nat.le_refl _) ?_)
  case c1 => simp [hlen'.out]
  case c2 => simp [hlen'.out]
  intro w2 hg2 hb2
  go_wp2_with fail
  go_ret
  have hblk : Blk w2 w.heap.size k f := Blk.of_heap hg2.out (fun j hj => by
    have e : splice (List.replicate k (Value.int .u32 0)) 0 cs = cs := by simp [splice, hlen'.out]
    rw [e, hcs.out, limbCells_get f k j hj])
  exact ⟨w.heap.size, k, f, rfl, Nat.le_refl _, (Array.getElem?_eq_some_iff.1 hg2.out).1, hblk, ⟨lf.mono hk, htf.out, hvf.out⟩, hb2⟩

/-- A block of bytes of the call's own. -/
structure Byt (w : World) (b N : Nat) (F : Nat → Nat) : Prop where
  cell : ∀ j, j < N → w.cell? ⟨b, j, none⟩ = some (.int .u8 (F j))
  free : ∀ j, w.frozen? ⟨b, j, none⟩ = false

set_option maxHeartbeats 400000 in
theorem trimByte_any (b n cap : Nat) (F : Nat → Nat) (w : World) (hcap : n ≤ cap) (hmax : cap ≤ 9223372036854775807) (hc : ∀ j, j < n → w.cell? ⟨b, j, none⟩ = some (.int .u8 (F j))) :
    Calls Tryd.prog 21 #[.slice (some ⟨b, 0, none⟩) n cap, .int .u8 48] w fun e w' => ∃ k, k ≤ n ∧ e = .returned (.slice (some ⟨b, 0, none⟩) k cap) ∧ (k = 0 ∨ F (k - 1) ≠ 48) ∧ (∀ t, k ≤ t → t < n → F t = 48) ∧ w = w' := by
  go_enter Tryd.func21, Tryd.ntmps21
  go_wp2
  go_loop [0] (fun a => ∃ k : Nat, k ≤ n ∧ a = .slice (some ⟨b, 0, none⟩) k cap ∧ (∀ t, k ≤ t → t < n → F t = 48)) (fun a => lenOf a)
  case atStart => exact ⟨n, Nat.le_refl _, rfl, fun t h1 h2 => by omega⟩
  case round =>
    obtain ⟨k, hk, rfl, hv0⟩ := hrel
    have hv := Lib.hid hv0; clear hv0
    by_cases h0 : k = 0
    · subst h0
      go_wp2
      go_ret
      exact ⟨0, Nat.zero_le _, rfl, .inl rfl, hv.out, rfl⟩
    · have hpos : 0 < k := by omega
      have hcell := hc (k - 1) (by omega)
      clear hc
      by_cases hz : F (k - 1) = 48
      · have hzi : ((F (k - 1) : Int) == 48) = true := by simp [hz]
        have hz' := Lib.hid hz; clear hz
        go_wp2
        go_round
        case rel =>
          refine ⟨k - 1, by omega, rfl, fun t h1 h2 => ?_⟩
          by_cases ht : t = k - 1
          · rw [ht]; exact hz'.out
          · exact hv.out t (by omega) h2
        case measure => simp [lenOf]; omega
      · have hzi : ((F (k - 1) : Int) == 48) = false := by rw [beq_eq_false_iff_ne]; omega
        go_wp2
        go_ret
        exact ⟨k, hk, rfl, .inr hz, hv.out, rfl⟩

set_option maxHeartbeats 400000 in
theorem trimRight_any (b n cap : Nat) (F : Nat → Nat) (w : World) (hcap : n ≤ cap) (hmax : cap ≤ 9223372036854775807) (hc : ∀ j, j < n → w.cell? ⟨b, j, none⟩ = some (.int .u8 (F j))) (hn : 0 < n) :
    Calls Tryd.prog 15 #[.slice (some ⟨b, 0, none⟩) n cap, .string { data := #[48] }] w fun e w' => ∃ k, k ≤ n ∧ e = .returned (.slice (some ⟨b, 0, none⟩) k cap) ∧ (k = 0 ∨ F (k - 1) ≠ 48) ∧ (∀ t, k ≤ t → t < n → F t = 48) ∧ w = w' := by
  have hc' := Lib.hid hc
  have hn0 : ((n : Int) == 0) = false := by rw [beq_eq_false_iff_ne]; omega
  have h48 : ((({ data := #[48] } : ByteArray)[0]'(by decide)).toNat) = 48 := rfl
  clear hc
  go_enter Tryd.func15, Tryd.ntmps15
  go_wp2_with fail
  refine (trimByte_any b n cap F w hcap hmax hc'.out).mono ?_
  rintro e w' ⟨k, hk, rfl, ht0, hz0, rfl⟩
  have ht := Lib.hid ht0; have hz := Lib.hid hz0
  clear ht0 hz0
  go_wp2_with fail
  go_ret
  exact ⟨k, hk, rfl, ht.out, hz.out, rfl⟩

set_option maxHeartbeats 400000 in
theorem trimRight_none (w : World) :
    Calls Tryd.prog 15 #[.slice none 0 0, .string { data := #[48] }] w fun e w' => e = .returned (.slice none 0 0) ∧ w = w' := by
  go_enter Tryd.func15, Tryd.ntmps15
  go_wp2_with fail
  go_ret
  exact ⟨rfl, rfl⟩

theorem Byt.set {w : World} {b N : Nat} {F : Nat → Nat} (h : Byt w b N F) (i : Nat) (hi : i < N) (v : Int) (x : Nat) (hv : v = (x : Int)) : Byt (w.setCell ⟨b, i, none⟩ (.int .u8 v)) b N (put F i x) := by
  subst hv
  refine ⟨fun j hj => ?_, fun j => by rw [World.frozen?_setCell]; exact h.free j⟩
  by_cases c : j = i
  · subst c
    rw [put_at]
    exact World.cell?_setCell_same _ _ _ (h.cell j hj)
  · rw [put_ne c, World.cell?_setCell_other _ _ _ _ (fun e => c (by injection e with _ e2; exact e2.symm))]
    exact h.cell j hj

set_option maxHeartbeats 1000000 in
theorem reverse_any (b n cap : Nat) (F : Nat → Nat) (w : World) (hn : n ≤ 1000000) (hF : Byt w b n F) :
    Calls Tryd.prog 16 #[.slice (some ⟨b, 0, none⟩) n cap] w fun e w' => ∃ G, e = .returned (.tuple #[]) ∧ Byt w' b n G ∧ (∀ t, t < n → G t = F (n - 1 - t)) ∧ w.grownBy w' (some b) := by
  have hF' := Lib.hid hF
  clear hF
  go_enter Tryd.func16, Tryd.ntmps16
  go_wp2_with fail
  go_loopw [2, 3] (fun i k wr => ∃ (j : Nat) (G : Nat → Nat), 2 * j ≤ n + 1 ∧ i = .int .i64 j ∧ k = .int .i64 ((n : Int) - 1 - j) ∧ Byt wr b n G ∧ (∀ t, t < n → (t < j ∨ n - j ≤ t) → G t = F (n - 1 - t)) ∧ (∀ t, j ≤ t → t < n - j → G t = F t) ∧ w.grownBy wr (some b))
    (fun i _ _ => n + 1 - (intOf i).toNat)
  case atStart => exact ⟨0, F, by omega, rfl, int_eq (by omega), hF'.out, fun t h1 h2 => by omega, fun _ _ _ => rfl, grown_refl _ _⟩
  case round =>
    obtain ⟨j, G, hj, rfl, rfl, hblk0, hout0, hin0, hgr0⟩ := hrel
    have hblk := Lib.hid hblk0; have hout := Lib.hid hout0; have hin := Lib.hid hin0; have hgr := Lib.hid hgr0
    clear hblk0 hout0 hin0 hgr0
    by_cases hlt : 2 * j + 1 < n
    · have c1 := hblk.out.cell j (by omega)
      have c2 := hblk.out.cell (n - 1 - j) (by omega)
      have f1 := hblk.out.free j
      have f2 := hblk.out.free (n - 1 - j)
      have e1 : ((n : Int) - 1 - j).toNat = n - 1 - j := by omega
      go_wp2_with fail
      go_region
      go_wp2_with fail
      go_roundw
      case rel =>
        have hb2 := (hblk.out.set j (by omega) (G (n - 1 - j) : Int) (G (n - 1 - j)) rfl).set (n - 1 - j) (by omega) (G j : Int) (G j) rfl
        refine ⟨j + 1, put (put G j (G (n - 1 - j))) (n - 1 - j) (G j), by omega, by go_num, int_eq (by omega), ⟨hb2.cell, hb2.free⟩, ?_, ?_, grown_drew (grown_setCell (grown_setCell hgr.out _ _) _ _)⟩
        · intro t h1 h2
          by_cases t1 : t = n - 1 - j
          · rw [t1, put_at, hin.out j (Nat.le_refl _) (by omega)]
            congr 1
            omega
          · rw [put_ne t1]
            by_cases t2 : t = j
            · rw [t2, put_at, hin.out (n - 1 - j) (by omega) (by omega)]
            · rw [put_ne t2]
              exact hout.out t h1 (by omega)
        · intro t h1 h2
          rw [put_ne (by omega), put_ne (by omega)]
          exact hin.out t (by omega) (by omega)
      case measure => simp [intOf]; omega
    · go_wp2_with fail
      go_end0
      refine ⟨G, rfl, hblk.out, fun t ht => ?_, hgr.out⟩
      by_cases c : t < j ∨ n - j ≤ t
      · exact hout.out t ht c
      · rw [hin.out t (by omega) (by omega)]
        congr 1
        omega

end Go.Proofs.YtajkdinlannmnaaDoor
