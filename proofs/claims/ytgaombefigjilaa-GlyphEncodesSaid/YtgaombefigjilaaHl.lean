/-
  glyph.Encode: the bytes of characters, written by a Builder.
-/
import Derived.Test.YtgaombefigjilaaHi
import Derived.Test.YtgaombefigjilaaHk
namespace Go.Proofs.Ytgaombefigjilaa
open Go.RowKit

theorem runeL {c : Nat} (h : mayZ (c : Int) = true) : Lib.runeCells (c : Int) = numCells (encL c) := by
  have hr : c ≤ 1114111 ∧ (c < 55296 ∨ 57343 < c) := by unfold mayZ at h; simp at h; omega
  unfold Lib.runeCells numCells encL
  by_cases h1 : c < 128
  · rw [Lib.encodeRuneZ_one (by omega) (by omega), if_pos h1]; simp
  · by_cases h2 : c < 2048
    · rw [Lib.encodeRuneZ_two (by omega) (by omega), if_neg h1, if_pos h2]; simp
    · by_cases h3 : c < 65536
      · rw [Lib.encodeRuneZ_three (by omega), if_neg h1, if_neg h2, if_pos h3]; simp
      · rw [Lib.encodeRuneZ_four (by omega) (by omega), if_neg h1, if_neg h2, if_neg h3]; simp

theorem encAll_byte {f : Nat → Int} : ∀ n, (∀ j, j < n → mayZ (f j) = true) → ∀ x ∈ encAll f n, x < 256
  | 0, _, x, hx => by cases hx
  | n + 1, h, x, hx => by
    unfold encAll at hx
    rcases List.mem_append.1 hx with h1 | h1
    · exact encAll_byte n (fun j hj => h j (by omega)) x h1
    · have := may_range (h n (by omega))
      exact encL_byte (by omega) x h1

theorem byteCells_num (l : List Nat) (h : ∀ x ∈ l, x < 256) : numCells l = Lib.byteCells (l.map UInt8.ofNat) := by
  unfold numCells Lib.byteCells
  rw [List.map_map]
  refine List.map_congr_left fun x hx => ?_
  have := h x hx
  show Value.int .u8 (x : Int) = Value.int .u8 ((UInt8.ofNat x).toNat : Int)
  rw [UInt8.toNat_ofNat']
  exact int_eq' (by omega)

set_option maxRecDepth 20000 in
set_option maxHeartbeats 2000000 in
theorem encodeP_any (ao : Option Addr) (n nc : Nat) (f : Nat → Int) (w : World) (hn : n ≤ 100000) (hf : SlZ w ao n f) :
    Calls Try.prog 9 #[.slice ao n nc] w (EncPost n f w) := by
  have hf' := Lib.hid hf
  clear hf
  have hI0 := Lib.hid (Lib.IsBuilderF.of (Lib.fresh_isBuilder 40 5 w))
  have hb0 := Lib.hid ((Below.refl w.heap.size w).alloc (Nat.le_refl _) (.cells #[.pointer none, .slice none 0 0] 40))
  go_enter Try.func9, Try.ntmps9
  go_wp2_with fail
  go_loopw [9] (fun i wr => ∃ j : Nat, j ≤ n ∧ i = .int .i64 j ∧ Hid (∀ t, t < j → mayZ (f t) = true) ∧ Hid (Lib.IsBuilderF 40 5 w.heap.size w.heap.size (numCells (encAll f j)) wr) ∧ Hid (Below w.heap.size w wr)) (fun i _ => n - (intOfZ i).toNat)
  case atStart => exact ⟨0, Nat.zero_le _, rfl, Lib.hid fun t h => by omega, hI0, hb0⟩
  case round =>
    obtain ⟨j, hj, rfl, hm, hI, hb⟩ := hrel
    clear hI0 hb0
    by_cases hlt : j < n
    · have hfr := hf'.out.below hb.out
      rcases hfr with h | ⟨b, off, rfl, hc⟩
      · omega
      have c1 := hc j hlt
      clear hc
      by_cases hmj : mayZ (f j) = true
      · obtain ⟨r1, r2⟩ := may_range hmj
        obtain ⟨c, hcv⟩ := Int.eq_ofNat_of_zero_le r1
        have hmc := Lib.hid (show mayZ (c : Int) = true by rw [← hcv]; exact hmj)
        have hmj' := Lib.hid hmj; have hcv' := Lib.hid hcv
        rw [hcv] at c1
        have hc3 : c ≤ 1114111 := by omega
        have al := Lib.hid (encAll_len (f := f) j)
        have hlen := Lib.hid (show (numCells (encAll f j)).length + 4 ≤ 140737488355328 by have := al.out; unfold numCells; rw [List.length_map]; omega)
        have hwr := Lib.hid (writeRune_any w.heap.size w.heap.size _ (c : Int) (by omega) (by omega) wr hI.out hlen.out hb.out.size)
        clear hmj hcv r1 r2
        go_wp2_with (first | (go_at_call 14; refine (mayP_any (c : Int) _).mono ?_; rintro e w' ⟨rfl, rfl⟩; rw [hmc.out]) | (go_at_call 19; refine hwr.out.mono ?_))
        rintro e w2 ⟨rfl, hA, hb2, _⟩
        have hb3 := Lib.hid (hb.out.trans hb2)
        have hI2 := Lib.hid (show Lib.IsBuilderF 40 5 w.heap.size w.heap.size (numCells (encAll f (j + 1))) w2 by
          have e1 : encAll f (j + 1) = encAll f j ++ encL c := by show encAll f j ++ encL (f j).toNat = _; rw [hcv'.out]; rfl
          rw [e1, numCells_append, ← runeL hmc.out]
          exact .inr hA)
        clear hA hb2
        go_wp2_with fail
        go_roundw
        case rel =>
          refine ⟨j + 1, by omega, by go_num, Lib.hid fun t ht => ?_, hI2, hb3⟩
          by_cases e : t = j
          · rw [e]; exact hmj'.out
          · exact hm.out t (by omega)
        case measure => simp [intOfZ]; omega
      · have hmj2 : mayZ (f j) = false := by simpa using hmj
        have hmj' := Lib.hid hmj2
        clear hmj hmj2
        go_wp2_with (go_at_call 14; refine (mayP_any (f j) _).mono ?_; rintro e w' ⟨rfl, rfl⟩; rw [hmj'.out])
        go_ret2
        exact ⟨hb.out, .inr ⟨⟨j, hlt, hmj'.out⟩, rfl⟩⟩
    · obtain rfl : j = n := by omega
      have hst := Lib.hid (builderString_any w.heap.size w.heap.size ((encAll f j).map UInt8.ofNat) wr (by rw [← byteCells_num _ (encAll_byte j hm.out)]; exact hI.out) hb.out.size)
      go_wp2_with (go_at_call 20; refine hst.out.mono ?_)
      rintro e w2 ⟨rfl, _, hb2, _⟩
      have hb3 := Lib.hid (hb.out.trans hb2)
      clear hb2
      go_wp2_with fail
      go_ret2
      exact ⟨hb3.out, .inl ⟨hm.out, _, rfl, rfl⟩⟩

end Go.Proofs.Ytgaombefigjilaa
