/-
  scrimref06.Encode.
-/
import Derived.Test.YtgaombefigjilaaHd
import Derived.Test.YtgaombefigjilaaHc
import Derived.Laws.AppendOwn
import Derived.Laws.BytesArg
namespace Go.Proofs.Ytgaombefigjilaa
open Go.RowKit

theorem info8u : (Try.prog.info? 5).map (fun i => (i.zero, i.size, i.bytes)) = some (some (.int .u8 0), 1, 1) := by kernel_rfl

/-- The bytes of n characters. -/
def encAll (f : Nat → Int) : Nat → List Nat
  | 0 => []
  | n + 1 => encAll f n ++ encL (f n).toNat

def numCells (l : List Nat) : List Value := l.map fun x : Nat => Value.int .u8 (x : Int)

theorem numCells_append (a b : List Nat) : numCells (a ++ b) = numCells a ++ numCells b := List.map_append ..

theorem numCells_get (l : List Nat) (j : Nat) (h : j < l.length) : (numCells l)[j]? = some (.int .u8 (l.getD j 0 : Nat)) := by
  unfold numCells
  simp [h]

theorem encAll_len {f : Nat → Int} : ∀ n, n ≤ (encAll f n).length ∧ (encAll f n).length ≤ 4 * n
  | 0 => ⟨Nat.le_refl _, Nat.le_refl _⟩
  | n + 1 => by
    have a := encAll_len (f := f) n
    have b := encL_len (f n).toNat
    unfold encAll
    rw [List.length_append]
    omega

theorem may_range {c : Int} (h : mayZ c = true) : 0 ≤ c ∧ c ≤ 1114111 := by
  unfold mayZ at h
  simp at h
  omega

theorem owns_later {w w' : World} {base size n : Nat} {e : TypeId} {v : Value} {xs : List Value} (h : w.ownsRow base e size v n xs) (hb : Below w.heap.size w w') : w'.ownsRow base e size v n xs :=
  h.kept (row := none) ⟨hb.os, hb.tape, hb.output, hb.size, fun k hk _ => hb.block k hk⟩ (Classical.em _)

theorem owns_cells {w : World} {base n : Nat} {t : TypeId} {v : Value} {l : List Nat} (h : w.ownsRow base t 1 v n (numCells l)) (hn : 0 < n) (hl : l.length = n) :
    ∃ g cap, v = .slice (some ⟨g, 0, none⟩) n cap ∧ n ≤ cap ∧ cap ≤ 9223372036854775807 ∧ base ≤ g ∧ ∀ j, j < n → w.cell? ⟨g, j, none⟩ = some (.int .u8 (l.getD j 0 : Nat)) := by
  rcases h.2 with ⟨_, hn0⟩ | ⟨g, cap, cur, hv, hb, hg, hnc, hcm, hcs, ht⟩
  · omega
  · subst hv
    exact ⟨g, cap, rfl, hnc, by unfold maxLen at hcm; omega, hb, fun j hj => by rw [h.cellAt j (by omega), numCells_get l j (by omega)]⟩

/-- The bytes of characters, or nothing: one is none. -/
def EncPost (n : Nat) (f : Nat → Int) (w : World) (e : Ending) (w' : World) : Prop :=
  Below w.heap.size w w' ∧ ((∀ j, j < n → mayZ (f j) = true) ∧ (∃ s : ByteArray, e = .returned (.tuple #[.string s, .bool true]) ∧ s.data.toList = (encAll f n).map UInt8.ofNat) ∨
    (∃ j, j < n ∧ mayZ (f j) = false) ∧ e = .returned (.tuple #[.string ⟨#[]⟩, .bool false]))

set_option maxRecDepth 20000 in
set_option maxHeartbeats 2000000 in
theorem refEncode_any (ao : Option Addr) (n nc : Nat) (f : Nat → Int) (w : World) (hn : n ≤ 100000) (hf : SlZ w ao n f) :
    Calls Try.prog 11 #[.slice ao n nc] w (EncPost n f w) := by
  obtain ⟨i8, hi, hz0, hz1, hz2⟩ := info_parts info8u
  have hf' := Lib.hid hf
  clear hf
  go_enter Try.func11, Try.ntmps11
  go_wp2_with fail
  go_loopw [4, 5] (fun v i wr => ∃ j : Nat, j ≤ n ∧ i = .int .i64 j ∧ Hid (∀ t, t < j → mayZ (f t) = true) ∧ wr.ownsRow w.heap.size 5 1 v (encAll f j).length (numCells (encAll f j)) ∧ (j = 0 → v = .slice none 0 0) ∧ Below w.heap.size w wr) (fun _ i _ => n - (intOfZ i).toNat)
  case atStart => exact ⟨0, Nat.zero_le _, rfl, Lib.hid fun t h => by omega, World.ownsRow_nil _ _ _ _, fun _ => rfl, Below.refl _ _⟩
  case round =>
    obtain ⟨j, hj, rfl, hm, hown0, hnil0, hb0⟩ := hrel
    have hown := Lib.hid hown0; have hnil := Lib.hid hnil0; have hb := Lib.hid hb0
    clear hown0 hnil0 hb0
    by_cases hlt : j < n
    · have hfr := hf'.out.below hb.out
      rcases hfr with h | ⟨b, off, rfl, hc⟩
      · omega
      have c1 := hc j hlt
      clear hc
      go_wp2_with fail
      refine (may6_any (f j) _).mono ?_
      rintro e w' ⟨rfl, rfl⟩
      by_cases hmj : mayZ (f j) = true
      · rw [hmj]
        obtain ⟨r1, r2⟩ := may_range hmj
        obtain ⟨c, hcv⟩ := Int.eq_ofNat_of_zero_le r1
        have hmj' := Lib.hid hmj; have hcv' := Lib.hid hcv
        rw [hcv] at c1
        have hc3 : c ≤ 1114111 := by omega
        clear hmj hcv r1 r2
        go_wp2_with fail
        refine (one6_any c hc3 _).mono ?_
        rintro e w2 ⟨B, rfl, hB, hB2, hcell, hfree, hb2⟩
        have hb3 := Lib.hid (below_on hb.out hb2)
        have hown2 := Lib.hid (owns_later hown.out hb2)
        have el := encL_len c
        have al := encAll_len (f := f) j
        have hnews : ∀ q u, (numCells (encL c))[q]? = some u → w2.cell? ((⟨B, 0, none⟩ : Addr).add q) = some u := by
          intro q u hu
          have hq : q < (encL c).length := by
            have := (List.getElem?_eq_some_iff.1 hu).1
            unfold numCells at this
            simpa using this
          rw [numCells_get _ _ hq] at hu
          rw [← hu, ← hcell q hq]
          rw [Addr.add_lit, Nat.zero_add]
        have hone : ∀ u ∈ numCells (encL c), u.oneCell' = true := by
          intro u hu
          unfold numCells at hu
          obtain ⟨x, _, rfl⟩ := List.mem_map.1 hu
          rfl
        have hnl : (numCells (encL c)).length = (encL c).length * 1 := by unfold numCells; simp
        have hnews' := Lib.hid hnews; have hone' := Lib.hid hone; have hnl' := Lib.hid hnl; have el' := Lib.hid el; have al' := Lib.hid al
        have hz2' := Lib.hid hz2
        clear hcell hfree hb2 hnews hone hnl el al
        go_wp2_with (at_builtin; refine wpList_append_own _ rfl (.tmp 18) (.tmp 23) 36 rfl w.heap.size 5 i8 (.int .u8 0) 1 1 Try.underlying36 hi hz0 hz1 hz2 rfl (by decide) _ (encAll f j).length (numCells (encAll f j)) rfl hown2.out ⟨B, 0, none⟩ (encL c).length (encL c).length (numCells (encL c)) rfl hnl'.out hnews'.out hone'.out (by have := el'.out; have := al'.out; unfold maxLen; omega) (by have := el'.out; have := al'.out; omega) hb3.out.size ?_)
        intro v' w3 hown3 hgr hnil3
        have hown4 := Lib.hid (show w3.ownsRow w.heap.size 5 1 v' (encAll f (j + 1)).length (numCells (encAll f (j + 1))) by
          have e1 : encAll f (j + 1) = encAll f j ++ encL c := by show encAll f j ++ encL (f j).toNat = _; rw [hcv'.out]; rfl
          rw [e1, numCells_append, List.length_append]
          exact hown3)
        have hb4 := Lib.hid (hb3.out.grown hgr hb3.out.size (fun q hq => (hown2.out.lt q hq).1))
        clear hown3 hgr hnil3
        go_wp2_with fail
        go_roundw
        case rel =>
          refine ⟨j + 1, by omega, by go_num, Lib.hid fun t ht => ?_, hown4.out, fun h => by omega, hb4.out⟩
          by_cases e : t = j
          · rw [e]; exact hmj'.out
          · exact hm.out t (by omega)
        case measure => simp [intOfZ]; omega
      · have hmj2 : mayZ (f j) = false := by simpa using hmj
        rw [hmj2]
        have hmj' := Lib.hid hmj2
        clear hmj hmj2
        go_wp2_with fail
        go_ret2
        exact ⟨hb.out, .inr ⟨⟨j, hlt, hmj'.out⟩, rfl⟩⟩
    · obtain rfl : j = n := by omega
      by_cases h0 : j = 0
      · subst h0
        have hu := hnil.out rfl
        subst hu
        have hconv := run_convert_bytes_nil (P := Try.prog) wr 36 5 Try.underlying36 Try.underlying5 0 0 9 Try.underlying9
        go_wp2_with fail
        go_ret2
        exact ⟨hb.out, .inl ⟨hm.out, _, rfl, rfl⟩⟩
      · have al := encAll_len (f := f) j
        obtain ⟨g, cap, rfl, k1, k2, k3, hcell⟩ := owns_cells hown.out (by omega) rfl
        have hconv := run_convert_bytes_arg (P := Try.prog) wr 36 5 Try.underlying36 Try.underlying5 g 0 (encAll f j).length cap ((encAll f j).map fun x : Nat => (x : Int)) (by simp) (fun i hi => by rw [Nat.zero_add, hcell i hi]; simp [hi]) 9 Try.underlying9
        have hcell' := Lib.hid hcell
        have h0' := Lib.hid h0
        clear hcell al k1 k2 k3 h0
        go_wp2_with fail
        go_ret2
        refine ⟨hb.out, .inl ⟨hm.out, _, rfl, ?_⟩⟩
        rw [strOfNums_data, List.map_map]
        exact List.map_congr_left fun x _ => by simp

end Go.Proofs.Ytgaombefigjilaa
