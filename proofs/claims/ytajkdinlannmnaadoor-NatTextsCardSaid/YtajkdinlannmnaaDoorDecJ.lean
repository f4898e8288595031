/-
  scrimlaw02.NatTexts, walked.
-/
import Derived.Test.YtajkdinlannmnaaDoorDecI
import Derived.Test.YtajkdinlannmnaaDoorAwake
namespace Go.Proofs.YtajkdinlannmnaaDoor
open Go.RowKit Num

/-- A call that tells one value; what lay there before lies there still. -/
def Tells (v : Value) (w : World) (e : Ending) (w' : World) : Prop := e = .returned v ∧ Below w.heap.size w w'

theorem same_t (ao bo : Option Addr) (v n nc m mc : Nat) (f g : Nat → Nat) (w : World) (hn : n ≤ nc) (hnc : nc ≤ 9223372036854775807) (hf : Sl w ao n f) (hg : Sl w bo m g) (cf : Canon v n f) (cg : Canon v m g) :
    Calls Tryd.prog 8 #[.slice ao n nc, .slice bo m mc] w (Tells (.bool true) w) :=
  (same_canon ao bo v n nc m mc f g w hn hnc hf hg cf cg).mono fun _ _ ⟨he, _, hw⟩ => ⟨he, by rw [hw]; exact below_drewN (Below.refl _ _) _⟩
theorem awake_t (w : World) : Calls Tryd.prog 11 #[] w (Tells (.bool true) w) := awake_any w

theorem sval_dval {s : ByteArray} {d : Nat → Nat} {k : Nat} (h : ∀ j, j < k → byt s j = 48 + d (k - 1 - j)) : ∀ j, j ≤ k → dval d k = dval d (k - j) + 10 ^ (k - j) * sval s j
  | 0, _ => by simp [sval]
  | j + 1, hj => by
    have ih := sval_dval h j (by omega)
    obtain ⟨t, ht⟩ : ∃ t, k - j = t + 1 := ⟨k - j - 1, by omega⟩
    have e : sval s (j + 1) = sval s j * 10 + (byt s j - 48) := rfl
    have e1 : k - 1 - j = t := by omega
    rw [ht, dval_succ, ten_succ] at ih
    rw [show k - (j + 1) = t by omega, e, h j (by omega), e1, ih, Nat.mul_add, show 48 + d t - 48 = d t by omega]
    have e2 : 10 * 10 ^ t * sval s j = 10 ^ t * (sval s j * 10) := by rw [Nat.mul_comm 10, Nat.mul_assoc, Nat.mul_comm 10]
    have e3 : d t * 10 ^ t = 10 ^ t * d t := Nat.mul_comm _ _
    omega

theorem sval_all {s : ByteArray} {d : Nat → Nat} {k : Nat} (h : ∀ j, j < k → byt s j = 48 + d (k - 1 - j)) : sval s k = dval d k := by
  have e := sval_dval h k (Nat.le_refl _)
  rw [Nat.sub_self] at e
  simp [dval] at e
  exact e.symm

theorem byt_of {s : ByteArray} {l : List UInt8} (h : s.data.toList = l) (j : Nat) : byt s j = (l.getD j 0).toNat := by
  unfold byt
  rw [h]
theorem size_of {s : ByteArray} {l : List UInt8} (h : s.data.toList = l) : s.size = l.length := by rw [← h, Array.length_toList]; rfl
theorem bytes_eq {s t : ByteArray} (h : s.data.toList = t.data.toList) : s = t := ByteArray.ext (Array.toList_inj.1 h)

/-- A number's digits are a number's text, and that number's. -/
theorem dec_isT {s : ByteArray} {d : Nat → Nat} {k V : Nat} (hc : Dcan V k d) (h : s.data.toList = decText d k) (hV : V < pw 40) : IsT s ∧ sval s s.size = V ∧ s.size ≤ 2000 := by
  by_cases h0 : k = 0
  · subst h0
    have hl : s.data.toList = [48] := h
    have hs : s.size = 1 := size_of hl
    have hb : byt s 0 = 48 := by rw [byt_of hl]; rfl
    refine ⟨⟨by omega, fun j hj => ?_, .inl hs⟩, ?_, by omega⟩
    · obtain rfl : j = 0 := by omega
      omega
    · rw [hs]
      show sval s 0 * 10 + (byt s 0 - 48) = V
      rw [hb, ← hc.val]
      rfl
  · have hl : s.data.toList = digBytes d k := by rw [h]; unfold decText; rw [if_neg h0]
    have hs : s.size = k := by rw [size_of hl]; simp [digBytes]
    have hb : ∀ j, j < k → byt s j = 48 + d (k - 1 - j) := by
      intro j hj
      have hd := hc.dig (k - 1 - j) (by omega)
      rw [byt_of hl]
      unfold digBytes
      rw [List.getD_eq_getElem?_getD, List.getElem?_map, List.getElem?_range hj]
      show (UInt8.ofNat (48 + d (k - 1 - j))).toNat = _
      rw [UInt8.toNat_ofNat']
      exact Nat.mod_eq_of_lt (by omega)
    have htop := hc.top.resolve_left h0
    refine ⟨⟨by omega, fun j hj => ?_, .inr ?_⟩, ?_, ?_⟩
    · rw [hb j (by omega)]
      have := hc.dig (k - 1 - j) (by omega)
      omega
    · rw [hb 0 (by omega), Nat.sub_zero]
      omega
    · rw [hs, sval_all hb, hc.val]
    · have : k - 1 < 32 * 40 := ten_few (Nat.lt_of_le_of_lt (dval_ge (n := k - 1) htop) (by rw [show k - 1 + 1 = k by omega, hc.val]; exact hV))
      omega

/-- A number's text is its digits. -/
theorem isT_dec {s : ByteArray} (h : IsT s) : ∃ (k : Nat) (d : Nat → Nat), Dcan (sval s s.size) k d ∧ s.data.toList = decText d k := by
  obtain ⟨h0, hd, ht⟩ := h
  by_cases c : byt s 0 = 48
  · have hs : s.size = 1 := by omega
    refine ⟨0, fun _ => 0, ⟨fun j hj => by omega, .inl rfl, ?_⟩, ?_⟩
    · rw [hs]
      show 0 = sval s 0 * 10 + (byt s 0 - 48)
      rw [c]
      rfl
    · have hl : s.data.toList.length = 1 := by rw [Array.length_toList]; exact hs
      obtain ⟨x, hx⟩ := List.length_eq_one_iff.1 hl
      rw [byt_of hx] at c
      have e3 : x = 48 := UInt8.toNat_inj.1 c
      rw [hx, e3]
      rfl
  · have hb : ∀ j, j < s.size → byt s j = 48 + (fun t => byt s (s.size - 1 - t) - 48) (s.size - 1 - j) := by
      intro j hj
      show byt s j = 48 + (byt s (s.size - 1 - (s.size - 1 - j)) - 48)
      rw [show s.size - 1 - (s.size - 1 - j) = j by omega]
      have := hd j hj
      omega
    refine ⟨s.size, fun t => byt s (s.size - 1 - t) - 48, ⟨fun j hj => ?_, .inr ?_, (sval_all hb).symm⟩, ?_⟩
    · have := hd (s.size - 1 - j) (by omega)
      show byt s (s.size - 1 - j) - 48 < 10
      omega
    · have := hd 0 h0
      show byt s (s.size - 1 - (s.size - 1)) - 48 ≠ 0
      rw [Nat.sub_self]
      omega
    · unfold decText
      rw [if_neg (by omega)]
      refine List.ext_getElem? fun j => ?_
      by_cases hj : j < s.size
      · unfold digBytes
        rw [List.getElem?_map, List.getElem?_range hj]
        show _ = some (UInt8.ofNat (48 + (fun t => byt s (s.size - 1 - t) - 48) (s.size - 1 - j)))
        rw [← hb j hj]
        have hj' : j < s.data.toList.length := by rw [Array.length_toList]; exact hj
        rw [List.getElem?_eq_getElem hj']
        congr 1
        unfold byt
        rw [List.getD_eq_getElem?_getD, List.getElem?_eq_getElem hj']
        simp
      · rw [List.getElem?_eq_none (by rw [Array.length_toList]; exact Nat.le_of_not_lt hj), List.getElem?_eq_none (by simp [digBytes]; omega)]

theorem dec_uniq {s t : ByteArray} {d e : Nat → Nat} {k l V : Nat} (a : Dcan V k d) (b : Dcan V l e) (hs : s.data.toList = decText d k) (ht : t.data.toList = decText e l) : s = t :=
  bytes_eq (by rw [hs, ht, decText_eq a b])

end Go.Proofs.YtajkdinlannmnaaDoor
