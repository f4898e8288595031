/-
  Characters are told again by their bytes, and bytes that are characters' by these (plain).
-/
import Derived.Test.YtgaombefigjilaaHl
namespace Go.Proofs.Ytgaombefigjilaa
open Go.RowKit

theorem enc_1 {c : Nat} (h : c < 128) : encL c = [c] := if_pos h

theorem enc_2 {c : Nat} (h : ¬ c < 128) (k : c < 2048) : encL c = [192 + c / 64, 128 + c % 64] := (if_neg h).trans (if_pos k)

theorem enc_3 {c : Nat} (h : ¬ c < 128) (k : ¬ c < 2048) (l : c < 65536) : encL c = [224 + c / 4096, 128 + c / 64 % 64, 128 + c % 64] := (if_neg h).trans ((if_neg k).trans (if_pos l))

theorem enc_4 {c : Nat} (h : ¬ c < 128) (k : ¬ c < 2048) (l : ¬ c < 65536) : encL c = [240 + c / 262144, 128 + c / 4096 % 64, 128 + c / 64 % 64, 128 + c % 64] := (if_neg h).trans ((if_neg k).trans (if_neg l))

/-- Where a character's bytes stand, it is told. -/
theorem ch_of_bytes {s : ByteArray} {i c : Nat} (hc : mayZ (c : Int) = true) (hr : i + (encL c).length ≤ s.size) (hm : ∀ t, t < (encL c).length → (encL c).getD t 0 = bt s (i + t)) : chAt s i = some (c, (encL c).length) := by
  have hr1 := may_range hc
  by_cases h1 : c < 128
  · rw [enc_1 h1] at hm ⊢
    have m0 : c = bt s i := hm 0 (by simp)
    exact ch_some (by rw [dec_1 (by omega), ← m0]; rfl) (by omega)
  · by_cases h2 : c < 2048
    · rw [enc_2 h1 h2] at hm hr ⊢
      have m0 : 192 + c / 64 = bt s i := hm 0 (by simp)
      have m1 : 128 + c % 64 = bt s (i + 1) := hm 1 (by simp)
      have hr2 : i + 2 ≤ s.size := hr
      have e : two s i = c := by unfold two; rw [← m0, ← m1]; omega
      exact ch_some (by rw [dec_2 (by omega) (by omega) ⟨by omega, by omega⟩, e, if_pos (by omega)]; rfl) (by simp)
    · by_cases h3 : c < 65536
      · rw [enc_3 h1 h2 h3] at hm hr ⊢
        have m0 : 224 + c / 4096 = bt s i := hm 0 (by simp)
        have m1 : 128 + c / 64 % 64 = bt s (i + 1) := hm 1 (by simp)
        have m2 : 128 + c % 64 = bt s (i + 2) := hm 2 (by simp)
        have hr2 : i + 3 ≤ s.size := hr
        have e : three s i = c := by unfold three; rw [← m0, ← m1, ← m2]; omega
        exact ch_some (by rw [dec_3 (by omega) (by omega) ⟨by omega, by omega⟩ ⟨by omega, by omega⟩, e, if_pos (by rw [valid_may, hc, Bool.and_true]; exact decide_eq_true (by omega))]; rfl) (by simp)
      · rw [enc_4 h1 h2 h3] at hm hr ⊢
        have m0 : 240 + c / 262144 = bt s i := hm 0 (by simp)
        have m1 : 128 + c / 4096 % 64 = bt s (i + 1) := hm 1 (by simp)
        have m2 : 128 + c / 64 % 64 = bt s (i + 2) := hm 2 (by simp)
        have m3 : 128 + c % 64 = bt s (i + 3) := hm 3 (by simp)
        have hr2 : i + 4 ≤ s.size := hr
        have e : four s i = c := by unfold four; rw [← m0, ← m1, ← m2, ← m3]; omega
        exact ch_some (by rw [dec_4 (by omega) (by omega) ⟨by omega, by omega⟩ ⟨by omega, by omega⟩ ⟨by omega, by omega⟩, e, if_pos (by rw [valid_may, hc, Bool.and_true]; exact decide_eq_true (by omega))]; rfl) (by simp)

theorem encAll_pre (f : Nat → Int) (j : Nat) : ∀ k, j ≤ k → ∃ r, encAll f k = encAll f j ++ r
  | 0, h => by
    obtain rfl : j = 0 := by omega
    exact ⟨[], rfl⟩
  | k + 1, h => by
    by_cases e : j = k + 1
    · subst e; exact ⟨[], (List.append_nil _).symm⟩
    · obtain ⟨r, hr⟩ := encAll_pre f j k (by omega)
      refine ⟨r ++ encL (f k).toNat, ?_⟩
      show encAll f k ++ encL (f k).toNat = _
      rw [hr, List.append_assoc]

theorem bt_enc {s : ByteArray} {L : List Nat} (hs : s.data.toList = L.map UInt8.ofNat) (hb : ∀ x ∈ L, x < 256) (i : Nat) (hi : i < L.length) : bt s i = L.getD i 0 := by
  have hl : i < s.data.toList.length := by rw [hs, List.length_map]; exact hi
  rw [← bt_list s i hl]
  have e : s.data.toList[i]'hl = UInt8.ofNat (L[i]'hi) := by
    have h1 : s.data.toList[i]? = (L.map UInt8.ofNat)[i]? := by rw [hs]
    rw [List.getElem?_eq_getElem hl, List.getElem?_map, List.getElem?_eq_getElem hi] at h1
    simpa using h1
  have := hb _ (List.getElem_mem hi)
  rw [e, UInt8.toNat_ofNat', List.getD_eq_getElem?_getD, List.getElem?_eq_getElem hi]
  show L[i] % 256 = L[i]
  omega

/-- The bytes of characters are these characters'. -/
theorem enc_dec {s : ByteArray} {f : Nat → Int} {k : Nat} (hm : ∀ j, j < k → mayZ (f j) = true) (hs : s.data.toList = (encAll f k).map UInt8.ofNat) : Dec s k f (-1) := by
  have hsz : s.size = (encAll f k).length := by
    have := congrArg List.length hs
    simpa using this
  have key : ∀ j, j ≤ k → posAt s j = (encAll f j).length ∧ ∀ t, t < j → posAt s t < s.size ∧ chAt s (posAt s t) = some ((f t).toNat, (encL (f t).toNat).length) := by
    intro j
    induction j with
    | zero => exact fun _ => ⟨rfl, fun t h => by omega⟩
    | succ j ih =>
      intro hj
      obtain ⟨hp, hall⟩ := ih (by omega)
      obtain ⟨r, hr⟩ := encAll_pre f (j + 1) k hj
      have hmj := hm j (by omega)
      have hr1 := may_range hmj
      have hlen := encL_len (f j).toNat
      have e1 : encAll f (j + 1) = encAll f j ++ encL (f j).toNat := rfl
      have hl : (encAll f k).length = (encAll f j).length + (encL (f j).toNat).length + r.length := by rw [hr, e1, List.length_append, List.length_append]
      have hch : chAt s (posAt s j) = some ((f j).toNat, (encL (f j).toNat).length) := by
        rw [hp]
        refine ch_of_bytes (by rw [Int.toNat_of_nonneg hr1.1]; exact hmj) (by omega) fun t ht => ?_
        rw [bt_enc hs (encAll_byte k hm) _ (by omega), hr, e1]
        rw [List.append_assoc, List.getD_eq_getElem?_getD, List.getD_eq_getElem?_getD, List.getElem?_append_right (by omega), Nat.add_sub_cancel_left, List.getElem?_append_left ht]
      refine ⟨by rw [pos_step hch, hp, e1, List.length_append], fun t ht => ?_⟩
      by_cases e : t = j
      · subst e; exact ⟨by omega, hch⟩
      · exact hall t (by omega)
  obtain ⟨hp, hall⟩ := key k (Nat.le_refl _)
  refine ⟨fun t ht => ?_, .inl ⟨by omega, rfl⟩⟩
  obtain ⟨h1, h2⟩ := hall t ht
  have := may_range (hm t ht)
  exact ⟨h1, _, _, h2, (Int.toNat_of_nonneg this.1).symm⟩

/-- The characters that have been read have just the bytes ahead of where it ended. -/
theorem dec_enc {s : ByteArray} {f : Nat → Int} {n : Nat} {r : Int} (h : Dec s n f r) : (∀ t, t < n → mayZ (f t) = true) ∧ posAt s n ≤ s.size ∧ (encAll f n).map UInt8.ofNat = s.data.toList.take (posAt s n) := by
  have hl : s.data.toList.length = s.size := by simp
  have key : ∀ j, j ≤ n → (∀ t, t < j → mayZ (f t) = true) ∧ posAt s j ≤ s.size ∧ (encAll f j).map UInt8.ofNat = s.data.toList.take (posAt s j) := by
    intro j
    induction j with
    | zero => exact fun _ => ⟨fun t h => by omega, Nat.zero_le _, rfl⟩
    | succ j ih =>
      intro hj
      obtain ⟨hm, hp, he⟩ := ih (by omega)
      obtain ⟨h1, c, m, h2, h3⟩ := h.1 j (by omega)
      obtain ⟨k1, k2, k3, k4, k5, k6, k7, k8⟩ := ch_room h1 h2
      have hc : (f j).toNat = c := by rw [h3]; rfl
      refine ⟨fun t ht => ?_, by rw [pos_step h2]; exact k3, ?_⟩
      · by_cases e : t = j
        · subst e; rw [h3]; exact k4
        · exact hm t (by omega)
      · rw [pos_step h2, List.take_add, ← he]
        show (encAll f j ++ encL (f j).toNat).map UInt8.ofNat = _
        rw [List.map_append, hc]
        congr 1
        refine List.ext_getElem (by rw [List.length_map, k8.1, List.length_take, List.length_drop]; omega) fun t a b => ?_
        rw [List.length_map, k8.1] at a
        rw [List.getElem_map, List.getElem_take, List.getElem_drop]
        have h4 := k8.2 t a
        rw [List.getD_eq_getElem?_getD, List.getElem?_eq_getElem (by rw [k8.1]; exact a)] at h4
        have h5 : (encL c)[t]'(by rw [k8.1]; exact a) = bt s (posAt s j + t) := h4
        rw [h5, ← bt_list s (posAt s j + t) (by omega)]
        simp
  exact key n (Nat.le_refl _)

end Go.Proofs.Ytgaombefigjilaa
