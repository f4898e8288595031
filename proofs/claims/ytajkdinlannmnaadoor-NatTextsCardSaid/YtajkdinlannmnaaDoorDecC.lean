/-
  nat.isText.
-/
import Derived.Test.YtajkdinlannmnaaDoorDecB
namespace Go.Proofs.YtajkdinlannmnaaDoor
open Go.RowKit Num

/-- The j-th byte; 0: there is none. -/
def byt (s : ByteArray) (j : Nat) : Nat := (s.data.toList.getD j 0).toNat

theorem byt_at (s : ByteArray) (j : Nat) (h : j < s.size) : (s[j]'h).toNat = byt s j := by
  unfold byt
  rw [List.getD_eq_getElem?_getD, List.getElem?_eq_getElem (by simpa using h)]
  rfl
theorem byt_lt (s : ByteArray) (j : Nat) : byt s j < 256 := UInt8.toNat_lt _

/-- Is it a number's text? -/
def IsT (s : ByteArray) : Prop := 0 < s.size ∧ (∀ j, j < s.size → 48 ≤ byt s j ∧ byt s j ≤ 57) ∧ (s.size = 1 ∨ byt s 0 ≠ 48)

set_option maxHeartbeats 1000000 in
theorem isText_any (s : ByteArray) (hs : s.size ≤ 1000000) (w : World) :
    Calls Tryd.prog 17 #[.string s] w fun e w' => (e = .returned (.bool false) ∧ ¬ IsT s ∨ e = .returned (.bool true) ∧ IsT s) ∧ w = w' := by
  go_enter Tryd.func17, Tryd.ntmps17
  go_wp2_with fail
  go_loop [6] (fun i => ∃ j : Nat, j ≤ s.size ∧ i = .int .i64 j ∧ ∀ t, t < j → 48 ≤ byt s t ∧ byt s t ≤ 57) (fun i => s.size - (intOf i).toNat)
  case atStart => exact ⟨0, Nat.zero_le _, rfl, fun t h => by omega⟩
  case round =>
    obtain ⟨j, hj, rfl, hd0⟩ := hrel
    have hd := Lib.hid hd0; clear hd0
    by_cases hlt : j < s.size
    · have hb := byt_at s j hlt
      by_cases c1 : byt s j < 48
      · go_wp2_with fail
        go_ret
        exact ⟨.inl ⟨rfl, fun h => by have := h.2.1 j hlt; omega⟩, rfl⟩
      · by_cases c2 : 57 < byt s j
        · go_wp2_with fail
          go_ret
          exact ⟨.inl ⟨rfl, fun h => by have := h.2.1 j hlt; omega⟩, rfl⟩
        · go_wp2_with fail
          go_round
          case rel =>
            refine ⟨j + 1, by omega, by go_num, fun t ht => ?_⟩
            by_cases e : t = j
            · rw [e]; omega
            · exact hd.out t (by omega)
          case measure => simp [intOf]; omega
    · obtain rfl : j = s.size := by omega
      have hl : s.toList = s.data.toList := ByteArray.toList_eq s
      have hn : s.data.toList.length = s.size := by rw [Array.length_toList]; rfl
      by_cases e0 : s.size = 0
      · have hz : s.toList = [] := by rw [hl]; exact List.eq_nil_of_length_eq_zero (by omega)
        have h1 : (s.toList == [48]) = false := by rw [hz]; rfl
        have h2 : s.toList.isEmpty = true := by rw [hz]; rfl
        clear hl hn hz
        go_wp2_with fail
        go_ret
        exact ⟨.inl ⟨rfl, fun h => by have := h.1; omega⟩, rfl⟩
      · have h2 : s.toList.isEmpty = false := by
          rw [hl]
          cases h : s.data.toList with
          | nil => rw [h] at hn; simp at hn; omega
          | cons x xs => rfl
        have h3 := byt_at s 0 (Nat.pos_of_ne_zero e0)
        by_cases e1 : s.toList = [48]
        · have h1 : (s.toList == [48]) = true := by rw [e1]; rfl
          have hs1 : s.size = 1 := by rw [← hn, ← hl, e1]; rfl
          clear hl hn
          go_wp2_with fail
          go_ret
          exact ⟨.inr ⟨rfl, by omega, hd.out, .inl hs1⟩, rfl⟩
        · have h1 : (s.toList == [48]) = false := by simpa using e1
          by_cases e2 : byt s 0 = 48
          · have h4 : ((byt s 0 : Int) != 48) = false := by simp [e2]
            have hne : Hid (¬ IsT s) := Lib.hid <| by
              intro h
              rcases h.2.2 with g | g
              · refine e1 (hl.trans ?_)
                obtain ⟨x, hx⟩ := List.length_eq_one_iff.1 (hn.trans g)
                unfold byt at e2
                rw [hx] at e2
                simp at e2
                have e3 : x = 48 := UInt8.toNat_inj.1 e2
                rw [hx, e3]
              · exact g e2
            clear hl hn e1 e2
            go_wp2_with fail
            go_ret
            exact ⟨.inl ⟨rfl, hne.out⟩, rfl⟩
          · have h4 : ((byt s 0 : Int) != 48) = true := by simp; omega
            clear hl hn e1
            go_wp2_with fail
            go_ret
            exact ⟨.inr ⟨rfl, by omega, hd.out, .inr e2⟩, rfl⟩

end Go.Proofs.YtajkdinlannmnaaDoor
