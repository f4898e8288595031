/-
  scrimlaw02.awake: chapter 2's examples hold.
-/
import Derived.Test.YtajkdinlannmnaaDoorRef
namespace Go.Proofs.YtajkdinlannmnaaDoor
open Go.RowKit Num

theorem sl_new1 (w : World) (t : TypeId) (v : Int) (x : Nat) (h : v = x) : Sl (w.alloc (.cells #[.int .u32 v] t)) (some ⟨w.heap.size, 0, none⟩) 1 (fun _ => x) := by
  subst h
  refine .inr ⟨w.heap.size, 0, rfl, fun j hj => ?_⟩
  obtain rfl : j = 0 := by omega
  rw [Nat.zero_add, World.cell?_alloc_new]
  rfl
theorem sl_new2 (w : World) (t : TypeId) (u v : Int) (x y : Nat) (hu : u = x) (hv : v = y) : Sl (w.alloc (.cells #[.int .u32 u, .int .u32 v] t)) (some ⟨w.heap.size, 0, none⟩) 2 (put (fun _ => x) 1 y) := by
  subst hu hv
  refine .inr ⟨w.heap.size, 0, rfl, fun j hj => ?_⟩
  rw [Nat.zero_add, World.cell?_alloc_new]
  have : j = 0 ∨ j = 1 := by omega
  rcases this with rfl | rfl <;> rfl
theorem canon_one (x : Nat) (h0 : x ≠ 0) (h : x < 4294967296) : Canon x 1 (fun _ => x) := ⟨fun _ _ => h, .inr h0, by simp [val, pw]⟩

def AwakePost (w : World) (e : Ending) (w' : World) : Prop := e = .returned (.bool true) ∧ Below w.heap.size w w'

set_option maxHeartbeats 1000000 in
theorem awake_any (w : World) : Calls Tryd.prog 11 #[] w (AwakePost w) := by
  go_enter Tryd.func11, Tryd.ntmps11
  go_wp2_with fail
  obtain ⟨w1, hw1⟩ : ∃ w1, w1 = w.alloc (.cells #[.int .u32 0, .int .u32 1] 31) := ⟨_, rfl⟩
  rw [← hw1]
  have sw1 : Hid (Sl w1 (some ⟨w.heap.size, 0, none⟩) 2 (put (fun _ => 0) 1 1)) := by rw [hw1]; exact sl_new2 w _ _ _ _ _ rfl rfl
  have zw1 : w1.heap.size = w.heap.size + 1 := by rw [hw1]; simp
  have bw1 : Hid (Below w.heap.size w w1) := by rw [hw1]; exact (Below.refl _ _).alloc (Nat.le_refl _) _
  rw [← zw1]
  clear hw1
  obtain ⟨w2, hw2⟩ : ∃ w2, w2 = w1.alloc (.cells #[.int .u32 3] 31) := ⟨_, rfl⟩
  rw [← hw2]
  have sw2 : Hid (Sl w2 (some ⟨w1.heap.size, 0, none⟩) 1 (fun _ => 3)) := by rw [hw2]; exact sl_new1 w1 _ _ _ rfl
  have zw2 : w2.heap.size = w1.heap.size + 1 := by rw [hw2]; simp
  have bw2 : Hid (Below w1.heap.size w1 w2) := by rw [hw2]; exact (Below.refl _ _).alloc (Nat.le_refl _) _
  clear hw2
  have sw1' := Lib.hid (sw1.out.below bw2.out)
  have bb2 := Lib.hid (bw1.out.trans (bw2.out.mono (by omega)))
  refine (divMod_any (some ⟨w.heap.size, 0, none⟩) (some ⟨w1.heap.size, 0, none⟩) 2 2 1 1 (put (fun _ => 0) 1 1) (fun _ => 3) w2 ⟨by omega, by omega, by omega, sw1'.out, put_lim (fun _ _ => (by decide : 0 < 4294967296)) (by decide)⟩ ⟨by omega, by omega, by omega, sw2.out, fun _ _ => (by decide : 3 < 4294967296)⟩).mono ?_
  have e1 : val (put (fun _ => 0) 1 1) 2 = 4294967296 := by simp [val, pw, put]
  have e2 : val (fun _ => 3) 1 = 3 := by simp [val, pw]
  rw [e1, e2]
  rintro e w3 ⟨hb, h⟩
  rcases h with ⟨h, _⟩ | ⟨_, ao, n, nc, f, bo, m, mc, g, rfl, hn, hnc, hm, hmc, hsf, hcf, hsg, hcg⟩
  · exact absurd h (by decide)
  have hcf' : Hid (Canon 1431655765 n f) := hcf
  have hcg' : Hid (Canon 1 m g) := hcg
  have hsf' := Lib.hid hsf; have hsg' := Lib.hid hsg; have bb3 := Lib.hid (bb2.out.trans (hb.mono bb2.out.size))
  clear hcf hcg hsf hsg hb sw1 sw2 sw1' bw1 bw2 bb2 e1 e2 zw1 zw2
  go_wp2_with fail
  obtain ⟨w4, hw4⟩ : ∃ w4, w4 = w3.alloc (.cells #[.int .u32 1431655765] 31) := ⟨_, rfl⟩
  rw [← hw4]
  have sw4 : Hid (Sl w4 (some ⟨w3.heap.size, 0, none⟩) 1 (fun _ => 1431655765)) := by rw [hw4]; exact sl_new1 w3 _ _ _ rfl
  have bw4 : Hid (Below w3.heap.size w3 w4) := by rw [hw4]; exact (Below.refl _ _).alloc (Nat.le_refl _) _
  clear hw4
  have hsf4 := Lib.hid (hsf'.out.below bw4.out); have hsg4 := Lib.hid (hsg'.out.below bw4.out); have bb4 := Lib.hid (bb3.out.trans (bw4.out.mono bb3.out.size))
  refine (same_canon ao (some ⟨w3.heap.size, 0, none⟩) 1431655765 n nc 1 1 f _ w4 hn hnc hsf4.out sw4.out hcf'.out (canon_one 1431655765 (by decide) (by decide))).mono ?_
  rintro e w' ⟨rfl, p, rfl⟩
  obtain ⟨w5, hw5⟩ : ∃ w5, w5 = w4.drewN p := ⟨_, rfl⟩
  rw [← hw5]
  have hsg5 := Lib.hid (show Sl w5 bo m g by rw [hw5]; exact hsg4.out.same (fun _ => rfl))
  have bb5 := Lib.hid (show Below w.heap.size w w5 by rw [hw5]; exact below_drewN bb4.out p)
  clear hw5 bb4 hsg4 hsf4 hsg' hsf' bb3 sw4 bw4 hcf'
  go_wp2_with fail
  obtain ⟨w6, hw6⟩ : ∃ w6, w6 = w5.alloc (.cells #[.int .u32 1] 31) := ⟨_, rfl⟩
  rw [← hw6]
  have sw6 : Hid (Sl w6 (some ⟨w5.heap.size, 0, none⟩) 1 (fun _ => 1)) := by rw [hw6]; exact sl_new1 w5 _ _ _ rfl
  have bw6 : Hid (Below w5.heap.size w5 w6) := by rw [hw6]; exact (Below.refl _ _).alloc (Nat.le_refl _) _
  clear hw6
  have hsg6 := Lib.hid (hsg5.out.below bw6.out); have bb6 := Lib.hid (bb5.out.trans (bw6.out.mono bb5.out.size))
  refine (same_canon bo (some ⟨w5.heap.size, 0, none⟩) 1 m mc 1 1 g _ w6 hm hmc hsg6.out sw6.out hcg'.out (canon_one 1 (by decide) (by decide))).mono ?_
  rintro e w' ⟨rfl, p2, rfl⟩
  obtain ⟨w7, hw7⟩ : ∃ w7, w7 = w6.drewN p2 := ⟨_, rfl⟩
  rw [← hw7]
  have bb7 := Lib.hid (show Below w.heap.size w w7 by rw [hw7]; exact below_drewN bb6.out p2)
  clear hw7 bb6 bb5 bw6 sw6 hsg6 hsg5 hcg'
  go_wp2_with fail
  obtain ⟨w8, hw8⟩ : ∃ w8, w8 = w7.alloc (.cells #[.int .u32 12] 31) := ⟨_, rfl⟩
  rw [← hw8]
  have sw8 : Hid (Sl w8 (some ⟨w7.heap.size, 0, none⟩) 1 (fun _ => 12)) := by rw [hw8]; exact sl_new1 w7 _ _ _ rfl
  have bw8 : Hid (Below w7.heap.size w7 w8) := by rw [hw8]; exact (Below.refl _ _).alloc (Nat.le_refl _) _
  have zw8 : w8.heap.size = w7.heap.size + 1 := by rw [hw8]; simp
  rw [← zw8]
  have zw8' := Lib.hid zw8
  clear hw8 zw8
  obtain ⟨w9, hw9⟩ : ∃ w9, w9 = w8.alloc (.cells #[.int .u32 18] 31) := ⟨_, rfl⟩
  rw [← hw9]
  have sw9 : Hid (Sl w9 (some ⟨w8.heap.size, 0, none⟩) 1 (fun _ => 18)) := by rw [hw9]; exact sl_new1 w8 _ _ _ rfl
  have bw9 : Hid (Below w8.heap.size w8 w9) := by rw [hw9]; exact (Below.refl _ _).alloc (Nat.le_refl _) _
  clear hw9
  have sw8' := Lib.hid (sw8.out.below bw9.out)
  have bb8 := Lib.hid (bb7.out.trans (bw8.out.mono bb7.out.size))
  have bb9 := Lib.hid (bb8.out.trans (bw9.out.mono bb8.out.size))
  refine (gcd_any (some ⟨w7.heap.size, 0, none⟩) (some ⟨w8.heap.size, 0, none⟩) 1 1 1 1 (fun _ => 12) (fun _ => 18) w9 ⟨by omega, by omega, by omega, sw8'.out, fun _ _ => (by decide : 12 < 4294967296)⟩ ⟨by omega, by omega, by omega, sw9.out, fun _ _ => (by decide : 18 < 4294967296)⟩).mono ?_
  have e3 : Nat.gcd (val (fun _ => 12) 1) (val (fun _ => 18) 1) = 6 := by simp [val, pw]
  rw [e3]
  rintro e w10 ⟨ao, n, nc, f, rfl, hn, hnc, hsf, hcf, hb⟩
  have hsf' := Lib.hid hsf; have hcf' := Lib.hid hcf; have bb10 := Lib.hid (bb9.out.trans (hb.mono bb9.out.size))
  clear hsf hcf hb e3 bb9 bb8 sw8' sw9 bw9 sw8 bw8 zw8' bb7
  go_wp2_with fail
  obtain ⟨w11, hw11⟩ : ∃ w11, w11 = w10.alloc (.cells #[.int .u32 6] 31) := ⟨_, rfl⟩
  rw [← hw11]
  have sw11 : Hid (Sl w11 (some ⟨w10.heap.size, 0, none⟩) 1 (fun _ => 6)) := by rw [hw11]; exact sl_new1 w10 _ _ _ rfl
  have bw11 : Hid (Below w10.heap.size w10 w11) := by rw [hw11]; exact (Below.refl _ _).alloc (Nat.le_refl _) _
  clear hw11
  have hsf11 := Lib.hid (hsf'.out.below bw11.out); have bb11 := Lib.hid (bb10.out.trans (bw11.out.mono bb10.out.size))
  refine (same_canon ao (some ⟨w10.heap.size, 0, none⟩) 6 n nc 1 1 f _ w11 hn hnc hsf11.out sw11.out hcf'.out (canon_one 6 (by decide) (by decide))).mono ?_
  rintro e w' ⟨rfl, p3, rfl⟩
  go_wp2_with fail
  go_ret
  exact ⟨rfl, below_drewN bb11.out p3⟩

end Go.Proofs.YtajkdinlannmnaaDoor
