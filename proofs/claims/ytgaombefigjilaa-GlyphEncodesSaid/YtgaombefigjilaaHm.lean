/-
  scrimlaw06.awake: chapter 6's examples hold.
-/
import Derived.Test.YtgaombefigjilaaHl
namespace Go.Proofs.Ytgaombefigjilaa
open Go.RowKit

/-- A world, told anew by what holds of it. -/
theorem told_wp {P : Program} {c : Code} {Q : Exit → Act → World → Prop} {a : Act} {W : World} (R : World → Prop) (hW : R W) (h : ∀ w', R w' → Code.wp P c Q a w') : Code.wp P c Q a W := h W hW

theorem told_calls {P : Program} {f : FuncId} {args : Array Value} {Q : Ending → World → Prop} {W : World} (R : World → Prop) (hW : R W) (h : ∀ w', R w' → Calls P f args w' Q) : Calls P f args W Q := h W hW

theorem slz_one (w : World) (t : TypeId) (x : Int) : SlZ (w.alloc (.cells #[.int .i64 x] t)) (some ⟨w.heap.size, 0, none⟩) 1 (fun _ => x) := by
  refine .inr ⟨w.heap.size, 0, rfl, fun j hj => ?_⟩
  obtain rfl : j = 0 := by omega
  rw [Nat.zero_add, World.cell?_alloc_new]
  rfl

/-- It answers v, and what lay there lies as it did. -/
def Tell (v : Value) (w : World) (e : Ending) (w' : World) : Prop := e = .returned v ∧ Below w.heap.size w w'

theorem text_eq {s t : ByteArray} (h : s.data.toList = t.data.toList) : s = t := ByteArray.ext (Array.toList_inj.1 h)

theorem enc_rho {w w' : World} {e : Ending} (h : EncPost 1 (fun _ => 9076) w e w') : e = .returned (.tuple #[.string (ByteArray.mk #[226, 141, 180]), .bool true]) ∧ Below w.heap.size w w' := by
  obtain ⟨hb, ⟨_, s, rfl, hs⟩ | ⟨⟨j, _, hm⟩, _⟩⟩ := h
  · have e1 : (encAll (fun _ => 9076) 1).map UInt8.ofNat = [226, 141, 180] := by decide +kernel
    rw [e1] at hs
    rw [text_eq (t := ByteArray.mk #[226, 141, 180]) hs]
    exact ⟨rfl, hb⟩
  · exact absurd hm (by show ¬ mayZ 9076 = false; decide)

theorem dec_acz : Dec (ByteArray.mk #[65, 192, 128]) 1 (fun _ => 65) 1 := by
  have h0 : chAt (ByteArray.mk #[65, 192, 128]) 0 = some (65, 1) := by decide +kernel
  have h1 : chAt (ByteArray.mk #[65, 192, 128]) 1 = none := by decide +kernel
  have p : posAt (ByteArray.mk #[65, 192, 128]) 1 = 1 := pos_step (t := 0) h0
  refine ⟨fun t ht => ?_, .inr ⟨by rw [p]; decide, by rw [p]; exact h1, by rw [p]; rfl⟩⟩
  obtain rfl : t = 0 := by omega
  exact ⟨by decide, 65, 1, h0, rfl⟩

set_option maxRecDepth 20000 in
set_option maxHeartbeats 2000000 in
theorem awake6_any (w : World) : Calls Try.prog 10 #[] w (Tell (.bool true) w) := by
  go_enter Try.func10, Try.ntmps10
  go_wp2_with fail
  refine told_calls (fun w' => Below w.heap.size w w' ∧ SlZ w' (some ⟨w.heap.size, 0, none⟩) 1 (fun _ => 9076))
    ⟨(Below.refl _ _).alloc (Nat.le_refl _) _, slz_one w _ 9076⟩ ?_
  rintro w0 ⟨b0, z0⟩
  have b0' := Lib.hid b0
  refine (encodeP_any _ 1 1 _ w0 (by omega) z0).mono fun e w1 h => ?_
  obtain ⟨rfl, hb⟩ := enc_rho h
  have b1 := Lib.hid (b0.trans (hb.mono b0.size))
  clear h hb b0 b0' z0
  go_wp2_with fail
  refine (decodeP_any (ByteArray.mk #[65, 192, 128]) (by decide) w1).mono ?_
  rintro e w2 ⟨ao, n, nc, f, r, rfl, hn, hnc, hz, hd, hb⟩
  obtain ⟨rfl, rfl, hf⟩ := hd.uniq dec_acz
  have b2 := Lib.hid (b1.out.trans (hb.mono b1.out.size))
  have z2 := Lib.hid (hz.congr hf)
  clear hz hd hb hf b1
  go_wp2_with fail
  refine told_calls (fun w' => Below w.heap.size w w' ∧ SlZ w' ao 1 (fun _ => 65) ∧ SlZ w' (some ⟨w2.heap.size, 0, none⟩) 1 (fun _ => 65))
    ⟨b2.out.alloc b2.out.size _, z2.out.below ((Below.refl _ _).alloc (Nat.le_refl _) _), slz_one w2 _ 65⟩ ?_
  rintro w3 ⟨b3, z3, y3⟩
  have b3' := Lib.hid b3
  refine (ints_any _ _ 1 nc 1 1 _ _ w3 (by omega) z3 y3).mono ?_
  rintro e w4 ⟨⟨rfl, _⟩ | ⟨_, h⟩, hb⟩
  · have b4 := Lib.hid (b3.trans (hb.mono b3.size))
    clear b3 z3 y3 hb b3'
    go_wp2_with (go_at_call 12; refine (classP_any 9076 _).mono ?_; rintro e w' ⟨rfl, rfl⟩; rw [show classZ 9076 = 4 from rfl])
    go_ret
    exact ⟨rfl, b4.out⟩
  · exact absurd ⟨rfl, fun _ _ => rfl⟩ h

end Go.Proofs.Ytgaombefigjilaa
