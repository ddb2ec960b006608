/-
  awake: the chapter's examples.
-/
import Derived.Test.YtbpdhcfmdkmoiabDoorHwK
namespace Go.Proofs.YtbpdhcfmdkmoiabDoor
open Go.RowKit

theorem own_lit22 (w : World) (e : TypeId) (xs : List Value) (n s : Nat) (hl : xs.length = n * s) (hn : n ≤ maxLen) (B : Nat) (hB : B ≤ w.heap.size) : (w.alloc (.cells xs.toArray e)).ownsRow B e s (.slice (some ⟨w.heap.size, 0, none⟩) n n) n xs :=
  ⟨hl, .inr ⟨w.heap.size, n, xs.toArray, rfl, hB, heap_alloc_last w _, Nat.le_refl _, hn, by simpa using hl, by rw [← hl]; simp⟩⟩
theorem fw_lit22 (w : World) (l : List Fd) (n : Nat) (hn : l.length = n) (h : n ≤ maxLen) : FW (w.alloc (.cells (fC l).toArray 45)) (.slice (some ⟨w.heap.size, 0, none⟩) n n) l :=
  FW.of_own (B := w.heap.size) (e := 45) (by rw [hn]; exact own_lit22 w 45 (fC l) n 2 (by rw [fC_length, hn]) h w.heap.size (Nat.le_refl _))
namespace Hw
theorem awP1 : pieces ⟨200, [⟨⟨#[99, 111, 110, 116, 101, 110, 116, 45, 108, 101, 110, 103, 116, 104]⟩, ⟨#[50]⟩⟩], ⟨#[97, 98]⟩, []⟩ false false false = ([[72, 84, 84, 80, 47, 49, 46, 49, 32, 50, 48, 48, 32, 79, 75, 13, 10, 99, 111, 110, 116, 101, 110, 116, 45, 108, 101, 110, 103, 116, 104, 58, 32, 50, 13, 10, 13, 10], [97, 98]], 0) := by decide +kernel
theorem awP2 : pieces ⟨200, [⟨⟨#[120]⟩, ⟨#[97, 13, 98]⟩⟩], ⟨#[]⟩, []⟩ false false false = ([], 220) := by decide +kernel
theorem awR : reason 404 = [78, 111, 116, 32, 70, 111, 117, 110, 100] := by decide +kernel
theorem awC : line1 100 ++ crlf = [72, 84, 84, 80, 47, 49, 46, 49, 32, 49, 48, 48, 32, 67, 111, 110, 116, 105, 110, 117, 101, 13, 10, 13, 10] := by decide +kernel
end Hw
theorem awF1 : FO22 [⟨⟨#[99, 111, 110, 116, 101, 110, 116, 45, 108, 101, 110, 103, 116, 104]⟩, ⟨#[50]⟩⟩] := ⟨by decide, fun f hf => by rw [List.mem_singleton.1 hf]; exact ⟨by decide, by decide⟩, by decide +kernel⟩
theorem awF2 : FO22 [⟨⟨#[120]⟩, ⟨#[97, 13, 98]⟩⟩] := ⟨by decide, fun f hf => by rw [List.mem_singleton.1 hf]; exact ⟨by decide, by decide⟩, by decide +kernel⟩
theorem awF3 : FO22 [] := ⟨by decide, fun f hf => (by simp at hf), by decide +kernel⟩

set_option maxHeartbeats 4000000 in
set_option maxRecDepth 20000 in
theorem awake22 (w : World) (hT : TB w) (hZ : TZ w) : Calls Tryd.prog 5 #[] w fun e w' => e = .returned (.bool true) ∧ Below w.heap.size w w' := by
  have HT := hid' hT
  have HZ := hid' hZ
  clear hT hZ
  have HW1 := hid' (fw_lit22 w [⟨⟨#[99, 111, 110, 116, 101, 110, 116, 45, 108, 101, 110, 103, 116, 104]⟩, ⟨#[50]⟩⟩] 1 rfl (by decide))
  have HB1 := hid' (bl_alloc w (.cells (fC [⟨⟨#[99, 111, 110, 116, 101, 110, 116, 45, 108, 101, 110, 103, 116, 104]⟩, ⟨#[50]⟩⟩]).toArray 45))
  have HP1 := hid' (cpieces22 200 (.slice (some ⟨w.heap.size, 0, none⟩) 1 1) ⟨#[97, 98]⟩ (.slice none 0 0) [⟨⟨#[99, 111, 110, 116, 101, 110, 116, 45, 108, 101, 110, 103, 116, 104]⟩, ⟨#[50]⟩⟩] [] false false false _ HW1.out (.inl ⟨rfl, rfl⟩) awF1 awF3 (by decide) (HT.out.keep HB1.out) (HZ.out.keep HB1.out))
  rw [Hw.awP1] at HP1
  go_enter Tryd.func5, Tryd.ntmps5
  go_wp2_with (go_at_call 4; refine HP1.out.mono ?_; rintro e w2 ⟨ao, cap, rfl, ho, hb2⟩; refine Hid.out ?_)
  refine hid' ?_
  have HB2 := hid' (below_two HB1.out hb2)
  have HO2 := hid' ho
  clear ho hb2 HW1 HP1
  have HW3 := hid' (fw_lit22 w2 [⟨⟨#[120]⟩, ⟨#[97, 13, 98]⟩⟩] 1 rfl (by decide))
  have HB3 := hid' (bl_alloc w2 (.cells (fC [⟨⟨#[120]⟩, ⟨#[97, 13, 98]⟩⟩]).toArray 45))
  have HP3 := hid' (cpieces22 200 (.slice (some ⟨w2.heap.size, 0, none⟩) 1 1) ⟨#[]⟩ (.slice none 0 0) [⟨⟨#[120]⟩, ⟨#[97, 13, 98]⟩⟩] [] false false false _ HW3.out (.inl ⟨rfl, rfl⟩) awF2 awF3 (by decide) (HT.out.keep (below_two HB2.out HB3.out)) (HZ.out.keep (below_two HB2.out HB3.out)))
  rw [Hw.awP2] at HP3
  go_wp2_with (go_at_call 4; refine HP3.out.mono ?_; rintro e w4 ⟨ao4, cap4, rfl, ho4, hb4⟩; refine Hid.out ?_)
  refine hid' ?_
  have HB4 := hid' (below_two HB2.out (below_two HB3.out hb4))
  have HO4 := hid' (own_same HO2.out (fun i hi => (below_two HB3.out hb4).block i (own_lt HO2.out i hi)))
  clear ho4 hb4 HW3 HP3 HB3 HB2 HO2 HB1
  obtain ⟨g, rfl⟩ : ∃ g, ao = some ⟨g, 0, none⟩ := by
    rcases HO4.out.2 with ⟨_, h2⟩ | ⟨g, cp, cur, h1, _⟩
    · simp at h2
    · injection h1 with h1 _ _; exact ⟨g, h1⟩
  have y0 : w4.cell? ⟨g, 0, none⟩ = some (.string ⟨#[72, 84, 84, 80, 47, 49, 46, 49, 32, 50, 48, 48, 32, 79, 75, 13, 10, 99, 111, 110, 116, 101, 110, 116, 45, 108, 101, 110, 103, 116, 104, 58, 32, 50, 13, 10, 13, 10]⟩) := by
    have h1 := HO4.out.cells (g := g) rfl 0 _ rfl
    rwa [Addr.add_mid, Nat.zero_add] at h1
  have y1 : w4.cell? ⟨g, 1, none⟩ = some (.string ⟨#[97, 98]⟩) := by
    have h1 := HO4.out.cells (g := g) rfl 1 _ rfl
    rwa [Addr.add_mid, Nat.zero_add] at h1
  have HR := hid' (creason22 404)
  rw [Hw.awR] at HR
  have HC := hid' (ccont22 w4 (HT.out.keep HB4.out))
  rw [Hw.awC] at HC
  go_wp2_with (go_at_call 15; refine (HR.out _).mono ?_; rintro e w5 ⟨rfl, hw5⟩; refine Hid.out ?_)
  refine hid' ?_
  subst hw5
  go_wp2_with (go_at_call 16; refine HC.out.mono ?_; rintro e w6 ⟨rfl, hb6⟩; refine Hid.out ?_)
  refine hid' ?_
  have HB6 := hid' (below_two HB4.out hb6)
  clear hb6 y0 y1
  go_wp2
  go_ret
  exact ⟨rfl, HB6.out⟩

end Go.Proofs.YtbpdhcfmdkmoiabDoor
