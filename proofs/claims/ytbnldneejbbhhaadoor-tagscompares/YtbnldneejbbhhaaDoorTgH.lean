/-
  The code's valuesOf, valueOf, dateOf of one field or of none: by their contracts.
-/
import Derived.Test.YtbnldneejbbhhaaDoorTgG
namespace Go.Proofs.YtbnldneejbbhhaaDoor
open Go.RowKit

theorem infoS15 : (Tryd.prog.info? 9).map (fun i => (i.zero, i.size, i.bytes)) = some (some (.string ⟨#[]⟩), 1, 16) := by kernel_rfl
theorem one_cell15 (w : World) (T : TypeId) (x0 : Value) : ∀ j v, [x0][j]? = some v → (w.alloc (.cells #[x0] T)).cell? ((⟨w.heap.size, 0, none⟩ : Addr).add j) = some v := by
  intro j v h
  rw [Addr.add_mid, Nat.zero_add]
  have hA : Ar (w.alloc (.cells #[x0] T)) w.heap.size T #[x0] := heap_alloc_last w _
  exact hA.cell j v (by simpa using h)

set_option maxHeartbeats 2000000 in
theorem cvals0 (nm : ByteArray) (w : World) : Calls Tryd.prog 41 #[.slice none 0 0, .string nm] w fun e w' => e = .returned (.slice none 0 0) ∧ w' = w := by
  go_enter Tryd.func41, Tryd.ntmps41
  go_wp2
  go_loopw [5, 10] (fun s5 s10 wr => s5 = .slice none 0 0 ∧ s10 = .int .i64 0 ∧ wr = w) (fun _ _ _ => 0)
  case atStart => exact ⟨rfl, rfl, rfl⟩
  case round =>
    obtain ⟨rfl, rfl, hw⟩ := hrel
    subst wr
    go_wp2
    go_ret
    exact ⟨rfl, rfl⟩

set_option maxHeartbeats 2000000 in
set_option maxRecDepth 20000 in
theorem cvalsN (fb : Nat) (a v nm : ByteArray) (hn : (a.toList == nm.toList) = false) (w : World) (hf : Ar w fb 42 #[.string a, .string v]) :
    Calls Tryd.prog 41 #[.slice (some ⟨fb, 0, none⟩) 1 1, .string nm] w fun e w' => e = .returned (.slice none 0 0) ∧ Below w.heap.size w w' := by
  have HF := hid' hf
  clear hf
  go_enter Tryd.func41, Tryd.ntmps41
  go_wp2
  go_loopw [5, 10] (fun s5 s10 wr => s5 = .slice none 0 0 ∧ ∃ k : Nat, s10 = .int .i64 (k : Int) ∧ k ≤ 1 ∧ Hid (Below w.heap.size w wr)) (fun _ s10 _ => 1 - (intOf s10).toNat)
  case atStart => exact ⟨rfl, 0, rfl, Nat.zero_le _, hid' (Below.refl _ _)⟩
  case round =>
    obtain ⟨rfl, k, rfl, hk, HB⟩ := hrel
    by_cases hlt : k < 1
    · obtain rfl : k = 0 := by omega
      have HF2 := hid' (HF.out.keep HB.out)
      have p0 := HF2.out.cell 0 _ rfl
      have p1 := HF2.out.cell 1 _ rfl
      have HB2 := hid' (below_two HB.out (bl_alloc wr (.cells #[.string a, .string v] 42)))
      go_wp2
      go_roundw
      case rel => exact ⟨rfl, 1, by go_num, by omega, HB2⟩
      case measure => simp [intOf]
    · obtain rfl : k = 1 := by omega
      clear hlt
      go_wp2
      go_ret
      exact ⟨rfl, HB.out⟩

set_option maxHeartbeats 2000000 in
set_option maxRecDepth 20000 in
theorem cvalsY (fb : Nat) (a v nm : ByteArray) (hn : (a.toList == nm.toList) = true) (w : World) (hf : Ar w fb 42 #[.string a, .string v]) :
    Calls Tryd.prog 41 #[.slice (some ⟨fb, 0, none⟩) 1 1, .string nm] w fun e w' => (∃ g cap, e = .returned (.slice (some ⟨g, 0, none⟩) 1 cap) ∧ w'.cell? ⟨g, 0, none⟩ = some (.string v) ∧ g < w'.heap.size) ∧ Below w.heap.size w w' := by
  obtain ⟨i0, hi0, hz0, hz1, hz2⟩ := minfo_parts infoS15
  have HI := hid' hi0
  have HZ0 := hid' hz0
  have HZ1 := hid' hz1
  have HZ2 := hid' hz2
  have HF := hid' hf
  clear hf hi0 hz0 hz1 hz2
  go_enter Tryd.func41, Tryd.ntmps41
  go_wp2
  go_loopw [5, 10] (fun s5 s10 wr => ∃ (k : Nat) (ro : Option Addr) (rc : Nat), s10 = .int .i64 (k : Int) ∧ s5 = .slice ro k rc ∧ k ≤ 1 ∧ (k = 0 → ro = none ∧ rc = 0) ∧ Hid (wr.ownsRow w.heap.size 9 1 (.slice ro k rc) k (List.replicate k (.string v))) ∧ Hid (Below w.heap.size w wr)) (fun _ s10 _ => 1 - (intOf s10).toNat)
  case atStart => exact ⟨0, none, 0, rfl, rfl, Nat.zero_le _, fun _ => ⟨rfl, rfl⟩, hid' (World.ownsRow_nil _ _ _ _), hid' (Below.refl _ _)⟩
  case round =>
    obtain ⟨k, ro, rc, rfl, rfl, hk, h0, HO, HB⟩ := hrel
    by_cases hlt : k < 1
    · obtain rfl : k = 0 := by omega
      obtain ⟨rfl, rfl⟩ := h0 rfl
      have HF2 := hid' (HF.out.keep HB.out)
      have p0 := HF2.out.cell 0 _ rfl
      have p1 := HF2.out.cell 1 _ rfl
      have HB2 := hid' (below_two HB.out (bl_alloc wr (.cells #[.string a, .string v] 42)))
      have HL : Hid (Ar (wr.alloc (.cells #[.string a, .string v] 42)) wr.heap.size 42 #[.string a, .string v]) := hid' (heap_alloc_last wr _)
      go_upto_region 6 with fail
      clear p0 p1
      obtain ⟨xb, hxb⟩ : ∃ xb, wr.heap.size = xb := ⟨_, rfl⟩
      rw [hxb] at HL ⊢
      generalize wr.alloc (.cells #[.string a, .string v] 42) = w1 at *
      have p1 := HL.out.cell 1 _ rfl
      have HA : Hid ((w1.alloc (.cells #[.string v] 9)).ownsRow w.heap.size 9 1 (.slice none 0 0) 0 []) := hid' (World.ownsRow_nil _ _ _ _)
      clear hxb
      go_wp2_with (at_builtin; refine wpList_append_own_at _ rfl _ _ 68 rfl w.heap.size 9 i0 (.string ⟨#[]⟩) 1 16 Tryd.underlying68 HI.out HZ0.out HZ1.out HZ2.out rfl (by decide) (.slice none 0 0) 0 [] rfl HA.out ⟨w1.heap.size, 0, none⟩ 1 1 [.string v] rfl rfl (one_cell15 _ _ _) (by simp [Value.oneCell']) (by decide) (by omega) (by simp; have := HB2.out.size; omega) ?_; intro v3 w3 hown3 hgrow3 _ _; refine Hid.out ?_)
      refine hid' ?_
      obtain ⟨v3o, v3c, hv3⟩ := own_shape hown3
      subst hv3
      have HO3 := hid' hown3
      have HB3 : Hid (Below w.heap.size w w3) := hid' ((HB2.out.alloc HB2.out.size _).grown hgrow3 (by simp; have := HB2.out.size; omega) (fun k hk => (HA.out.lt k hk).1))
      clear hown3 hgrow3 p1
      go_wp2
      go_roundw
      case rel => exact ⟨1, v3o, v3c, by go_num, rfl, by omega, fun h => by omega, HO3, HB3⟩
      case measure => simp [intOf]
    · obtain rfl : k = 1 := by omega
      clear hlt h0
      have hg : ∃ g, ro = some ⟨g, 0, none⟩ := by
        rcases HO.out.2 with ⟨_, h9⟩ | ⟨g, cap, cur, h1, _⟩
        · omega
        · injection h1 with h1 _ _; exact ⟨g, h1⟩
      obtain ⟨g, rfl⟩ := hg
      go_wp2
      go_ret
      refine ⟨⟨g, rc, rfl, ?_, own_lt HO.out g rfl⟩, HB.out⟩
      have := HO.out.cells (g := g) rfl 0 (.string v) rfl
      rwa [Addr.add_mid, Nat.zero_add] at this

end Go.Proofs.YtbnldneejbbhhaaDoor
