/-
  The laws' file and awake: by their contracts.
-/
import Derived.Test.YtbnldneejbbhhaaDoorTgJ
import Derived.Test.YtbnldneejbbhhaaDoorTgK
namespace Go.Proofs.YtbnldneejbbhhaaDoor
open Go.RowKit

theorem zeroF15 : (Tryd.prog.info? 35).map (fun i => i.zero) = some (some (.agg #[.string ⟨#[]⟩, .int .i64 0, .int .i64 0])) := by kernel_rfl
theorem sizeF15 : (Tryd.prog.info? 35).map (·.size) = some 3 := by kernel_rfl
theorem ldF15 {w : World} {b : Nat} {x0 x1 x2 : Value} (h : Ar w b 35 #[x0, x1, x2]) : (loadVar 35 ⟨b, 0, none⟩).run Tryd.prog w = .ok (.agg #[x0, x1, x2]) w :=
  run_loadVar_row (P := Tryd.prog) w b 35 35 _ (0, 0) _ h Tryd.underlying35 rfl sizeF15
def hello15 : ByteArray := ⟨#[104, 101, 108, 108, 111]⟩

set_option maxHeartbeats 1000000 in
theorem file15 (w : World) : Calls Tryd.prog 25 #[] w fun e w' => e = .returned (.agg (flC hello15 784111777 3)) ∧ Below w.heap.size w w' := by
  unfold flC hello15
  go_enter Tryd.func25, Tryd.ntmps25
  go_wp2_with (refine wpl_alloc 35 rfl rfl #[.string ⟨#[]⟩, .int .i64 0, .int .i64 0] zeroF15 ?_)
  intro b0 w0 hb0 ha0 hbe0
  have HX := hid' ha0
  have HB0 := hid' hbe0
  have HG0 := hid' hb0
  clear hb0 ha0 hbe0
  go_wp2_with (refine wpl_store 35 _ _ rfl rfl b0 #[.string ⟨#[104, 101, 108, 108, 111]⟩, .int .i64 784111777, .int .i64 3] (by kernel_rfl) (by kernel_rfl) _ _ HX.out sizeF15 rfl (by simp [Value.oneCell']) ?_)
  intro w2 ha2 hu2
  have hld := ldF15 ha2
  have HB2 := hid' (HB0.out.trans (hu2.below HG0.out))
  clear ha2 hu2
  go_wp2
  exact bodyPost_ret (v := .agg #[.string ⟨#[104, 101, 108, 108, 111]⟩, .int .i64 784111777, .int .i64 3]) (by simp [results, Tryd.results25, asAddr, hld]) rfl ⟨rfl, HB2.out⟩

set_option maxHeartbeats 4000000 in
set_option maxRecDepth 20000 in
theorem awake15 (w : World) (hT : Lib.TabIs Tryd.prog w "internal/strconv.uint64pow10" .u64 Lib.pow10Tab) : Calls Tryd.prog 9 #[] w fun e w' => e = .returned (.bool true) ∧ Below w.heap.size w w' := by
  have HT := hid' hT
  have HP1 := hid' (fun W => cparse15 ⟨#[34, 97, 34, 44, 32, 87, 47, 34, 98, 34, 32, 44]⟩ [34, 97, 34, 44, 32, 87, 47, 34, 98, 34, 32, 44] rfl W (by decide))
  rw [Tg.aw1.1, Tg.aw1.2.1, Tg.aw1.2.2] at HP1
  have HP2 := hid' (fun W => cparse15 ⟨#[97]⟩ [97] rfl W (by decide))
  rw [Tg.aw2.1, Tg.aw2.2.1, Tg.aw2.2.2] at HP2
  obtain ⟨r1, r2, r3⟩ := Tg.mk_read 3 5
  have hy5 : hello15.size = 5 := by decide
  have HMK : Hid (Tg.mkB 3 hello15.size = ⟨#[34, 51, 45, 53, 34]⟩) := hid' (by unfold Tg.mkB; rw [hy5, Tg.aw3])
  rw [Tg.aw3] at r1 r2 r3
  have HM := hid' (fun W (h : Lib.TabIs Tryd.prog W "internal/strconv.uint64pow10" .u64 Lib.pow10Tab) => cmake15 hello15 784111777 3 W (by rw [hy5]; decide) (by decide) (by decide) h)
  have HDG := hid' (fun fb W hf (h : Lib.TabIs Tryd.prog W "internal/strconv.uint64pow10" .u64 Lib.pow10Tab) => cdecNG fb ⟨#[34, 51, 45, 53, 34]⟩ [34, 51, 45, 53, 34] rfl _ r2 r1 (by decide) hello15 784111777 3 [34, 51, 45, 53, 34] (by rw [hy5]; exact Tg.aw3) true (by decide) W hf (by decide) (by rw [hy5]; decide) (by decide) (by decide) h)
  have HDP := hid' (fun fb W hf (h : Lib.TabIs Tryd.prog W "internal/strconv.uint64pow10" .u64 Lib.pow10Tab) => cdecNP fb ⟨#[34, 51, 45, 53, 34]⟩ [34, 51, 45, 53, 34] rfl _ r2 r1 (by decide) hello15 784111777 3 [34, 51, 45, 53, 34] (by rw [hy5]; exact Tg.aw3) true (by decide) W hf (by decide) (by rw [hy5]; decide) (by decide) (by decide) h)
  have HS := hid' (fun W => csame0 hello15 784111777 3 W)
  have HE := hid' (fun W => eqC15 ⟨true, [34, 98, 34]⟩ ⟨true, [34, 98, 34]⟩ W)
  simp only [if_true] at HDG HDP
  clear hT r1 r2 r3 hy5
  go_enter Tryd.func9, Tryd.ntmps9
  go_wp2_with fail
  refine (HP1.out _).mono ?_
  rintro e w1 ⟨⟨n, ro, rc, rfl, hn, hown⟩, hb1⟩
  obtain rfl : n = 2 := hn.symm
  obtain ⟨g, rfl, c0, c1⟩ := own_two hown 1 _ rfl
  have HG := hid' (own_lt hown g rfl)
  have HC0 := hid' c0
  have HC1 := hid' c1
  have HB1 := hid' hb1
  clear hn hown hb1 c0 c1
  go_wp2_with fail
  refine (HP2.out _).mono ?_
  rintro e w2 ⟨⟨n, ro, rc2, rfl, hn, hown⟩, hb2⟩
  have HC2 := hid' (And.intro ((hb2.cell (p := ⟨g, 1 * 2, none⟩) HG.out).trans HC0.out) ((hb2.cell (p := ⟨g, 1 * 2 + 1, none⟩) HG.out).trans HC1.out))
  have HG2 := hid' (Nat.lt_of_lt_of_le HG.out hb2.size)
  have HB2 := hid' (below_two HB1.out hb2)
  clear hn hown hb2 HC0 HC1 HG
  have HB3 := hid' (below_two HB2.out (bl_alloc w2 (.cells #[.string ⟨#[105, 102, 45, 110, 111, 110, 101, 45, 109, 97, 116, 99, 104]⟩, .string ⟨#[34, 51, 45, 53, 34]⟩] 42)))
  have HC3 := hid' (And.intro (((bl_alloc w2 (.cells #[.string ⟨#[105, 102, 45, 110, 111, 110, 101, 45, 109, 97, 116, 99, 104]⟩, .string ⟨#[34, 51, 45, 53, 34]⟩] 42)).cell (p := ⟨g, 1 * 2, none⟩) HG2.out).trans HC2.out.1) (((bl_alloc w2 (.cells #[.string ⟨#[105, 102, 45, 110, 111, 110, 101, 45, 109, 97, 116, 99, 104]⟩, .string ⟨#[34, 51, 45, 53, 34]⟩] 42)).cell (p := ⟨g, 1 * 2 + 1, none⟩) HG2.out).trans HC2.out.2))
  have HF3 : Hid (Ar (w2.alloc (.cells #[.string ⟨#[105, 102, 45, 110, 111, 110, 101, 45, 109, 97, 116, 99, 104]⟩, .string ⟨#[34, 51, 45, 53, 34]⟩] 42)) w2.heap.size 42 #[.string ⟨#[105, 102, 45, 110, 111, 110, 101, 45, 109, 97, 116, 99, 104]⟩, .string ⟨#[34, 51, 45, 53, 34]⟩]) := hid' (heap_alloc_last _ _)
  have HG3 : Hid (g < (w2.alloc (.cells #[.string ⟨#[105, 102, 45, 110, 111, 110, 101, 45, 109, 97, 116, 99, 104]⟩, .string ⟨#[34, 51, 45, 53, 34]⟩] 42)).heap.size) := hid' (by simp; have := HG2.out; omega)
  go_upto_region 6 with fail
  obtain ⟨fb, hfb⟩ : ∃ fb, w2.heap.size = fb := ⟨_, rfl⟩
  rw [hfb] at HF3 ⊢
  generalize w2.alloc (.cells #[.string ⟨#[105, 102, 45, 110, 111, 110, 101, 45, 109, 97, 116, 99, 104]⟩, .string ⟨#[34, 51, 45, 53, 34]⟩] 42) = w3 at *
  clear hfb HC2 HG2
  go_wp2_with fail
  refine (file15 _).mono ?_
  rintro e w4 ⟨rfl, hb4⟩
  have HB4 := hid' (below_two HB3.out hb4)
  go_wp2_with fail
  refine (HM.out _ (tab_below HT.out HB4.out)).mono ?_
  rw [HMK.out]
  rintro e w5 ⟨rfl, hb5⟩
  have HB5 := hid' (below_two HB4.out hb5)
  have hb35 := below_two hb4 hb5
  have d0 : w5.cell? ⟨g, 2, none⟩ = some (.bool true) := (hb35.cell (p := ⟨g, 2, none⟩) HG3.out).trans HC3.out.1
  have d1 : w5.cell? ⟨g, 3, none⟩ = some (.string ⟨#[34, 98, 34]⟩) := (hb35.cell (p := ⟨g, 3, none⟩) HG3.out).trans HC3.out.2
  have he : ∀ W, (binOp .eql 31 (.agg #[.bool true, .string ⟨#[34, 98, 34]⟩]) (.agg #[.bool true, .string ⟨#[34, 98, 34]⟩])).run Tryd.prog W = .ok (.bool true) W := fun W => HE.out W
  have HF5 := hid' (HF3.out.keep hb35)
  clear hb4 hb5 hb35
  go_wp2_with fail
  refine (file15 _).mono ?_
  rintro e w6 ⟨rfl, hb6⟩
  have HB6 := hid' (below_two HB5.out hb6)
  have HF6 := hid' (HF5.out.keep hb6)
  clear hb6 d0 d1 he
  go_wp2_with fail
  refine (HDG.out _ _ HF6.out (tab_below HT.out HB6.out)).mono ?_
  rintro e w7 ⟨rfl, hb7⟩
  have HB7 := hid' (below_two HB6.out hb7)
  have HF7 := hid' (HF6.out.keep hb7)
  clear hb7
  go_wp2_with fail
  refine (file15 _).mono ?_
  rintro e w8 ⟨rfl, hb8⟩
  have HB8 := hid' (below_two HB7.out hb8)
  have HF8 := hid' (HF7.out.keep hb8)
  clear hb8
  go_wp2_with fail
  refine (HDP.out _ _ HF8.out (tab_below HT.out HB8.out)).mono ?_
  rintro e w9 ⟨rfl, hb9⟩
  have HB9 := hid' (below_two HB8.out hb9)
  clear hb9
  go_wp2_with fail
  refine (file15 _).mono ?_
  rintro e w10 ⟨rfl, hb10⟩
  have HB10 := hid' (below_two HB9.out hb10)
  clear hb10
  go_wp2_with fail
  refine (HS.out _).mono ?_
  rintro e w11 ⟨rfl, hb11⟩
  have HB11 := hid' (below_two HB10.out hb11)
  clear hb11
  go_wp2
  go_ret
  exact ⟨rfl, HB11.out⟩

end Go.Proofs.YtbnldneejbbhhaaDoor
