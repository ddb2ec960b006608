/-
  TagsKnows: its contract.
-/
import Derived.Test.YtbnldneejbbhhaaDoorTgL
namespace Go.Proofs.YtbnldneejbbhhaaDoor
open Go.RowKit

theorem any_one (x : Tg.Tag) (p : Tg.Tag → Bool) (r : Bool) (h : p x = r) : [x].any p = r := by
  simp [h]
theorem weak_self (m : List UInt8) : Tg.weak ⟨false, m⟩ ⟨false, m⟩ = true := by unfold Tg.weak; simp
theorem strong_self (m : List UInt8) : Tg.strong ⟨false, m⟩ ⟨false, m⟩ = true := by unfold Tg.strong; simp
theorem weak_ne {m k : List UInt8} (h : m ≠ k) : Tg.weak ⟨false, m⟩ ⟨false, k⟩ = false := by unfold Tg.weak; simp [h]
theorem strong_ne {m k : List UInt8} (h : m ≠ k) : Tg.strong ⟨false, m⟩ ⟨false, k⟩ = false := by unfold Tg.strong; simp [h]

set_option maxHeartbeats 8000000 in
set_option maxRecDepth 20000 in
theorem tagsKnows_any (fy gy : ByteArray) (ft fq gt gq : Int) (w : World) (hT : Lib.TabIs Tryd.prog w "internal/strconv.uint64pow10" .u64 Lib.pow10Tab) (hfy : fy.size ≤ 9223372036854775807) (f0 : -9223372036854775808 ≤ fq) (f1 : fq ≤ 9223372036854775807) (hgy : gy.size ≤ 9223372036854775807) (g0 : -9223372036854775808 ≤ gq) (g1 : gq ≤ 9223372036854775807) :
    Calls Tryd.prog 5 #[.agg (flC fy ft fq), .agg (flC gy gt gq)] w fun e w' => e = .returned (.bool true) ∧ Below w.heap.size w w' := by
  have HT := hid' hT
  obtain ⟨r1, r2, r3⟩ := Tg.mk_read fq fy.size
  have hml := Tg.mk_len fq fy.size f1 hfy
  have hne := fun h => Tg.mk_ne (q := fq) (q' := gq) (n := fy.size) (n' := gy.size) f1 g1 h
  obtain ⟨m, hm⟩ : ∃ m, Tg.mk fq fy.size = m := ⟨_, rfl⟩
  obtain ⟨k, hk⟩ : ∃ k, Tg.mk gq gy.size = k := ⟨_, rfl⟩
  rw [hm] at r1 r2 r3 hml
  rw [hm, hk] at hne
  have HNE := hid' hne
  have hmb : Tg.mkB fq fy.size = ⟨m.toArray⟩ := by unfold Tg.mkB; rw [hm]
  have hkb : Tg.mkB gq gy.size = ⟨k.toArray⟩ := by unfold Tg.mkB; rw [hk]
  have hms : (⟨m.toArray⟩ : ByteArray).size ≤ 1048576 := by rw [Tg.size_of_l]; omega
  have HP := hid' (fun W => cparse15 ⟨m.toArray⟩ m rfl W hms)
  rw [r1, r2, r3] at HP
  have HMf := hid' (fun W (h : Lib.TabIs Tryd.prog W "internal/strconv.uint64pow10" .u64 Lib.pow10Tab) => cmake15 fy ft fq W hfy f0 f1 h)
  have HMg := hid' (fun W (h : Lib.TabIs Tryd.prog W "internal/strconv.uint64pow10" .u64 Lib.pow10Tab) => cmake15 gy gt gq W hgy g0 g1 h)
  rw [hmb] at HMf
  rw [hkb] at HMg
  have HY1 := hid' (fun fb W hf (h : Lib.TabIs Tryd.prog W "internal/strconv.uint64pow10" .u64 Lib.pow10Tab) => cdecNG fb ⟨m.toArray⟩ m rfl [⟨false, m⟩] r2 r1 Nat.one_pos fy ft fq m hm true (any_one _ _ _ (weak_self m)) W hf hms hfy f0 f1 h)
  have HY2 := hid' (fun fb W hf (h : Lib.TabIs Tryd.prog W "internal/strconv.uint64pow10" .u64 Lib.pow10Tab) => cdecM fb ⟨m.toArray⟩ m rfl [⟨false, m⟩] r2 r1 Nat.one_pos fy ft fq m hm true (any_one _ _ _ (strong_self m)) W hf hms hfy f0 f1 h)
  have HY3 := hid' (fun fb W hf (h : Lib.TabIs Tryd.prog W "internal/strconv.uint64pow10" .u64 Lib.pow10Tab) => csame1 fb ⟨m.toArray⟩ m rfl ⟨false, m⟩ r2 fy ft fq m hm true (strong_self m) W hf hms hfy f0 f1 h)
  have HN1 := hid' (fun (hq : m ≠ k) fb W hf (h : Lib.TabIs Tryd.prog W "internal/strconv.uint64pow10" .u64 Lib.pow10Tab) => cdecNG fb ⟨m.toArray⟩ m rfl [⟨false, m⟩] r2 r1 Nat.one_pos gy gt gq k hk false (any_one _ _ _ (weak_ne hq)) W hf hms hgy g0 g1 h)
  have HN2 := hid' (fun (hq : m ≠ k) fb W hf (h : Lib.TabIs Tryd.prog W "internal/strconv.uint64pow10" .u64 Lib.pow10Tab) => cdecM fb ⟨m.toArray⟩ m rfl [⟨false, m⟩] r2 r1 Nat.one_pos gy gt gq k hk false (any_one _ _ _ (strong_ne hq)) W hf hms hgy g0 g1 h)
  have HN3 := hid' (fun (hq : m ≠ k) fb W hf (h : Lib.TabIs Tryd.prog W "internal/strconv.uint64pow10" .u64 Lib.pow10Tab) => csame1 fb ⟨m.toArray⟩ m rfl ⟨false, m⟩ r2 gy gt gq k hk false (strong_ne hq) W hf hms hgy g0 g1 h)
  have HD0 := hid' (fun W => cdec0 fy ft fq W)
  have HAw := hid' (fun W (h : Lib.TabIs Tryd.prog W "internal/strconv.uint64pow10" .u64 Lib.pow10Tab) => awake15 W h)
  simp only [if_true, Bool.false_eq_true, if_false] at HY1 HY2 HN1 HN2
  unfold flC at HMf HMg HY1 HY2 HY3 HN1 HN2 HN3 HD0
  unfold flC
  clear hT r1 r2 r3 hm hk hmb hkb hne hml hms
  have HXf0 : Hid (Ar (w.alloc (.cells #[.string fy, .int .i64 ft, .int .i64 fq] 35)) w.heap.size 35 #[.string fy, .int .i64 ft, .int .i64 fq]) := hid' (heap_alloc_last w _)
  have HXf : Hid (Ar ((w.alloc (.cells #[.string fy, .int .i64 ft, .int .i64 fq] 35)).alloc (.cells #[.string gy, .int .i64 gt, .int .i64 gq] 35)) w.heap.size 35 #[.string fy, .int .i64 ft, .int .i64 fq]) := hid' (HXf0.out.keep (bl_alloc _ _))
  have HXg : Hid (Ar ((w.alloc (.cells #[.string fy, .int .i64 ft, .int .i64 fq] 35)).alloc (.cells #[.string gy, .int .i64 gt, .int .i64 gq] 35)) (w.alloc (.cells #[.string fy, .int .i64 ft, .int .i64 fq] 35)).heap.size 35 #[.string gy, .int .i64 gt, .int .i64 gq]) := hid' (heap_alloc_last _ _)
  have HW0 := hid' (bl_two15 w (.cells #[.string fy, .int .i64 ft, .int .i64 fq] 35) (.cells #[.string gy, .int .i64 gt, .int .i64 gq] 35))
  have hsz : (w.alloc (.cells #[.string fy, .int .i64 ft, .int .i64 fq] 35)).heap.size = w.heap.size + 1 := by simp
  rw [hsz] at HXg
  clear HXf0
  go_enter Tryd.func5, Tryd.ntmps5
  go_upto_region 1 with fail
  obtain ⟨fb, hfb⟩ : ∃ fb, w.heap.size = fb := ⟨_, rfl⟩
  rw [hfb] at HXf HXg ⊢
  obtain ⟨gb, hgb⟩ : ∃ gb, fb + 1 = gb := ⟨_, rfl⟩
  rw [hgb] at HXg ⊢
  generalize (w.alloc (.cells #[.string fy, .int .i64 ft, .int .i64 fq] 35)).alloc (.cells #[.string gy, .int .i64 gt, .int .i64 gq] 35) = w0 at *
  clear hsz hfb hgb
  have p0 := HXf.out.cell 0 _ rfl
  have p1 := HXf.out.cell 1 _ rfl
  have p2 := HXf.out.cell 2 _ rfl
  go_wp2_with fail
  refine (HMf.out _ (tab_below HT.out HW0.out)).mono ?_
  rintro e w1 ⟨rfl, hb1⟩
  have HW1 := hid' (below_two HW0.out hb1)
  have HF1 := hid' (HXf.out.keep hb1)
  have HG1 := hid' (HXg.out.keep hb1)
  clear hb1 p0 p1 p2
  go_wp2_with fail
  refine (HP.out _).mono ?_
  rintro e w2 ⟨⟨n, ro, rc, rfl, hn, hown⟩, hb2⟩
  obtain rfl : n = 1 := hn.symm
  obtain ⟨g, rfl, c0, c1⟩ := own_two hown 0 _ rfl
  have d0 : w2.cell? ⟨g, 0, none⟩ = some (.bool false) := c0
  have d1 : w2.cell? ⟨g, 1, none⟩ = some (.string ⟨m.toArray⟩) := c1
  have HW2 := hid' (below_two HW1.out hb2)
  have HF2 := hid' (HF1.out.keep hb2)
  have HG2 := hid' (HG1.out.keep hb2)
  clear hb2 hn hown c0 c1
  go_upto_region 5 with fail
  clear d0 d1
  have HW3 := hid' (below_two HW2.out (bl_alloc w2 (.cells #[.string ⟨#[105, 102, 45, 110, 111, 110, 101, 45, 109, 97, 116, 99, 104]⟩, .string ⟨m.toArray⟩] 42)))
  have HF3 := hid' (HF2.out.keep (bl_alloc w2 (.cells #[.string ⟨#[105, 102, 45, 110, 111, 110, 101, 45, 109, 97, 116, 99, 104]⟩, .string ⟨m.toArray⟩] 42)))
  have HG3 := hid' (HG2.out.keep (bl_alloc w2 (.cells #[.string ⟨#[105, 102, 45, 110, 111, 110, 101, 45, 109, 97, 116, 99, 104]⟩, .string ⟨m.toArray⟩] 42)))
  have HA3 : Hid (Ar (w2.alloc (.cells #[.string ⟨#[105, 102, 45, 110, 111, 110, 101, 45, 109, 97, 116, 99, 104]⟩, .string ⟨m.toArray⟩] 42)) w2.heap.size 42 #[.string ⟨#[105, 102, 45, 110, 111, 110, 101, 45, 109, 97, 116, 99, 104]⟩, .string ⟨m.toArray⟩]) := hid' (heap_alloc_last _ _)
  go_upto_region 6 with fail
  obtain ⟨kA, hkA⟩ : ∃ kA, w2.heap.size = kA := ⟨_, rfl⟩
  rw [hkA] at HA3 ⊢
  generalize w2.alloc (.cells #[.string ⟨#[105, 102, 45, 110, 111, 110, 101, 45, 109, 97, 116, 99, 104]⟩, .string ⟨m.toArray⟩] 42) = w3 at *
  clear hkA
  have HW4 := hid' (below_two HW3.out (bl_alloc w3 (.cells #[.string ⟨#[105, 102, 45, 109, 97, 116, 99, 104]⟩, .string ⟨m.toArray⟩] 42)))
  have HF4 := hid' (HF3.out.keep (bl_alloc w3 (.cells #[.string ⟨#[105, 102, 45, 109, 97, 116, 99, 104]⟩, .string ⟨m.toArray⟩] 42)))
  have HG4 := hid' (HG3.out.keep (bl_alloc w3 (.cells #[.string ⟨#[105, 102, 45, 109, 97, 116, 99, 104]⟩, .string ⟨m.toArray⟩] 42)))
  have HA4 := hid' (HA3.out.keep (bl_alloc w3 (.cells #[.string ⟨#[105, 102, 45, 109, 97, 116, 99, 104]⟩, .string ⟨m.toArray⟩] 42)))
  have HB4 : Hid (Ar (w3.alloc (.cells #[.string ⟨#[105, 102, 45, 109, 97, 116, 99, 104]⟩, .string ⟨m.toArray⟩] 42)) w3.heap.size 42 #[.string ⟨#[105, 102, 45, 109, 97, 116, 99, 104]⟩, .string ⟨m.toArray⟩]) := hid' (heap_alloc_last _ _)
  go_upto_region 7 with fail
  obtain ⟨kB, hkB⟩ : ∃ kB, w3.heap.size = kB := ⟨_, rfl⟩
  rw [hkB] at HB4 ⊢
  generalize w3.alloc (.cells #[.string ⟨#[105, 102, 45, 109, 97, 116, 99, 104]⟩, .string ⟨m.toArray⟩] 42) = w4 at *
  clear hkB
  have HW5 := hid' (below_two HW4.out (bl_alloc w4 (.cells #[.string ⟨#[105, 102, 45, 114, 97, 110, 103, 101]⟩, .string ⟨m.toArray⟩] 42)))
  have HF5 := hid' (HF4.out.keep (bl_alloc w4 (.cells #[.string ⟨#[105, 102, 45, 114, 97, 110, 103, 101]⟩, .string ⟨m.toArray⟩] 42)))
  have HG5 := hid' (HG4.out.keep (bl_alloc w4 (.cells #[.string ⟨#[105, 102, 45, 114, 97, 110, 103, 101]⟩, .string ⟨m.toArray⟩] 42)))
  have HA5 := hid' (HA4.out.keep (bl_alloc w4 (.cells #[.string ⟨#[105, 102, 45, 114, 97, 110, 103, 101]⟩, .string ⟨m.toArray⟩] 42)))
  have HB5 := hid' (HB4.out.keep (bl_alloc w4 (.cells #[.string ⟨#[105, 102, 45, 114, 97, 110, 103, 101]⟩, .string ⟨m.toArray⟩] 42)))
  have HC5 : Hid (Ar (w4.alloc (.cells #[.string ⟨#[105, 102, 45, 114, 97, 110, 103, 101]⟩, .string ⟨m.toArray⟩] 42)) w4.heap.size 42 #[.string ⟨#[105, 102, 45, 114, 97, 110, 103, 101]⟩, .string ⟨m.toArray⟩]) := hid' (heap_alloc_last _ _)
  go_upto_region 8 with fail
  obtain ⟨kC, hkC⟩ : ∃ kC, w4.heap.size = kC := ⟨_, rfl⟩
  rw [hkC] at HC5 ⊢
  generalize w4.alloc (.cells #[.string ⟨#[105, 102, 45, 114, 97, 110, 103, 101]⟩, .string ⟨m.toArray⟩] 42) = w5 at *
  clear hkC
  have p0 := HF5.out.cell 0 _ rfl
  have p1 := HF5.out.cell 1 _ rfl
  have p2 := HF5.out.cell 2 _ rfl
  go_wp2_with fail
  refine (HY1.out _ _ HA5.out (tab_below HT.out HW5.out)).mono ?_
  rintro e w6 ⟨rfl, hbn⟩
  have HW6 := hid' (below_two HW5.out hbn)
  have HF6 := hid' (HF5.out.keep hbn)
  have HG6 := hid' (HG5.out.keep hbn)
  have HA6 := hid' (HA5.out.keep hbn)
  have HB6 := hid' (HB5.out.keep hbn)
  have HC6 := hid' (HC5.out.keep hbn)
  clear hbn p0 p1 p2
  have p0 := HF6.out.cell 0 _ rfl
  have p1 := HF6.out.cell 1 _ rfl
  have p2 := HF6.out.cell 2 _ rfl
  go_wp2_with fail
  refine (HY2.out _ _ HB6.out (tab_below HT.out HW6.out)).mono ?_
  rintro e w7 ⟨rfl, hbn⟩
  have HW7 := hid' (below_two HW6.out hbn)
  have HF7 := hid' (HF6.out.keep hbn)
  have HG7 := hid' (HG6.out.keep hbn)
  have HA7 := hid' (HA6.out.keep hbn)
  have HB7 := hid' (HB6.out.keep hbn)
  have HC7 := hid' (HC6.out.keep hbn)
  clear hbn p0 p1 p2
  have p0 := HF7.out.cell 0 _ rfl
  have p1 := HF7.out.cell 1 _ rfl
  have p2 := HF7.out.cell 2 _ rfl
  go_wp2_with fail
  refine (HY3.out _ _ HC7.out (tab_below HT.out HW7.out)).mono ?_
  rintro e w8 ⟨rfl, hbn⟩
  have HW8 := hid' (below_two HW7.out hbn)
  have HF8 := hid' (HF7.out.keep hbn)
  have HG8 := hid' (HG7.out.keep hbn)
  have HA8 := hid' (HA7.out.keep hbn)
  have HB8 := hid' (HB7.out.keep hbn)
  have HC8 := hid' (HC7.out.keep hbn)
  clear hbn p0 p1 p2
  have pf := HF8.out.cell 2 _ rfl
  have pg := HG8.out.cell 2 _ rfl
  by_cases hmx : max fq 0 = max gq 0
  · have hm2 : ((max fq 0 : Int) == max gq 0) = true := beq_iff_eq.2 hmx
    clear hmx
    go_wp2_with fail
    refine (HAw.out _ (tab_below HT.out HW8.out)).mono ?_
    rintro e w9 ⟨rfl, hbn⟩
    have HW9 := hid' (below_two HW8.out hbn)
    clear hbn
    go_wp2
    go_ret
    exact ⟨rfl, HW9.out⟩
  · have hm2 : ((max fq 0 : Int) == max gq 0) = false := by rw [beq_eq_false_iff_ne]; exact hmx
    have HQ := hid' (HNE.out hmx)
    have hmk : (k == m) = false := by rw [beq_eq_false_iff_ne]; exact fun e => HQ.out e.symm
    clear hmx
    have p0 := HG8.out.cell 0 _ rfl
    have p1 := HG8.out.cell 1 _ rfl
    have p2 := HG8.out.cell 2 _ rfl
    go_wp2_with fail
    refine (HMg.out _ (tab_below HT.out HW8.out)).mono ?_
    rintro e w9 ⟨rfl, hbn⟩
    have HW9 := hid' (below_two HW8.out hbn)
    have HF9 := hid' (HF8.out.keep hbn)
    have HG9 := hid' (HG8.out.keep hbn)
    have HA9 := hid' (HA8.out.keep hbn)
    have HB9 := hid' (HB8.out.keep hbn)
    have HC9 := hid' (HC8.out.keep hbn)
    clear hbn
    clear p0 p1 p2 pf pg
    have p0 := HG9.out.cell 0 _ rfl
    have p1 := HG9.out.cell 1 _ rfl
    have p2 := HG9.out.cell 2 _ rfl
    go_wp2_with fail
    refine (HN1.out HQ.out _ _ HA9.out (tab_below HT.out HW9.out)).mono ?_
    rintro e w10 ⟨rfl, hbn⟩
    have HW10 := hid' (below_two HW9.out hbn)
    have HF10 := hid' (HF9.out.keep hbn)
    have HG10 := hid' (HG9.out.keep hbn)
    have HA10 := hid' (HA9.out.keep hbn)
    have HB10 := hid' (HB9.out.keep hbn)
    have HC10 := hid' (HC9.out.keep hbn)
    clear hbn p0 p1 p2
    have p0 := HG10.out.cell 0 _ rfl
    have p1 := HG10.out.cell 1 _ rfl
    have p2 := HG10.out.cell 2 _ rfl
    go_wp2_with fail
    refine (HN2.out HQ.out _ _ HB10.out (tab_below HT.out HW10.out)).mono ?_
    rintro e w11 ⟨rfl, hbn⟩
    have HW11 := hid' (below_two HW10.out hbn)
    have HF11 := hid' (HF10.out.keep hbn)
    have HG11 := hid' (HG10.out.keep hbn)
    have HA11 := hid' (HA10.out.keep hbn)
    have HB11 := hid' (HB10.out.keep hbn)
    have HC11 := hid' (HC10.out.keep hbn)
    clear hbn p0 p1 p2
    have p0 := HG11.out.cell 0 _ rfl
    have p1 := HG11.out.cell 1 _ rfl
    have p2 := HG11.out.cell 2 _ rfl
    go_wp2_with fail
    refine (HN3.out HQ.out _ _ HC11.out (tab_below HT.out HW11.out)).mono ?_
    rintro e w12 ⟨rfl, hbn⟩
    have HW12 := hid' (below_two HW11.out hbn)
    have HF12 := hid' (HF11.out.keep hbn)
    have HG12 := hid' (HG11.out.keep hbn)
    have HA12 := hid' (HA11.out.keep hbn)
    have HB12 := hid' (HB11.out.keep hbn)
    have HC12 := hid' (HC11.out.keep hbn)
    clear hbn p0 p1 p2
    have p0 := HF12.out.cell 0 _ rfl
    have p1 := HF12.out.cell 1 _ rfl
    have p2 := HF12.out.cell 2 _ rfl
    go_wp2_with fail
    refine (HD0.out _).mono ?_
    rintro e w13 ⟨rfl, hbn⟩
    have HW13 := hid' (below_two HW12.out hbn)
    have HF13 := hid' (HF12.out.keep hbn)
    have HG13 := hid' (HG12.out.keep hbn)
    have HA13 := hid' (HA12.out.keep hbn)
    have HB13 := hid' (HB12.out.keep hbn)
    have HC13 := hid' (HC12.out.keep hbn)
    clear hbn p0 p1 p2
    go_wp2_with fail
    refine (HAw.out _ (tab_below HT.out HW13.out)).mono ?_
    rintro e w14 ⟨rfl, hbn⟩
    have HW14 := hid' (below_two HW13.out hbn)
    clear hbn
    go_wp2
    go_ret
    exact ⟨rfl, HW14.out⟩

end Go.Proofs.YtbnldneejbbhhaaDoor
