/-
  The code's Decide and Same of one field or of none: by their contracts.
-/
import Derived.Test.YtbnldneejbbhhaaDoorTgI
namespace Go.Proofs.YtbnldneejbbhhaaDoor
open Go.RowKit

set_option maxHeartbeats 4000000 in
set_option maxRecDepth 20000 in
theorem cdec0 (y : ByteArray) (t q : Int) (w : World) :
    Calls Tryd.prog 16 #[.string ⟨#[71, 69, 84]⟩, .slice none 0 0, .agg (flC y t q), .bool true] w fun e w' => e = .returned (.int .i64 0) ∧ Below w.heap.size w w' := by
  have HM := hid' (fun W => cmay0 y t q W)
  unfold flC at HM
  have HFB := hid' (bl_alloc w (.cells #[.string y, .int .i64 t, .int .i64 q] 35))
  have HX : Hid (Ar (w.alloc (.cells #[.string y, .int .i64 t, .int .i64 q] 35)) w.heap.size 35 #[.string y, .int .i64 t, .int .i64 q]) := hid' (heap_alloc_last w _)
  unfold flC
  go_enter Tryd.func16, Tryd.ntmps16
  go_upto_region 1 with fail
  obtain ⟨xb, hxb⟩ : ∃ xb, w.heap.size = xb := ⟨_, rfl⟩
  rw [hxb] at HX ⊢
  generalize w.alloc (.cells #[.string y, .int .i64 t, .int .i64 q] 35) = w1 at *
  clear hxb
  have HB1 := HFB
  have p0 := HX.out.cell 0 _ rfl
  have p1 := HX.out.cell 1 _ rfl
  have p2 := HX.out.cell 2 _ rfl
  go_wp2_with fail
  refine (HM.out _).mono ?_
  rintro e w2 ⟨rfl, hb2⟩
  have HB2 := hid' (below_two HB1.out hb2)
  have HX2 := hid' (HX.out.keep hb2)
  clear hb2
  clear p0 p1 p2
  go_wp2_with fail
  refine (cvalue0 ⟨#[105, 102, 45, 110, 111, 110, 101, 45, 109, 97, 116, 99, 104]⟩ _).mono ?_
  rintro e w3 ⟨rfl, hb3⟩
  have HB3 := hid' (below_two HB2.out hb3)
  have HX3 := hid' (HX2.out.keep hb3)
  clear hb3
  go_wp2_with fail
  refine (cdate0 ⟨#[105, 102, 45, 109, 111, 100, 105, 102, 105, 101, 100, 45, 115, 105, 110, 99, 101]⟩ _).mono ?_
  rintro e w4 ⟨rfl, hb4⟩
  have HB4 := hid' (below_two HB3.out hb4)
  have HX4 := hid' (HX3.out.keep hb4)
  clear hb4
  go_wp2
  go_ret
  exact ⟨rfl, HB4.out⟩

set_option maxHeartbeats 4000000 in
set_option maxRecDepth 20000 in
theorem cdecNG (fb : Nat) (s : ByteArray) (l : List UInt8) (hl : s.data.toList = l) (ts : List Tg.Tag) (hts : Tg.tags l = ts) (hst : Tg.star l = false) (hne : 0 < ts.length) (y : ByteArray) (t q : Int) (m : List UInt8) (hm : Tg.mk q y.size = m) (r : Bool) (hr : ts.any (fun x => Tg.weak x ⟨false, m⟩) = r) (w : World) (hf : Ar w fb 42 #[.string ⟨#[105, 102, 45, 110, 111, 110, 101, 45, 109, 97, 116, 99, 104]⟩, .string s]) (hs : s.size ≤ 1048576) (hy : y.size ≤ 9223372036854775807) (q0 : -9223372036854775808 ≤ q) (q1 : q ≤ 9223372036854775807) (hT : Lib.TabIs Tryd.prog w "internal/strconv.uint64pow10" .u64 Lib.pow10Tab) :
    Calls Tryd.prog 16 #[.string ⟨#[71, 69, 84]⟩, .slice (some ⟨fb, 0, none⟩) 1 1, .agg (flC y t q), .bool true] w fun e w' => e = .returned (.int .i64 (if r then 304 else 0)) ∧ Below w.heap.size w w' := by
  have HF := hid' hf
  have HT := hid' hT
  have HNM := hid' (fun W (h : Lib.TabIs Tryd.prog W "internal/strconv.uint64pow10" .u64 Lib.pow10Tab) => cnmW15 s l hl ts hts hst hne y t q m hm r hr W hs hy q0 q1 h)
  unfold flC at HNM
  have HM := hid' (fun W hW => cmayN fb ⟨#[105, 102, 45, 110, 111, 110, 101, 45, 109, 97, 116, 99, 104]⟩ s (by rw [Lib.toList_data, Lib.toList_data]; decide) (by rw [Lib.toList_data, Lib.toList_data]; decide) y t q W hW)
  unfold flC at HM
  clear hf hT hl hts hst hne hm hr
  have HFB := hid' (bl_alloc w (.cells #[.string y, .int .i64 t, .int .i64 q] 35))
  have HX : Hid (Ar (w.alloc (.cells #[.string y, .int .i64 t, .int .i64 q] 35)) w.heap.size 35 #[.string y, .int .i64 t, .int .i64 q]) := hid' (heap_alloc_last w _)
  unfold flC
  go_enter Tryd.func16, Tryd.ntmps16
  go_upto_region 1 with fail
  obtain ⟨xb, hxb⟩ : ∃ xb, w.heap.size = xb := ⟨_, rfl⟩
  rw [hxb] at HX ⊢
  generalize w.alloc (.cells #[.string y, .int .i64 t, .int .i64 q] 35) = w1 at *
  clear hxb
  have HB1 := HFB
  have p0 := HX.out.cell 0 _ rfl
  have p1 := HX.out.cell 1 _ rfl
  have p2 := HX.out.cell 2 _ rfl
  go_wp2_with fail
  refine (HM.out _ (HF.out.keep HB1.out)).mono ?_
  rintro e w2 ⟨rfl, hb2⟩
  have HB2 := hid' (below_two HB1.out hb2)
  have HX2 := hid' (HX.out.keep hb2)
  clear hb2
  clear p0 p1 p2
  go_wp2_with fail
  refine (cvalueY fb ⟨#[105, 102, 45, 110, 111, 110, 101, 45, 109, 97, 116, 99, 104]⟩ s ⟨#[105, 102, 45, 110, 111, 110, 101, 45, 109, 97, 116, 99, 104]⟩ (by rw [Lib.toList_data]; decide) _ (HF.out.keep HB2.out)).mono ?_
  rintro e w3 ⟨rfl, hb3⟩
  have HB3 := hid' (below_two HB2.out hb3)
  have HX3 := hid' (HX2.out.keep hb3)
  clear hb3
  have p0 := HX3.out.cell 0 _ rfl
  have p1 := HX3.out.cell 1 _ rfl
  have p2 := HX3.out.cell 2 _ rfl
  go_wp2_with fail
  refine (HNM.out _ (tab_below HT.out HB3.out)).mono ?_
  rintro e w4 ⟨rfl, hb4⟩
  have HB4 := hid' (below_two HB3.out hb4)
  have HX4 := hid' (HX3.out.keep hb4)
  clear hb4
  cases r
  · go_wp2
    go_ret
    exact ⟨rfl, HB4.out⟩
  · go_wp2
    go_ret
    exact ⟨rfl, HB4.out⟩

set_option maxHeartbeats 4000000 in
set_option maxRecDepth 20000 in
theorem cdecNP (fb : Nat) (s : ByteArray) (l : List UInt8) (hl : s.data.toList = l) (ts : List Tg.Tag) (hts : Tg.tags l = ts) (hst : Tg.star l = false) (hne : 0 < ts.length) (y : ByteArray) (t q : Int) (m : List UInt8) (hm : Tg.mk q y.size = m) (r : Bool) (hr : ts.any (fun x => Tg.weak x ⟨false, m⟩) = r) (w : World) (hf : Ar w fb 42 #[.string ⟨#[105, 102, 45, 110, 111, 110, 101, 45, 109, 97, 116, 99, 104]⟩, .string s]) (hs : s.size ≤ 1048576) (hy : y.size ≤ 9223372036854775807) (q0 : -9223372036854775808 ≤ q) (q1 : q ≤ 9223372036854775807) (hT : Lib.TabIs Tryd.prog w "internal/strconv.uint64pow10" .u64 Lib.pow10Tab) :
    Calls Tryd.prog 16 #[.string ⟨#[80, 85, 84]⟩, .slice (some ⟨fb, 0, none⟩) 1 1, .agg (flC y t q), .bool true] w fun e w' => e = .returned (.int .i64 (if r then 412 else 0)) ∧ Below w.heap.size w w' := by
  have HF := hid' hf
  have HT := hid' hT
  have HNM := hid' (fun W (h : Lib.TabIs Tryd.prog W "internal/strconv.uint64pow10" .u64 Lib.pow10Tab) => cnmW15 s l hl ts hts hst hne y t q m hm r hr W hs hy q0 q1 h)
  unfold flC at HNM
  have HM := hid' (fun W hW => cmayN fb ⟨#[105, 102, 45, 110, 111, 110, 101, 45, 109, 97, 116, 99, 104]⟩ s (by rw [Lib.toList_data, Lib.toList_data]; decide) (by rw [Lib.toList_data, Lib.toList_data]; decide) y t q W hW)
  unfold flC at HM
  clear hf hT hl hts hst hne hm hr
  have HFB := hid' (bl_alloc w (.cells #[.string y, .int .i64 t, .int .i64 q] 35))
  have HX : Hid (Ar (w.alloc (.cells #[.string y, .int .i64 t, .int .i64 q] 35)) w.heap.size 35 #[.string y, .int .i64 t, .int .i64 q]) := hid' (heap_alloc_last w _)
  unfold flC
  go_enter Tryd.func16, Tryd.ntmps16
  go_upto_region 1 with fail
  obtain ⟨xb, hxb⟩ : ∃ xb, w.heap.size = xb := ⟨_, rfl⟩
  rw [hxb] at HX ⊢
  generalize w.alloc (.cells #[.string y, .int .i64 t, .int .i64 q] 35) = w1 at *
  clear hxb
  have HB1 := HFB
  have p0 := HX.out.cell 0 _ rfl
  have p1 := HX.out.cell 1 _ rfl
  have p2 := HX.out.cell 2 _ rfl
  go_wp2_with fail
  refine (HM.out _ (HF.out.keep HB1.out)).mono ?_
  rintro e w2 ⟨rfl, hb2⟩
  have HB2 := hid' (below_two HB1.out hb2)
  have HX2 := hid' (HX.out.keep hb2)
  clear hb2
  clear p0 p1 p2
  go_wp2_with fail
  refine (cvalueY fb ⟨#[105, 102, 45, 110, 111, 110, 101, 45, 109, 97, 116, 99, 104]⟩ s ⟨#[105, 102, 45, 110, 111, 110, 101, 45, 109, 97, 116, 99, 104]⟩ (by rw [Lib.toList_data]; decide) _ (HF.out.keep HB2.out)).mono ?_
  rintro e w3 ⟨rfl, hb3⟩
  have HB3 := hid' (below_two HB2.out hb3)
  have HX3 := hid' (HX2.out.keep hb3)
  clear hb3
  have p0 := HX3.out.cell 0 _ rfl
  have p1 := HX3.out.cell 1 _ rfl
  have p2 := HX3.out.cell 2 _ rfl
  go_wp2_with fail
  refine (HNM.out _ (tab_below HT.out HB3.out)).mono ?_
  rintro e w4 ⟨rfl, hb4⟩
  have HB4 := hid' (below_two HB3.out hb4)
  have HX4 := hid' (HX3.out.keep hb4)
  clear hb4
  cases r
  · go_wp2
    go_ret
    exact ⟨rfl, HB4.out⟩
  · go_wp2
    go_ret
    exact ⟨rfl, HB4.out⟩

set_option maxHeartbeats 4000000 in
set_option maxRecDepth 20000 in
theorem cdecM (fb : Nat) (s : ByteArray) (l : List UInt8) (hl : s.data.toList = l) (ts : List Tg.Tag) (hts : Tg.tags l = ts) (hst : Tg.star l = false) (hne : 0 < ts.length) (y : ByteArray) (t q : Int) (m : List UInt8) (hm : Tg.mk q y.size = m) (r : Bool) (hr : ts.any (fun x => Tg.strong x ⟨false, m⟩) = r) (w : World) (hf : Ar w fb 42 #[.string ⟨#[105, 102, 45, 109, 97, 116, 99, 104]⟩, .string s]) (hs : s.size ≤ 1048576) (hy : y.size ≤ 9223372036854775807) (q0 : -9223372036854775808 ≤ q) (q1 : q ≤ 9223372036854775807) (hT : Lib.TabIs Tryd.prog w "internal/strconv.uint64pow10" .u64 Lib.pow10Tab) :
    Calls Tryd.prog 16 #[.string ⟨#[71, 69, 84]⟩, .slice (some ⟨fb, 0, none⟩) 1 1, .agg (flC y t q), .bool true] w fun e w' => e = .returned (.int .i64 (if r then 0 else 412)) ∧ Below w.heap.size w w' := by
  have HF := hid' hf
  have HT := hid' hT
  have HM := hid' (fun W hW (h : Lib.TabIs Tryd.prog W "internal/strconv.uint64pow10" .u64 Lib.pow10Tab) => cmayY fb s l hl ts hts hst hne y t q m hm r hr W hW hs hy q0 q1 h)
  unfold flC at HM
  clear hf hT hl hts hst hne hm hr
  have HFB := hid' (bl_alloc w (.cells #[.string y, .int .i64 t, .int .i64 q] 35))
  have HX : Hid (Ar (w.alloc (.cells #[.string y, .int .i64 t, .int .i64 q] 35)) w.heap.size 35 #[.string y, .int .i64 t, .int .i64 q]) := hid' (heap_alloc_last w _)
  unfold flC
  go_enter Tryd.func16, Tryd.ntmps16
  go_upto_region 1 with fail
  obtain ⟨xb, hxb⟩ : ∃ xb, w.heap.size = xb := ⟨_, rfl⟩
  rw [hxb] at HX ⊢
  generalize w.alloc (.cells #[.string y, .int .i64 t, .int .i64 q] 35) = w1 at *
  clear hxb
  have HB1 := HFB
  have p0 := HX.out.cell 0 _ rfl
  have p1 := HX.out.cell 1 _ rfl
  have p2 := HX.out.cell 2 _ rfl
  go_wp2_with fail
  refine (HM.out _ (HF.out.keep HB1.out) (tab_below HT.out HB1.out)).mono ?_
  rintro e w2 ⟨rfl, hb2⟩
  have HB2 := hid' (below_two HB1.out hb2)
  have HX2 := hid' (HX.out.keep hb2)
  clear hb2
  clear p0 p1 p2
  cases r
  · go_wp2
    go_ret
    exact ⟨rfl, HB2.out⟩
  · skip
    go_wp2_with fail
    refine (cvalueN fb ⟨#[105, 102, 45, 109, 97, 116, 99, 104]⟩ s ⟨#[105, 102, 45, 110, 111, 110, 101, 45, 109, 97, 116, 99, 104]⟩ (by rw [Lib.toList_data, Lib.toList_data]; decide) _ (HF.out.keep HB2.out)).mono ?_
    rintro e w3 ⟨rfl, hb3⟩
    have HB3 := hid' (below_two HB2.out hb3)
    have HX3 := hid' (HX2.out.keep hb3)
    clear hb3
    go_wp2_with fail
    refine (cdateN fb ⟨#[105, 102, 45, 109, 97, 116, 99, 104]⟩ s ⟨#[105, 102, 45, 109, 111, 100, 105, 102, 105, 101, 100, 45, 115, 105, 110, 99, 101]⟩ (by rw [Lib.toList_data, Lib.toList_data]; decide) _ (HF.out.keep HB3.out)).mono ?_
    rintro e w4 ⟨rfl, hb4⟩
    have HB4 := hid' (below_two HB3.out hb4)
    have HX4 := hid' (HX3.out.keep hb4)
    clear hb4
    go_wp2
    go_ret
    exact ⟨rfl, HB4.out⟩

set_option maxHeartbeats 4000000 in
set_option maxRecDepth 20000 in
theorem csame0 (y : ByteArray) (t q : Int) (w : World) :
    Calls Tryd.prog 17 #[.slice none 0 0, .agg (flC y t q)] w fun e w' => e = .returned (.bool true) ∧ Below w.heap.size w w' := by
  have HFB := hid' (bl_alloc w (.cells #[.string y, .int .i64 t, .int .i64 q] 35))
  have HX : Hid (Ar (w.alloc (.cells #[.string y, .int .i64 t, .int .i64 q] 35)) w.heap.size 35 #[.string y, .int .i64 t, .int .i64 q]) := hid' (heap_alloc_last w _)
  unfold flC
  go_enter Tryd.func17, Tryd.ntmps17
  go_upto_region 1 with fail
  obtain ⟨xb, hxb⟩ : ∃ xb, w.heap.size = xb := ⟨_, rfl⟩
  rw [hxb] at HX ⊢
  generalize w.alloc (.cells #[.string y, .int .i64 t, .int .i64 q] 35) = w1 at *
  clear hxb
  have HB1 := HFB
  go_wp2_with fail
  refine (cvalue0 ⟨#[105, 102, 45, 114, 97, 110, 103, 101]⟩ _).mono ?_
  rintro e w2 ⟨rfl, hb2⟩
  have HB2 := hid' (below_two HB1.out hb2)
  have HX2 := hid' (HX.out.keep hb2)
  clear hb2
  go_wp2
  go_ret
  exact ⟨rfl, HB2.out⟩

set_option maxHeartbeats 4000000 in
set_option maxRecDepth 20000 in
theorem csame1 (fb : Nat) (s : ByteArray) (l : List UInt8) (hl : s.data.toList = l) (x : Tg.Tag) (hts : Tg.tags l = [x]) (y : ByteArray) (t q : Int) (m : List UInt8) (hm : Tg.mk q y.size = m) (r : Bool) (hr : Tg.strong x ⟨false, m⟩ = r) (w : World) (hf : Ar w fb 42 #[.string ⟨#[105, 102, 45, 114, 97, 110, 103, 101]⟩, .string s]) (hs : s.size ≤ 1048576) (hy : y.size ≤ 9223372036854775807) (q0 : -9223372036854775808 ≤ q) (q1 : q ≤ 9223372036854775807) (hT : Lib.TabIs Tryd.prog w "internal/strconv.uint64pow10" .u64 Lib.pow10Tab) :
    Calls Tryd.prog 17 #[.slice (some ⟨fb, 0, none⟩) 1 1, .agg (flC y t q)] w fun e w' => e = .returned (.bool r) ∧ Below w.heap.size w w' := by
  have HF := hid' hf
  have HT := hid' hT
  have HP := hid' (fun W => cparse15 s l hl W hs)
  rw [hts] at HP
  have HO := hid' (fun W (h : Lib.TabIs Tryd.prog W "internal/strconv.uint64pow10" .u64 Lib.pow10Tab) => cown15 y t q m hm W hy q0 q1 h)
  unfold flC tA at HO
  have HS := hid' (fun W => cstrong15 x ⟨false, m⟩ r hr W)
  unfold tA at HS
  clear hf hT hl hts hm hr
  have HFB := hid' (bl_alloc w (.cells #[.string y, .int .i64 t, .int .i64 q] 35))
  have HX : Hid (Ar (w.alloc (.cells #[.string y, .int .i64 t, .int .i64 q] 35)) w.heap.size 35 #[.string y, .int .i64 t, .int .i64 q]) := hid' (heap_alloc_last w _)
  unfold flC
  go_enter Tryd.func17, Tryd.ntmps17
  go_upto_region 1 with fail
  obtain ⟨xb, hxb⟩ : ∃ xb, w.heap.size = xb := ⟨_, rfl⟩
  rw [hxb] at HX ⊢
  generalize w.alloc (.cells #[.string y, .int .i64 t, .int .i64 q] 35) = w1 at *
  clear hxb
  have HB1 := HFB
  go_wp2_with fail
  refine (cvalueY fb ⟨#[105, 102, 45, 114, 97, 110, 103, 101]⟩ s ⟨#[105, 102, 45, 114, 97, 110, 103, 101]⟩ (by rw [Lib.toList_data]; decide) _ (HF.out.keep HB1.out)).mono ?_
  rintro e w2 ⟨rfl, hb2⟩
  have HB2 := hid' (below_two HB1.out hb2)
  have HX2 := hid' (HX.out.keep hb2)
  clear hb2
  go_wp2_with fail
  refine (HP.out _).mono ?_
  rintro e w3 ⟨⟨n, ro, rc, rfl, hn, hown⟩, hb3⟩
  obtain rfl : n = 1 := hn.symm
  have HB3 := hid' (below_two HB2.out hb3)
  have HX3 := hid' (HX2.out.keep hb3)
  obtain ⟨g, rfl, c0, c1⟩ := own_two hown 0 x rfl
  have HG := hid' (own_lt hown g rfl)
  clear hb3 hown hn
  go_upto_region 6 with fail
  have p0 := HX3.out.cell 0 _ rfl
  have p1 := HX3.out.cell 1 _ rfl
  have p2 := HX3.out.cell 2 _ rfl
  have d0 : w3.cell? ⟨g, 0, none⟩ = some (.bool x.w) := c0
  have d1 : w3.cell? ⟨g, 1, none⟩ = some (.string ⟨x.v.toArray⟩) := c1
  have hS : w3.cell? ⟨g, 0, none⟩ = some (.bool x.w) ∧ w3.cell? ⟨g, 1, none⟩ = some (.string ⟨x.v.toArray⟩) ∧ w3.cell? ⟨xb, 0, none⟩ = some (.string y) ∧ w3.cell? ⟨xb, 1, none⟩ = some (.int .i64 t) ∧ w3.cell? ⟨xb, 2, none⟩ = some (.int .i64 q) := ⟨d0, d1, p0, p1, p2⟩
  have HS0 := hid' hS
  clear c0 c1 p0 p1 p2 d0 d1
  go_region_held3 (fun W => W.cell? ⟨g, 0, none⟩ = some (.bool x.w) ∧ W.cell? ⟨g, 1, none⟩ = some (.string ⟨x.v.toArray⟩) ∧ W.cell? ⟨xb, 0, none⟩ = some (.string y) ∧ W.cell? ⟨xb, 1, none⟩ = some (.int .i64 t) ∧ W.cell? ⟨xb, 2, none⟩ = some (.int .i64 q)) (first | assumption) (first
    | (go_at_call 32; refine (HO.out _ (tab_below HT.out HB3.out.drew)).mono ?_; rintro e wa ⟨rfl, hba⟩; have hba2 : Below w3.heap.size w3 wa := ⟨hba.os, hba.tape, hba.output, hba.size, hba.block⟩; have HBa := hid' hba2; have hxa := HX3.out.keep hba2; have hSa := And.intro ((hba2.cell (p := ⟨g, 0, none⟩) HG.out).trans HS0.out.1) (And.intro ((hba2.cell (p := ⟨g, 1, none⟩) HG.out).trans HS0.out.2.1) (And.intro (hxa.cell 0 _ rfl) (And.intro (hxa.cell 1 _ rfl) (hxa.cell 2 _ rfl)))); have HSa := hid' hSa; have HXa := hid' hxa; clear hba hba2 hxa)
    | (go_at_call 10; refine (HS.out _).mono ?_; rintro e wb ⟨rfl, hbb⟩; have hxb := HXa.out.keep hbb; have HGa := Nat.lt_of_lt_of_le HG.out HBa.out.size; have hSb := And.intro ((hbb.cell (p := ⟨g, 0, none⟩) HGa).trans HSa.out.1) (And.intro ((hbb.cell (p := ⟨g, 1, none⟩) HGa).trans HSa.out.2.1) (And.intro (hxb.cell 0 _ rfl) (And.intro (hxb.cell 1 _ rfl) (hxb.cell 2 _ rfl)))); have HBb := hid' (below_two HBa.out hbb); clear hbb hxb HGa))
  go_wp2
  go_ret
  exact ⟨rfl, below_two HB3.out HBb.out⟩

end Go.Proofs.YtbnldneejbbhhaaDoor
