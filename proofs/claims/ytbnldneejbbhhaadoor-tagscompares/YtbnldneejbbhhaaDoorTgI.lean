/-
  The code's conditions of one field or of none: by their contracts.
-/
import Derived.Test.YtbnldneejbbhhaaDoorTgH
namespace Go.Proofs.YtbnldneejbbhhaaDoor
open Go.RowKit

set_option maxHeartbeats 1000000 in
theorem cjoin0 (sep : ByteArray) (w : World) : Calls Tryd.prog 42 #[.slice none 0 0, .string sep] w fun e w' => e = .returned (.string ⟨#[]⟩) ∧ w' = w := by
  go_enter Tryd.func42, Tryd.ntmps42
  go_wp2
  go_ret
  exact ⟨rfl, rfl⟩

set_option maxHeartbeats 1000000 in
theorem cjoin1 (g cap : Nat) (v sep : ByteArray) (w : World) (h : w.cell? ⟨g, 0, none⟩ = some (.string v)) : Calls Tryd.prog 42 #[.slice (some ⟨g, 0, none⟩) 1 cap, .string sep] w fun e w' => e = .returned (.string v) ∧ w' = w := by
  go_enter Tryd.func42, Tryd.ntmps42
  go_wp2
  go_ret
  exact ⟨rfl, rfl⟩

theorem qS15 (w : World) (a : Option Addr) (n c : Nat) : (binOp .neq 68 (.slice a n c) (.slice none 0 0)).run Tryd.prog w = .ok (.bool (!a.isNone)) w := run_neq_slice_nil_any w _ _ a n c 0 0 Tryd.underlying68

set_option maxHeartbeats 1000000 in
theorem cvalue0 (nm : ByteArray) (w : World) :
    Calls Tryd.prog 29 #[.slice none 0 0, .string nm] w fun e w' => e = .returned (.tuple #[.string ⟨#[]⟩, .bool false]) ∧ Below w.heap.size w w' := by
  have q := qS15
  go_enter Tryd.func29, Tryd.ntmps29
  go_wp2_with fail
  refine (cvals0 nm w).mono ?_
  rintro e w1 ⟨rfl, hw1⟩
  subst w1
  have HB := hid' (Below.refl w.heap.size w)
  go_wp2_with fail
  refine (cjoin0 _ _).mono ?_
  rintro e w2 ⟨rfl, hw2⟩
  subst w2
  go_wp2
  go_ret2
  exact ⟨rfl, HB.out⟩

set_option maxHeartbeats 1000000 in
theorem cvalueN (fb : Nat) (a v nm : ByteArray) (hn : (a.toList == nm.toList) = false) (w : World) (hf : Ar w fb 42 #[.string a, .string v]) :
    Calls Tryd.prog 29 #[.slice (some ⟨fb, 0, none⟩) 1 1, .string nm] w fun e w' => e = .returned (.tuple #[.string ⟨#[]⟩, .bool false]) ∧ Below w.heap.size w w' := by
  have q := qS15
  go_enter Tryd.func29, Tryd.ntmps29
  go_wp2_with fail
  refine (cvalsN fb a v nm hn w hf).mono ?_
  rintro e w1 ⟨rfl, hb1⟩
  have HB := hid' hb1
  clear hb1
  go_wp2_with fail
  refine (cjoin0 _ _).mono ?_
  rintro e w2 ⟨rfl, hw2⟩
  subst w2
  go_wp2
  go_ret2
  exact ⟨rfl, HB.out⟩

set_option maxHeartbeats 1000000 in
theorem cvalueY (fb : Nat) (a v nm : ByteArray) (hn : (a.toList == nm.toList) = true) (w : World) (hf : Ar w fb 42 #[.string a, .string v]) :
    Calls Tryd.prog 29 #[.slice (some ⟨fb, 0, none⟩) 1 1, .string nm] w fun e w' => e = .returned (.tuple #[.string v, .bool true]) ∧ Below w.heap.size w w' := by
  have q := qS15
  go_enter Tryd.func29, Tryd.ntmps29
  go_wp2_with fail
  refine (cvalsY fb a v nm hn w hf).mono ?_
  rintro e w1 ⟨⟨g, cap, rfl, hc, hg⟩, hb1⟩
  have HB := hid' hb1
  clear hb1
  go_wp2_with fail
  refine (cjoin1 g cap v _ _ hc).mono ?_
  rintro e w2 ⟨rfl, hw2⟩
  subst w2
  go_wp2
  go_ret2
  exact ⟨rfl, HB.out⟩

set_option maxHeartbeats 1000000 in
theorem cdate0 (nm : ByteArray) (w : World) :
    Calls Tryd.prog 31 #[.slice none 0 0, .string nm] w fun e w' => e = .returned (.tuple #[.int .i64 0, .bool false]) ∧ Below w.heap.size w w' := by
  go_enter Tryd.func31, Tryd.ntmps31
  go_wp2_with fail
  refine (cvals0 nm w).mono ?_
  rintro e w1 ⟨rfl, hw1⟩
  subst w1
  have HB := hid' (Below.refl w.heap.size w)
  go_wp2
  go_ret2
  exact ⟨rfl, HB.out⟩

set_option maxHeartbeats 1000000 in
theorem cdateN (fb : Nat) (a v nm : ByteArray) (hn : (a.toList == nm.toList) = false) (w : World) (hf : Ar w fb 42 #[.string a, .string v]) :
    Calls Tryd.prog 31 #[.slice (some ⟨fb, 0, none⟩) 1 1, .string nm] w fun e w' => e = .returned (.tuple #[.int .i64 0, .bool false]) ∧ Below w.heap.size w w' := by
  go_enter Tryd.func31, Tryd.ntmps31
  go_wp2_with fail
  refine (cvalsN fb a v nm hn w hf).mono ?_
  rintro e w1 ⟨rfl, hb1⟩
  have HB := hid' hb1
  clear hb1
  go_wp2
  go_ret2
  exact ⟨rfl, HB.out⟩

set_option maxHeartbeats 2000000 in
set_option maxRecDepth 20000 in
theorem cmay0 (y : ByteArray) (t q : Int) (w : World) :
    Calls Tryd.prog 28 #[.slice none 0 0, .agg (flC y t q), .bool true] w fun e w' => e = .returned (.bool true) ∧ Below w.heap.size w w' := by
  have HFB := hid' (bl_alloc w (.cells #[.string y, .int .i64 t, .int .i64 q] 35))
  have HX : Hid (Ar (w.alloc (.cells #[.string y, .int .i64 t, .int .i64 q] 35)) w.heap.size 35 #[.string y, .int .i64 t, .int .i64 q]) := hid' (heap_alloc_last w _)
  unfold flC
  go_enter Tryd.func28, Tryd.ntmps28
  go_upto_region 1 with fail
  obtain ⟨xb, hxb⟩ : ∃ xb, w.heap.size = xb := ⟨_, rfl⟩
  rw [hxb] at HX ⊢
  generalize w.alloc (.cells #[.string y, .int .i64 t, .int .i64 q] 35) = w1 at *
  clear hxb
  have HB1 := HFB
  go_wp2_with fail
  refine (cvalue0 ⟨#[105, 102, 45, 109, 97, 116, 99, 104]⟩ _).mono ?_
  rintro e w2 ⟨rfl, hb2⟩
  have HB2 := hid' (below_two HB1.out hb2)
  have HX2 := hid' (HX.out.keep hb2)
  clear hb2
  go_wp2_with fail
  refine (cdate0 ⟨#[105, 102, 45, 117, 110, 109, 111, 100, 105, 102, 105, 101, 100, 45, 115, 105, 110, 99, 101]⟩ _).mono ?_
  rintro e w3 ⟨rfl, hb3⟩
  have HB3 := hid' (below_two HB2.out hb3)
  have HX3 := hid' (HX2.out.keep hb3)
  clear hb3
  go_wp2
  go_ret
  exact ⟨rfl, HB3.out⟩

set_option maxHeartbeats 2000000 in
set_option maxRecDepth 20000 in
theorem cmayN (fb : Nat) (a v : ByteArray) (n1 : (a.toList == (⟨#[105, 102, 45, 109, 97, 116, 99, 104]⟩ : ByteArray).toList) = false) (n2 : (a.toList == (⟨#[105, 102, 45, 117, 110, 109, 111, 100, 105, 102, 105, 101, 100, 45, 115, 105, 110, 99, 101]⟩ : ByteArray).toList) = false) (y : ByteArray) (t q : Int) (w : World) (hf : Ar w fb 42 #[.string a, .string v]) :
    Calls Tryd.prog 28 #[.slice (some ⟨fb, 0, none⟩) 1 1, .agg (flC y t q), .bool true] w fun e w' => e = .returned (.bool true) ∧ Below w.heap.size w w' := by
  have HF := hid' hf
  clear hf
  have HFB := hid' (bl_alloc w (.cells #[.string y, .int .i64 t, .int .i64 q] 35))
  have HX : Hid (Ar (w.alloc (.cells #[.string y, .int .i64 t, .int .i64 q] 35)) w.heap.size 35 #[.string y, .int .i64 t, .int .i64 q]) := hid' (heap_alloc_last w _)
  unfold flC
  go_enter Tryd.func28, Tryd.ntmps28
  go_upto_region 1 with fail
  obtain ⟨xb, hxb⟩ : ∃ xb, w.heap.size = xb := ⟨_, rfl⟩
  rw [hxb] at HX ⊢
  generalize w.alloc (.cells #[.string y, .int .i64 t, .int .i64 q] 35) = w1 at *
  clear hxb
  have HB1 := HFB
  go_wp2_with fail
  refine (cvalueN fb a v ⟨#[105, 102, 45, 109, 97, 116, 99, 104]⟩ n1 _ (HF.out.keep HB1.out)).mono ?_
  rintro e w2 ⟨rfl, hb2⟩
  have HB2 := hid' (below_two HB1.out hb2)
  have HX2 := hid' (HX.out.keep hb2)
  clear hb2
  go_wp2_with fail
  refine (cdateN fb a v ⟨#[105, 102, 45, 117, 110, 109, 111, 100, 105, 102, 105, 101, 100, 45, 115, 105, 110, 99, 101]⟩ n2 _ (HF.out.keep HB2.out)).mono ?_
  rintro e w3 ⟨rfl, hb3⟩
  have HB3 := hid' (below_two HB2.out hb3)
  have HX3 := hid' (HX2.out.keep hb3)
  clear hb3
  go_wp2
  go_ret
  exact ⟨rfl, HB3.out⟩

set_option maxHeartbeats 2000000 in
set_option maxRecDepth 20000 in
theorem cmayY (fb : Nat) (s : ByteArray) (l : List UInt8) (hl : s.data.toList = l) (ts : List Tg.Tag) (hts : Tg.tags l = ts) (hst : Tg.star l = false) (hne : 0 < ts.length) (y : ByteArray) (t q : Int) (m : List UInt8) (hm : Tg.mk q y.size = m) (r : Bool) (hr : ts.any (fun x => Tg.strong x ⟨false, m⟩) = r) (w : World) (hf : Ar w fb 42 #[.string ⟨#[105, 102, 45, 109, 97, 116, 99, 104]⟩, .string s]) (hs : s.size ≤ 1048576) (hy : y.size ≤ 9223372036854775807) (q0 : -9223372036854775808 ≤ q) (q1 : q ≤ 9223372036854775807) (hT : Lib.TabIs Tryd.prog w "internal/strconv.uint64pow10" .u64 Lib.pow10Tab) :
    Calls Tryd.prog 28 #[.slice (some ⟨fb, 0, none⟩) 1 1, .agg (flC y t q), .bool true] w fun e w' => e = .returned (.bool r) ∧ Below w.heap.size w w' := by
  have HF := hid' hf
  have HT := hid' hT
  have HNM := hid' (fun W (h : Lib.TabIs Tryd.prog W "internal/strconv.uint64pow10" .u64 Lib.pow10Tab) => cnmS15 s l hl ts hts hst hne y t q m hm r hr W hs hy q0 q1 h)
  unfold flC at HNM
  clear hf hT hl hts hst hne hm hr
  have HFB := hid' (bl_alloc w (.cells #[.string y, .int .i64 t, .int .i64 q] 35))
  have HX : Hid (Ar (w.alloc (.cells #[.string y, .int .i64 t, .int .i64 q] 35)) w.heap.size 35 #[.string y, .int .i64 t, .int .i64 q]) := hid' (heap_alloc_last w _)
  unfold flC
  go_enter Tryd.func28, Tryd.ntmps28
  go_upto_region 1 with fail
  obtain ⟨xb, hxb⟩ : ∃ xb, w.heap.size = xb := ⟨_, rfl⟩
  rw [hxb] at HX ⊢
  generalize w.alloc (.cells #[.string y, .int .i64 t, .int .i64 q] 35) = w1 at *
  clear hxb
  have HB1 := HFB
  go_wp2_with fail
  refine (cvalueY fb ⟨#[105, 102, 45, 109, 97, 116, 99, 104]⟩ s ⟨#[105, 102, 45, 109, 97, 116, 99, 104]⟩ (by rw [Lib.toList_data]; decide) _ (HF.out.keep HB1.out)).mono ?_
  rintro e w2 ⟨rfl, hb2⟩
  have HB2 := hid' (below_two HB1.out hb2)
  have HX2 := hid' (HX.out.keep hb2)
  clear hb2
  have p0 := HX2.out.cell 0 _ rfl
  have p1 := HX2.out.cell 1 _ rfl
  have p2 := HX2.out.cell 2 _ rfl
  go_wp2_with fail
  refine (HNM.out _ (tab_below HT.out HB2.out)).mono ?_
  rintro e w3 ⟨rfl, hb3⟩
  have HB3 := hid' (below_two HB2.out hb3)
  have HX3 := hid' (HX2.out.keep hb3)
  clear hb3
  go_wp2
  go_ret
  exact ⟨rfl, HB3.out⟩

end Go.Proofs.YtbnldneejbbhhaaDoor
