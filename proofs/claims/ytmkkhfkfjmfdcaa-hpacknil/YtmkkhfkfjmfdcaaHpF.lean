/-
  Decoder.field: its ways, by their contracts. Written by mkhpf.py.
-/
import Derived.Test.YtmkkhfkfjmfdcaaHpE
namespace Go.Proofs.Ytmkkhfkfjmfdcaa
open Go.RowKit

set_option maxRecDepth 20000 in
theorem field_gone128 (B d b : Nat) (v : Value) (list : Int) (lim M : Nat) (fs : List (List UInt8 × List UInt8)) (n c : Nat) (w : World) (h : CD w B d b v list lim M fs) (hs : Tb.size fs ≤ 1048576) (hf : Tb.at? fs (n : Int) = none) (hn : n ≤ 2147483647) :
    Calls Try.prog 39 #[.pointer (some ⟨d, 0, none⟩), .int .u8 128, .int .i64 (n : Int), .pointer (some ⟨c, 0, none⟩)] w fun e w' => e = .returned (.tuple #[.agg #[.string ⟨#[]⟩, .string ⟨#[]⟩], .int .i64 50]) ∧ Fr (· = c) w w' := by
  have hb0 : Below w.heap.size w (w.alloc (.cells #[.string ⟨#[]⟩, .string ⟨#[]⟩] 55)) := (Below.refl _ _).alloc (Nat.le_refl _) _
  have hA : Ar (w.alloc (.cells #[.string ⟨#[]⟩, .string ⟨#[]⟩] 55)) w.heap.size 55 #[.string ⟨#[]⟩, .string ⟨#[]⟩] := heap_alloc_last w _
  have c0 := Below.kc hb0 (h.obj.cell 0 _ rfl)
  have H := hid' (h.keep hb0)
  have HS := hid' hs
  have HB := hid' hb0
  have HA := hid' hA
  have HF := hid' hf
  have HN := hid' hn
  clear h hs hb0 hA hf hn
  go_enter Try.func39, Try.ntmps39
  go_wp2_with fail
  obtain ⟨rb, hrb⟩ : ∃ rb, w.heap.size = rb := ⟨_, rfl⟩
  rw [hrb] at HA ⊢
  generalize (w.alloc (.cells #[.string ⟨#[]⟩, .string ⟨#[]⟩] 55)) = w0 at *
  refine (eat_none B b v M fs (n : Int) d _ c0 H.out.tab HS.out HF.out (by have := HN.out; omega) (by omega)).mono ?_
  rintro e w1 ⟨rfl, hb1⟩
  have hb2 : Below w1.heap.size w1 (w1.alloc (.cells #[.string ⟨#[]⟩, .string ⟨#[]⟩] 55)) := (Below.refl _ _).alloc (Nat.le_refl _) _
  have hA2 := (HA.out.keep hb1).keep hb2
  have hN2 : Ar (w1.alloc (.cells #[.string ⟨#[]⟩, .string ⟨#[]⟩] 55)) w1.heap.size 55 #[.string ⟨#[]⟩, .string ⟨#[]⟩] := heap_alloc_last w1 _
  have HA1 := hid' hA2
  have HB1 := hid' (below_two (below_two HB.out hb1) hb2)
  have s0 := hN2.cell 0 _ rfl
  have s1 := hN2.cell 1 _ rfl
  have r0 := hA2.cell 0 _ rfl
  have r1 := hA2.cell 1 _ rfl
  have q0 := hA2.free 0
  have q1 := hA2.free 1
  clear hA2 hb1 c0 hN2 hb2
  go_wp2
  have hA9 := (HA1.out.set 0 (.string ⟨#[]⟩)).set 1 (.string ⟨#[]⟩)
  have e0 := hA9.cell 0 (.string ⟨#[]⟩) rfl
  have e1 := hA9.cell 1 (.string ⟨#[]⟩) rfl
  clear r0 r1 q0 q1 hA9
  refine bodyPost_ret (v := .tuple #[.agg #[.string ⟨#[]⟩, .string ⟨#[]⟩], .int .i64 50]) (by simp [results, Try.results39, go_sem, e0, e1]) rfl ⟨rfl, ((Fr.of_below HB1.out).trans (S' := (· = rb)) ((Fr.of_set (S := (· = rb)) rb 0 _ _ rfl).and (Fr.of_set rb 1 _ _ rfl)) (fun k hk => .inr (Nat.le_of_eq (hrb.trans (Eq.symm hk)))))⟩

set_option maxRecDepth 20000 in
theorem field_gone (B d b : Nat) (v : Value) (list : Int) (lim M : Nat) (fs : List (List UInt8 × List UInt8)) (n c : Nat) (w : World) (h : CD w B d b v list lim M fs) (hs : Tb.size fs ≤ 1048576) (K : Int) (hK : (K == 128) = false) (hf : Tb.at? fs (n : Int) = none) (hn : n ≤ 2147483647) (h0 : ((n : Int) == 0) = false) :
    Calls Try.prog 39 #[.pointer (some ⟨d, 0, none⟩), .int .u8 K, .int .i64 (n : Int), .pointer (some ⟨c, 0, none⟩)] w fun e w' => e = .returned (.tuple #[.agg #[.string ⟨#[]⟩, .string ⟨#[]⟩], .int .i64 50]) ∧ Fr (· = c) w w' := by
  have hb0 : Below w.heap.size w (w.alloc (.cells #[.string ⟨#[]⟩, .string ⟨#[]⟩] 55)) := (Below.refl _ _).alloc (Nat.le_refl _) _
  have hA : Ar (w.alloc (.cells #[.string ⟨#[]⟩, .string ⟨#[]⟩] 55)) w.heap.size 55 #[.string ⟨#[]⟩, .string ⟨#[]⟩] := heap_alloc_last w _
  have c0 := Below.kc hb0 (h.obj.cell 0 _ rfl)
  have H := hid' (h.keep hb0)
  have HS := hid' hs
  have HB := hid' hb0
  have HA := hid' hA
  have HF := hid' hf
  have HN := hid' hn
  have h0' : (n == 0) = false := by simpa using h0
  clear h hs hb0 hA hf hn
  go_enter Try.func39, Try.ntmps39
  go_wp2_with fail
  obtain ⟨rb, hrb⟩ : ∃ rb, w.heap.size = rb := ⟨_, rfl⟩
  rw [hrb] at HA ⊢
  generalize (w.alloc (.cells #[.string ⟨#[]⟩, .string ⟨#[]⟩] 55)) = w0 at *
  refine (eat_none B b v M fs (n : Int) d _ c0 H.out.tab HS.out HF.out (by have := HN.out; omega) (by omega)).mono ?_
  rintro e w1 ⟨rfl, hb1⟩
  have hb2 : Below w1.heap.size w1 (w1.alloc (.cells #[.string ⟨#[]⟩, .string ⟨#[]⟩] 55)) := (Below.refl _ _).alloc (Nat.le_refl _) _
  have hA2 := (HA.out.keep hb1).keep hb2
  have hN2 : Ar (w1.alloc (.cells #[.string ⟨#[]⟩, .string ⟨#[]⟩] 55)) w1.heap.size 55 #[.string ⟨#[]⟩, .string ⟨#[]⟩] := heap_alloc_last w1 _
  have HA1 := hid' hA2
  have HB1 := hid' (below_two (below_two HB.out hb1) hb2)
  have s0 := hN2.cell 0 _ rfl
  have s1 := hN2.cell 1 _ rfl
  have r0 := hA2.cell 0 _ rfl
  have r1 := hA2.cell 1 _ rfl
  have q0 := hA2.free 0
  have q1 := hA2.free 1
  clear hA2 hb1 c0 hN2 hb2
  go_wp2
  have hA9 := (HA1.out.set 0 (.string ⟨#[]⟩)).set 1 (.string ⟨#[]⟩)
  have e0 := hA9.cell 0 (.string ⟨#[]⟩) rfl
  have e1 := hA9.cell 1 (.string ⟨#[]⟩) rfl
  clear r0 r1 q0 q1 hA9
  refine bodyPost_ret (v := .tuple #[.agg #[.string ⟨#[]⟩, .string ⟨#[]⟩], .int .i64 50]) (by simp [results, Try.results39, go_sem, e0, e1]) rfl ⟨rfl, ((Fr.of_below HB1.out).trans (S' := (· = rb)) ((Fr.of_set (S := (· = rb)) rb 0 _ _ rfl).and (Fr.of_set rb 1 _ _ rfl)) (fun k hk => .inr (Nat.le_of_eq (hrb.trans (Eq.symm hk)))))⟩

set_option maxRecDepth 20000 in
theorem field_named_ok (B d b : Nat) (v : Value) (list : Int) (lim M : Nat) (fs : List (List UInt8 × List UInt8)) (n c : Nat) (w : World) (h : CD w B d b v list lim M fs) (hs : Tb.size fs ≤ 1048576) (K : Int) (hK : (K == 128) = false) (g : List UInt8 × List UInt8) (hf : Tb.at? fs (n : Int) = some g) (l : List UInt8) (hl : l.length ≤ 281474976710656) (hc : Ar w c 59 #[.string ⟨l.toArray⟩]) (u : List UInt8) (i : Nat) (hr2 : Hp.rs l = .ok u i) :
    Calls Try.prog 39 #[.pointer (some ⟨d, 0, none⟩), .int .u8 K, .int .i64 (n : Int), .pointer (some ⟨c, 0, none⟩)] w fun e w' => e = .returned (.tuple #[.agg #[.string ⟨g.1.toArray⟩, .string ⟨u.toArray⟩], .int .i64 0]) ∧ Ar w' c 59 #[.string ⟨(l.drop i).toArray⟩] ∧ Fr (· = c) w w' := by
  have hb0 : Below w.heap.size w (w.alloc (.cells #[.string ⟨#[]⟩, .string ⟨#[]⟩] 55)) := (Below.refl _ _).alloc (Nat.le_refl _) _
  have hA : Ar (w.alloc (.cells #[.string ⟨#[]⟩, .string ⟨#[]⟩] 55)) w.heap.size 55 #[.string ⟨#[]⟩, .string ⟨#[]⟩] := heap_alloc_last w _
  have c0 := Below.kc hb0 (h.obj.cell 0 _ rfl)
  have H := hid' (h.keep hb0)
  have HS := hid' hs
  have HB := hid' hb0
  have HA := hid' hA
  have HF := hid' hf
  have HL := hid' hl
  have HC := hid' (hc.keep hb0)
  have hcw := hc.lt
  have HR2 := hid' hr2
  clear h hs hb0 hA hf hl hc hr2
  go_enter Try.func39, Try.ntmps39
  go_wp2_with fail
  obtain ⟨rb, hrb⟩ : ∃ rb, w.heap.size = rb := ⟨_, rfl⟩
  rw [hrb] at HA ⊢
  have hrc : rb ≠ c := by omega
  clear hcw
  generalize (w.alloc (.cells #[.string ⟨#[]⟩, .string ⟨#[]⟩] 55)) = w0 at *
  refine (eat_some B b v M fs (n : Int) g d _ c0 H.out.tab HS.out HF.out).mono ?_
  rintro e w1 ⟨rfl, hb1⟩
  have hb2 : Below w1.heap.size w1 (w1.alloc (.cells #[.string ⟨g.1.toArray⟩, .string ⟨g.2.toArray⟩] 55)) := (Below.refl _ _).alloc (Nat.le_refl _) _
  have hA2 := (HA.out.keep hb1).keep hb2
  have HC2 := hid' ((HC.out.keep hb1).keep hb2)
  have hN2 : Ar (w1.alloc (.cells #[.string ⟨g.1.toArray⟩, .string ⟨g.2.toArray⟩] 55)) w1.heap.size 55 #[.string ⟨g.1.toArray⟩, .string ⟨g.2.toArray⟩] := heap_alloc_last w1 _
  have HA1 := hid' hA2
  have HB1 := hid' (below_two (below_two HB.out hb1) hb2)
  have s0 := hN2.cell 0 _ rfl
  have s1 := hN2.cell 1 _ rfl
  clear hA2 hb1 c0 hN2 hb2
  go_wp2_with fail
  obtain ⟨nb, hnb⟩ : ∃ nb, w1.heap.size = nb := ⟨_, rfl⟩
  rw [hnb] at *
  clear hnb
  generalize (w1.alloc (.cells #[.string ⟨g.1.toArray⟩, .string ⟨g.2.toArray⟩] 55)) = w2 at *
  refine (text_ok l u i HL.out HR2.out c _ HC2.out).mono ?_
  rintro e w3 ⟨rfl, hcw3, hfw3⟩
  have HCw3 := hid' hcw3
  have HAw3 := hid' (hfw3.ar HA1.out hrc)
  have HFw3 := hid' hfw3
  clear hfw3 hcw3 s0 s1
  have r0 := HAw3.out.cell 0 _ rfl
  have r1 := HAw3.out.cell 1 _ rfl
  have q0 := HAw3.out.free 0
  have q1 := HAw3.out.free 1
  go_wp2
  have hA9 := (HAw3.out.set 0 (.string ⟨g.1.toArray⟩)).set 1 (.string ⟨u.toArray⟩)
  have e0 := hA9.cell 0 (.string ⟨g.1.toArray⟩) rfl
  have e1 := hA9.cell 1 (.string ⟨u.toArray⟩) rfl
  clear r0 r1 q0 q1 hA9
  refine bodyPost_ret (v := .tuple #[.agg #[.string ⟨g.1.toArray⟩, .string ⟨u.toArray⟩], .int .i64 0]) (by simp [results, Try.results39, go_sem, e0, e1]) rfl ⟨rfl, (HCw3.out.other hrc 0 _).other hrc 1 _, (((Fr.of_below HB1.out).and HFw3.out).trans (S' := (· = rb)) ((Fr.of_set (S := (· = rb)) rb 0 _ _ rfl).and (Fr.of_set rb 1 _ _ rfl)) (fun k hk => .inr (Nat.le_of_eq (hrb.trans (Eq.symm hk)))))⟩

set_option maxRecDepth 20000 in
theorem field_named_err (B d b : Nat) (v : Value) (list : Int) (lim M : Nat) (fs : List (List UInt8 × List UInt8)) (n c : Nat) (w : World) (h : CD w B d b v list lim M fs) (hs : Tb.size fs ≤ 1048576) (K : Int) (hK : (K == 128) = false) (g : List UInt8 × List UInt8) (hf : Tb.at? fs (n : Int) = some g) (l : List UInt8) (hl : l.length ≤ 281474976710656) (hc : Ar w c 59 #[.string ⟨l.toArray⟩]) (er : Nat) (hr2 : Hp.rs l = .err er) :
    Calls Try.prog 39 #[.pointer (some ⟨d, 0, none⟩), .int .u8 K, .int .i64 (n : Int), .pointer (some ⟨c, 0, none⟩)] w fun e w' => e = .returned (.tuple #[.agg #[.string ⟨#[]⟩, .string ⟨#[]⟩], .int .i64 (er : Int)]) ∧ Fr (· = c) w w' := by
  have hb0 : Below w.heap.size w (w.alloc (.cells #[.string ⟨#[]⟩, .string ⟨#[]⟩] 55)) := (Below.refl _ _).alloc (Nat.le_refl _) _
  have hA : Ar (w.alloc (.cells #[.string ⟨#[]⟩, .string ⟨#[]⟩] 55)) w.heap.size 55 #[.string ⟨#[]⟩, .string ⟨#[]⟩] := heap_alloc_last w _
  have c0 := Below.kc hb0 (h.obj.cell 0 _ rfl)
  have H := hid' (h.keep hb0)
  have HS := hid' hs
  have HB := hid' hb0
  have HA := hid' hA
  have HF := hid' hf
  have HL := hid' hl
  have HC := hid' (hc.keep hb0)
  have hcw := hc.lt
  have HR2 := hid' hr2
  have her := (Hp.rs_err HR2.out).1
  have he1 : ((er : Int) == 0) = false := beq_false_of_ne (by omega)
  have he2 : (er == 0) = false := beq_false_of_ne (by omega)
  clear h hs hb0 hA hf hl hc hr2 her
  go_enter Try.func39, Try.ntmps39
  go_wp2_with fail
  obtain ⟨rb, hrb⟩ : ∃ rb, w.heap.size = rb := ⟨_, rfl⟩
  rw [hrb] at HA ⊢
  have hrc : rb ≠ c := by omega
  clear hcw
  generalize (w.alloc (.cells #[.string ⟨#[]⟩, .string ⟨#[]⟩] 55)) = w0 at *
  refine (eat_some B b v M fs (n : Int) g d _ c0 H.out.tab HS.out HF.out).mono ?_
  rintro e w1 ⟨rfl, hb1⟩
  have hb2 : Below w1.heap.size w1 (w1.alloc (.cells #[.string ⟨g.1.toArray⟩, .string ⟨g.2.toArray⟩] 55)) := (Below.refl _ _).alloc (Nat.le_refl _) _
  have hA2 := (HA.out.keep hb1).keep hb2
  have HC2 := hid' ((HC.out.keep hb1).keep hb2)
  have hN2 : Ar (w1.alloc (.cells #[.string ⟨g.1.toArray⟩, .string ⟨g.2.toArray⟩] 55)) w1.heap.size 55 #[.string ⟨g.1.toArray⟩, .string ⟨g.2.toArray⟩] := heap_alloc_last w1 _
  have HA1 := hid' hA2
  have HB1 := hid' (below_two (below_two HB.out hb1) hb2)
  have s0 := hN2.cell 0 _ rfl
  have s1 := hN2.cell 1 _ rfl
  clear hA2 hb1 c0 hN2 hb2
  go_wp2_with fail
  obtain ⟨nb, hnb⟩ : ∃ nb, w1.heap.size = nb := ⟨_, rfl⟩
  rw [hnb] at *
  clear hnb
  generalize (w1.alloc (.cells #[.string ⟨g.1.toArray⟩, .string ⟨g.2.toArray⟩] 55)) = w2 at *
  refine (text_err l er HL.out HR2.out c _ HC2.out).mono ?_
  rintro e w3 ⟨rfl, hfw3⟩
  have HAw3 := hid' (hfw3.ar HA1.out hrc)
  have HFw3 := hid' hfw3
  clear hfw3 s0 s1
  have r0 := HAw3.out.cell 0 _ rfl
  have r1 := HAw3.out.cell 1 _ rfl
  have q0 := HAw3.out.free 0
  have q1 := HAw3.out.free 1
  go_wp2
  have hA9 := (HAw3.out.set 0 (.string ⟨#[]⟩)).set 1 (.string ⟨#[]⟩)
  have e0 := hA9.cell 0 (.string ⟨#[]⟩) rfl
  have e1 := hA9.cell 1 (.string ⟨#[]⟩) rfl
  clear r0 r1 q0 q1 hA9
  refine bodyPost_ret (v := .tuple #[.agg #[.string ⟨#[]⟩, .string ⟨#[]⟩], .int .i64 (er : Int)]) (by simp [results, Try.results39, go_sem, e0, e1]) rfl ⟨rfl, (((Fr.of_below HB1.out).and HFw3.out).trans (S' := (· = rb)) ((Fr.of_set (S := (· = rb)) rb 0 _ _ rfl).and (Fr.of_set rb 1 _ _ rfl)) (fun k hk => .inr (Nat.le_of_eq (hrb.trans (Eq.symm hk)))))⟩

set_option maxRecDepth 20000 in
theorem field_text_err (B d b : Nat) (v : Value) (list : Int) (lim M : Nat) (fs : List (List UInt8 × List UInt8)) (c : Nat) (w : World) (h : CD w B d b v list lim M fs) (hs : Tb.size fs ≤ 1048576) (K : Int) (hK : (K == 128) = false)  (l : List UInt8) (hl : l.length ≤ 281474976710656) (hc : Ar w c 59 #[.string ⟨l.toArray⟩]) (er : Nat) (hr1 : Hp.rs l = .err er) :
    Calls Try.prog 39 #[.pointer (some ⟨d, 0, none⟩), .int .u8 K, .int .i64 0, .pointer (some ⟨c, 0, none⟩)] w fun e w' => e = .returned (.tuple #[.agg #[.string ⟨#[]⟩, .string ⟨#[]⟩], .int .i64 (er : Int)]) ∧ Fr (· = c) w w' := by
  have hb0 : Below w.heap.size w (w.alloc (.cells #[.string ⟨#[]⟩, .string ⟨#[]⟩] 55)) := (Below.refl _ _).alloc (Nat.le_refl _) _
  have hA : Ar (w.alloc (.cells #[.string ⟨#[]⟩, .string ⟨#[]⟩] 55)) w.heap.size 55 #[.string ⟨#[]⟩, .string ⟨#[]⟩] := heap_alloc_last w _
  have c0 := Below.kc hb0 (h.obj.cell 0 _ rfl)
  have H := hid' (h.keep hb0)
  have HS := hid' hs
  have HB := hid' hb0
  have HA := hid' hA
  have HL := hid' hl
  have HC := hid' (hc.keep hb0)
  have hcw := hc.lt
  have HR1 := hid' hr1
  have her := (Hp.rs_err HR1.out).1
  have he1 : ((er : Int) == 0) = false := beq_false_of_ne (by omega)
  have he2 : (er == 0) = false := beq_false_of_ne (by omega)
  clear h hs hb0 hA hl hc hr1 her
  go_enter Try.func39, Try.ntmps39
  go_wp2_with fail
  obtain ⟨rb, hrb⟩ : ∃ rb, w.heap.size = rb := ⟨_, rfl⟩
  rw [hrb] at HA ⊢
  have hrc : rb ≠ c := by omega
  clear hcw
  generalize (w.alloc (.cells #[.string ⟨#[]⟩, .string ⟨#[]⟩] 55)) = w0 at *
  refine (eat_none B b v M fs 0 d _ c0 H.out.tab HS.out (Tb.at_none fs 0 (.inl (by omega))) (by omega) (by omega)).mono ?_
  rintro e w1 ⟨rfl, hb1⟩
  have hb2 : Below w1.heap.size w1 (w1.alloc (.cells #[.string ⟨#[]⟩, .string ⟨#[]⟩] 55)) := (Below.refl _ _).alloc (Nat.le_refl _) _
  have hA2 := (HA.out.keep hb1).keep hb2
  have HC2 := hid' ((HC.out.keep hb1).keep hb2)
  have hN2 : Ar (w1.alloc (.cells #[.string ⟨#[]⟩, .string ⟨#[]⟩] 55)) w1.heap.size 55 #[.string ⟨#[]⟩, .string ⟨#[]⟩] := heap_alloc_last w1 _
  have HA1 := hid' hA2
  have HB1 := hid' (below_two (below_two HB.out hb1) hb2)
  have s0 := hN2.cell 0 _ rfl
  have s1 := hN2.cell 1 _ rfl
  clear hA2 hb1 c0 hN2 hb2
  go_wp2_with fail
  obtain ⟨nb, hnb⟩ : ∃ nb, w1.heap.size = nb := ⟨_, rfl⟩
  rw [hnb] at *
  clear hnb
  generalize (w1.alloc (.cells #[.string ⟨#[]⟩, .string ⟨#[]⟩] 55)) = w2 at *
  refine (text_err l er HL.out HR1.out c _ HC2.out).mono ?_
  rintro e w3 ⟨rfl, hfw3⟩
  have HAw3 := hid' (hfw3.ar HA1.out hrc)
  have HFw3 := hid' hfw3
  clear hfw3 s0 s1
  have r0 := HAw3.out.cell 0 _ rfl
  have r1 := HAw3.out.cell 1 _ rfl
  have q0 := HAw3.out.free 0
  have q1 := HAw3.out.free 1
  go_wp2
  have hA9 := (HAw3.out.set 0 (.string ⟨#[]⟩)).set 1 (.string ⟨#[]⟩)
  have e0 := hA9.cell 0 (.string ⟨#[]⟩) rfl
  have e1 := hA9.cell 1 (.string ⟨#[]⟩) rfl
  clear r0 r1 q0 q1 hA9
  refine bodyPost_ret (v := .tuple #[.agg #[.string ⟨#[]⟩, .string ⟨#[]⟩], .int .i64 (er : Int)]) (by simp [results, Try.results39, go_sem, e0, e1]) rfl ⟨rfl, (((Fr.of_below HB1.out).and HFw3.out).trans (S' := (· = rb)) ((Fr.of_set (S := (· = rb)) rb 0 _ _ rfl).and (Fr.of_set rb 1 _ _ rfl)) (fun k hk => .inr (Nat.le_of_eq (hrb.trans (Eq.symm hk)))))⟩

set_option maxRecDepth 20000 in
theorem field_text_ok_err (B d b : Nat) (v : Value) (list : Int) (lim M : Nat) (fs : List (List UInt8 × List UInt8)) (c : Nat) (w : World) (h : CD w B d b v list lim M fs) (hs : Tb.size fs ≤ 1048576) (K : Int) (hK : (K == 128) = false)  (l : List UInt8) (hl : l.length ≤ 281474976710656) (hc : Ar w c 59 #[.string ⟨l.toArray⟩]) (t : List UInt8) (j : Nat) (hr1 : Hp.rs l = .ok t j) (er : Nat) (hr2 : Hp.rs (l.drop j) = .err er) :
    Calls Try.prog 39 #[.pointer (some ⟨d, 0, none⟩), .int .u8 K, .int .i64 0, .pointer (some ⟨c, 0, none⟩)] w fun e w' => e = .returned (.tuple #[.agg #[.string ⟨#[]⟩, .string ⟨#[]⟩], .int .i64 (er : Int)]) ∧ Fr (· = c) w w' := by
  have hb0 : Below w.heap.size w (w.alloc (.cells #[.string ⟨#[]⟩, .string ⟨#[]⟩] 55)) := (Below.refl _ _).alloc (Nat.le_refl _) _
  have hA : Ar (w.alloc (.cells #[.string ⟨#[]⟩, .string ⟨#[]⟩] 55)) w.heap.size 55 #[.string ⟨#[]⟩, .string ⟨#[]⟩] := heap_alloc_last w _
  have c0 := Below.kc hb0 (h.obj.cell 0 _ rfl)
  have H := hid' (h.keep hb0)
  have HS := hid' hs
  have HB := hid' hb0
  have HA := hid' hA
  have HL := hid' hl
  have HC := hid' (hc.keep hb0)
  have hcw := hc.lt
  have HR1 := hid' hr1
  have HR2 := hid' hr2
  have her := (Hp.rs_err HR2.out).1
  have he1 : ((er : Int) == 0) = false := beq_false_of_ne (by omega)
  have he2 : (er == 0) = false := beq_false_of_ne (by omega)
  clear h hs hb0 hA hl hc hr1 hr2 her
  go_enter Try.func39, Try.ntmps39
  go_wp2_with fail
  obtain ⟨rb, hrb⟩ : ∃ rb, w.heap.size = rb := ⟨_, rfl⟩
  rw [hrb] at HA ⊢
  have hrc : rb ≠ c := by omega
  clear hcw
  generalize (w.alloc (.cells #[.string ⟨#[]⟩, .string ⟨#[]⟩] 55)) = w0 at *
  refine (eat_none B b v M fs 0 d _ c0 H.out.tab HS.out (Tb.at_none fs 0 (.inl (by omega))) (by omega) (by omega)).mono ?_
  rintro e w1 ⟨rfl, hb1⟩
  have hb2 : Below w1.heap.size w1 (w1.alloc (.cells #[.string ⟨#[]⟩, .string ⟨#[]⟩] 55)) := (Below.refl _ _).alloc (Nat.le_refl _) _
  have hA2 := (HA.out.keep hb1).keep hb2
  have HC2 := hid' ((HC.out.keep hb1).keep hb2)
  have hN2 : Ar (w1.alloc (.cells #[.string ⟨#[]⟩, .string ⟨#[]⟩] 55)) w1.heap.size 55 #[.string ⟨#[]⟩, .string ⟨#[]⟩] := heap_alloc_last w1 _
  have HA1 := hid' hA2
  have HB1 := hid' (below_two (below_two HB.out hb1) hb2)
  have s0 := hN2.cell 0 _ rfl
  have s1 := hN2.cell 1 _ rfl
  clear hA2 hb1 c0 hN2 hb2
  go_wp2_with fail
  obtain ⟨nb, hnb⟩ : ∃ nb, w1.heap.size = nb := ⟨_, rfl⟩
  rw [hnb] at *
  clear hnb
  generalize (w1.alloc (.cells #[.string ⟨#[]⟩, .string ⟨#[]⟩] 55)) = w2 at *
  refine (text_ok l t j HL.out HR1.out c _ HC2.out).mono ?_
  rintro e w3 ⟨rfl, hcw3, hfw3⟩
  have HCw3 := hid' hcw3
  have HAw3 := hid' (hfw3.ar HA1.out hrc)
  have HFw3 := hid' hfw3
  clear hfw3 hcw3 s0 s1
  go_wp2_with fail
  refine (text_err (l.drop j) er (by have := HL.out; rw [List.length_drop]; omega) HR2.out c _ HCw3.out).mono ?_
  rintro e w4 ⟨rfl, hfw4⟩
  have HAw4 := hid' (hfw4.ar HAw3.out hrc)
  have HFw4 := hid' hfw4
  clear hfw4 
  have r0 := HAw4.out.cell 0 _ rfl
  have r1 := HAw4.out.cell 1 _ rfl
  have q0 := HAw4.out.free 0
  have q1 := HAw4.out.free 1
  go_wp2
  have hA9 := (HAw4.out.set 0 (.string ⟨#[]⟩)).set 1 (.string ⟨#[]⟩)
  have e0 := hA9.cell 0 (.string ⟨#[]⟩) rfl
  have e1 := hA9.cell 1 (.string ⟨#[]⟩) rfl
  clear r0 r1 q0 q1 hA9
  refine bodyPost_ret (v := .tuple #[.agg #[.string ⟨#[]⟩, .string ⟨#[]⟩], .int .i64 (er : Int)]) (by simp [results, Try.results39, go_sem, e0, e1]) rfl ⟨rfl, ((((Fr.of_below HB1.out).and HFw3.out).and HFw4.out).trans (S' := (· = rb)) ((Fr.of_set (S := (· = rb)) rb 0 _ _ rfl).and (Fr.of_set rb 1 _ _ rfl)) (fun k hk => .inr (Nat.le_of_eq (hrb.trans (Eq.symm hk)))))⟩

set_option maxRecDepth 20000 in
theorem field_text_ok (B d b : Nat) (v : Value) (list : Int) (lim M : Nat) (fs : List (List UInt8 × List UInt8)) (c : Nat) (w : World) (h : CD w B d b v list lim M fs) (hs : Tb.size fs ≤ 1048576) (K : Int) (hK : (K == 128) = false)  (l : List UInt8) (hl : l.length ≤ 281474976710656) (hc : Ar w c 59 #[.string ⟨l.toArray⟩]) (t : List UInt8) (j : Nat) (hr1 : Hp.rs l = .ok t j) (u : List UInt8) (i : Nat) (hr2 : Hp.rs (l.drop j) = .ok u i) :
    Calls Try.prog 39 #[.pointer (some ⟨d, 0, none⟩), .int .u8 K, .int .i64 0, .pointer (some ⟨c, 0, none⟩)] w fun e w' => e = .returned (.tuple #[.agg #[.string ⟨t.toArray⟩, .string ⟨u.toArray⟩], .int .i64 0]) ∧ Ar w' c 59 #[.string ⟨((l.drop j).drop i).toArray⟩] ∧ Fr (· = c) w w' := by
  have hb0 : Below w.heap.size w (w.alloc (.cells #[.string ⟨#[]⟩, .string ⟨#[]⟩] 55)) := (Below.refl _ _).alloc (Nat.le_refl _) _
  have hA : Ar (w.alloc (.cells #[.string ⟨#[]⟩, .string ⟨#[]⟩] 55)) w.heap.size 55 #[.string ⟨#[]⟩, .string ⟨#[]⟩] := heap_alloc_last w _
  have c0 := Below.kc hb0 (h.obj.cell 0 _ rfl)
  have H := hid' (h.keep hb0)
  have HS := hid' hs
  have HB := hid' hb0
  have HA := hid' hA
  have HL := hid' hl
  have HC := hid' (hc.keep hb0)
  have hcw := hc.lt
  have HR1 := hid' hr1
  have HR2 := hid' hr2
  clear h hs hb0 hA hl hc hr1 hr2
  go_enter Try.func39, Try.ntmps39
  go_wp2_with fail
  obtain ⟨rb, hrb⟩ : ∃ rb, w.heap.size = rb := ⟨_, rfl⟩
  rw [hrb] at HA ⊢
  have hrc : rb ≠ c := by omega
  clear hcw
  generalize (w.alloc (.cells #[.string ⟨#[]⟩, .string ⟨#[]⟩] 55)) = w0 at *
  refine (eat_none B b v M fs 0 d _ c0 H.out.tab HS.out (Tb.at_none fs 0 (.inl (by omega))) (by omega) (by omega)).mono ?_
  rintro e w1 ⟨rfl, hb1⟩
  have hb2 : Below w1.heap.size w1 (w1.alloc (.cells #[.string ⟨#[]⟩, .string ⟨#[]⟩] 55)) := (Below.refl _ _).alloc (Nat.le_refl _) _
  have hA2 := (HA.out.keep hb1).keep hb2
  have HC2 := hid' ((HC.out.keep hb1).keep hb2)
  have hN2 : Ar (w1.alloc (.cells #[.string ⟨#[]⟩, .string ⟨#[]⟩] 55)) w1.heap.size 55 #[.string ⟨#[]⟩, .string ⟨#[]⟩] := heap_alloc_last w1 _
  have HA1 := hid' hA2
  have HB1 := hid' (below_two (below_two HB.out hb1) hb2)
  have s0 := hN2.cell 0 _ rfl
  have s1 := hN2.cell 1 _ rfl
  clear hA2 hb1 c0 hN2 hb2
  go_wp2_with fail
  obtain ⟨nb, hnb⟩ : ∃ nb, w1.heap.size = nb := ⟨_, rfl⟩
  rw [hnb] at *
  clear hnb
  generalize (w1.alloc (.cells #[.string ⟨#[]⟩, .string ⟨#[]⟩] 55)) = w2 at *
  refine (text_ok l t j HL.out HR1.out c _ HC2.out).mono ?_
  rintro e w3 ⟨rfl, hcw3, hfw3⟩
  have HCw3 := hid' hcw3
  have HAw3 := hid' (hfw3.ar HA1.out hrc)
  have HFw3 := hid' hfw3
  clear hfw3 hcw3 s0 s1
  go_wp2_with fail
  refine (text_ok (l.drop j) u i (by have := HL.out; rw [List.length_drop]; omega) HR2.out c _ HCw3.out).mono ?_
  rintro e w4 ⟨rfl, hcw4, hfw4⟩
  have HCw4 := hid' hcw4
  have HAw4 := hid' (hfw4.ar HAw3.out hrc)
  have HFw4 := hid' hfw4
  clear hfw4 hcw4 
  have r0 := HAw4.out.cell 0 _ rfl
  have r1 := HAw4.out.cell 1 _ rfl
  have q0 := HAw4.out.free 0
  have q1 := HAw4.out.free 1
  go_wp2
  have hA9 := (HAw4.out.set 0 (.string ⟨t.toArray⟩)).set 1 (.string ⟨u.toArray⟩)
  have e0 := hA9.cell 0 (.string ⟨t.toArray⟩) rfl
  have e1 := hA9.cell 1 (.string ⟨u.toArray⟩) rfl
  clear r0 r1 q0 q1 hA9
  refine bodyPost_ret (v := .tuple #[.agg #[.string ⟨t.toArray⟩, .string ⟨u.toArray⟩], .int .i64 0]) (by simp [results, Try.results39, go_sem, e0, e1]) rfl ⟨rfl, (HCw4.out.other hrc 0 _).other hrc 1 _, ((((Fr.of_below HB1.out).and HFw3.out).and HFw4.out).trans (S' := (· = rb)) ((Fr.of_set (S := (· = rb)) rb 0 _ _ rfl).and (Fr.of_set rb 1 _ _ rfl)) (fun k hk => .inr (Nat.le_of_eq (hrb.trans (Eq.symm hk)))))⟩

end Go.Proofs.Ytmkkhfkfjmfdcaa
