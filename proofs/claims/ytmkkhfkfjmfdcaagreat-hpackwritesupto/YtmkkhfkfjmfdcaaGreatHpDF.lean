/-
  Package hpack: what both ends have of the table; cursor.number, cursor.text: by their contracts.
  Package hpack: cursor.text, Decoder.update, Decoder.field: by their contracts.
  Decoder.field: its ways, by their contracts. Written by mkhpf.py.
-/
import Derived.Test.YtmkkhfkfjmfdcaaGreatHpMC
import Derived.Test.YtmkkhfkfjmfdcaaGreatHpR
import Derived.Test.YtmkkhfkfjmfdcaaGreatPrimW
import Derived.Test.YtmkkhfkfjmfdcaaGreatTabKA
namespace Go.Proofs.YtmkkhfkfjmfdcaaGreat
open Go.RowKit

theorem esize_at (B b : Nat) (v : Value) (M : Nat) (fs : List (List UInt8 × List UInt8)) (S : Nat) (hS : Tb.size fs = S) (d : Nat) (w : World) (h0 : w.cell? ⟨d, 0, none⟩ = some (.pointer (some ⟨b, 0, none⟩))) (h : CT w B b v M fs) :
    Calls Tryz.prog 26 #[.pointer (some ⟨d, 0, none⟩)] w fun e w' => e = .returned (.int .i64 (S : Int)) ∧ w' = w := by
  have H := hid' h
  have HS := hid' hS
  clear h hS
  go_enter Tryz.func26, Tryz.ntmps26
  go_wp2_with fail
  refine (csize_any B b v M fs _ H.out).mono ?_
  rintro e w1 ⟨rfl, rfl⟩
  rw [HS.out]
  go_wp2
  go_ret
  exact ⟨rfl, rfl⟩

theorem eroom_at (B b : Nat) (v : Value) (M : Nat) (fs : List (List UInt8 × List UInt8)) (d : Nat) (w : World) (h0 : w.cell? ⟨d, 0, none⟩ = some (.pointer (some ⟨b, 0, none⟩))) (h : CT w B b v M fs) :
    Calls Tryz.prog 36 #[.pointer (some ⟨d, 0, none⟩)] w fun e w' => e = .returned (.int .i64 (M : Int)) ∧ w' = w := by
  have H := hid' h
  clear h
  go_enter Tryz.func36, Tryz.ntmps36
  go_wp2_with fail
  refine (cmost_any B b v M fs _ H.out).mono ?_
  rintro e w1 ⟨rfl, rfl⟩
  go_wp2
  go_ret
  exact ⟨rfl, rfl⟩

theorem eresize_at (B b : Nat) (v : Value) (M : Nat) (fs : List (List UInt8 × List UInt8)) (N : Nat) (d : Nat) (w : World) (h0 : w.cell? ⟨d, 0, none⟩ = some (.pointer (some ⟨b, 0, none⟩))) (h : CT w B b v M fs) (hN : N ≤ 65536) (hs : Tb.size fs ≤ 1048576) :
    Calls Tryz.prog 17 #[.pointer (some ⟨d, 0, none⟩), .int .i64 (N : Int)] w fun e w' => e = .returned (.tuple #[]) ∧ ∃ v', CT w' B b v' N (Tb.shr N fs) ∧ (∀ k, v'.ownBlock = some k → v.ownBlock = some k) ∧ Two b v.ownBlock w w' := by
  have H := hid' h
  have HN := hid' hN
  have HS := hid' hs
  clear h hN hs
  go_enter Tryz.func17, Tryz.ntmps17
  go_wp2_with fail
  refine (cresize_yes B b v M fs N _ H.out HN.out HS.out).mono ?_
  rintro e w1 ⟨rfl, h1⟩
  have H1 := hid' h1
  clear h1
  go_wp2
  go_end0
  exact ⟨rfl, H1.out⟩

theorem eadd_at (B b : Nat) (v : Value) (M : Nat) (fs : List (List UInt8 × List UInt8)) (n val : List UInt8) (d : Nat) (w : World) (h0 : w.cell? ⟨d, 0, none⟩ = some (.pointer (some ⟨b, 0, none⟩))) (h : CT w B b v M fs) (hM : M ≤ 65536) (hs : Tb.size fs ≤ 1048576) (hB : B ≤ w.heap.size) (hn : n.length ≤ 140737488355328) (hv : val.length ≤ 140737488355328) :
    Calls Tryz.prog 40 #[.pointer (some ⟨d, 0, none⟩), .agg #[.string ⟨n.toArray⟩, .string ⟨val.toArray⟩]] w fun e w' => e = .returned (.tuple #[]) ∧ ∃ v', CT w' B b v' M (Tb.add M fs (n, val)) ∧ (∀ k, v'.ownBlock = some k → v.ownBlock = some k ∨ w.heap.size ≤ k) ∧ Two b v.ownBlock w w' := by
  have hb0 : Below w.heap.size w (w.alloc (.cells #[.string ⟨n.toArray⟩, .string ⟨val.toArray⟩] 54)) := (Below.refl _ _).alloc (Nat.le_refl _) _
  have hA : Ar (w.alloc (.cells #[.string ⟨n.toArray⟩, .string ⟨val.toArray⟩] 54)) w.heap.size 54 #[.string ⟨n.toArray⟩, .string ⟨val.toArray⟩] := heap_alloc_last w _
  have c0 := Below.kc hb0 h0
  have x0 := hA.cell 0 _ rfl
  have x1 := hA.cell 1 _ rfl
  have H := hid' (h.keep hb0)
  have HM := hid' hM
  have HS := hid' hs
  have HB := hid' hb0
  have HN := hid' hn
  have HV := hid' hv
  clear h hM hs hb0 hA h0 hn hv
  go_enter Tryz.func40, Tryz.ntmps40
  go_wp2
  obtain ⟨rb, hrb⟩ : ∃ rb, w.heap.size = rb := ⟨_, rfl⟩
  have HRB := hid' hrb
  rw [hrb] at x0 x1 ⊢
  clear hrb
  generalize (w.alloc (.cells #[.string ⟨n.toArray⟩, .string ⟨val.toArray⟩] 54)) = w0 at *
  have HB2 : Hid (B ≤ w0.heap.size) := hid' (Nat.le_trans hB HB.out.size)
  go_region_with (go_at_call 61; refine (cadd_any B b v M fs n val _ H.out.drew HM.out HS.out HB2.out HN.out HV.out).mono ?_; rintro e w1 ⟨rfl, v', hC, hv', hT⟩; have HX : Hid (CT w1 B b v' M (Tb.add M fs (n, val)) ∧ (∀ k, v'.ownBlock = some k → v.ownBlock = some k ∨ w0.heap.size ≤ k) ∧ Two b v.ownBlock w0.drew w1) := hid' ⟨hC, hv', hT⟩; clear hC hv' hT)
  all_goals
    go_wp2
    go_end0
    exact ⟨rfl, v', HX.out.1, fun k hk => (HX.out.2.1 k hk).imp id (fun h => by have := HB.out.size; omega), (Two.of_below HB.out).drew.and HX.out.2.2⟩

theorem efind_at (B b : Nat) (v : Value) (M : Nat) (fs : List (List UInt8 × List UInt8)) (n val : List UInt8) (d : Nat) (w : World) (h0 : w.cell? ⟨d, 0, none⟩ = some (.pointer (some ⟨b, 0, none⟩))) (h : CT w B b v M fs) (hs : Tb.size fs ≤ 1048576) (k : Nat) (wh : Bool) (hk : Tb.find fs (n, val) = (k, wh)) :
    Calls Tryz.prog 38 #[.pointer (some ⟨d, 0, none⟩), .agg #[.string ⟨n.toArray⟩, .string ⟨val.toArray⟩]] w fun e w' => e = .returned (.tuple #[.int .i64 (k : Int), .bool wh]) ∧ Below w.heap.size w w' := by
  have hb0 : Below w.heap.size w (w.alloc (.cells #[.string ⟨n.toArray⟩, .string ⟨val.toArray⟩] 54)) := (Below.refl _ _).alloc (Nat.le_refl _) _
  have hA : Ar (w.alloc (.cells #[.string ⟨n.toArray⟩, .string ⟨val.toArray⟩] 54)) w.heap.size 54 #[.string ⟨n.toArray⟩, .string ⟨val.toArray⟩] := heap_alloc_last w _
  have c0 := Below.kc hb0 h0
  have x0 := hA.cell 0 _ rfl
  have x1 := hA.cell 1 _ rfl
  have H := hid' (h.keep hb0)
  have HS := hid' hs
  have HB := hid' hb0
  have HK := hid' hk
  clear h hs hb0 hA h0 hk
  go_enter Tryz.func38, Tryz.ntmps38
  go_wp2
  obtain ⟨rb, hrb⟩ : ∃ rb, w.heap.size = rb := ⟨_, rfl⟩
  have HRB := hid' hrb
  rw [hrb] at x0 x1 ⊢
  clear hrb
  generalize (w.alloc (.cells #[.string ⟨n.toArray⟩, .string ⟨val.toArray⟩] 54)) = w0 at *
  go_region_with (go_at_call 57; refine (cfind_any B b v M fs n val _ H.out.drew HS.out k wh HK.out).mono ?_; rintro e w1 ⟨rfl, hb1⟩; have HX := hid' (below_two (below_two HB.out (Below.refl _ _).drew) hb1); clear hb1)
  all_goals
    go_wp2
    go_ret2
    exact ⟨rfl, HX.out⟩

theorem eat_some (B b : Nat) (v : Value) (M : Nat) (fs : List (List UInt8 × List UInt8)) (i : Int) (f : (List UInt8 × List UInt8)) (d : Nat) (w : World) (h0 : w.cell? ⟨d, 0, none⟩ = some (.pointer (some ⟨b, 0, none⟩))) (h : CT w B b v M fs) (hs : Tb.size fs ≤ 1048576) (hf : Tb.at? fs i = some f) :
    Calls Tryz.prog 86 #[.pointer (some ⟨d, 0, none⟩), .int .i64 i] w fun e w' => e = .returned (.tuple #[.agg #[.string ⟨f.1.toArray⟩, .string ⟨f.2.toArray⟩], .bool true]) ∧ Below w.heap.size w w' := by
  have hb0 : Below w.heap.size w (w.alloc (.cells #[.string ⟨#[]⟩, .string ⟨#[]⟩] 54)) := (Below.refl _ _).alloc (Nat.le_refl _) _
  have hA : Ar (w.alloc (.cells #[.string ⟨#[]⟩, .string ⟨#[]⟩] 54)) w.heap.size 54 #[.string ⟨#[]⟩, .string ⟨#[]⟩] := heap_alloc_last w _
  have c0 := Below.kc hb0 h0
  have H := hid' (h.keep hb0)
  have HS := hid' hs
  have HB := hid' hb0
  have HF := hid' hf
  have HA := hid' hA
  clear h hs hb0 hA h0 hf
  go_enter Tryz.func86, Tryz.ntmps86
  go_wp2_with fail
  obtain ⟨rb, hrb⟩ : ∃ rb, w.heap.size = rb := ⟨_, rfl⟩
  rw [hrb] at HA ⊢
  generalize (w.alloc (.cells #[.string ⟨#[]⟩, .string ⟨#[]⟩] 54)) = w0 at *
  refine (cat_some B b v M fs i f _ H.out HS.out HF.out).mono ?_
  rintro e w1 ⟨rfl, hb1⟩
  have hA1 := HA.out.keep hb1
  have r0 := hA1.cell 0 _ rfl
  have r1 := hA1.cell 1 _ rfl
  have q0 := hA1.free 0
  have q1 := hA1.free 1
  have HA1 := hid' hA1
  have HB1 := hid' (below_two HB.out hb1)
  clear hA1 hb1 c0
  go_wp2
  have hA2 := (HA1.out.set 0 (.string ⟨f.1.toArray⟩)).set 1 (.string ⟨f.2.toArray⟩)
  have e0 := hA2.cell 0 (.string ⟨f.1.toArray⟩) rfl
  have e1 := hA2.cell 1 (.string ⟨f.2.toArray⟩) rfl
  clear r0 r1 q0 q1 HA1 hA2
  refine bodyPost_ret (v := .tuple #[.agg #[.string ⟨f.1.toArray⟩, .string ⟨f.2.toArray⟩], .bool true]) (by simp [results, Tryz.results86, go_sem, e0, e1]) rfl ⟨rfl, ?_⟩
  exact (HB1.out.setCell (p := ⟨rb, 0, none⟩) (Nat.le_of_eq hrb) _).setCell (p := ⟨rb, 1, none⟩) (Nat.le_of_eq hrb) _

theorem eat_none (B b : Nat) (v : Value) (M : Nat) (fs : List (List UInt8 × List UInt8)) (i : Int) (d : Nat) (w : World) (h0 : w.cell? ⟨d, 0, none⟩ = some (.pointer (some ⟨b, 0, none⟩))) (h : CT w B b v M fs) (hs : Tb.size fs ≤ 1048576) (hf : Tb.at? fs i = none) (hmx : i ≤ 9223372036854775807) (hmn : -9223372036854775808 ≤ i) :
    Calls Tryz.prog 86 #[.pointer (some ⟨d, 0, none⟩), .int .i64 i] w fun e w' => e = .returned (.tuple #[.agg #[.string ⟨#[]⟩, .string ⟨#[]⟩], .bool false]) ∧ Below w.heap.size w w' := by
  have hb0 : Below w.heap.size w (w.alloc (.cells #[.string ⟨#[]⟩, .string ⟨#[]⟩] 54)) := (Below.refl _ _).alloc (Nat.le_refl _) _
  have hA : Ar (w.alloc (.cells #[.string ⟨#[]⟩, .string ⟨#[]⟩] 54)) w.heap.size 54 #[.string ⟨#[]⟩, .string ⟨#[]⟩] := heap_alloc_last w _
  have c0 := Below.kc hb0 h0
  have H := hid' (h.keep hb0)
  have HS := hid' hs
  have HB := hid' hb0
  have HF := hid' hf
  have HA := hid' hA
  have HMX := hid' hmx
  have HMN := hid' hmn
  clear h hs hb0 hA h0 hf hmx hmn
  go_enter Tryz.func86, Tryz.ntmps86
  go_wp2_with fail
  obtain ⟨rb, hrb⟩ : ∃ rb, w.heap.size = rb := ⟨_, rfl⟩
  rw [hrb] at HA ⊢
  generalize (w.alloc (.cells #[.string ⟨#[]⟩, .string ⟨#[]⟩] 54)) = w0 at *
  refine (cat_none B b v M fs i _ H.out HS.out HF.out HMX.out HMN.out).mono ?_
  rintro e w1 ⟨rfl, hb1⟩
  have hA1 := HA.out.keep hb1
  have r0 := hA1.cell 0 _ rfl
  have r1 := hA1.cell 1 _ rfl
  have q0 := hA1.free 0
  have q1 := hA1.free 1
  have HA1 := hid' hA1
  have HB1 := hid' (below_two HB.out hb1)
  clear hA1 hb1 c0
  go_wp2
  have hA2 := (HA1.out.set 0 (.string ⟨#[]⟩)).set 1 (.string ⟨#[]⟩)
  have e0 := hA2.cell 0 (.string ⟨#[]⟩) rfl
  have e1 := hA2.cell 1 (.string ⟨#[]⟩) rfl
  clear r0 r1 q0 q1 HA1 hA2
  refine bodyPost_ret (v := .tuple #[.agg #[.string ⟨#[]⟩, .string ⟨#[]⟩], .bool false]) (by simp [results, Tryz.results86, go_sem, e0, e1]) rfl ⟨rfl, ?_⟩
  exact (HB1.out.setCell (p := ⟨rb, 0, none⟩) (Nat.le_of_eq hrb) _).setCell (p := ⟨rb, 1, none⟩) (Nat.le_of_eq hrb) _

/-- What a cut leaves. -/
theorem cut_drop (l : List UInt8) (k : Nat) : (⟨l.toArray⟩ : ByteArray).extract k l.length = ⟨(l.drop k).toArray⟩ := by
  rw [Pm.cut_mid, List.take_of_length_le (by rw [List.length_drop]; omega)]

set_option maxRecDepth 20000 in
theorem number_at (l : List UInt8) (b : Nat) (h0 : 1 ≤ b) (h1 : b ≤ 8) (n k er : Nat) (hR : Hp.rErr (Pm.rd b l) = er ∧ (Pm.rd b l = .ok n k ∨ (∀ i j, Pm.rd b l ≠ .ok i j) ∧ n = 0 ∧ k = 0)) (c : Nat) (w : World) (h : Ar w c 88 #[.string ⟨l.toArray⟩]) :
    Calls Tryz.prog 68 #[.pointer (some ⟨c, 0, none⟩), .int .i64 (b : Int)] w fun e w' => e = .returned (.tuple #[.int .i64 (n : Int), .int .i64 (er : Int)]) ∧ Ar w' c 88 #[.string ⟨(l.drop k).toArray⟩] ∧ Fr (· = c) w w' := by
  obtain ⟨hR1, hR2⟩ := hR
  have hkl : k ≤ l.length := by
    rcases hR2 with h | ⟨_, _, h⟩
    · exact (Pm.rd_le b n k h1 l h).2.1
    · omega
  have HV : Hid (Pm.rV (Pm.rd b l) = .tuple #[.int .i64 (n : Int), .int .i64 (k : Int), .int .i64 (er : Int)]) := by
    rw [← hR1]
    rcases hR2 with h | ⟨hne, rfl, rfl⟩
    · rw [h]; rfl
    · generalize Pm.rd b l = r at *
      cases r with
      | ok i j => exact absurd rfl (hne i j)
      | arg => rfl
      | short => rfl
      | number => rfl
  have c0 := h.cell 0 _ rfl
  have H := hid' h
  have HC := hid' (cut_drop l k)
  clear hR1 hR2 h
  go_enter Tryz.func68, Tryz.ntmps68
  go_wp2_with fail
  refine (readInt_l l b h0 h1 _ rfl _).mono ?_
  rintro e w1 ⟨rfl, hb1⟩
  rw [HV.out]
  have hA1 := H.out.keep hb1
  have c1 := hA1.cell 0 _ rfl
  have f1 := hA1.free 0
  have HA1 := hid' hA1
  have HB1 := hid' hb1
  clear hA1 hb1 c0 H
  have hz : (⟨l.toArray⟩ : ByteArray).size = l.length := size_l l
  go_wp2
  go_ret2
  refine ⟨rfl, ?_, (Fr.of_below HB1.out).and (Fr.of_set c 0 _ w1 rfl)⟩
  have := HA1.out.set 0 (.string ⟨(l.drop k).toArray⟩)
  simpa [HC.out] using this

end Go.Proofs.YtmkkhfkfjmfdcaaGreat

namespace Go.Proofs.YtmkkhfkfjmfdcaaGreat
open Go.RowKit

set_option maxRecDepth 20000 in
theorem text_ok (l t : List UInt8) (k : Nat) (hl : l.length ≤ 281474976710656) (hR : Hp.rs l = .ok t k) (c : Nat) (w : World) (h : Ar w c 88 #[.string ⟨l.toArray⟩]) :
    Calls Tryz.prog 87 #[.pointer (some ⟨c, 0, none⟩)] w fun e w' => e = .returned (.tuple #[.string ⟨t.toArray⟩, .int .i64 0]) ∧ Ar w' c 88 #[.string ⟨(l.drop k).toArray⟩] ∧ Fr (· = c) w w' := by
  have hkl : k ≤ l.length := (Hp.rs_le hR).2.1
  have HV := hid' (Hp.rs_of_ok hR)
  have c0 := h.cell 0 _ rfl
  have H := hid' h
  have HC := hid' (cut_drop l k)
  have HL := hid' hl
  clear hR h hl
  go_enter Tryz.func87, Tryz.ntmps87
  go_wp2_with fail
  refine (readStr_ok l 2147483647 2147483647 rfl HL.out t k HV.out _).mono ?_
  rintro e w1 ⟨rfl, hb1⟩
  have hA1 := H.out.keep hb1
  have c1 := hA1.cell 0 _ rfl
  have f1 := hA1.free 0
  have HA1 := hid' hA1
  have HB1 := hid' hb1
  clear hA1 hb1 c0 H
  have hz : (⟨l.toArray⟩ : ByteArray).size = l.length := size_l l
  go_wp2
  go_ret2
  refine ⟨rfl, ?_, (Fr.of_below HB1.out).and (Fr.of_set c 0 _ w1 rfl)⟩
  have := HA1.out.set 0 (.string ⟨(l.drop k).toArray⟩)
  simpa [HC.out] using this

set_option maxRecDepth 20000 in
theorem text_err (l : List UInt8) (er : Nat) (hl : l.length ≤ 281474976710656) (hR : Hp.rs l = .err er) (c : Nat) (w : World) (h : Ar w c 88 #[.string ⟨l.toArray⟩]) :
    Calls Tryz.prog 87 #[.pointer (some ⟨c, 0, none⟩)] w fun e w' => e = .returned (.tuple #[.string ⟨#[]⟩, .int .i64 (er : Int)]) ∧ Fr (· = c) w w' := by
  have HV := hid' (Hp.rs_of_err hR)
  have c0 := h.cell 0 _ rfl
  have H := hid' h
  have HL := hid' hl
  clear hR h hl
  go_enter Tryz.func87, Tryz.ntmps87
  go_wp2_with fail
  refine (readStr_err l 2147483647 2147483647 rfl HL.out er HV.out _).mono ?_
  rintro e w1 ⟨rfl, hb1⟩
  have hA1 := H.out.keep hb1
  have c1 := hA1.cell 0 _ rfl
  have f1 := hA1.free 0
  have HB1 := hid' hb1
  clear hA1 hb1 c0 H
  have hz : (⟨l.toArray⟩ : ByteArray).size = l.length := size_l l
  go_wp2
  go_ret2
  exact ⟨rfl, (Fr.of_below HB1.out).and (Fr.of_set c 0 _ w1 rfl)⟩

theorem update_no (d lim N : Nat) (late : Bool) (w : World) (h2 : w.cell? ⟨d, 2, none⟩ = some (.int .i64 (lim : Int))) (hl : late = true ∨ lim < N) :
    Calls Tryz.prog 69 #[.pointer (some ⟨d, 0, none⟩), .int .i64 (N : Int), .bool late] w fun e w' => e = .returned (.int .i64 60) ∧ w' = w := by
  cases late with
  | true =>
    clear hl
    go_enter Tryz.func69, Tryz.ntmps69
    go_wp2
    go_ret
    exact ⟨rfl, rfl⟩
  | false =>
    have hlt : lim < N := by rcases hl with h | h; cases h; exact h
    have hd : decide ((lim : Int) < (N : Int)) = true := decide_eq_true (by omega)
    have hd' : decide (lim < N) = true := decide_eq_true hlt
    clear hl hlt
    go_enter Tryz.func69, Tryz.ntmps69
    go_wp2
    go_ret
    exact ⟨rfl, rfl⟩

theorem update_yes (B d b : Nat) (v : Value) (list : Int) (lim M : Nat) (fs : List (List UInt8 × List UInt8)) (N : Nat) (w : World) (h : CD w B d b v list lim M fs) (hN : N ≤ lim) (hlim : lim ≤ 65536) (hs : Tb.size fs ≤ 1048576) :
    Calls Tryz.prog 69 #[.pointer (some ⟨d, 0, none⟩), .int .i64 (N : Int), .bool false] w fun e w' => e = .returned (.int .i64 0) ∧ ∃ v', CD w' B d b v' list lim N (Tb.shr N fs) ∧ (∀ k, v'.ownBlock = some k → v.ownBlock = some k) ∧ Two b v.ownBlock w w' := by
  have h0 := h.obj.cell 0 _ rfl
  have h2 := h.obj.cell 2 _ rfl
  have hd : decide ((lim : Int) < (N : Int)) = false := decide_eq_false (by omega)
  have hd' : decide (lim < N) = false := decide_eq_false (by omega)
  have H := hid' h
  have HH0 := hid' h0
  have HN : Hid (N ≤ 65536) := hid' (by omega)
  have HS := hid' hs
  clear h hs hN hlim
  go_enter Tryz.func69, Tryz.ntmps69
  go_wp2_with fail
  refine (eresize_at B b v M fs N d _ HH0.out H.out.tab HN.out HS.out).mono ?_
  rintro e w1 ⟨rfl, v', hC, hv, hT⟩
  have HX : Hid (CT w1 B b v' N (Tb.shr N fs) ∧ (∀ k, v'.ownBlock = some k → v.ownBlock = some k) ∧ Two b v.ownBlock w w1) := hid' ⟨hC, hv, hT⟩
  clear hC hv hT h0 h2
  go_wp2
  go_ret
  exact ⟨rfl, v', H.out.put HX.out.2.2 HX.out.1, HX.out.2.1, HX.out.2.2⟩

set_option maxRecDepth 20000 in
theorem field_indexed (B d b : Nat) (v : Value) (list : Int) (lim M : Nat) (fs : List (List UInt8 × List UInt8)) (n c : Nat) (f : List UInt8 × List UInt8) (w : World) (h : CD w B d b v list lim M fs) (hs : Tb.size fs ≤ 1048576) (hf : Tb.at? fs (n : Int) = some f) :
    Calls Tryz.prog 71 #[.pointer (some ⟨d, 0, none⟩), .int .u8 128, .int .i64 (n : Int), .pointer (some ⟨c, 0, none⟩)] w fun e w' => e = .returned (.tuple #[.agg #[.string ⟨f.1.toArray⟩, .string ⟨f.2.toArray⟩], .int .i64 0]) ∧ Below w.heap.size w w' := by
  have hb0 : Below w.heap.size w (w.alloc (.cells #[.string ⟨#[]⟩, .string ⟨#[]⟩] 54)) := (Below.refl _ _).alloc (Nat.le_refl _) _
  have hA : Ar (w.alloc (.cells #[.string ⟨#[]⟩, .string ⟨#[]⟩] 54)) w.heap.size 54 #[.string ⟨#[]⟩, .string ⟨#[]⟩] := heap_alloc_last w _
  have c0 := Below.kc hb0 (h.obj.cell 0 _ rfl)
  have H := hid' (h.keep hb0)
  have HS := hid' hs
  have HB := hid' hb0
  have HF := hid' hf
  have HA := hid' hA
  clear h hs hb0 hA hf
  go_enter Tryz.func71, Tryz.ntmps71
  go_wp2_with fail
  obtain ⟨rb, hrb⟩ : ∃ rb, w.heap.size = rb := ⟨_, rfl⟩
  rw [hrb] at HA ⊢
  generalize (w.alloc (.cells #[.string ⟨#[]⟩, .string ⟨#[]⟩] 54)) = w0 at *
  refine (eat_some B b v M fs (n : Int) f d _ c0 H.out.tab HS.out HF.out).mono ?_
  rintro e w1 ⟨rfl, hb1⟩
  have hb2 : Below w1.heap.size w1 (w1.alloc (.cells #[.string ⟨f.1.toArray⟩, .string ⟨f.2.toArray⟩] 54)) := (Below.refl _ _).alloc (Nat.le_refl _) _
  have hA2 := (HA.out.keep hb1).keep hb2
  have r0 := hA2.cell 0 _ rfl
  have r1 := hA2.cell 1 _ rfl
  have q0 := hA2.free 0
  have q1 := hA2.free 1
  have hN2 : Ar (w1.alloc (.cells #[.string ⟨f.1.toArray⟩, .string ⟨f.2.toArray⟩] 54)) w1.heap.size 54 #[.string ⟨f.1.toArray⟩, .string ⟨f.2.toArray⟩] := heap_alloc_last w1 _
  have s0 := hN2.cell 0 _ rfl
  have s1 := hN2.cell 1 _ rfl
  have HA1 := hid' hA2
  have HB1 := hid' (below_two (below_two HB.out hb1) hb2)
  clear hA2 hb1 c0 hN2 hb2
  go_wp2
  have hA2 := (HA1.out.set 0 (.string ⟨f.1.toArray⟩)).set 1 (.string ⟨f.2.toArray⟩)
  have e0 := hA2.cell 0 (.string ⟨f.1.toArray⟩) rfl
  have e1 := hA2.cell 1 (.string ⟨f.2.toArray⟩) rfl
  clear r0 r1 q0 q1 HA1 hA2
  refine bodyPost_ret (v := .tuple #[.agg #[.string ⟨f.1.toArray⟩, .string ⟨f.2.toArray⟩], .int .i64 0]) (by simp [results, Tryz.results71, go_sem, e0, e1]) rfl ⟨rfl, ?_⟩
  exact (HB1.out.setCell (p := ⟨rb, 0, none⟩) (Nat.le_of_eq hrb) _).setCell (p := ⟨rb, 1, none⟩) (Nat.le_of_eq hrb) _

end Go.Proofs.YtmkkhfkfjmfdcaaGreat

namespace Go.Proofs.YtmkkhfkfjmfdcaaGreat
open Go.RowKit

set_option maxRecDepth 20000 in
theorem field_gone128 (B d b : Nat) (v : Value) (list : Int) (lim M : Nat) (fs : List (List UInt8 × List UInt8)) (n c : Nat) (w : World) (h : CD w B d b v list lim M fs) (hs : Tb.size fs ≤ 1048576) (hf : Tb.at? fs (n : Int) = none) (hn : n ≤ 2147483647) :
    Calls Tryz.prog 71 #[.pointer (some ⟨d, 0, none⟩), .int .u8 128, .int .i64 (n : Int), .pointer (some ⟨c, 0, none⟩)] w fun e w' => e = .returned (.tuple #[.agg #[.string ⟨#[]⟩, .string ⟨#[]⟩], .int .i64 50]) ∧ Fr (· = c) w w' := by
  have hb0 : Below w.heap.size w (w.alloc (.cells #[.string ⟨#[]⟩, .string ⟨#[]⟩] 54)) := (Below.refl _ _).alloc (Nat.le_refl _) _
  have hA : Ar (w.alloc (.cells #[.string ⟨#[]⟩, .string ⟨#[]⟩] 54)) w.heap.size 54 #[.string ⟨#[]⟩, .string ⟨#[]⟩] := heap_alloc_last w _
  have c0 := Below.kc hb0 (h.obj.cell 0 _ rfl)
  have H := hid' (h.keep hb0)
  have HS := hid' hs
  have HB := hid' hb0
  have HA := hid' hA
  have HF := hid' hf
  have HN := hid' hn
  clear h hs hb0 hA hf hn
  go_enter Tryz.func71, Tryz.ntmps71
  go_wp2_with fail
  obtain ⟨rb, hrb⟩ : ∃ rb, w.heap.size = rb := ⟨_, rfl⟩
  rw [hrb] at HA ⊢
  generalize (w.alloc (.cells #[.string ⟨#[]⟩, .string ⟨#[]⟩] 54)) = w0 at *
  refine (eat_none B b v M fs (n : Int) d _ c0 H.out.tab HS.out HF.out (by have := HN.out; omega) (by omega)).mono ?_
  rintro e w1 ⟨rfl, hb1⟩
  have hb2 : Below w1.heap.size w1 (w1.alloc (.cells #[.string ⟨#[]⟩, .string ⟨#[]⟩] 54)) := (Below.refl _ _).alloc (Nat.le_refl _) _
  have hA2 := (HA.out.keep hb1).keep hb2
  have hN2 : Ar (w1.alloc (.cells #[.string ⟨#[]⟩, .string ⟨#[]⟩] 54)) w1.heap.size 54 #[.string ⟨#[]⟩, .string ⟨#[]⟩] := heap_alloc_last w1 _
  have HA1 := hid' hA2
  have HB1 := hid' (below_two (below_two HB.out hb1) hb2)
  have s0 := hN2.cell 0 _ rfl
  have s1 := hN2.cell 1 _ rfl
  have r0 := hA2.cell 0 _ rfl
  have r1 := hA2.cell 1 _ rfl
  have q0 := hA2.free 0
  have q1 := hA2.free 1
  clear hA2 hb1 c0 hN2 hb2
  go_wp2
  have hA9 := (HA1.out.set 0 (.string ⟨#[]⟩)).set 1 (.string ⟨#[]⟩)
  have e0 := hA9.cell 0 (.string ⟨#[]⟩) rfl
  have e1 := hA9.cell 1 (.string ⟨#[]⟩) rfl
  clear r0 r1 q0 q1 hA9
  refine bodyPost_ret (v := .tuple #[.agg #[.string ⟨#[]⟩, .string ⟨#[]⟩], .int .i64 50]) (by simp [results, Tryz.results71, go_sem, e0, e1]) rfl ⟨rfl, ((Fr.of_below HB1.out).trans (S' := (· = rb)) ((Fr.of_set (S := (· = rb)) rb 0 _ _ rfl).and (Fr.of_set rb 1 _ _ rfl)) (fun k hk => .inr (Nat.le_of_eq (hrb.trans (Eq.symm hk)))))⟩

set_option maxRecDepth 20000 in
theorem field_gone (B d b : Nat) (v : Value) (list : Int) (lim M : Nat) (fs : List (List UInt8 × List UInt8)) (n c : Nat) (w : World) (h : CD w B d b v list lim M fs) (hs : Tb.size fs ≤ 1048576) (K : Int) (hK : (K == 128) = false) (hf : Tb.at? fs (n : Int) = none) (hn : n ≤ 2147483647) (h0 : ((n : Int) == 0) = false) :
    Calls Tryz.prog 71 #[.pointer (some ⟨d, 0, none⟩), .int .u8 K, .int .i64 (n : Int), .pointer (some ⟨c, 0, none⟩)] w fun e w' => e = .returned (.tuple #[.agg #[.string ⟨#[]⟩, .string ⟨#[]⟩], .int .i64 50]) ∧ Fr (· = c) w w' := by
  have hb0 : Below w.heap.size w (w.alloc (.cells #[.string ⟨#[]⟩, .string ⟨#[]⟩] 54)) := (Below.refl _ _).alloc (Nat.le_refl _) _
  have hA : Ar (w.alloc (.cells #[.string ⟨#[]⟩, .string ⟨#[]⟩] 54)) w.heap.size 54 #[.string ⟨#[]⟩, .string ⟨#[]⟩] := heap_alloc_last w _
  have c0 := Below.kc hb0 (h.obj.cell 0 _ rfl)
  have H := hid' (h.keep hb0)
  have HS := hid' hs
  have HB := hid' hb0
  have HA := hid' hA
  have HF := hid' hf
  have HN := hid' hn
  have h0' : (n == 0) = false := by simpa using h0
  clear h hs hb0 hA hf hn
  go_enter Tryz.func71, Tryz.ntmps71
  go_wp2_with fail
  obtain ⟨rb, hrb⟩ : ∃ rb, w.heap.size = rb := ⟨_, rfl⟩
  rw [hrb] at HA ⊢
  generalize (w.alloc (.cells #[.string ⟨#[]⟩, .string ⟨#[]⟩] 54)) = w0 at *
  refine (eat_none B b v M fs (n : Int) d _ c0 H.out.tab HS.out HF.out (by have := HN.out; omega) (by omega)).mono ?_
  rintro e w1 ⟨rfl, hb1⟩
  have hb2 : Below w1.heap.size w1 (w1.alloc (.cells #[.string ⟨#[]⟩, .string ⟨#[]⟩] 54)) := (Below.refl _ _).alloc (Nat.le_refl _) _
  have hA2 := (HA.out.keep hb1).keep hb2
  have hN2 : Ar (w1.alloc (.cells #[.string ⟨#[]⟩, .string ⟨#[]⟩] 54)) w1.heap.size 54 #[.string ⟨#[]⟩, .string ⟨#[]⟩] := heap_alloc_last w1 _
  have HA1 := hid' hA2
  have HB1 := hid' (below_two (below_two HB.out hb1) hb2)
  have s0 := hN2.cell 0 _ rfl
  have s1 := hN2.cell 1 _ rfl
  have r0 := hA2.cell 0 _ rfl
  have r1 := hA2.cell 1 _ rfl
  have q0 := hA2.free 0
  have q1 := hA2.free 1
  clear hA2 hb1 c0 hN2 hb2
  go_wp2
  have hA9 := (HA1.out.set 0 (.string ⟨#[]⟩)).set 1 (.string ⟨#[]⟩)
  have e0 := hA9.cell 0 (.string ⟨#[]⟩) rfl
  have e1 := hA9.cell 1 (.string ⟨#[]⟩) rfl
  clear r0 r1 q0 q1 hA9
  refine bodyPost_ret (v := .tuple #[.agg #[.string ⟨#[]⟩, .string ⟨#[]⟩], .int .i64 50]) (by simp [results, Tryz.results71, go_sem, e0, e1]) rfl ⟨rfl, ((Fr.of_below HB1.out).trans (S' := (· = rb)) ((Fr.of_set (S := (· = rb)) rb 0 _ _ rfl).and (Fr.of_set rb 1 _ _ rfl)) (fun k hk => .inr (Nat.le_of_eq (hrb.trans (Eq.symm hk)))))⟩

set_option maxRecDepth 20000 in
theorem field_named_ok (B d b : Nat) (v : Value) (list : Int) (lim M : Nat) (fs : List (List UInt8 × List UInt8)) (n c : Nat) (w : World) (h : CD w B d b v list lim M fs) (hs : Tb.size fs ≤ 1048576) (K : Int) (hK : (K == 128) = false) (g : List UInt8 × List UInt8) (hf : Tb.at? fs (n : Int) = some g) (l : List UInt8) (hl : l.length ≤ 281474976710656) (hc : Ar w c 88 #[.string ⟨l.toArray⟩]) (u : List UInt8) (i : Nat) (hr2 : Hp.rs l = .ok u i) :
    Calls Tryz.prog 71 #[.pointer (some ⟨d, 0, none⟩), .int .u8 K, .int .i64 (n : Int), .pointer (some ⟨c, 0, none⟩)] w fun e w' => e = .returned (.tuple #[.agg #[.string ⟨g.1.toArray⟩, .string ⟨u.toArray⟩], .int .i64 0]) ∧ Ar w' c 88 #[.string ⟨(l.drop i).toArray⟩] ∧ Fr (· = c) w w' := by
  have hb0 : Below w.heap.size w (w.alloc (.cells #[.string ⟨#[]⟩, .string ⟨#[]⟩] 54)) := (Below.refl _ _).alloc (Nat.le_refl _) _
  have hA : Ar (w.alloc (.cells #[.string ⟨#[]⟩, .string ⟨#[]⟩] 54)) w.heap.size 54 #[.string ⟨#[]⟩, .string ⟨#[]⟩] := heap_alloc_last w _
  have c0 := Below.kc hb0 (h.obj.cell 0 _ rfl)
  have H := hid' (h.keep hb0)
  have HS := hid' hs
  have HB := hid' hb0
  have HA := hid' hA
  have HF := hid' hf
  have HL := hid' hl
  have HC := hid' (hc.keep hb0)
  have hcw := hc.lt
  have HR2 := hid' hr2
  clear h hs hb0 hA hf hl hc hr2
  go_enter Tryz.func71, Tryz.ntmps71
  go_wp2_with fail
  obtain ⟨rb, hrb⟩ : ∃ rb, w.heap.size = rb := ⟨_, rfl⟩
  rw [hrb] at HA ⊢
  have hrc : rb ≠ c := by omega
  clear hcw
  generalize (w.alloc (.cells #[.string ⟨#[]⟩, .string ⟨#[]⟩] 54)) = w0 at *
  refine (eat_some B b v M fs (n : Int) g d _ c0 H.out.tab HS.out HF.out).mono ?_
  rintro e w1 ⟨rfl, hb1⟩
  have hb2 : Below w1.heap.size w1 (w1.alloc (.cells #[.string ⟨g.1.toArray⟩, .string ⟨g.2.toArray⟩] 54)) := (Below.refl _ _).alloc (Nat.le_refl _) _
  have hA2 := (HA.out.keep hb1).keep hb2
  have HC2 := hid' ((HC.out.keep hb1).keep hb2)
  have hN2 : Ar (w1.alloc (.cells #[.string ⟨g.1.toArray⟩, .string ⟨g.2.toArray⟩] 54)) w1.heap.size 54 #[.string ⟨g.1.toArray⟩, .string ⟨g.2.toArray⟩] := heap_alloc_last w1 _
  have HA1 := hid' hA2
  have HB1 := hid' (below_two (below_two HB.out hb1) hb2)
  have s0 := hN2.cell 0 _ rfl
  have s1 := hN2.cell 1 _ rfl
  clear hA2 hb1 c0 hN2 hb2
  go_wp2_with fail
  obtain ⟨nb, hnb⟩ : ∃ nb, w1.heap.size = nb := ⟨_, rfl⟩
  rw [hnb] at *
  clear hnb
  generalize (w1.alloc (.cells #[.string ⟨g.1.toArray⟩, .string ⟨g.2.toArray⟩] 54)) = w2 at *
  refine (text_ok l u i HL.out HR2.out c _ HC2.out).mono ?_
  rintro e w3 ⟨rfl, hcw3, hfw3⟩
  have HCw3 := hid' hcw3
  have HAw3 := hid' (hfw3.ar HA1.out hrc)
  have HFw3 := hid' hfw3
  clear hfw3 hcw3 s0 s1
  have r0 := HAw3.out.cell 0 _ rfl
  have r1 := HAw3.out.cell 1 _ rfl
  have q0 := HAw3.out.free 0
  have q1 := HAw3.out.free 1
  go_wp2
  have hA9 := (HAw3.out.set 0 (.string ⟨g.1.toArray⟩)).set 1 (.string ⟨u.toArray⟩)
  have e0 := hA9.cell 0 (.string ⟨g.1.toArray⟩) rfl
  have e1 := hA9.cell 1 (.string ⟨u.toArray⟩) rfl
  clear r0 r1 q0 q1 hA9
  refine bodyPost_ret (v := .tuple #[.agg #[.string ⟨g.1.toArray⟩, .string ⟨u.toArray⟩], .int .i64 0]) (by simp [results, Tryz.results71, go_sem, e0, e1]) rfl ⟨rfl, (HCw3.out.other hrc 0 _).other hrc 1 _, (((Fr.of_below HB1.out).and HFw3.out).trans (S' := (· = rb)) ((Fr.of_set (S := (· = rb)) rb 0 _ _ rfl).and (Fr.of_set rb 1 _ _ rfl)) (fun k hk => .inr (Nat.le_of_eq (hrb.trans (Eq.symm hk)))))⟩

set_option maxRecDepth 20000 in
theorem field_named_err (B d b : Nat) (v : Value) (list : Int) (lim M : Nat) (fs : List (List UInt8 × List UInt8)) (n c : Nat) (w : World) (h : CD w B d b v list lim M fs) (hs : Tb.size fs ≤ 1048576) (K : Int) (hK : (K == 128) = false) (g : List UInt8 × List UInt8) (hf : Tb.at? fs (n : Int) = some g) (l : List UInt8) (hl : l.length ≤ 281474976710656) (hc : Ar w c 88 #[.string ⟨l.toArray⟩]) (er : Nat) (hr2 : Hp.rs l = .err er) :
    Calls Tryz.prog 71 #[.pointer (some ⟨d, 0, none⟩), .int .u8 K, .int .i64 (n : Int), .pointer (some ⟨c, 0, none⟩)] w fun e w' => e = .returned (.tuple #[.agg #[.string ⟨#[]⟩, .string ⟨#[]⟩], .int .i64 (er : Int)]) ∧ Fr (· = c) w w' := by
  have hb0 : Below w.heap.size w (w.alloc (.cells #[.string ⟨#[]⟩, .string ⟨#[]⟩] 54)) := (Below.refl _ _).alloc (Nat.le_refl _) _
  have hA : Ar (w.alloc (.cells #[.string ⟨#[]⟩, .string ⟨#[]⟩] 54)) w.heap.size 54 #[.string ⟨#[]⟩, .string ⟨#[]⟩] := heap_alloc_last w _
  have c0 := Below.kc hb0 (h.obj.cell 0 _ rfl)
  have H := hid' (h.keep hb0)
  have HS := hid' hs
  have HB := hid' hb0
  have HA := hid' hA
  have HF := hid' hf
  have HL := hid' hl
  have HC := hid' (hc.keep hb0)
  have hcw := hc.lt
  have HR2 := hid' hr2
  have her := (Hp.rs_err HR2.out).1
  have he1 : ((er : Int) == 0) = false := beq_false_of_ne (by omega)
  have he2 : (er == 0) = false := beq_false_of_ne (by omega)
  clear h hs hb0 hA hf hl hc hr2 her
  go_enter Tryz.func71, Tryz.ntmps71
  go_wp2_with fail
  obtain ⟨rb, hrb⟩ : ∃ rb, w.heap.size = rb := ⟨_, rfl⟩
  rw [hrb] at HA ⊢
  have hrc : rb ≠ c := by omega
  clear hcw
  generalize (w.alloc (.cells #[.string ⟨#[]⟩, .string ⟨#[]⟩] 54)) = w0 at *
  refine (eat_some B b v M fs (n : Int) g d _ c0 H.out.tab HS.out HF.out).mono ?_
  rintro e w1 ⟨rfl, hb1⟩
  have hb2 : Below w1.heap.size w1 (w1.alloc (.cells #[.string ⟨g.1.toArray⟩, .string ⟨g.2.toArray⟩] 54)) := (Below.refl _ _).alloc (Nat.le_refl _) _
  have hA2 := (HA.out.keep hb1).keep hb2
  have HC2 := hid' ((HC.out.keep hb1).keep hb2)
  have hN2 : Ar (w1.alloc (.cells #[.string ⟨g.1.toArray⟩, .string ⟨g.2.toArray⟩] 54)) w1.heap.size 54 #[.string ⟨g.1.toArray⟩, .string ⟨g.2.toArray⟩] := heap_alloc_last w1 _
  have HA1 := hid' hA2
  have HB1 := hid' (below_two (below_two HB.out hb1) hb2)
  have s0 := hN2.cell 0 _ rfl
  have s1 := hN2.cell 1 _ rfl
  clear hA2 hb1 c0 hN2 hb2
  go_wp2_with fail
  obtain ⟨nb, hnb⟩ : ∃ nb, w1.heap.size = nb := ⟨_, rfl⟩
  rw [hnb] at *
  clear hnb
  generalize (w1.alloc (.cells #[.string ⟨g.1.toArray⟩, .string ⟨g.2.toArray⟩] 54)) = w2 at *
  refine (text_err l er HL.out HR2.out c _ HC2.out).mono ?_
  rintro e w3 ⟨rfl, hfw3⟩
  have HAw3 := hid' (hfw3.ar HA1.out hrc)
  have HFw3 := hid' hfw3
  clear hfw3 s0 s1
  have r0 := HAw3.out.cell 0 _ rfl
  have r1 := HAw3.out.cell 1 _ rfl
  have q0 := HAw3.out.free 0
  have q1 := HAw3.out.free 1
  go_wp2
  have hA9 := (HAw3.out.set 0 (.string ⟨#[]⟩)).set 1 (.string ⟨#[]⟩)
  have e0 := hA9.cell 0 (.string ⟨#[]⟩) rfl
  have e1 := hA9.cell 1 (.string ⟨#[]⟩) rfl
  clear r0 r1 q0 q1 hA9
  refine bodyPost_ret (v := .tuple #[.agg #[.string ⟨#[]⟩, .string ⟨#[]⟩], .int .i64 (er : Int)]) (by simp [results, Tryz.results71, go_sem, e0, e1]) rfl ⟨rfl, (((Fr.of_below HB1.out).and HFw3.out).trans (S' := (· = rb)) ((Fr.of_set (S := (· = rb)) rb 0 _ _ rfl).and (Fr.of_set rb 1 _ _ rfl)) (fun k hk => .inr (Nat.le_of_eq (hrb.trans (Eq.symm hk)))))⟩

set_option maxRecDepth 20000 in
theorem field_text_err (B d b : Nat) (v : Value) (list : Int) (lim M : Nat) (fs : List (List UInt8 × List UInt8)) (c : Nat) (w : World) (h : CD w B d b v list lim M fs) (hs : Tb.size fs ≤ 1048576) (K : Int) (hK : (K == 128) = false)  (l : List UInt8) (hl : l.length ≤ 281474976710656) (hc : Ar w c 88 #[.string ⟨l.toArray⟩]) (er : Nat) (hr1 : Hp.rs l = .err er) :
    Calls Tryz.prog 71 #[.pointer (some ⟨d, 0, none⟩), .int .u8 K, .int .i64 0, .pointer (some ⟨c, 0, none⟩)] w fun e w' => e = .returned (.tuple #[.agg #[.string ⟨#[]⟩, .string ⟨#[]⟩], .int .i64 (er : Int)]) ∧ Fr (· = c) w w' := by
  have hb0 : Below w.heap.size w (w.alloc (.cells #[.string ⟨#[]⟩, .string ⟨#[]⟩] 54)) := (Below.refl _ _).alloc (Nat.le_refl _) _
  have hA : Ar (w.alloc (.cells #[.string ⟨#[]⟩, .string ⟨#[]⟩] 54)) w.heap.size 54 #[.string ⟨#[]⟩, .string ⟨#[]⟩] := heap_alloc_last w _
  have c0 := Below.kc hb0 (h.obj.cell 0 _ rfl)
  have H := hid' (h.keep hb0)
  have HS := hid' hs
  have HB := hid' hb0
  have HA := hid' hA
  have HL := hid' hl
  have HC := hid' (hc.keep hb0)
  have hcw := hc.lt
  have HR1 := hid' hr1
  have her := (Hp.rs_err HR1.out).1
  have he1 : ((er : Int) == 0) = false := beq_false_of_ne (by omega)
  have he2 : (er == 0) = false := beq_false_of_ne (by omega)
  clear h hs hb0 hA hl hc hr1 her
  go_enter Tryz.func71, Tryz.ntmps71
  go_wp2_with fail
  obtain ⟨rb, hrb⟩ : ∃ rb, w.heap.size = rb := ⟨_, rfl⟩
  rw [hrb] at HA ⊢
  have hrc : rb ≠ c := by omega
  clear hcw
  generalize (w.alloc (.cells #[.string ⟨#[]⟩, .string ⟨#[]⟩] 54)) = w0 at *
  refine (eat_none B b v M fs 0 d _ c0 H.out.tab HS.out (Tb.at_none fs 0 (.inl (by omega))) (by omega) (by omega)).mono ?_
  rintro e w1 ⟨rfl, hb1⟩
  have hb2 : Below w1.heap.size w1 (w1.alloc (.cells #[.string ⟨#[]⟩, .string ⟨#[]⟩] 54)) := (Below.refl _ _).alloc (Nat.le_refl _) _
  have hA2 := (HA.out.keep hb1).keep hb2
  have HC2 := hid' ((HC.out.keep hb1).keep hb2)
  have hN2 : Ar (w1.alloc (.cells #[.string ⟨#[]⟩, .string ⟨#[]⟩] 54)) w1.heap.size 54 #[.string ⟨#[]⟩, .string ⟨#[]⟩] := heap_alloc_last w1 _
  have HA1 := hid' hA2
  have HB1 := hid' (below_two (below_two HB.out hb1) hb2)
  have s0 := hN2.cell 0 _ rfl
  have s1 := hN2.cell 1 _ rfl
  clear hA2 hb1 c0 hN2 hb2
  go_wp2_with fail
  obtain ⟨nb, hnb⟩ : ∃ nb, w1.heap.size = nb := ⟨_, rfl⟩
  rw [hnb] at *
  clear hnb
  generalize (w1.alloc (.cells #[.string ⟨#[]⟩, .string ⟨#[]⟩] 54)) = w2 at *
  refine (text_err l er HL.out HR1.out c _ HC2.out).mono ?_
  rintro e w3 ⟨rfl, hfw3⟩
  have HAw3 := hid' (hfw3.ar HA1.out hrc)
  have HFw3 := hid' hfw3
  clear hfw3 s0 s1
  have r0 := HAw3.out.cell 0 _ rfl
  have r1 := HAw3.out.cell 1 _ rfl
  have q0 := HAw3.out.free 0
  have q1 := HAw3.out.free 1
  go_wp2
  have hA9 := (HAw3.out.set 0 (.string ⟨#[]⟩)).set 1 (.string ⟨#[]⟩)
  have e0 := hA9.cell 0 (.string ⟨#[]⟩) rfl
  have e1 := hA9.cell 1 (.string ⟨#[]⟩) rfl
  clear r0 r1 q0 q1 hA9
  refine bodyPost_ret (v := .tuple #[.agg #[.string ⟨#[]⟩, .string ⟨#[]⟩], .int .i64 (er : Int)]) (by simp [results, Tryz.results71, go_sem, e0, e1]) rfl ⟨rfl, (((Fr.of_below HB1.out).and HFw3.out).trans (S' := (· = rb)) ((Fr.of_set (S := (· = rb)) rb 0 _ _ rfl).and (Fr.of_set rb 1 _ _ rfl)) (fun k hk => .inr (Nat.le_of_eq (hrb.trans (Eq.symm hk)))))⟩

set_option maxRecDepth 20000 in
theorem field_text_ok_err (B d b : Nat) (v : Value) (list : Int) (lim M : Nat) (fs : List (List UInt8 × List UInt8)) (c : Nat) (w : World) (h : CD w B d b v list lim M fs) (hs : Tb.size fs ≤ 1048576) (K : Int) (hK : (K == 128) = false)  (l : List UInt8) (hl : l.length ≤ 281474976710656) (hc : Ar w c 88 #[.string ⟨l.toArray⟩]) (t : List UInt8) (j : Nat) (hr1 : Hp.rs l = .ok t j) (er : Nat) (hr2 : Hp.rs (l.drop j) = .err er) :
    Calls Tryz.prog 71 #[.pointer (some ⟨d, 0, none⟩), .int .u8 K, .int .i64 0, .pointer (some ⟨c, 0, none⟩)] w fun e w' => e = .returned (.tuple #[.agg #[.string ⟨#[]⟩, .string ⟨#[]⟩], .int .i64 (er : Int)]) ∧ Fr (· = c) w w' := by
  have hb0 : Below w.heap.size w (w.alloc (.cells #[.string ⟨#[]⟩, .string ⟨#[]⟩] 54)) := (Below.refl _ _).alloc (Nat.le_refl _) _
  have hA : Ar (w.alloc (.cells #[.string ⟨#[]⟩, .string ⟨#[]⟩] 54)) w.heap.size 54 #[.string ⟨#[]⟩, .string ⟨#[]⟩] := heap_alloc_last w _
  have c0 := Below.kc hb0 (h.obj.cell 0 _ rfl)
  have H := hid' (h.keep hb0)
  have HS := hid' hs
  have HB := hid' hb0
  have HA := hid' hA
  have HL := hid' hl
  have HC := hid' (hc.keep hb0)
  have hcw := hc.lt
  have HR1 := hid' hr1
  have HR2 := hid' hr2
  have her := (Hp.rs_err HR2.out).1
  have he1 : ((er : Int) == 0) = false := beq_false_of_ne (by omega)
  have he2 : (er == 0) = false := beq_false_of_ne (by omega)
  clear h hs hb0 hA hl hc hr1 hr2 her
  go_enter Tryz.func71, Tryz.ntmps71
  go_wp2_with fail
  obtain ⟨rb, hrb⟩ : ∃ rb, w.heap.size = rb := ⟨_, rfl⟩
  rw [hrb] at HA ⊢
  have hrc : rb ≠ c := by omega
  clear hcw
  generalize (w.alloc (.cells #[.string ⟨#[]⟩, .string ⟨#[]⟩] 54)) = w0 at *
  refine (eat_none B b v M fs 0 d _ c0 H.out.tab HS.out (Tb.at_none fs 0 (.inl (by omega))) (by omega) (by omega)).mono ?_
  rintro e w1 ⟨rfl, hb1⟩
  have hb2 : Below w1.heap.size w1 (w1.alloc (.cells #[.string ⟨#[]⟩, .string ⟨#[]⟩] 54)) := (Below.refl _ _).alloc (Nat.le_refl _) _
  have hA2 := (HA.out.keep hb1).keep hb2
  have HC2 := hid' ((HC.out.keep hb1).keep hb2)
  have hN2 : Ar (w1.alloc (.cells #[.string ⟨#[]⟩, .string ⟨#[]⟩] 54)) w1.heap.size 54 #[.string ⟨#[]⟩, .string ⟨#[]⟩] := heap_alloc_last w1 _
  have HA1 := hid' hA2
  have HB1 := hid' (below_two (below_two HB.out hb1) hb2)
  have s0 := hN2.cell 0 _ rfl
  have s1 := hN2.cell 1 _ rfl
  clear hA2 hb1 c0 hN2 hb2
  go_wp2_with fail
  obtain ⟨nb, hnb⟩ : ∃ nb, w1.heap.size = nb := ⟨_, rfl⟩
  rw [hnb] at *
  clear hnb
  generalize (w1.alloc (.cells #[.string ⟨#[]⟩, .string ⟨#[]⟩] 54)) = w2 at *
  refine (text_ok l t j HL.out HR1.out c _ HC2.out).mono ?_
  rintro e w3 ⟨rfl, hcw3, hfw3⟩
  have HCw3 := hid' hcw3
  have HAw3 := hid' (hfw3.ar HA1.out hrc)
  have HFw3 := hid' hfw3
  clear hfw3 hcw3 s0 s1
  go_wp2_with fail
  refine (text_err (l.drop j) er (by have := HL.out; rw [List.length_drop]; omega) HR2.out c _ HCw3.out).mono ?_
  rintro e w4 ⟨rfl, hfw4⟩
  have HAw4 := hid' (hfw4.ar HAw3.out hrc)
  have HFw4 := hid' hfw4
  clear hfw4 
  have r0 := HAw4.out.cell 0 _ rfl
  have r1 := HAw4.out.cell 1 _ rfl
  have q0 := HAw4.out.free 0
  have q1 := HAw4.out.free 1
  go_wp2
  have hA9 := (HAw4.out.set 0 (.string ⟨#[]⟩)).set 1 (.string ⟨#[]⟩)
  have e0 := hA9.cell 0 (.string ⟨#[]⟩) rfl
  have e1 := hA9.cell 1 (.string ⟨#[]⟩) rfl
  clear r0 r1 q0 q1 hA9
  refine bodyPost_ret (v := .tuple #[.agg #[.string ⟨#[]⟩, .string ⟨#[]⟩], .int .i64 (er : Int)]) (by simp [results, Tryz.results71, go_sem, e0, e1]) rfl ⟨rfl, ((((Fr.of_below HB1.out).and HFw3.out).and HFw4.out).trans (S' := (· = rb)) ((Fr.of_set (S := (· = rb)) rb 0 _ _ rfl).and (Fr.of_set rb 1 _ _ rfl)) (fun k hk => .inr (Nat.le_of_eq (hrb.trans (Eq.symm hk)))))⟩

set_option maxRecDepth 20000 in
theorem field_text_ok (B d b : Nat) (v : Value) (list : Int) (lim M : Nat) (fs : List (List UInt8 × List UInt8)) (c : Nat) (w : World) (h : CD w B d b v list lim M fs) (hs : Tb.size fs ≤ 1048576) (K : Int) (hK : (K == 128) = false)  (l : List UInt8) (hl : l.length ≤ 281474976710656) (hc : Ar w c 88 #[.string ⟨l.toArray⟩]) (t : List UInt8) (j : Nat) (hr1 : Hp.rs l = .ok t j) (u : List UInt8) (i : Nat) (hr2 : Hp.rs (l.drop j) = .ok u i) :
    Calls Tryz.prog 71 #[.pointer (some ⟨d, 0, none⟩), .int .u8 K, .int .i64 0, .pointer (some ⟨c, 0, none⟩)] w fun e w' => e = .returned (.tuple #[.agg #[.string ⟨t.toArray⟩, .string ⟨u.toArray⟩], .int .i64 0]) ∧ Ar w' c 88 #[.string ⟨((l.drop j).drop i).toArray⟩] ∧ Fr (· = c) w w' := by
  have hb0 : Below w.heap.size w (w.alloc (.cells #[.string ⟨#[]⟩, .string ⟨#[]⟩] 54)) := (Below.refl _ _).alloc (Nat.le_refl _) _
  have hA : Ar (w.alloc (.cells #[.string ⟨#[]⟩, .string ⟨#[]⟩] 54)) w.heap.size 54 #[.string ⟨#[]⟩, .string ⟨#[]⟩] := heap_alloc_last w _
  have c0 := Below.kc hb0 (h.obj.cell 0 _ rfl)
  have H := hid' (h.keep hb0)
  have HS := hid' hs
  have HB := hid' hb0
  have HA := hid' hA
  have HL := hid' hl
  have HC := hid' (hc.keep hb0)
  have hcw := hc.lt
  have HR1 := hid' hr1
  have HR2 := hid' hr2
  clear h hs hb0 hA hl hc hr1 hr2
  go_enter Tryz.func71, Tryz.ntmps71
  go_wp2_with fail
  obtain ⟨rb, hrb⟩ : ∃ rb, w.heap.size = rb := ⟨_, rfl⟩
  rw [hrb] at HA ⊢
  have hrc : rb ≠ c := by omega
  clear hcw
  generalize (w.alloc (.cells #[.string ⟨#[]⟩, .string ⟨#[]⟩] 54)) = w0 at *
  refine (eat_none B b v M fs 0 d _ c0 H.out.tab HS.out (Tb.at_none fs 0 (.inl (by omega))) (by omega) (by omega)).mono ?_
  rintro e w1 ⟨rfl, hb1⟩
  have hb2 : Below w1.heap.size w1 (w1.alloc (.cells #[.string ⟨#[]⟩, .string ⟨#[]⟩] 54)) := (Below.refl _ _).alloc (Nat.le_refl _) _
  have hA2 := (HA.out.keep hb1).keep hb2
  have HC2 := hid' ((HC.out.keep hb1).keep hb2)
  have hN2 : Ar (w1.alloc (.cells #[.string ⟨#[]⟩, .string ⟨#[]⟩] 54)) w1.heap.size 54 #[.string ⟨#[]⟩, .string ⟨#[]⟩] := heap_alloc_last w1 _
  have HA1 := hid' hA2
  have HB1 := hid' (below_two (below_two HB.out hb1) hb2)
  have s0 := hN2.cell 0 _ rfl
  have s1 := hN2.cell 1 _ rfl
  clear hA2 hb1 c0 hN2 hb2
  go_wp2_with fail
  obtain ⟨nb, hnb⟩ : ∃ nb, w1.heap.size = nb := ⟨_, rfl⟩
  rw [hnb] at *
  clear hnb
  generalize (w1.alloc (.cells #[.string ⟨#[]⟩, .string ⟨#[]⟩] 54)) = w2 at *
  refine (text_ok l t j HL.out HR1.out c _ HC2.out).mono ?_
  rintro e w3 ⟨rfl, hcw3, hfw3⟩
  have HCw3 := hid' hcw3
  have HAw3 := hid' (hfw3.ar HA1.out hrc)
  have HFw3 := hid' hfw3
  clear hfw3 hcw3 s0 s1
  go_wp2_with fail
  refine (text_ok (l.drop j) u i (by have := HL.out; rw [List.length_drop]; omega) HR2.out c _ HCw3.out).mono ?_
  rintro e w4 ⟨rfl, hcw4, hfw4⟩
  have HCw4 := hid' hcw4
  have HAw4 := hid' (hfw4.ar HAw3.out hrc)
  have HFw4 := hid' hfw4
  clear hfw4 hcw4 
  have r0 := HAw4.out.cell 0 _ rfl
  have r1 := HAw4.out.cell 1 _ rfl
  have q0 := HAw4.out.free 0
  have q1 := HAw4.out.free 1
  go_wp2
  have hA9 := (HAw4.out.set 0 (.string ⟨t.toArray⟩)).set 1 (.string ⟨u.toArray⟩)
  have e0 := hA9.cell 0 (.string ⟨t.toArray⟩) rfl
  have e1 := hA9.cell 1 (.string ⟨u.toArray⟩) rfl
  clear r0 r1 q0 q1 hA9
  refine bodyPost_ret (v := .tuple #[.agg #[.string ⟨t.toArray⟩, .string ⟨u.toArray⟩], .int .i64 0]) (by simp [results, Tryz.results71, go_sem, e0, e1]) rfl ⟨rfl, (HCw4.out.other hrc 0 _).other hrc 1 _, ((((Fr.of_below HB1.out).and HFw3.out).and HFw4.out).trans (S' := (· = rb)) ((Fr.of_set (S := (· = rb)) rb 0 _ _ rfl).and (Fr.of_set rb 1 _ _ rfl)) (fun k hk => .inr (Nat.le_of_eq (hrb.trans (Eq.symm hk)))))⟩

end Go.Proofs.YtmkkhfkfjmfdcaaGreat
