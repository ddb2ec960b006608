/-
  Package hpack: what both ends have of the table; cursor.number, cursor.text: by their contracts.
-/
import Derived.Test.YtmkkhfkfjmfdcaaHpC
import Derived.Test.YtmkkhfkfjmfdcaaHpR
import Derived.Test.YtmkkhfkfjmfdcaaPrimW
import Derived.Test.YtmkkhfkfjmfdcaaTabKA
namespace Go.Proofs.Ytmkkhfkfjmfdcaa
open Go.RowKit

theorem esize_at (B b : Nat) (v : Value) (M : Nat) (fs : List (List UInt8 × List UInt8)) (S : Nat) (hS : Tb.size fs = S) (d : Nat) (w : World) (h0 : w.cell? ⟨d, 0, none⟩ = some (.pointer (some ⟨b, 0, none⟩))) (h : CT w B b v M fs) :
    Calls Try.prog 22 #[.pointer (some ⟨d, 0, none⟩)] w fun e w' => e = .returned (.int .i64 (S : Int)) ∧ w' = w := by
  have H := hid' h
  have HS := hid' hS
  clear h hS
  go_enter Try.func22, Try.ntmps22
  go_wp2_with fail
  refine (csize_any B b v M fs _ H.out).mono ?_
  rintro e w1 ⟨rfl, rfl⟩
  rw [HS.out]
  go_wp2
  go_ret
  exact ⟨rfl, rfl⟩

theorem eroom_at (B b : Nat) (v : Value) (M : Nat) (fs : List (List UInt8 × List UInt8)) (d : Nat) (w : World) (h0 : w.cell? ⟨d, 0, none⟩ = some (.pointer (some ⟨b, 0, none⟩))) (h : CT w B b v M fs) :
    Calls Try.prog 38 #[.pointer (some ⟨d, 0, none⟩)] w fun e w' => e = .returned (.int .i64 (M : Int)) ∧ w' = w := by
  have H := hid' h
  clear h
  go_enter Try.func38, Try.ntmps38
  go_wp2_with fail
  refine (cmost_any B b v M fs _ H.out).mono ?_
  rintro e w1 ⟨rfl, rfl⟩
  go_wp2
  go_ret
  exact ⟨rfl, rfl⟩

theorem eresize_at (B b : Nat) (v : Value) (M : Nat) (fs : List (List UInt8 × List UInt8)) (N : Nat) (d : Nat) (w : World) (h0 : w.cell? ⟨d, 0, none⟩ = some (.pointer (some ⟨b, 0, none⟩))) (h : CT w B b v M fs) (hN : N ≤ 65536) (hs : Tb.size fs ≤ 1048576) :
    Calls Try.prog 21 #[.pointer (some ⟨d, 0, none⟩), .int .i64 (N : Int)] w fun e w' => e = .returned (.tuple #[]) ∧ ∃ v', CT w' B b v' N (Tb.shr N fs) ∧ (∀ k, v'.ownBlock = some k → v.ownBlock = some k) ∧ Two b v.ownBlock w w' := by
  have H := hid' h
  have HN := hid' hN
  have HS := hid' hs
  clear h hN hs
  go_enter Try.func21, Try.ntmps21
  go_wp2_with fail
  refine (cresize_yes B b v M fs N _ H.out HN.out HS.out).mono ?_
  rintro e w1 ⟨rfl, h1⟩
  have H1 := hid' h1
  clear h1
  go_wp2
  go_end0
  exact ⟨rfl, H1.out⟩

theorem eadd_at (B b : Nat) (v : Value) (M : Nat) (fs : List (List UInt8 × List UInt8)) (n val : List UInt8) (d : Nat) (w : World) (h0 : w.cell? ⟨d, 0, none⟩ = some (.pointer (some ⟨b, 0, none⟩))) (h : CT w B b v M fs) (hM : M ≤ 65536) (hs : Tb.size fs ≤ 1048576) (hB : B ≤ w.heap.size) (hn : n.length ≤ 140737488355328) (hv : val.length ≤ 140737488355328) :
    Calls Try.prog 40 #[.pointer (some ⟨d, 0, none⟩), .agg #[.string ⟨n.toArray⟩, .string ⟨val.toArray⟩]] w fun e w' => e = .returned (.tuple #[]) ∧ ∃ v', CT w' B b v' M (Tb.add M fs (n, val)) ∧ (∀ k, v'.ownBlock = some k → v.ownBlock = some k ∨ w.heap.size ≤ k) ∧ Two b v.ownBlock w w' := by
  have hb0 : Below w.heap.size w (w.alloc (.cells #[.string ⟨n.toArray⟩, .string ⟨val.toArray⟩] 55)) := (Below.refl _ _).alloc (Nat.le_refl _) _
  have hA : Ar (w.alloc (.cells #[.string ⟨n.toArray⟩, .string ⟨val.toArray⟩] 55)) w.heap.size 55 #[.string ⟨n.toArray⟩, .string ⟨val.toArray⟩] := heap_alloc_last w _
  have c0 := Below.kc hb0 h0
  have x0 := hA.cell 0 _ rfl
  have x1 := hA.cell 1 _ rfl
  have H := hid' (h.keep hb0)
  have HM := hid' hM
  have HS := hid' hs
  have HB := hid' hb0
  have HN := hid' hn
  have HV := hid' hv
  clear h hM hs hb0 hA h0 hn hv
  go_enter Try.func40, Try.ntmps40
  go_wp2
  obtain ⟨rb, hrb⟩ : ∃ rb, w.heap.size = rb := ⟨_, rfl⟩
  have HRB := hid' hrb
  rw [hrb] at x0 x1 ⊢
  clear hrb
  generalize (w.alloc (.cells #[.string ⟨n.toArray⟩, .string ⟨val.toArray⟩] 55)) = w0 at *
  have HB2 : Hid (B ≤ w0.heap.size) := hid' (Nat.le_trans hB HB.out.size)
  go_region_with (go_at_call 53; refine (cadd_any B b v M fs n val _ H.out.drew HM.out HS.out HB2.out HN.out HV.out).mono ?_; rintro e w1 ⟨rfl, v', hC, hv', hT⟩; have HX : Hid (CT w1 B b v' M (Tb.add M fs (n, val)) ∧ (∀ k, v'.ownBlock = some k → v.ownBlock = some k ∨ w0.heap.size ≤ k) ∧ Two b v.ownBlock w0.drew w1) := hid' ⟨hC, hv', hT⟩; clear hC hv' hT)
  all_goals
    go_wp2
    go_end0
    exact ⟨rfl, v', HX.out.1, fun k hk => (HX.out.2.1 k hk).imp id (fun h => by have := HB.out.size; omega), (Two.of_below HB.out).drew.and HX.out.2.2⟩

theorem efind_at (B b : Nat) (v : Value) (M : Nat) (fs : List (List UInt8 × List UInt8)) (n val : List UInt8) (d : Nat) (w : World) (h0 : w.cell? ⟨d, 0, none⟩ = some (.pointer (some ⟨b, 0, none⟩))) (h : CT w B b v M fs) (hs : Tb.size fs ≤ 1048576) (k : Nat) (wh : Bool) (hk : Tb.find fs (n, val) = (k, wh)) :
    Calls Try.prog 44 #[.pointer (some ⟨d, 0, none⟩), .agg #[.string ⟨n.toArray⟩, .string ⟨val.toArray⟩]] w fun e w' => e = .returned (.tuple #[.int .i64 (k : Int), .bool wh]) ∧ Below w.heap.size w w' := by
  have hb0 : Below w.heap.size w (w.alloc (.cells #[.string ⟨n.toArray⟩, .string ⟨val.toArray⟩] 55)) := (Below.refl _ _).alloc (Nat.le_refl _) _
  have hA : Ar (w.alloc (.cells #[.string ⟨n.toArray⟩, .string ⟨val.toArray⟩] 55)) w.heap.size 55 #[.string ⟨n.toArray⟩, .string ⟨val.toArray⟩] := heap_alloc_last w _
  have c0 := Below.kc hb0 h0
  have x0 := hA.cell 0 _ rfl
  have x1 := hA.cell 1 _ rfl
  have H := hid' (h.keep hb0)
  have HS := hid' hs
  have HB := hid' hb0
  have HK := hid' hk
  clear h hs hb0 hA h0 hk
  go_enter Try.func44, Try.ntmps44
  go_wp2
  obtain ⟨rb, hrb⟩ : ∃ rb, w.heap.size = rb := ⟨_, rfl⟩
  have HRB := hid' hrb
  rw [hrb] at x0 x1 ⊢
  clear hrb
  generalize (w.alloc (.cells #[.string ⟨n.toArray⟩, .string ⟨val.toArray⟩] 55)) = w0 at *
  go_region_with (go_at_call 57; refine (cfind_any B b v M fs n val _ H.out.drew HS.out k wh HK.out).mono ?_; rintro e w1 ⟨rfl, hb1⟩; have HX := hid' (below_two (below_two HB.out (Below.refl _ _).drew) hb1); clear hb1)
  all_goals
    go_wp2
    go_ret2
    exact ⟨rfl, HX.out⟩

theorem eat_some (B b : Nat) (v : Value) (M : Nat) (fs : List (List UInt8 × List UInt8)) (i : Int) (f : (List UInt8 × List UInt8)) (d : Nat) (w : World) (h0 : w.cell? ⟨d, 0, none⟩ = some (.pointer (some ⟨b, 0, none⟩))) (h : CT w B b v M fs) (hs : Tb.size fs ≤ 1048576) (hf : Tb.at? fs i = some f) :
    Calls Try.prog 51 #[.pointer (some ⟨d, 0, none⟩), .int .i64 i] w fun e w' => e = .returned (.tuple #[.agg #[.string ⟨f.1.toArray⟩, .string ⟨f.2.toArray⟩], .bool true]) ∧ Below w.heap.size w w' := by
  have hb0 : Below w.heap.size w (w.alloc (.cells #[.string ⟨#[]⟩, .string ⟨#[]⟩] 55)) := (Below.refl _ _).alloc (Nat.le_refl _) _
  have hA : Ar (w.alloc (.cells #[.string ⟨#[]⟩, .string ⟨#[]⟩] 55)) w.heap.size 55 #[.string ⟨#[]⟩, .string ⟨#[]⟩] := heap_alloc_last w _
  have c0 := Below.kc hb0 h0
  have H := hid' (h.keep hb0)
  have HS := hid' hs
  have HB := hid' hb0
  have HF := hid' hf
  have HA := hid' hA
  clear h hs hb0 hA h0 hf
  go_enter Try.func51, Try.ntmps51
  go_wp2_with fail
  obtain ⟨rb, hrb⟩ : ∃ rb, w.heap.size = rb := ⟨_, rfl⟩
  rw [hrb] at HA ⊢
  generalize (w.alloc (.cells #[.string ⟨#[]⟩, .string ⟨#[]⟩] 55)) = w0 at *
  refine (cat_some B b v M fs i f _ H.out HS.out HF.out).mono ?_
  rintro e w1 ⟨rfl, hb1⟩
  have hA1 := HA.out.keep hb1
  have r0 := hA1.cell 0 _ rfl
  have r1 := hA1.cell 1 _ rfl
  have q0 := hA1.free 0
  have q1 := hA1.free 1
  have HA1 := hid' hA1
  have HB1 := hid' (below_two HB.out hb1)
  clear hA1 hb1 c0
  go_wp2
  have hA2 := (HA1.out.set 0 (.string ⟨f.1.toArray⟩)).set 1 (.string ⟨f.2.toArray⟩)
  have e0 := hA2.cell 0 (.string ⟨f.1.toArray⟩) rfl
  have e1 := hA2.cell 1 (.string ⟨f.2.toArray⟩) rfl
  clear r0 r1 q0 q1 HA1 hA2
  refine bodyPost_ret (v := .tuple #[.agg #[.string ⟨f.1.toArray⟩, .string ⟨f.2.toArray⟩], .bool true]) (by simp [results, Try.results51, go_sem, e0, e1]) rfl ⟨rfl, ?_⟩
  exact (HB1.out.setCell (p := ⟨rb, 0, none⟩) (Nat.le_of_eq hrb) _).setCell (p := ⟨rb, 1, none⟩) (Nat.le_of_eq hrb) _

theorem eat_none (B b : Nat) (v : Value) (M : Nat) (fs : List (List UInt8 × List UInt8)) (i : Int) (d : Nat) (w : World) (h0 : w.cell? ⟨d, 0, none⟩ = some (.pointer (some ⟨b, 0, none⟩))) (h : CT w B b v M fs) (hs : Tb.size fs ≤ 1048576) (hf : Tb.at? fs i = none) (hmx : i ≤ 9223372036854775807) (hmn : -9223372036854775808 ≤ i) :
    Calls Try.prog 51 #[.pointer (some ⟨d, 0, none⟩), .int .i64 i] w fun e w' => e = .returned (.tuple #[.agg #[.string ⟨#[]⟩, .string ⟨#[]⟩], .bool false]) ∧ Below w.heap.size w w' := by
  have hb0 : Below w.heap.size w (w.alloc (.cells #[.string ⟨#[]⟩, .string ⟨#[]⟩] 55)) := (Below.refl _ _).alloc (Nat.le_refl _) _
  have hA : Ar (w.alloc (.cells #[.string ⟨#[]⟩, .string ⟨#[]⟩] 55)) w.heap.size 55 #[.string ⟨#[]⟩, .string ⟨#[]⟩] := heap_alloc_last w _
  have c0 := Below.kc hb0 h0
  have H := hid' (h.keep hb0)
  have HS := hid' hs
  have HB := hid' hb0
  have HF := hid' hf
  have HA := hid' hA
  have HMX := hid' hmx
  have HMN := hid' hmn
  clear h hs hb0 hA h0 hf hmx hmn
  go_enter Try.func51, Try.ntmps51
  go_wp2_with fail
  obtain ⟨rb, hrb⟩ : ∃ rb, w.heap.size = rb := ⟨_, rfl⟩
  rw [hrb] at HA ⊢
  generalize (w.alloc (.cells #[.string ⟨#[]⟩, .string ⟨#[]⟩] 55)) = w0 at *
  refine (cat_none B b v M fs i _ H.out HS.out HF.out HMX.out HMN.out).mono ?_
  rintro e w1 ⟨rfl, hb1⟩
  have hA1 := HA.out.keep hb1
  have r0 := hA1.cell 0 _ rfl
  have r1 := hA1.cell 1 _ rfl
  have q0 := hA1.free 0
  have q1 := hA1.free 1
  have HA1 := hid' hA1
  have HB1 := hid' (below_two HB.out hb1)
  clear hA1 hb1 c0
  go_wp2
  have hA2 := (HA1.out.set 0 (.string ⟨#[]⟩)).set 1 (.string ⟨#[]⟩)
  have e0 := hA2.cell 0 (.string ⟨#[]⟩) rfl
  have e1 := hA2.cell 1 (.string ⟨#[]⟩) rfl
  clear r0 r1 q0 q1 HA1 hA2
  refine bodyPost_ret (v := .tuple #[.agg #[.string ⟨#[]⟩, .string ⟨#[]⟩], .bool false]) (by simp [results, Try.results51, go_sem, e0, e1]) rfl ⟨rfl, ?_⟩
  exact (HB1.out.setCell (p := ⟨rb, 0, none⟩) (Nat.le_of_eq hrb) _).setCell (p := ⟨rb, 1, none⟩) (Nat.le_of_eq hrb) _

/-- What a cut leaves. -/
theorem cut_drop (l : List UInt8) (k : Nat) : (⟨l.toArray⟩ : ByteArray).extract k l.length = ⟨(l.drop k).toArray⟩ := by
  rw [Pm.cut_mid, List.take_of_length_le (by rw [List.length_drop]; omega)]

set_option maxRecDepth 20000 in
theorem number_at (l : List UInt8) (b : Nat) (h0 : 1 ≤ b) (h1 : b ≤ 8) (n k er : Nat) (hR : Hp.rErr (Pm.rd b l) = er ∧ (Pm.rd b l = .ok n k ∨ (∀ i j, Pm.rd b l ≠ .ok i j) ∧ n = 0 ∧ k = 0)) (c : Nat) (w : World) (h : Ar w c 59 #[.string ⟨l.toArray⟩]) :
    Calls Try.prog 35 #[.pointer (some ⟨c, 0, none⟩), .int .i64 (b : Int)] w fun e w' => e = .returned (.tuple #[.int .i64 (n : Int), .int .i64 (er : Int)]) ∧ Ar w' c 59 #[.string ⟨(l.drop k).toArray⟩] ∧ Fr (· = c) w w' := by
  obtain ⟨hR1, hR2⟩ := hR
  have hkl : k ≤ l.length := by
    rcases hR2 with h | ⟨_, _, h⟩
    · exact (Pm.rd_le b n k h1 l h).2.1
    · omega
  have HV : Hid (Pm.rV (Pm.rd b l) = .tuple #[.int .i64 (n : Int), .int .i64 (k : Int), .int .i64 (er : Int)]) := by
    rw [← hR1]
    rcases hR2 with h | ⟨hne, rfl, rfl⟩
    · rw [h]; rfl
    · generalize Pm.rd b l = r at *
      cases r with
      | ok i j => exact absurd rfl (hne i j)
      | arg => rfl
      | short => rfl
      | number => rfl
  have c0 := h.cell 0 _ rfl
  have H := hid' h
  have HC := hid' (cut_drop l k)
  clear hR1 hR2 h
  go_enter Try.func35, Try.ntmps35
  go_wp2_with fail
  refine (readInt_l l b h0 h1 _ rfl _).mono ?_
  rintro e w1 ⟨rfl, hb1⟩
  rw [HV.out]
  have hA1 := H.out.keep hb1
  have c1 := hA1.cell 0 _ rfl
  have f1 := hA1.free 0
  have HA1 := hid' hA1
  have HB1 := hid' hb1
  clear hA1 hb1 c0 H
  have hz : (⟨l.toArray⟩ : ByteArray).size = l.length := size_l l
  go_wp2
  go_ret2
  refine ⟨rfl, ?_, (Fr.of_below HB1.out).and (Fr.of_set c 0 _ w1 rfl)⟩
  have := HA1.out.set 0 (.string ⟨(l.drop k).toArray⟩)
  simpa [HC.out] using this

end Go.Proofs.Ytmkkhfkfjmfdcaa
