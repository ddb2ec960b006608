/-
  Package hpack: cursor.text, Decoder.update, Decoder.field: by their contracts.
-/
import Derived.Test.YtmkkhfkfjmfdcaaHpD
namespace Go.Proofs.Ytmkkhfkfjmfdcaa
open Go.RowKit

set_option maxRecDepth 20000 in
theorem text_ok (l t : List UInt8) (k : Nat) (hl : l.length ≤ 281474976710656) (hR : Hp.rs l = .ok t k) (c : Nat) (w : World) (h : Ar w c 59 #[.string ⟨l.toArray⟩]) :
    Calls Try.prog 52 #[.pointer (some ⟨c, 0, none⟩)] w fun e w' => e = .returned (.tuple #[.string ⟨t.toArray⟩, .int .i64 0]) ∧ Ar w' c 59 #[.string ⟨(l.drop k).toArray⟩] ∧ Fr (· = c) w w' := by
  have hkl : k ≤ l.length := (Hp.rs_le hR).2.1
  have HV := hid' (Hp.rs_of_ok hR)
  have c0 := h.cell 0 _ rfl
  have H := hid' h
  have HC := hid' (cut_drop l k)
  have HL := hid' hl
  clear hR h hl
  go_enter Try.func52, Try.ntmps52
  go_wp2_with fail
  refine (readStr_ok l 2147483647 2147483647 rfl HL.out t k HV.out _).mono ?_
  rintro e w1 ⟨rfl, hb1⟩
  have hA1 := H.out.keep hb1
  have c1 := hA1.cell 0 _ rfl
  have f1 := hA1.free 0
  have HA1 := hid' hA1
  have HB1 := hid' hb1
  clear hA1 hb1 c0 H
  have hz : (⟨l.toArray⟩ : ByteArray).size = l.length := size_l l
  go_wp2
  go_ret2
  refine ⟨rfl, ?_, (Fr.of_below HB1.out).and (Fr.of_set c 0 _ w1 rfl)⟩
  have := HA1.out.set 0 (.string ⟨(l.drop k).toArray⟩)
  simpa [HC.out] using this

set_option maxRecDepth 20000 in
theorem text_err (l : List UInt8) (er : Nat) (hl : l.length ≤ 281474976710656) (hR : Hp.rs l = .err er) (c : Nat) (w : World) (h : Ar w c 59 #[.string ⟨l.toArray⟩]) :
    Calls Try.prog 52 #[.pointer (some ⟨c, 0, none⟩)] w fun e w' => e = .returned (.tuple #[.string ⟨#[]⟩, .int .i64 (er : Int)]) ∧ Fr (· = c) w w' := by
  have HV := hid' (Hp.rs_of_err hR)
  have c0 := h.cell 0 _ rfl
  have H := hid' h
  have HL := hid' hl
  clear hR h hl
  go_enter Try.func52, Try.ntmps52
  go_wp2_with fail
  refine (readStr_err l 2147483647 2147483647 rfl HL.out er HV.out _).mono ?_
  rintro e w1 ⟨rfl, hb1⟩
  have hA1 := H.out.keep hb1
  have c1 := hA1.cell 0 _ rfl
  have f1 := hA1.free 0
  have HB1 := hid' hb1
  clear hA1 hb1 c0 H
  have hz : (⟨l.toArray⟩ : ByteArray).size = l.length := size_l l
  go_wp2
  go_ret2
  exact ⟨rfl, (Fr.of_below HB1.out).and (Fr.of_set c 0 _ w1 rfl)⟩

theorem update_no (d lim N : Nat) (late : Bool) (w : World) (h2 : w.cell? ⟨d, 2, none⟩ = some (.int .i64 (lim : Int))) (hl : late = true ∨ lim < N) :
    Calls Try.prog 36 #[.pointer (some ⟨d, 0, none⟩), .int .i64 (N : Int), .bool late] w fun e w' => e = .returned (.int .i64 60) ∧ w' = w := by
  cases late with
  | true =>
    clear hl
    go_enter Try.func36, Try.ntmps36
    go_wp2
    go_ret
    exact ⟨rfl, rfl⟩
  | false =>
    have hlt : lim < N := by rcases hl with h | h; cases h; exact h
    have hd : decide ((lim : Int) < (N : Int)) = true := decide_eq_true (by omega)
    have hd' : decide (lim < N) = true := decide_eq_true hlt
    clear hl hlt
    go_enter Try.func36, Try.ntmps36
    go_wp2
    go_ret
    exact ⟨rfl, rfl⟩

theorem update_yes (B d b : Nat) (v : Value) (list : Int) (lim M : Nat) (fs : List (List UInt8 × List UInt8)) (N : Nat) (w : World) (h : CD w B d b v list lim M fs) (hN : N ≤ lim) (hlim : lim ≤ 65536) (hs : Tb.size fs ≤ 1048576) :
    Calls Try.prog 36 #[.pointer (some ⟨d, 0, none⟩), .int .i64 (N : Int), .bool false] w fun e w' => e = .returned (.int .i64 0) ∧ ∃ v', CD w' B d b v' list lim N (Tb.shr N fs) ∧ (∀ k, v'.ownBlock = some k → v.ownBlock = some k) ∧ Two b v.ownBlock w w' := by
  have h0 := h.obj.cell 0 _ rfl
  have h2 := h.obj.cell 2 _ rfl
  have hd : decide ((lim : Int) < (N : Int)) = false := decide_eq_false (by omega)
  have hd' : decide (lim < N) = false := decide_eq_false (by omega)
  have H := hid' h
  have HH0 := hid' h0
  have HN : Hid (N ≤ 65536) := hid' (by omega)
  have HS := hid' hs
  clear h hs hN hlim
  go_enter Try.func36, Try.ntmps36
  go_wp2_with fail
  refine (eresize_at B b v M fs N d _ HH0.out H.out.tab HN.out HS.out).mono ?_
  rintro e w1 ⟨rfl, v', hC, hv, hT⟩
  have HX : Hid (CT w1 B b v' N (Tb.shr N fs) ∧ (∀ k, v'.ownBlock = some k → v.ownBlock = some k) ∧ Two b v.ownBlock w w1) := hid' ⟨hC, hv, hT⟩
  clear hC hv hT h0 h2
  go_wp2
  go_ret
  exact ⟨rfl, v', H.out.put HX.out.2.2 HX.out.1, HX.out.2.1, HX.out.2.2⟩

set_option maxRecDepth 20000 in
theorem field_indexed (B d b : Nat) (v : Value) (list : Int) (lim M : Nat) (fs : List (List UInt8 × List UInt8)) (n c : Nat) (f : List UInt8 × List UInt8) (w : World) (h : CD w B d b v list lim M fs) (hs : Tb.size fs ≤ 1048576) (hf : Tb.at? fs (n : Int) = some f) :
    Calls Try.prog 39 #[.pointer (some ⟨d, 0, none⟩), .int .u8 128, .int .i64 (n : Int), .pointer (some ⟨c, 0, none⟩)] w fun e w' => e = .returned (.tuple #[.agg #[.string ⟨f.1.toArray⟩, .string ⟨f.2.toArray⟩], .int .i64 0]) ∧ Below w.heap.size w w' := by
  have hb0 : Below w.heap.size w (w.alloc (.cells #[.string ⟨#[]⟩, .string ⟨#[]⟩] 55)) := (Below.refl _ _).alloc (Nat.le_refl _) _
  have hA : Ar (w.alloc (.cells #[.string ⟨#[]⟩, .string ⟨#[]⟩] 55)) w.heap.size 55 #[.string ⟨#[]⟩, .string ⟨#[]⟩] := heap_alloc_last w _
  have c0 := Below.kc hb0 (h.obj.cell 0 _ rfl)
  have H := hid' (h.keep hb0)
  have HS := hid' hs
  have HB := hid' hb0
  have HF := hid' hf
  have HA := hid' hA
  clear h hs hb0 hA hf
  go_enter Try.func39, Try.ntmps39
  go_wp2_with fail
  obtain ⟨rb, hrb⟩ : ∃ rb, w.heap.size = rb := ⟨_, rfl⟩
  rw [hrb] at HA ⊢
  generalize (w.alloc (.cells #[.string ⟨#[]⟩, .string ⟨#[]⟩] 55)) = w0 at *
  refine (eat_some B b v M fs (n : Int) f d _ c0 H.out.tab HS.out HF.out).mono ?_
  rintro e w1 ⟨rfl, hb1⟩
  have hb2 : Below w1.heap.size w1 (w1.alloc (.cells #[.string ⟨f.1.toArray⟩, .string ⟨f.2.toArray⟩] 55)) := (Below.refl _ _).alloc (Nat.le_refl _) _
  have hA2 := (HA.out.keep hb1).keep hb2
  have r0 := hA2.cell 0 _ rfl
  have r1 := hA2.cell 1 _ rfl
  have q0 := hA2.free 0
  have q1 := hA2.free 1
  have hN2 : Ar (w1.alloc (.cells #[.string ⟨f.1.toArray⟩, .string ⟨f.2.toArray⟩] 55)) w1.heap.size 55 #[.string ⟨f.1.toArray⟩, .string ⟨f.2.toArray⟩] := heap_alloc_last w1 _
  have s0 := hN2.cell 0 _ rfl
  have s1 := hN2.cell 1 _ rfl
  have HA1 := hid' hA2
  have HB1 := hid' (below_two (below_two HB.out hb1) hb2)
  clear hA2 hb1 c0 hN2 hb2
  go_wp2
  have hA2 := (HA1.out.set 0 (.string ⟨f.1.toArray⟩)).set 1 (.string ⟨f.2.toArray⟩)
  have e0 := hA2.cell 0 (.string ⟨f.1.toArray⟩) rfl
  have e1 := hA2.cell 1 (.string ⟨f.2.toArray⟩) rfl
  clear r0 r1 q0 q1 HA1 hA2
  refine bodyPost_ret (v := .tuple #[.agg #[.string ⟨f.1.toArray⟩, .string ⟨f.2.toArray⟩], .int .i64 0]) (by simp [results, Try.results39, go_sem, e0, e1]) rfl ⟨rfl, ?_⟩
  exact (HB1.out.setCell (p := ⟨rb, 0, none⟩) (Nat.le_of_eq hrb) _).setCell (p := ⟨rb, 1, none⟩) (Nat.le_of_eq hrb) _

end Go.Proofs.Ytmkkhfkfjmfdcaa
