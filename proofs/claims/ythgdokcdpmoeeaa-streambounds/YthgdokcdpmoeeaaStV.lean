/-
  The laws' do and rank: by their contracts.
-/
import Derived.Test.YthgdokcdpmoeeaaStU
import Derived.Test.YthgdokcdpmoeeaaStCl
namespace Go.Proofs.Ythgdokcdpmoeeaa
open Go.RowKit

/-- The book behind a step of a script. -/
def stp (k : Sm.Bk) (c : Cl) : Sm.Bk := if c.what = 0 then { k with st := true } else (Sm.does k c.what c.id c.fin).1
theorem ok_st {k : Sm.Bk} (h : Sm.Ok k) : Sm.Ok { k with st := true } := ⟨h.m1, h.m2, h.srt, h.ops, h.len, h.drs, h.dnd, h.dln, h.l1, h.l2, h.pas⟩
theorem ok_stp {k : Sm.Bk} (h : Sm.Ok k) (c : Cl) : Sm.Ok (stp k c) := by
  unfold stp
  split
  · exact ok_st h
  · exact Sm.ok_does h _ _ _
theorem goes_stp {k : Sm.Bk} (h : Sm.Ok k) (c : Cl) (m : Int) : Sm.Goes (Sm.phaseI k m) (Sm.phaseI (stp k c) m) := by
  unfold stp
  split
  · exact Sm.goes_refl _
  · exact Sm.goes_doesI h _ _ _ _

theorem szeroC : (Try.prog.info? 48).map (fun i => i.zero) = some (some (.agg #[.int .u8 0, .int .i64 0, .bool false])) := by kernel_rfl
theorem ssizeC : (Try.prog.info? 48).map (·.size) = some 3 := by kernel_rfl

theorem srank_any (p : Nat) (hp : p ≤ 5) (w : World) : Calls Try.prog 21 #[.int .u8 (p : Int)] w fun e w' => e = .returned (.int .i64 (Sm.rank p : Int)) ∧ w' = w := by
  rcases six hp with rfl | rfl | rfl | rfl | rfl | rfl <;>
  (go_enter Try.func21, Try.ntmps21
   go_wp2
   go_ret
   exact ⟨rfl, rfl⟩)

set_option maxHeartbeats 4000000 in
set_option maxRecDepth 20000 in
theorem sdoL_any (B b : Nat) (k : Sm.Bk) (v u : Value) (c : Cl) (w : World) (h : BK w B b k v u) :
    Calls Try.prog 17 #[.pointer (some ⟨b, 0, none⟩), .agg #[.int .u8 (c.what : Int), .int .i64 c.id, .bool c.fin]] w fun e w' => (∃ r, e = .returned r) ∧ (∃ v' u', BK w' B b (stp k c) v' u') ∧ KF B w w' := by
  have H := hid' h
  clear h
  obtain ⟨wh, id, fn⟩ := c
  by_cases h0 : wh = 0
  · subst h0
    have HS : Hid (stp k ⟨0, id, fn⟩ = { k with st := true }) := hid' rfl
    go_enter Try.func17, Try.ntmps17
    go_wp2_with (refine wpl_box 48 _ rfl rfl #[.int .u8 0, .int .i64 id, .bool fn] (by kernel_rfl) ?_)
    intro b3 w3 hg3 ha3 hb3
    go_wp2_with (refine wpl_alloc 29 rfl rfl _ szeroW ?_)
    intro b4 w4 hg4 ha4 hb4
    have HK4 := hid' ((H.out.keep hb3).keep hb4)
    have HB4 := hid' (below_two hb3 hb4)
    have HG4 : Hid (w.heap.size ≤ b4) := hid' (Nat.le_trans hb3.size hg4)
    have ha3' := ha3.keep hb4
    have d0 := ha3'.cell 0 _ rfl
    have HA4 := hid' ha4
    clear hg3 ha3 hb3 hg4 ha4 hb4 ha3'
    go_wp2_with fail
    refine (sstop_any B b _ _ _ _ HK4.out).mono ?_
    rintro e w5 ⟨rfl, hk5, hf5⟩
    have HA5 := hid' (hf5.ar HA4.out (by decide) (by decide) (by decide))
    have HK5 := hid' hk5
    have HF5 := hid' ((KF.of_below HB4.out H.out.size).trans hf5)
    clear hk5 hf5 d0
    go_wp2_with (refine wpl_store 29 _ _ rfl rfl b4 #[.bool false, .bool false, .int .i64 0] (by kernel_rfl) (by kernel_rfl) _ _ HA5.out ssizeW rfl (by simp [Value.oneCell']) ?_)
    intro w6 ha6 hu6
    go_wp2
    have hld := sldW ha6
    refine bodyPost_ret (v := .tuple #[.agg #[.bool false, .bool false, .int .i64 0], .bool false]) (by simp [results, Try.results17, asAddr, hld]) rfl ⟨⟨_, rfl⟩, ⟨_, _, by rw [HS.out]; exact HK5.out.other hu6 HA5.out (by decide) (by decide) (by decide)⟩, HF5.out.new hu6 HG4.out H.out.size⟩
  · have HS : Hid (stp k ⟨wh, id, fn⟩ = (Sm.does k wh id fn).1) := hid' (by unfold stp; rw [if_neg h0])
    have q1 : ((wh : Int) == 0) = false := by simp; omega
    have q2 : (wh == 0) = false := by simp; omega
    obtain ⟨k', r, hd⟩ : ∃ k' r, Sm.does k wh id fn = (k', r) := ⟨_, _, rfl⟩
    rw [hd] at HS
    have HD := hid' hd
    obtain ⟨r1, r2, r3, r4, r5⟩ := r
    clear hd
    go_enter Try.func17, Try.ntmps17
    go_wp2_with (refine wpl_box 48 _ rfl rfl #[.int .u8 (wh : Int), .int .i64 id, .bool fn] (by kernel_rfl) ?_)
    intro b3 w3 hg3 ha3 hb3
    go_wp2_with (refine wpl_alloc 29 rfl rfl _ szeroW ?_)
    intro b4 w4 hg4 ha4 hb4
    have HK4 := hid' ((H.out.keep hb3).keep hb4)
    have HB4 := hid' (below_two hb3 hb4)
    have HG4 : Hid (w.heap.size ≤ b4) := hid' (Nat.le_trans hb3.size hg4)
    have ha3' := ha3.keep hb4
    have d0 := ha3'.cell 0 _ rfl
    have d1 := ha3'.cell 1 _ rfl
    have d2 := ha3'.cell 2 _ rfl
    have HA4 := hid' ha4
    clear hg3 ha3 hb3 hg4 ha4 hb4 ha3'
    go_wp2_with fail
    refine (sdo_to B b _ k' _ _ wh id fn ⟨r1, r2, r3, r4, r5⟩ HD.out _ HK4.out).mono ?_
    rintro e w5 ⟨rfl, ⟨v5, u5, hk5⟩, hf5⟩
    simp only [doV]
    have HA5 := hid' (hf5.ar HA4.out (by decide) (by decide) (by decide))
    have HK5 := hid' hk5
    have HF5 := hid' ((KF.of_below HB4.out H.out.size).trans hf5)
    clear hk5 hf5 d0 d1 d2
    go_wp2_with (refine wpl_store 29 _ _ rfl rfl b4 #[.bool r2, .bool r3, .int .i64 r4] (by kernel_rfl) (by kernel_rfl) _ _ HA5.out ssizeW rfl (by simp [Value.oneCell']) ?_)
    intro w6 ha6 hu6
    go_wp2
    have hld := sldW ha6
    refine bodyPost_ret (v := .tuple #[.agg #[.bool r2, .bool r3, .int .i64 r4], .bool r5]) (by simp [results, Try.results17, asAddr, hld]) rfl ⟨⟨_, rfl⟩, ⟨_, _, by rw [HS.out]; exact HK5.out.other hu6 HA5.out (by decide) (by decide) (by decide)⟩, HF5.out.new hu6 HG4.out H.out.size⟩

end Go.Proofs.Ythgdokcdpmoeeaa
