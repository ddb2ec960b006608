/-
  (*Book).Do: by its contract.
-/
import Derived.Test.YthgdokcdpmoeeaaStO
namespace Go.Proofs.Ythgdokcdpmoeeaa
open Go.RowKit

theorem sst3 {w : World} {b : Nat} {a0 a1 a2 : Value} (h : Ar w b 29 #[a0, a1, a2]) (x0 x1 x2 : Value) :
    Ar (((w.setCell ⟨b, 0, none⟩ x0).setCell ⟨b, 1, none⟩ x1).setCell ⟨b, 2, none⟩ x2) b 29 #[x0, x1, x2] ∧ Upd b w (((w.setCell ⟨b, 0, none⟩ x0).setCell ⟨b, 1, none⟩ x1).setCell ⟨b, 2, none⟩ x2) :=
  ⟨((h.set 0 x0).set 1 x1).set 2 x2, ((upd_setCell w b 0 x0).trans' (upd_setCell _ b 1 x1)).trans' (upd_setCell _ b 2 x2)⟩
/-- What Do answers. -/
def doV (r : Sm.Vd) : Value := .tuple #[.agg #[.bool r.is, .bool r.conn, .int .i64 r.code], .bool r.counts]

set_option maxHeartbeats 4000000 in
set_option maxRecDepth 20000 in
theorem sdo_cannot (B b : Nat) (k : Sm.Bk) (v u : Value) (s : Nat) (id : Int) (e0 : Bool) (w : World) (h : BK w B b k v u) (hc : Sm.can id = false) :
    Calls Try.prog 22 #[.pointer (some ⟨b, 0, none⟩), .int .u8 (s : Int), .int .i64 id, .bool e0] w fun e w' => e = .returned (doV ⟨0, true, Sm.noConn s, Sm.noCode s, false⟩) ∧ BK w' B b k v u ∧ KF B w w' := by
  have H := hid' h
  clear h
  obtain ⟨cl, hcl⟩ : ∃ cl, (decide (1 ≤ id) && decide (id % 2 = 1)) = cl := ⟨_, rfl⟩
  have HC := hid' (sclient_any id cl hcl)
  have HX : Hid (cl = false ∨ (cl = true ∧ 2147483647 < id)) := hid' (by
    unfold Sm.can at hc
    rw [hcl] at hc
    cases cl
    · exact .inl rfl
    · refine .inr ⟨rfl, ?_⟩
      simp at hc
      omega)
  obtain ⟨nc, hnc⟩ : ∃ nc, Sm.noConn s = nc := ⟨_, rfl⟩
  obtain ⟨cd, hcd⟩ : ∃ cd, Sm.noCode s = cd := ⟨_, rfl⟩
  have HN := hid' (snoStream_any s)
  rw [hnc, hcd] at HN ⊢
  clear hc hcl hnc hcd
  rcases HX.out with rfl | ⟨rfl, hbig⟩
  all_goals
    go_enter Try.func22, Try.ntmps22
    go_wp2_with (refine wpl_alloc 29 rfl rfl _ szeroW ?_)
    intro b8 w8 hg8 ha8 hb8
    have HA8 := hid' ha8
    have HB8 := hid' hb8
    have HG8 := hid' hg8
    clear ha8 hb8 hg8
    go_wp2_with fail
    refine (HC.out _).mono ?_
    rintro e w1 ⟨rfl, hw1⟩
    subst w1
    go_wp2_with fail
    refine (HN.out _).mono ?_
    rintro e w1 ⟨rfl, hb1⟩
    have HA1 := hid' (HA8.out.keep hb1)
    have HB1 := hid' (below_two HB8.out hb1)
    clear hb1
    go_wp2_with (refine wpl_store 29 _ _ rfl rfl b8 #[.bool true, .bool nc, .int .i64 cd] (by kernel_rfl) (by kernel_rfl) _ _ HA1.out ssizeW rfl (by simp [Value.oneCell']) ?_)
    intro w2 ha2 hu2
    go_wp2
    have hld := sldW ha2
    have hlow : w.heap.size ≤ b8 := HG8.out
    refine bodyPost_ret (v := doV ⟨0, true, nc, cd, false⟩) (by simp [results, Try.results22, asAddr, hld, doV]) rfl ⟨rfl, (H.out.keep HB1.out).other hu2 HA1.out (by decide) (by decide) (by decide), (KF.of_below HB1.out H.out.size).new hu2 hlow H.out.size⟩

end Go.Proofs.Ythgdokcdpmoeeaa
