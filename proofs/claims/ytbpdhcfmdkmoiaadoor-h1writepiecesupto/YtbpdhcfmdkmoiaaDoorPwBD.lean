/-
  The document's Pieces, whatever the response: by its contract.
  The code's Bare: by its contract.
  The code's response's end and head: by their contracts.
-/
import Derived.Test.YtbpdhcfmdkmoiaaDoorPwBB
import Derived.Test.YtbpdhcfmdkmoiaaDoorPwBC
import Derived.Test.YtbpdhcfmdkmoiaaDoorProg
import Derived.Test.YtbpdhcfmdkmoiaaDoorPwAA
import Derived.Test.YtbpdhcfmdkmoiaaDoorPwAP
namespace Go.Proofs.YtbpdhcfmdkmoiaaDoor
open Go.RowKit

theorem rpieces22 (s : Int) (fv : Value) (b : ByteArray) (tv : Value) (fs ts : List Fd) (old head last : Bool) (w : World) (h1 : FW w fv fs) (h2 : FW w tv ts) (k1 : FO22 fs) (k2 : FO22 ts) (hb : b.size ≤ 1073741824) :
    Calls Tryd.prog 8 #[.agg (rp22 s fv b tv), .bool old, .bool head, .bool last] w fun e w' => ∃ ao cap, e = .returned (.tuple #[.slice ao (Hw.pieces ⟨s, fs, b, ts⟩ old head last).1.length cap, .int .i64 (Hw.pieces ⟨s, fs, b, ts⟩ old head last).2]) ∧ w'.ownsRow w.heap.size 9 1 (.slice ao (Hw.pieces ⟨s, fs, b, ts⟩ old head last).1.length cap) (Hw.pieces ⟨s, fs, b, ts⟩ old head last).1.length (sC (Hw.pieces ⟨s, fs, b, ts⟩ old head last).1) ∧ Below w.heap.size w w' := by
  cases head
  · cases hb0 : Hw.bare0 (Hw.stat s)
    · exact rpieces22b s fv b tv fs ts old false last w h1 h2 k1 k2 hb rfl hb0
    · exact rpieces22a s fv b tv fs ts old false last w h1 h2 k1 k2 hb (.inr hb0)
  · exact rpieces22a s fv b tv fs ts old true last w h1 h2 k1 k2 hb (.inl rfl)

end Go.Proofs.YtbpdhcfmdkmoiaaDoor

namespace Go.Proofs.YtbpdhcfmdkmoiaaDoor
open Go.RowKit

namespace Ms
def bare (m : ByteArray) (s : Int) : Bool := m.toList == [72, 69, 65, 68] || (decide (100 ≤ s) && decide (s ≤ 199)) || s == 204 || s == 304
end Ms

set_option maxHeartbeats 2000000 in
theorem cbare14 (m : ByteArray) (s : Int) (r : Bool) (hr : Ms.bare m s = r) (w : World) :
    Calls Tryd.prog 25 #[.string m, .int .i64 s] w fun e w' => e = .returned (.bool r) ∧ w' = w := by
  have HR := hid' hr
  unfold Ms.bare at HR
  clear hr
  cases c1 : (m.toList == [72, 69, 65, 68])
  rotate_left
  · have HF : Hid (r = true) := hid' (by rw [← HR.out, c1]; simp)
    by_cases d1 : 100 ≤ s
    · by_cases d2 : s < 200
      · have d3 : s ≤ 199 := by omega
        go_enter Tryd.func25, Tryd.ntmps25
        go_wp2
        go_ret
        exact ⟨by rw [HF.out]; rfl, rfl⟩
      · have d3 : ¬ s ≤ 199 := by omega
        go_enter Tryd.func25, Tryd.ntmps25
        go_wp2
        go_ret
        exact ⟨by rw [HF.out]; rfl, rfl⟩
    · go_enter Tryd.func25, Tryd.ntmps25
      go_wp2
      go_ret
      exact ⟨by rw [HF.out]; rfl, rfl⟩
  by_cases d1 : 100 ≤ s
  · by_cases d2 : s < 200
    · have d3 : s ≤ 199 := by omega
      have HF : Hid (r = true) := hid' (by rw [← HR.out, c1, decide_eq_true d1, decide_eq_true d3]; rfl)
      go_enter Tryd.func25, Tryd.ntmps25
      go_wp2
      go_ret
      exact ⟨by rw [HF.out]; rfl, rfl⟩
    · have d3 : ¬ s ≤ 199 := by omega
      cases c2 : (s == 204)
      · have HF : Hid (r = (s == 304)) := hid' (by rw [← HR.out, c1, decide_eq_true d1, decide_eq_false d3, c2]; rfl)
        go_enter Tryd.func25, Tryd.ntmps25
        go_wp2
        go_ret
        exact ⟨by rw [HF.out]; rfl, rfl⟩
      · have HF : Hid (r = true) := hid' (by rw [← HR.out, c2]; simp)
        go_enter Tryd.func25, Tryd.ntmps25
        go_wp2
        go_ret
        exact ⟨by rw [HF.out]; rfl, rfl⟩
  · have c2 : (s == 204) = false := beq_false_of_ne (by omega)
    have c3 : (s == 304) = false := beq_false_of_ne (by omega)
    have HF : Hid (r = false) := hid' (by rw [← HR.out, c1, decide_eq_false d1, c2, c3]; rfl)
    go_enter Tryd.func25, Tryd.ntmps25
    go_wp2
    go_ret
    exact ⟨by rw [HF.out]; rfl, rfl⟩

end Go.Proofs.YtbpdhcfmdkmoiaaDoor

namespace Go.Proofs.YtbpdhcfmdkmoiaaDoor
open Go.RowKit

/-- An end's cells. -/
def en22 (old last opn : Bool) : Array Value := #[.bool old, .bool last, .bool opn]

set_option maxHeartbeats 1000000 in
theorem cchk22 (old last opn : Bool) (w : World) : Calls Tryd.prog 28 #[.agg (en22 old last opn)] w fun e w' => e = .returned (.bool (opn && !old)) ∧ Below w.heap.size w w' := by
  have HB := hid' (bl_alloc w (.cells (en22 old last opn) 52))
  have hA : Ar (w.alloc (.cells (en22 old last opn) 52)) w.heap.size 52 (en22 old last opn) := heap_alloc_last w _
  unfold en22 at *
  cases opn
  · go_enter Tryd.func28, Tryd.ntmps28
    go_wp2
    go_ret
    exact ⟨rfl, HB.out⟩
  · cases old
    · go_enter Tryd.func28, Tryd.ntmps28
      go_wp2
      go_ret
      exact ⟨rfl, HB.out⟩
    · go_enter Tryd.func28, Tryd.ntmps28
      go_wp2
      go_ret
      exact ⟨rfl, HB.out⟩

set_option maxHeartbeats 2000000 in
theorem cends22 (old last opn : Bool) (w : World) : Calls Tryd.prog 48 #[.agg (en22 old last opn)] w fun e w' => e = .returned (.string ⟨(Hw.ends opn old last).toArray⟩) ∧ Below w.heap.size w w' := by
  have HB := hid' (bl_alloc w (.cells (en22 old last opn) 52))
  have HA := hid' (show Ar (w.alloc (.cells (en22 old last opn) 52)) w.heap.size 52 (en22 old last opn) from heap_alloc_last w _)
  have HC := hid' (fun W => cchk22 old last opn W)
  unfold en22 at *
  obtain ⟨xb, hxb⟩ : ∃ xb, w.heap.size = xb := ⟨_, rfl⟩
  clear hxb
  cases opn
  · cases old
    · cases last
      · go_enter Tryd.func48, Tryd.ntmps48
        go_wp2_with (go_at_call 28; refine (HC.out _).mono ?_; rintro e w1 ⟨rfl, hb1⟩; refine Hid.out ?_)
        refine hid' ?_
        have HB1 := hid' (below_two HB.out hb1)
        have HA1 := hid' (HA.out.keep hb1)
        have c0 := HA1.out.cell 0 _ rfl
        have c1 := HA1.out.cell 1 _ rfl
        have c2 := HA1.out.cell 2 _ rfl
        clear hb1
        go_wp2
        go_ret
        exact ⟨rfl, HB1.out⟩
      · go_enter Tryd.func48, Tryd.ntmps48
        go_wp2_with (go_at_call 28; refine (HC.out _).mono ?_; rintro e w1 ⟨rfl, hb1⟩; refine Hid.out ?_)
        refine hid' ?_
        have HB1 := hid' (below_two HB.out hb1)
        have HA1 := hid' (HA.out.keep hb1)
        have c0 := HA1.out.cell 0 _ rfl
        have c1 := HA1.out.cell 1 _ rfl
        have c2 := HA1.out.cell 2 _ rfl
        clear hb1
        go_wp2
        go_ret
        exact ⟨rfl, HB1.out⟩
    · cases last
      · go_enter Tryd.func48, Tryd.ntmps48
        go_wp2_with (go_at_call 28; refine (HC.out _).mono ?_; rintro e w1 ⟨rfl, hb1⟩; refine Hid.out ?_)
        refine hid' ?_
        have HB1 := hid' (below_two HB.out hb1)
        have HA1 := hid' (HA.out.keep hb1)
        have c0 := HA1.out.cell 0 _ rfl
        have c1 := HA1.out.cell 1 _ rfl
        have c2 := HA1.out.cell 2 _ rfl
        clear hb1
        go_wp2
        go_ret
        exact ⟨rfl, HB1.out⟩
      · go_enter Tryd.func48, Tryd.ntmps48
        go_wp2_with (go_at_call 28; refine (HC.out _).mono ?_; rintro e w1 ⟨rfl, hb1⟩; refine Hid.out ?_)
        refine hid' ?_
        have HB1 := hid' (below_two HB.out hb1)
        have HA1 := hid' (HA.out.keep hb1)
        have c0 := HA1.out.cell 0 _ rfl
        have c1 := HA1.out.cell 1 _ rfl
        have c2 := HA1.out.cell 2 _ rfl
        clear hb1
        go_wp2
        go_ret
        exact ⟨rfl, HB1.out⟩
  · cases old
    · cases last
      · go_enter Tryd.func48, Tryd.ntmps48
        go_wp2_with (go_at_call 28; refine (HC.out _).mono ?_; rintro e w1 ⟨rfl, hb1⟩; refine Hid.out ?_)
        refine hid' ?_
        have HB1 := hid' (below_two HB.out hb1)
        have HA1 := hid' (HA.out.keep hb1)
        have c0 := HA1.out.cell 0 _ rfl
        have c1 := HA1.out.cell 1 _ rfl
        have c2 := HA1.out.cell 2 _ rfl
        clear hb1
        go_wp2
        go_ret
        exact ⟨rfl, HB1.out⟩
      · go_enter Tryd.func48, Tryd.ntmps48
        go_wp2_with (go_at_call 28; refine (HC.out _).mono ?_; rintro e w1 ⟨rfl, hb1⟩; refine Hid.out ?_)
        refine hid' ?_
        have HB1 := hid' (below_two HB.out hb1)
        have HA1 := hid' (HA.out.keep hb1)
        have c0 := HA1.out.cell 0 _ rfl
        have c1 := HA1.out.cell 1 _ rfl
        have c2 := HA1.out.cell 2 _ rfl
        clear hb1
        go_wp2
        go_ret
        exact ⟨rfl, HB1.out⟩
    · cases last
      · go_enter Tryd.func48, Tryd.ntmps48
        go_wp2_with (go_at_call 28; refine (HC.out _).mono ?_; rintro e w1 ⟨rfl, hb1⟩; refine Hid.out ?_)
        refine hid' ?_
        have HB1 := hid' (below_two HB.out hb1)
        have HA1 := hid' (HA.out.keep hb1)
        have c0 := HA1.out.cell 0 _ rfl
        have c1 := HA1.out.cell 1 _ rfl
        have c2 := HA1.out.cell 2 _ rfl
        clear hb1
        go_wp2
        go_ret
        exact ⟨rfl, HB1.out⟩
      · go_enter Tryd.func48, Tryd.ntmps48
        go_wp2_with (go_at_call 28; refine (HC.out _).mono ?_; rintro e w1 ⟨rfl, hb1⟩; refine Hid.out ?_)
        refine hid' ?_
        have HB1 := hid' (below_two HB.out hb1)
        have HA1 := hid' (HA.out.keep hb1)
        have c0 := HA1.out.cell 0 _ rfl
        have c1 := HA1.out.cell 1 _ rfl
        have c2 := HA1.out.cell 2 _ rfl
        clear hb1
        go_wp2
        go_ret
        exact ⟨rfl, HB1.out⟩

namespace Hw
theorem hd_cat (A B C : T8) : ((((⟨A.toArray⟩ : ByteArray) ++ ⟨B.toArray⟩) ++ ⟨C.toArray⟩) ++ ⟨#[13, 10]⟩) = ⟨(A ++ B ++ C ++ crlf).toArray⟩ := by
  apply ByteArray.ext; simp [ByteArray.data_append, crlf]
theorem ends_len (o old last : Bool) : (ends o old last).length ≤ 64 := by cases o <;> cases old <;> cases last <;> decide
end Hw

set_option maxHeartbeats 4000000 in
set_option maxRecDepth 20000 in
theorem chead22 (s : Int) (fv : Value) (b : ByteArray) (tv : Value) (fs ts : List Fd) (old last opn : Bool) (w : World) (h : FW w fv fs) (hl : fs.length ≤ 1048576) (hs : ∀ f ∈ fs, f.n.size ≤ 140737488355328) (hz : (Hw.lns fs).length ≤ 70368744177664) (hT : TB w) :
    Calls Tryd.prog 27 #[.agg #[.int .i64 s, fv, .string b, tv], .agg (en22 old last opn)] w fun e w' => e = .returned (.string ⟨(Hw.top ⟨s, fs, b, ts⟩ opn old last).toArray⟩) ∧ Below w.heap.size w w' := by
  have HX := hid' (show Ar (w.alloc (.cells #[.int .i64 s, fv, .string b, tv] 24)) w.heap.size 24 #[.int .i64 s, fv, .string b, tv] from heap_alloc_last w _)
  have HB1 := hid' (bl_alloc w (.cells #[.int .i64 s, fv, .string b, tv] 24))
  obtain ⟨A, hA⟩ : ∃ A, Hw.line1 s = A := ⟨_, rfl⟩
  obtain ⟨F, hF⟩ : ∃ F, Hw.lns fs = F := ⟨_, rfl⟩
  obtain ⟨C, hC⟩ : ∃ C, Hw.ends opn old last = C := ⟨_, rfl⟩
  have la : A.length ≤ 64 := by rw [← hA]; exact Hw.line1_len s
  have lc : C.length ≤ 64 := by rw [← hC]; exact Hw.ends_len _ _ _
  have HTOP : Hid (Hw.top ⟨s, fs, b, ts⟩ opn old last = A ++ F ++ C ++ Hw.crlf) := hid' (by unfold Hw.top; rw [hA, hF, hC])
  have HST := hid' (fun W => cstat22 s W)
  have HLN := hid' (fun W (hw : Below w.heap.size w W) => cline22 (Hw.stat s) W (Hw.stat_stat s) (hT.keep hw))
  rw [Hw.line1_stat, hA] at HLN
  have HFW := hid' (fun W (hw : Below w.heap.size w W) => cflds22 fv fs W (h.keep hw) hl hs hz)
  rw [hF] at HFW
  have HEN := hid' (fun W => cends22 old last opn W)
  rw [hC] at HEN
  have k1 : ¬ 9223372036854775807 < A.length + F.length := by rw [hF] at hz; omega
  have k2 : ¬ 9223372036854775807 < A.length + F.length + C.length := by rw [hF] at hz; omega
  have k3 : ¬ 9223372036854775807 < A.length + F.length + C.length + 2 := by rw [hF] at hz; omega
  clear h hl hs hz hT hA hF hC la lc
  unfold en22 at *
  go_enter Tryd.func27, Tryd.ntmps27
  go_upto_region 1 with fail
  have hsz : (w.alloc (.cells #[.int .i64 s, fv, .string b, tv] 24)).heap.size = w.heap.size + 1 := by simp
  obtain ⟨xb, hxb⟩ : ∃ xb, w.heap.size = xb := ⟨_, rfl⟩
  rw [hxb] at HX hsz ⊢
  generalize w.alloc (.cells #[.int .i64 s, fv, .string b, tv] 24) = w1 at *
  have HY := hid' (show Ar (w1.alloc (.cells #[.bool old, .bool last, .bool opn] 52)) w1.heap.size 52 #[.bool old, .bool last, .bool opn] from heap_alloc_last w1 _)
  have HX2 := hid' (HX.out.keep (bl_alloc w1 (.cells #[.bool old, .bool last, .bool opn] 52)))
  have HB2 := hid' (below_two HB1.out (bl_alloc w1 (.cells #[.bool old, .bool last, .bool opn] 52)))
  obtain ⟨yb, hyb⟩ : ∃ yb, xb + 1 = yb := ⟨_, rfl⟩
  rw [hsz, hyb] at HY
  rw [hyb]
  generalize w1.alloc (.cells #[.bool old, .bool last, .bool opn] 52) = w2 at *
  clear hxb hyb hsz
  have q0 : ∀ z : BW w2, z.W.cell? ⟨xb, 0, none⟩ = some (.int .i64 s) := fun z => (HX2.out.keep z.h).cell 0 _ rfl
  have q1 : ∀ z : BW w2, z.W.cell? ⟨xb, 1, none⟩ = some fv := fun z => (HX2.out.keep z.h).cell 1 _ rfl
  have q2 : ∀ z : BW w2, z.W.cell? ⟨yb, 0, none⟩ = some (.bool old) := fun z => (HY.out.keep z.h).cell 0 _ rfl
  have q3 : ∀ z : BW w2, z.W.cell? ⟨yb, 1, none⟩ = some (.bool last) := fun z => (HY.out.keep z.h).cell 1 _ rfl
  have q4 : ∀ z : BW w2, z.W.cell? ⟨yb, 2, none⟩ = some (.bool opn) := fun z => (HY.out.keep z.h).cell 2 _ rfl
  have hne : Nonempty (BW w2) := ⟨⟨w2, Below.refl _ _⟩⟩
  have HLN2 := hid' (fun z : BW w2 => HLN.out z.W (below_two HB2.out z.h))
  have HFW2 := hid' (fun z : BW w2 => HFW.out z.W (below_two HB2.out z.h))
  refine wp_region_below_s (by kernel_rfl) (by kernel_rfl) ?_
  repeat (refine QS.step (fun K hK => ?_); go_simp; first | (refine hK _ ?_; clear hK K) | (apply Exists.intro; refine ⟨fun _ => ?_, hK _ ?_⟩; (first | (go_at_call 26; exact Calls.below_same (HST.out _)) | (go_at_call 37; exact Calls.below_of (HLN2.out _)) | (go_at_call 47; exact Calls.below_of (HFW2.out _)) | (go_at_call 48; exact Calls.below_of (HEN.out _))); clear hK K))
  refine QS.nil ?_
  rintro _ ⟨⟨wq, hBq⟩, rfl⟩
  have HBq := hid' (below_two HB2.out hBq)
  clear hBq q0 q1 q2 q3 q4
  go_wp2
  go_ret
  refine ⟨?_, HBq.out⟩
  rw [HTOP.out, ← Hw.hd_cat]
  rfl

end Go.Proofs.YtbpdhcfmdkmoiaaDoor
