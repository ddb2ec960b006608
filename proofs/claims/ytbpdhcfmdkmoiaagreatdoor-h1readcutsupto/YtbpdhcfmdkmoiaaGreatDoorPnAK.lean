/-
  The code's isPlain, isOfHead, Trailers, text.Same, decimal, Length: by their contracts.
-/
import Derived.Deep.CutRange
import Derived.Test.YtbpdhcfmdkmoiaaGreatDoorPnAI
import Derived.Test.YtbpdhcfmdkmoiaaGreatDoorPnAJ
namespace Go.Proofs.YtbpdhcfmdkmoiaaGreatDoor
open Go.RowKit

/-- What a world holds of the library's variables. -/
def TB (w : World) : Prop := Lib.TabIs Tryz.prog w "internal/strconv.uint64pow10" .u64 Lib.pow10Tab ∧ ∃ m, w.cell? ⟨0, 0, none⟩ = some (.int .i64 m)
theorem cell_lt {w : World} {a : Addr} {v : Value} (h : w.cell? a = some v) : a.block < w.heap.size := by
  unfold World.cell? at h
  cases hq : w.heap[a.block]? with
  | none => rw [hq] at h; simp at h
  | some o => exact (Array.getElem?_eq_some_iff.1 hq).1
theorem TB.keep {w w' : World} (h : TB w) (hb : Below w.heap.size w w') : TB w' := by
  obtain ⟨h1, m, h2⟩ := h
  exact ⟨tab_below h1 hb, m, (hb.cell (cell_lt h2)).trans h2⟩

set_option maxHeartbeats 4000000 in
set_option maxRecDepth 20000 in
theorem cplain14 (f : Fd) (r : Bool) (hr : Ms.plain f = r) (w : World) (hn : f.n.size ≤ 140737488355328) (hv : f.v.size ≤ 140737488355328) :
    Calls Tryz.prog 133 #[.agg #[.string f.n, .string f.v]] w fun e w' => e = .returned (.bool r) ∧ Below w.heap.size w w' := by
  obtain ⟨y, hy⟩ : ∃ y : ByteArray, (⟨(Tx.lower f.n.data.toList).toArray⟩ : ByteArray) = y := ⟨_, rfl⟩
  obtain ⟨t1, h1⟩ : ∃ t1, Ms.sound f = t1 := ⟨_, rfl⟩
  obtain ⟨t2, h2⟩ : ∃ t2, (f.n.toList == y.toList) = t2 := ⟨_, rfl⟩
  obtain ⟨t4, h4⟩ : ∃ t4, Ms.bnd f.n = t4 := ⟨_, rfl⟩
  have HT : Hid (∀ W, Calls Tryz.prog 91 #[.agg #[.string f.n, .string f.v]] W fun e w' => e = .returned (.bool t1) ∧ Below W.heap.size W w') := hid' (fun W => csound14 f t1 h1 W hn hv)
  have HLo : Hid (∀ W, Calls Tryz.prog 88 #[.string f.n] W fun e w' => e = .returned (.string y) ∧ Below W.heap.size W w') := hid' (fun W => by have := lower_any f.n W (by unfold maxLen; omega); rwa [hy] at this)
  have HBd : Hid (∀ W, Calls Tryz.prog 116 #[.string f.n] W fun e w' => e = .returned (.bool t4) ∧ Below W.heap.size W w') := hid' (fun W => cbnd14 f.n t4 h4 W hn)
  have HR : Hid ((t1 && t2 && !t4) = r) := hid' (by
    rw [← hr, ← h1, ← h2, ← h4, ← hy, ba_list, Lib.toList_data]
    unfold Ms.plain Ms.sound Ms.tx
    rw [show (f.n.data.toList == Tx.lower f.n.data.toList) = (Ms.lo f.n == f.n.data.toList) from Bool.eq_iff_iff.2 (by rw [beq_iff_eq, beq_iff_eq]; exact eq_comm)]
    cases Tx.isTok f.n.data.toList <;> cases (Ms.lo f.n == f.n.data.toList) <;> cases Tx.isVal f.v.data.toList <;> rfl)
  clear hr h1 h4 hy
  cases t1
  · have HF : Hid (r = false) := hid' (by rw [← HR.out]; rfl)
    clear HR
    go_enter Tryz.func133, Tryz.ntmps133
    go_upto_region 1 with fail
    have HA1 : Hid (Ar (w.alloc (.cells #[.string f.n, .string f.v] 52)) w.heap.size 52 #[.string f.n, .string f.v]) := hid' (heap_alloc_last w _)
    have HB1 : Hid (Below w.heap.size w (w.alloc (.cells #[.string f.n, .string f.v] 52))) := hid' ((Below.refl _ _).alloc (Nat.le_refl _) _)
    obtain ⟨xb, hxb⟩ : ∃ xb, w.heap.size = xb := ⟨_, rfl⟩
    rw [hxb] at HA1 ⊢
    generalize w.alloc (.cells #[.string f.n, .string f.v] 52) = w1 at *
    have q0 : ∀ z : BW w1, z.W.cell? ⟨xb, 0, none⟩ = some (.string f.n) := fun z => (HA1.out.keep z.h).cell 0 _ rfl
    have q1 : ∀ z : BW w1, z.W.cell? ⟨xb, 1, none⟩ = some (.string f.v) := fun z => (HA1.out.keep z.h).cell 1 _ rfl
    have hne : Nonempty (BW w1) := ⟨⟨w1, Below.refl _ _⟩⟩
    refine wp_region_below_s (by kernel_rfl) (by kernel_rfl) ?_
    repeat (refine QS.step (fun K hK => ?_); go_simp; first | (refine hK _ ?_; clear hK K) | (apply Exists.intro; refine ⟨fun _ => ?_, hK _ ?_⟩; (first | (go_at_call 91; exact Calls.below_of (HT.out _)) | (go_at_call 88; exact Calls.below_of (HLo.out _)) | (go_at_call 116; exact Calls.below_of (HBd.out _))); clear hK K))
    refine QS.nil ?_
    rintro _ ⟨⟨wq, hBq⟩, rfl⟩
    have HBq := hid' hBq
    clear hBq q0 q1
    go_wp2
    go_ret
    exact ⟨by rw [HF.out]; rfl, below_two HB1.out HBq.out⟩
  cases t2
  · have HF : Hid (r = false) := hid' (by rw [← HR.out]; rfl)
    clear HR
    go_enter Tryz.func133, Tryz.ntmps133
    go_upto_region 1 with fail
    have HA1 : Hid (Ar (w.alloc (.cells #[.string f.n, .string f.v] 52)) w.heap.size 52 #[.string f.n, .string f.v]) := hid' (heap_alloc_last w _)
    have HB1 : Hid (Below w.heap.size w (w.alloc (.cells #[.string f.n, .string f.v] 52))) := hid' ((Below.refl _ _).alloc (Nat.le_refl _) _)
    obtain ⟨xb, hxb⟩ : ∃ xb, w.heap.size = xb := ⟨_, rfl⟩
    rw [hxb] at HA1 ⊢
    generalize w.alloc (.cells #[.string f.n, .string f.v] 52) = w1 at *
    have q0 : ∀ z : BW w1, z.W.cell? ⟨xb, 0, none⟩ = some (.string f.n) := fun z => (HA1.out.keep z.h).cell 0 _ rfl
    have q1 : ∀ z : BW w1, z.W.cell? ⟨xb, 1, none⟩ = some (.string f.v) := fun z => (HA1.out.keep z.h).cell 1 _ rfl
    have hne : Nonempty (BW w1) := ⟨⟨w1, Below.refl _ _⟩⟩
    refine wp_region_below_s (by kernel_rfl) (by kernel_rfl) ?_
    repeat (refine QS.step (fun K hK => ?_); go_simp; first | (refine hK _ ?_; clear hK K) | (apply Exists.intro; refine ⟨fun _ => ?_, hK _ ?_⟩; (first | (go_at_call 91; exact Calls.below_of (HT.out _)) | (go_at_call 88; exact Calls.below_of (HLo.out _)) | (go_at_call 116; exact Calls.below_of (HBd.out _))); clear hK K))
    refine QS.nil ?_
    rintro _ ⟨⟨wq, hBq⟩, rfl⟩
    have HBq := hid' hBq
    clear hBq q0 q1
    go_wp2
    go_ret
    exact ⟨by rw [HF.out]; rfl, below_two HB1.out HBq.out⟩
  cases t4
  · have HF : Hid (r = true) := hid' (by rw [← HR.out]; rfl)
    clear HR
    go_enter Tryz.func133, Tryz.ntmps133
    go_upto_region 1 with fail
    have HA1 : Hid (Ar (w.alloc (.cells #[.string f.n, .string f.v] 52)) w.heap.size 52 #[.string f.n, .string f.v]) := hid' (heap_alloc_last w _)
    have HB1 : Hid (Below w.heap.size w (w.alloc (.cells #[.string f.n, .string f.v] 52))) := hid' ((Below.refl _ _).alloc (Nat.le_refl _) _)
    obtain ⟨xb, hxb⟩ : ∃ xb, w.heap.size = xb := ⟨_, rfl⟩
    rw [hxb] at HA1 ⊢
    generalize w.alloc (.cells #[.string f.n, .string f.v] 52) = w1 at *
    have q0 : ∀ z : BW w1, z.W.cell? ⟨xb, 0, none⟩ = some (.string f.n) := fun z => (HA1.out.keep z.h).cell 0 _ rfl
    have q1 : ∀ z : BW w1, z.W.cell? ⟨xb, 1, none⟩ = some (.string f.v) := fun z => (HA1.out.keep z.h).cell 1 _ rfl
    have hne : Nonempty (BW w1) := ⟨⟨w1, Below.refl _ _⟩⟩
    refine wp_region_below_s (by kernel_rfl) (by kernel_rfl) ?_
    repeat (refine QS.step (fun K hK => ?_); go_simp; first | (refine hK _ ?_; clear hK K) | (apply Exists.intro; refine ⟨fun _ => ?_, hK _ ?_⟩; (first | (go_at_call 91; exact Calls.below_of (HT.out _)) | (go_at_call 88; exact Calls.below_of (HLo.out _)) | (go_at_call 116; exact Calls.below_of (HBd.out _))); clear hK K))
    refine QS.nil ?_
    rintro _ ⟨⟨wq, hBq⟩, rfl⟩
    have HBq := hid' hBq
    clear hBq q0 q1
    go_wp2
    go_ret
    exact ⟨by rw [HF.out]; rfl, below_two HB1.out HBq.out⟩
  · have HF : Hid (r = false) := hid' (by rw [← HR.out]; rfl)
    clear HR
    go_enter Tryz.func133, Tryz.ntmps133
    go_upto_region 1 with fail
    have HA1 : Hid (Ar (w.alloc (.cells #[.string f.n, .string f.v] 52)) w.heap.size 52 #[.string f.n, .string f.v]) := hid' (heap_alloc_last w _)
    have HB1 : Hid (Below w.heap.size w (w.alloc (.cells #[.string f.n, .string f.v] 52))) := hid' ((Below.refl _ _).alloc (Nat.le_refl _) _)
    obtain ⟨xb, hxb⟩ : ∃ xb, w.heap.size = xb := ⟨_, rfl⟩
    rw [hxb] at HA1 ⊢
    generalize w.alloc (.cells #[.string f.n, .string f.v] 52) = w1 at *
    have q0 : ∀ z : BW w1, z.W.cell? ⟨xb, 0, none⟩ = some (.string f.n) := fun z => (HA1.out.keep z.h).cell 0 _ rfl
    have q1 : ∀ z : BW w1, z.W.cell? ⟨xb, 1, none⟩ = some (.string f.v) := fun z => (HA1.out.keep z.h).cell 1 _ rfl
    have hne : Nonempty (BW w1) := ⟨⟨w1, Below.refl _ _⟩⟩
    refine wp_region_below_s (by kernel_rfl) (by kernel_rfl) ?_
    repeat (refine QS.step (fun K hK => ?_); go_simp; first | (refine hK _ ?_; clear hK K) | (apply Exists.intro; refine ⟨fun _ => ?_, hK _ ?_⟩; (first | (go_at_call 91; exact Calls.below_of (HT.out _)) | (go_at_call 88; exact Calls.below_of (HLo.out _)) | (go_at_call 116; exact Calls.below_of (HBd.out _))); clear hK K))
    refine QS.nil ?_
    rintro _ ⟨⟨wq, hBq⟩, rfl⟩
    have HBq := hid' hBq
    clear hBq q0 q1
    go_wp2
    go_ret
    exact ⟨by rw [HF.out]; rfl, below_two HB1.out HBq.out⟩

set_option maxHeartbeats 4000000 in
set_option maxRecDepth 20000 in
theorem cofh14 (x : ByteArray) (r : Bool) (hr : Ms.noTr.contains x.toList = r) (w : World) :
    Calls Tryz.prog 134 #[.string x] w fun e w' => e = .returned (.bool r) ∧ w' = w := by
  have HR : Hid ((x.toList == [104, 111, 115, 116] || (x.toList == [116, 101] || (x.toList == [116, 114, 97, 105, 108, 101, 114] || (x.toList == [99, 111, 110, 116, 101, 110, 116, 45, 108, 101, 110, 103, 116, 104] || (x.toList == [99, 111, 110, 116, 101, 110, 116, 45, 116, 121, 112, 101] || (x.toList == [99, 111, 110, 116, 101, 110, 116, 45, 101, 110, 99, 111, 100, 105, 110, 103] || (x.toList == [99, 111, 110, 116, 101, 110, 116, 45, 114, 97, 110, 103, 101] || (x.toList == [97, 117, 116, 104, 111, 114, 105, 122, 97, 116, 105, 111, 110] || (x.toList == [101, 120, 112, 101, 99, 116] || (x.toList == [99, 111, 111, 107, 105, 101] || (x.toList == [115, 101, 116, 45, 99, 111, 111, 107, 105, 101] || false))))))))))) = r) := hid' (by rw [← hr]; simp only [Ms.noTr, List.contains_cons, List.contains_nil])
  clear hr
  cases c0 : (x.toList == [104, 111, 115, 116])
  rotate_left
  · have HF : Hid (r = true) := hid' (by rw [← HR.out, c0]; simp)
    go_enter Tryz.func134, Tryz.ntmps134
    go_wp2
    go_ret
    exact ⟨by rw [HF.out]; rfl, rfl⟩
  cases c1 : (x.toList == [116, 101])
  rotate_left
  · have HF : Hid (r = true) := hid' (by rw [← HR.out, c1]; simp)
    go_enter Tryz.func134, Tryz.ntmps134
    go_wp2
    go_ret
    exact ⟨by rw [HF.out]; rfl, rfl⟩
  cases c2 : (x.toList == [116, 114, 97, 105, 108, 101, 114])
  rotate_left
  · have HF : Hid (r = true) := hid' (by rw [← HR.out, c2]; simp)
    go_enter Tryz.func134, Tryz.ntmps134
    go_wp2
    go_ret
    exact ⟨by rw [HF.out]; rfl, rfl⟩
  cases c3 : (x.toList == [99, 111, 110, 116, 101, 110, 116, 45, 108, 101, 110, 103, 116, 104])
  rotate_left
  · have HF : Hid (r = true) := hid' (by rw [← HR.out, c3]; simp)
    go_enter Tryz.func134, Tryz.ntmps134
    go_wp2
    go_ret
    exact ⟨by rw [HF.out]; rfl, rfl⟩
  cases c4 : (x.toList == [99, 111, 110, 116, 101, 110, 116, 45, 116, 121, 112, 101])
  rotate_left
  · have HF : Hid (r = true) := hid' (by rw [← HR.out, c4]; simp)
    go_enter Tryz.func134, Tryz.ntmps134
    go_wp2
    go_ret
    exact ⟨by rw [HF.out]; rfl, rfl⟩
  cases c5 : (x.toList == [99, 111, 110, 116, 101, 110, 116, 45, 101, 110, 99, 111, 100, 105, 110, 103])
  rotate_left
  · have HF : Hid (r = true) := hid' (by rw [← HR.out, c5]; simp)
    go_enter Tryz.func134, Tryz.ntmps134
    go_wp2
    go_ret
    exact ⟨by rw [HF.out]; rfl, rfl⟩
  cases c6 : (x.toList == [99, 111, 110, 116, 101, 110, 116, 45, 114, 97, 110, 103, 101])
  rotate_left
  · have HF : Hid (r = true) := hid' (by rw [← HR.out, c6]; simp)
    go_enter Tryz.func134, Tryz.ntmps134
    go_wp2
    go_ret
    exact ⟨by rw [HF.out]; rfl, rfl⟩
  cases c7 : (x.toList == [97, 117, 116, 104, 111, 114, 105, 122, 97, 116, 105, 111, 110])
  rotate_left
  · have HF : Hid (r = true) := hid' (by rw [← HR.out, c7]; simp)
    go_enter Tryz.func134, Tryz.ntmps134
    go_wp2
    go_ret
    exact ⟨by rw [HF.out]; rfl, rfl⟩
  cases c8 : (x.toList == [101, 120, 112, 101, 99, 116])
  rotate_left
  · have HF : Hid (r = true) := hid' (by rw [← HR.out, c8]; simp)
    go_enter Tryz.func134, Tryz.ntmps134
    go_wp2
    go_ret
    exact ⟨by rw [HF.out]; rfl, rfl⟩
  cases c9 : (x.toList == [99, 111, 111, 107, 105, 101])
  rotate_left
  · have HF : Hid (r = true) := hid' (by rw [← HR.out, c9]; simp)
    go_enter Tryz.func134, Tryz.ntmps134
    go_wp2
    go_ret
    exact ⟨by rw [HF.out]; rfl, rfl⟩
  cases c10 : (x.toList == [115, 101, 116, 45, 99, 111, 111, 107, 105, 101])
  rotate_left
  · have HF : Hid (r = true) := hid' (by rw [← HR.out, c10]; simp)
    go_enter Tryz.func134, Tryz.ntmps134
    go_wp2
    go_ret
    exact ⟨by rw [HF.out]; rfl, rfl⟩
  have HF : Hid (r = false) := hid' (by rw [← HR.out, c0, c1, c2, c3, c4, c5, c6, c7, c8, c9, c10]; rfl)
  go_enter Tryz.func134, Tryz.ntmps134
  go_wp2
  go_ret
  exact ⟨by rw [HF.out]; rfl, rfl⟩

set_option maxHeartbeats 4000000 in
set_option maxRecDepth 20000 in
theorem ctrail14 (v : Value) (l : List Fd) (c : Int) (hc : Ms.trail l = c) (w : World) (h : FW w v l) (hl : l.length ≤ 1048576) (hs : ∀ f ∈ l, f.n.size ≤ 140737488355328 ∧ f.v.size ≤ 140737488355328) :
    Calls Tryz.prog 128 #[v] w fun e w' => e = .returned (.int .i64 c) ∧ Below w.heap.size w w' := by
  obtain ⟨ao, cap, hv⟩ := h.shape
  subst hv
  obtain ⟨n, hn⟩ : ∃ n, l.length = n := ⟨_, rfl⟩
  rw [hn] at h hl ⊢
  have H := hid' h
  have HN := hid' hn
  have HS := hid' hs
  have HC := hid' hc
  clear h hn hs hc
  go_enter Tryz.func128, Tryz.ntmps128
  go_wp2
  go_loopw [7] (fun s7 wr => ∃ k : Nat, s7 = .int .i64 (k : Int) ∧ k ≤ n ∧ Hid (Ms.trail (l.drop k) = c) ∧ Hid (Below w.heap.size w wr)) (fun s7 _ => n - (intOf s7).toNat)
  case atStart => exact ⟨0, rfl, Nat.zero_le _, HC, hid' (Below.refl _ _)⟩
  case round =>
    obtain ⟨k, rfl, hk, HI, HB⟩ := hrel
    by_cases hlt : k < n
    · have hlt2 : (k : Int) < (n : Int) := by omega
      obtain ⟨p, hp⟩ : ∃ p, l[k]? = some p := ⟨_, List.getElem?_eq_getElem (by rw [HN.out]; exact hlt)⟩
      obtain ⟨a, hao, y0, y1⟩ := (H.out.keep HB.out).two k p hp
      subst hao
      have hd := Ms.trail_drop hp
      rw [HI.out] at hd
      have HD := hid' hd
      have HPS := hid' (HS.out p (List.mem_of_getElem? hp))
      obtain ⟨pd, hpd⟩ : ∃ pd, Ms.psd p.n = pd := ⟨_, rfl⟩
      have HPD := hid' hpd
      obtain ⟨pl, hpl⟩ : ∃ pl, Ms.plain p = pl := ⟨_, rfl⟩
      have HPL := hid' hpl
      obtain ⟨g, hg⟩ : ∃ g, Ms.noTr.contains p.n.toList = g := ⟨_, rfl⟩
      have HG := hid' hg
      have HX := hid' (fd_new wr p)
      have HB1 := hid' (below_two HB.out (bl_alloc wr (.cells #[.string p.n, .string p.v] 52)))
      clear hp hd hpd hpl hg
      go_wp2_with fail
      obtain ⟨xb, hxb⟩ : ∃ xb, wr.heap.size = xb := ⟨_, rfl⟩
      rw [hxb] at HX ⊢
      clear hxb y0 y1 HB
      generalize wr.alloc (.cells #[.string p.n, .string p.v] 52) = w1 at *
      refine (cpsd14 p pd HPD.out w1).mono ?_
      rintro e w2 ⟨rfl, hb2⟩
      have HB2 := hid' (below_two HB1.out hb2)
      have HX2 := hid' (HX.out.keep hb2)
      have x0 := HX2.out.cell 0 _ rfl
      have x1 := HX2.out.cell 1 _ rfl
      clear hb2 HB1 HX
      cases pd
      · go_wp2_with fail
        refine (cplain14 p pl HPL.out w2 HPS.out.1 HPS.out.2).mono ?_
        rintro e w3 ⟨rfl, hb3⟩
        have HB3 := hid' (below_two HB2.out hb3)
        have HX3 := hid' (HX2.out.keep hb3)
        clear x0 x1
        have x0 := HX3.out.cell 0 _ rfl
        clear hb3 HB2 HX2
        cases pl
        · have HE : Hid (c = 143) := hid' (by rw [HD.out, HPD.out, HPL.out]; rfl)
          go_wp2
          go_ret
          exact ⟨by rw [HE.out]; rfl, HB3.out⟩
        · go_wp2_with fail
          refine (cofh14 p.n g HG.out w3).mono ?_
          rintro e w3' ⟨rfl, hw3⟩
          subst w3'
          cases g
          · have HE : Hid (Ms.trail (l.drop (k + 1)) = c) := hid' (by rw [HD.out, HPD.out, HPL.out, HG.out]; rfl)
            go_wp2
            go_roundw
            case rel => exact ⟨k + 1, by go_num, by omega, HE, HB3⟩
            case measure => simp [intOf]; omega
          · have HE : Hid (c = 143) := hid' (by rw [HD.out, HPD.out, HPL.out, HG.out]; rfl)
            go_wp2
            go_ret
            exact ⟨by rw [HE.out]; rfl, HB3.out⟩
      · have HE : Hid (c = 140) := hid' (by rw [HD.out, HPD.out]; rfl)
        go_wp2
        go_ret
        exact ⟨by rw [HE.out]; rfl, HB2.out⟩
    · obtain rfl : k = n := by omega
      have hlt2 : ¬ (k : Int) < (k : Int) := by omega
      have HE : Hid (c = 0) := hid' (by rw [← HI.out, List.drop_of_length_le (by rw [HN.out]; exact Nat.le_refl _)]; rfl)
      clear hlt
      go_wp2
      go_ret
      exact ⟨by rw [HE.out]; rfl, HB.out⟩

set_option maxHeartbeats 1000000 in
theorem csame14 (a b : ByteArray) (r : Bool) (hr : (Tx.lower a.data.toList == Tx.lower b.data.toList) = r) (w : World) (ha : a.size ≤ 140737488355328) (hb : b.size ≤ 140737488355328) :
    Calls Tryz.prog 89 #[.string a, .string b] w fun e w' => e = .returned (.bool r) ∧ Below w.heap.size w w' := by
  obtain ⟨y, hy⟩ : ∃ y : ByteArray, (⟨(Tx.lower a.data.toList).toArray⟩ : ByteArray) = y := ⟨_, rfl⟩
  obtain ⟨z, hz⟩ : ∃ z : ByteArray, (⟨(Tx.lower b.data.toList).toArray⟩ : ByteArray) = z := ⟨_, rfl⟩
  have HR : Hid ((y.toList == z.toList) = r) := hid' (by rw [← hr, ← hy, ← hz, ba_list, ba_list])
  clear hr
  go_enter Tryz.func89, Tryz.ntmps89
  go_wp2_with fail
  refine (lower_any a _ (by unfold maxLen; omega)).mono ?_
  rintro e w1 ⟨rfl, hb1⟩
  rw [hy]
  have HB1 := hid' hb1
  clear hb1 hy
  go_wp2_with fail
  refine (lower_any b _ (by unfold maxLen; omega)).mono ?_
  rintro e w2 ⟨rfl, hb2⟩
  rw [hz]
  have HB2 := hid' (below_two HB1.out hb2)
  clear hb2 hz
  go_wp2
  go_ret
  exact ⟨by rw [← HR.out]; rfl, HB2.out⟩

theorem num_bd (l : List UInt8) : 0 ≤ (Tx.num 10 l).1 ∧ (Tx.num 10 l).1 ≤ 9223372036854775807 := by
  unfold Tx.num
  split
  · exact ⟨by decide, by decide⟩
  · split
    · exact ⟨by decide, by decide⟩
    · rename_i h
      rw [Tx.top_eq] at h
      exact ⟨Tx.numv_nonneg 10 (by decide) l, by simp only; omega⟩

set_option maxHeartbeats 2000000 in
set_option maxRecDepth 20000 in
theorem cdec14 (x : ByteArray) (d : Bool) (hd : Ms.dec x = d) (w : World) (hx : x.size ≤ 140737488355328) (hT : TB w) :
    Calls Tryz.prog 90 #[.string x] w fun e w' => e = .returned (.tuple #[.int .i64 (Tx.num 10 x.data.toList).1, .bool d]) ∧ Below w.heap.size w w' := by
  have hbd := num_bd x.data.toList
  obtain ⟨n, hn⟩ : ∃ n, (Tx.num 10 x.data.toList).1 = n := ⟨_, rfl⟩
  obtain ⟨er, her⟩ : ∃ er, (Tx.num 10 x.data.toList).2 = er := ⟨_, rfl⟩
  have HNM : Hid (∀ W, Calls Tryz.prog 108 #[.string x] W fun e w' => e = .returned (.tuple #[.int .i64 n, .int .i64 er]) ∧ w' = W) := hid' (fun W => by have := number_any x W (by unfold maxLen; omega); rwa [hn, her] at this)
  rw [hn] at hbd ⊢
  have HD := hid' hd
  have HTB := hid' hT
  have HBD := hid' hbd
  have hyes : d = true → er = 0 ∧ x.size ≤ 15 ∧ Lib.itoa n = Ms.tx x := by
    intro e
    rw [e] at hd
    obtain ⟨u, h1, h2, h3⟩ := Ms.dec_num hd
    have hs : x.size ≤ 15 := by
      rw [Ms.dec_eq] at hd
      simp only [Bool.and_eq_true, decide_eq_true_eq] at hd
      exact hd.1.1.2
    unfold Ms.tx at h1 h2 ⊢
    rw [h1] at hn her
    simp only at hn her
    exact ⟨her.symm, hs, by rw [← hn, Lib.itoa_nonneg]; exact h2⟩
  have hno : er = 0 → x.size ≤ 15 → Lib.itoa n = Ms.tx x → d = true := by
    intro e1 e2 e3
    rw [← hd]
    unfold Ms.tx at e3
    refine Ms.dec_of (by unfold Ms.tx; rw [her]; exact e1) e2 ?_
    unfold Ms.tx
    rw [hn]; exact e3
  have HY := hid' hyes
  have HNO := hid' hno
  clear hd hT hbd hn her hyes hno
  cases c1 : (er == 0)
  · have HF : Hid (d = false) := hid' (by cases d with | false => rfl | true => have := (HY.out rfl).1; rw [this] at c1; simp at c1)
    go_enter Tryz.func90, Tryz.ntmps90
    go_wp2_with fail
    refine (HNM.out _).mono ?_
    rintro e w1 ⟨rfl, hw⟩
    subst w1
    go_wp2
    go_ret2
    exact ⟨by rw [HF.out]; rfl, Below.refl _ _⟩
  by_cases h15 : x.size ≤ 15
  · have h15' : (x.size : Int) ≤ 15 := by omega
    obtain ⟨y, hy⟩ : ∃ y : ByteArray, (⟨(Lib.itoa n).toArray⟩ : ByteArray) = y := ⟨_, rfl⟩
    have HF : Hid (d = (y.toList == x.toList)) := hid' (by
      have h0 : er = 0 := beq_iff_eq.1 c1
      rw [← hy, ba_list, Lib.toList_data]
      cases d with
      | false =>
        symm
        apply beq_false_of_ne
        intro e
        exact absurd (HNO.out h0 h15 e) (by decide)
      | true =>
        have := (HY.out rfl).2.2
        symm
        rw [beq_iff_eq]
        exact this)
    go_enter Tryz.func90, Tryz.ntmps90
    go_wp2_with fail
    refine (HNM.out _).mono ?_
    rintro e w1 ⟨rfl, hw⟩
    subst w1
    go_wp2_with fail
    refine (decimal_any n (by have := HBD.out.1; omega) HBD.out.2 _ HTB.out.1).mono ?_
    rintro e w1 ⟨rfl, hb⟩
    rw [hy]
    have HB := hid' hb
    clear hb hy
    go_wp2
    go_ret2
    exact ⟨by rw [HF.out]; rfl, HB.out⟩
  · have h15' : ¬ (x.size : Int) ≤ 15 := by omega
    have HF : Hid (d = false) := hid' (by cases d with | false => rfl | true => exact absurd (HY.out rfl).2.1 h15)
    go_enter Tryz.func90, Tryz.ntmps90
    go_wp2_with fail
    refine (HNM.out _).mono ?_
    rintro e w1 ⟨rfl, hw⟩
    subst w1
    go_wp2
    go_ret2
    exact ⟨by rw [HF.out]; rfl, Below.refl _ _⟩

namespace Ms
/-- The length that was said so far. -/
def lenN (has : Bool) (v : ByteArray) : Int := if has then (Tx.num 10 v.data.toList).1 else 0
end Ms

set_option maxHeartbeats 2000000 in
set_option maxRecDepth 20000 in
theorem clen14 (v : Value) (l : List Fd) (o : Option (Option ByteArray)) (ho : Ms.lenGo none l = o) (w : World) (h : FW w v l) (hT : TB w) (hl : l.length ≤ 1048576) (hs : ∀ f ∈ l, f.n.size ≤ 140737488355328 ∧ f.v.size ≤ 140737488355328) :
    Calls Tryz.prog 67 #[v] w fun e w' => e = .returned (Ms.lenV o) ∧ Below w.heap.size w w' := by
  obtain ⟨ao, cap, hv⟩ := h.shape
  subst hv
  obtain ⟨n, hn⟩ : ∃ n, l.length = n := ⟨_, rfl⟩
  rw [hn] at h hl ⊢
  have H := hid' h
  have HN := hid' hn
  have HS := hid' hs
  have HO := hid' ho
  have HTB := hid' hT
  clear h hn hs ho hT
  go_enter Tryz.func67, Tryz.ntmps67
  go_wp2
  go_loopw [5, 6, 13] (fun s5 s6 s13 wr => ∃ (k : Nat) (has : Bool) (val : ByteArray) (len : Int), s13 = .int .i64 (k : Int) ∧ s6 = .bool has ∧ s5 = .int .i64 len ∧ k ≤ n ∧ Hid (len = Ms.lenN has val) ∧ Hid (has = true → Ms.dec val = true) ∧ Hid (Ms.lenGo (Ms.opt has val) (l.drop k) = o) ∧ Hid (Below w.heap.size w wr)) (fun _ _ s13 _ => n - (intOf s13).toNat)
  case atStart => exact ⟨0, false, ⟨#[]⟩, 0, rfl, rfl, rfl, Nat.zero_le _, hid' rfl, hid' (by simp), HO, hid' (Below.refl _ _)⟩
  case round =>
    obtain ⟨k, has, val, len, rfl, rfl, rfl, hk, HLN, HDV, HI, HB⟩ := hrel
    by_cases hlt : k < n
    · have hlt2 : (k : Int) < (n : Int) := by omega
      obtain ⟨p, hp⟩ : ∃ p, l[k]? = some p := ⟨_, List.getElem?_eq_getElem (by rw [HN.out]; exact hlt)⟩
      obtain ⟨a, hao, y0, y1⟩ := (H.out.keep HB.out).two k p hp
      subst hao
      have hd := Ms.len_drop hp (Ms.opt has val)
      rw [HI.out] at hd
      have HPS := hid' (HS.out p (List.mem_of_getElem? hp))
      obtain ⟨sm, hsm⟩ : ∃ sm, (Ms.lo p.n == Ms.sLen) = sm := ⟨_, rfl⟩
      rw [hsm] at hd
      have HSM : Hid ((Tx.lower p.n.data.toList == Tx.lower (⟨#[99, 111, 110, 116, 101, 110, 116, 45, 108, 101, 110, 103, 116, 104]⟩ : ByteArray).data.toList) = sm) := hid' hsm
      have HX := hid' (fd_new wr p)
      have HB1 := hid' (below_two HB.out (bl_alloc wr (.cells #[.string p.n, .string p.v] 52)))
      clear hp hsm
      go_wp2_with fail
      obtain ⟨xb, hxb⟩ : ∃ xb, wr.heap.size = xb := ⟨_, rfl⟩
      rw [hxb] at HX ⊢
      clear hxb y0 y1 HB
      generalize wr.alloc (.cells #[.string p.n, .string p.v] 52) = w1 at *
      refine (csame14 p.n _ sm HSM.out w1 HPS.out.1 (by decide)).mono ?_
      rintro e w2 ⟨rfl, hb2⟩
      have HB2 := hid' (below_two HB1.out hb2)
      have HX2 := hid' (HX.out.keep hb2)
      have x0 := HX2.out.cell 0 _ rfl
      have x1 := HX2.out.cell 1 _ rfl
      clear hb2 HB1 HX
      cases sm
      · simp only [Bool.false_eq_true, if_false] at hd
        have HD := hid' hd
        clear hd
        go_wp2
        go_roundw
        case rel => exact ⟨k + 1, has, val, len, by go_num, rfl, rfl, by omega, HLN, HDV, hid' HD.out.symm, HB2⟩
        case measure => simp [intOf]; omega
      · simp only [if_true] at hd
        obtain ⟨d, hdc⟩ : ∃ d, Ms.dec p.v = d := ⟨_, rfl⟩
        have HDC := hid' hdc
        rw [hdc] at hd
        have HD := hid' hd
        obtain ⟨nv, hnv⟩ : ∃ nv, (Tx.num 10 p.v.data.toList).1 = nv := ⟨_, rfl⟩
        have HNV := hid' hnv
        clear hd hdc
        go_wp2_with fail
        refine (cdec14 p.v d HDC.out w2 HPS.out.2 (HTB.out.keep HB2.out)).mono ?_
        rw [hnv]
        rintro e w3 ⟨rfl, hb3⟩
        have HB3 := hid' (below_two HB2.out hb3)
        clear hb3 hnv x0 x1 HX2 HB2
        cases d
        · have HE : Hid (o = none) := hid' (by rw [HD.out]; rfl)
          go_wp2
          go_ret3
          exact ⟨by rw [HE.out]; rfl, HB3.out⟩
        · cases has
          · have HE : Hid (Ms.lenGo (Ms.opt true p.v) (l.drop (k + 1)) = o) := hid' (by rw [HD.out]; rfl)
            go_wp2
            go_roundw
            case rel => exact ⟨k + 1, true, p.v, nv, by go_num, rfl, rfl, by omega, hid' HNV.out.symm, hid' (fun _ => HDC.out), HE, HB3⟩
            case measure => simp [intOf]; omega
          · have HEQ : Hid ((p.v.toList == val.toList) = (nv == len)) := hid' (by
              rw [HLN.out, ← HNV.out]
              simp only [Ms.lenN, if_true]
              rw [Bool.eq_iff_iff, beq_iff_eq, beq_iff_eq, Lib.toList_data, Lib.toList_data]
              constructor
              · intro e; rw [e]
              · intro e; exact Ms.dec_inj HDC.out (HDV.out rfl) e)
            cases c2 : (nv == len)
            · have c3 : (nv != len) = true := by unfold bne; rw [c2]; rfl
              have c4 : ¬ nv = len := by intro e; rw [e] at c2; simp at c2
              have HE : Hid (o = none) := hid' (by rw [HD.out]; simp only [Ms.opt, if_true, HEQ.out, c2]; rfl)
              go_wp2
              go_ret3
              exact ⟨by rw [HE.out]; rfl, HB3.out⟩
            · have c3 : (nv != len) = false := by unfold bne; rw [c2]; rfl
              have c4 : nv = len := beq_iff_eq.1 c2
              have HE : Hid (Ms.lenGo (Ms.opt true p.v) (l.drop (k + 1)) = o) := hid' (by rw [HD.out]; simp only [Ms.opt, if_true, HEQ.out, c2]; rfl)
              clear c2 c3
              subst c4
              have c2 : (nv == nv) = true := by simp
              have c3 : (nv != nv) = false := by simp
              go_wp2
              go_roundw
              case rel => exact ⟨k + 1, true, p.v, nv, by go_num, rfl, rfl, by omega, hid' HNV.out.symm, hid' (fun _ => HDC.out), HE, HB3⟩
              case measure => simp [intOf]; omega
    · obtain rfl : k = n := by omega
      have hlt2 : ¬ (k : Int) < (k : Int) := by omega
      have HE : Hid (o = some (Ms.opt has val)) := hid' (by rw [← HI.out, List.drop_of_length_le (by rw [HN.out]; exact Nat.le_refl _)]; rfl)
      clear hlt
      go_wp2
      go_ret3
      cases has
      · exact ⟨by rw [HE.out, HLN.out]; rfl, HB.out⟩
      · exact ⟨by rw [HE.out, HLN.out]; rfl, HB.out⟩

end Go.Proofs.YtbpdhcfmdkmoiaaGreatDoor
