import Derived.Test.YtcfbobegbmcbeaaGreatDoorPkAS
import Derived.Test.YtcfbobegbmcbeaaGreatDoorPkBP
import Derived.Test.YtcfbobegbmcbeaaGreatDoorPkBQ
namespace Go.Proofs.YtcfbobegbmcbeaaGreatDoor
set_option maxHeartbeats 64000000
open Go.RowKit

structure MB20 (w0 : World) (ab : Nat) (P : Ap.Rp) (vo : Option Addr) (n vc : Nat) (uo : Option Addr) (m uc : Nat) (wx : World) : Prop where
 ge : w0.heap.size ≤ ab
 at' : Ar wx ab 42 #[.int .i64 P.s, .slice vo n vc, .string ⟨P.b.toArray⟩, .slice uo m uc]
 f : FT20 wx (.slice vo n vc) P.fs
 t : FT20 wx (.slice uo m uc) P.ts
 bel : Below w0.heap.size w0 wx
theorem MB20.keep {w0 wx wy : World} {ab : Nat} {P : Ap.Rp} {vo : Option Addr} {n vc : Nat} {uo : Option Addr} {m uc : Nat} (h : MB20 w0 ab P vo n vc uo m uc wx) (hb : Below wx.heap.size wx wy) : MB20 w0 ab P vo n vc uo m uc wy :=
 ⟨h.ge, h.at'.keep hb, ft_below20 h.f hb, ft_below20 h.t hb, below_two h.bel hb⟩
theorem MB20.one {w0 w1 wA wf : World} {P : Ap.Rp} {vo : Option Addr} {n vc : Nat} {uo : Option Addr} {m uc : Nat} {z : Array Value} (hS : Below w0.heap.size w0 w1) (hb : Below w1.heap.size w1 wA) (hf : FT20 wA (.slice vo n vc) P.fs) (ht : FT20 wA (.slice uo m uc) P.ts)
  (ha : Ar wf wA.heap.size 42 #[.int .i64 P.s, .slice vo n vc, .string ⟨P.b.toArray⟩, .slice uo m uc]) (hu : Upd wA.heap.size (wA.alloc (.cells z 42)) wf) : MB20 w0 wA.heap.size P vo n vc uo m uc wf := by
 have h1 := below_two hS hb
 have hr : Ar (wA.alloc (.cells z 42)) wA.heap.size 42 z := heap_alloc_last wA _
 exact ⟨h1.size, ha, ft_updr20 (ft_below20 hf (bl_alloc19 wA _)) hu hr, ft_updr20 (ft_below20 ht (bl_alloc19 wA _)) hu hr, (below_two h1 (bl_alloc19 wA _)).trans (hu.below h1.size)⟩
theorem MB20.two {w0 w1 wA wf : World} {ab : Nat} {P : Ap.Rp} {vo : Option Addr} {n vc : Nat} {uo : Option Addr} {m uc : Nat} {z : Array Value} (hS : Below w0.heap.size w0 w1) (hge : w0.heap.size ≤ ab) (hz : Ar w1 ab 42 z) (hb : Below w1.heap.size w1 wA) (hf : FT20 wA (.slice vo n vc) P.fs) (ht : FT20 wA (.slice uo m uc) P.ts)
  (ha : Ar wf ab 42 #[.int .i64 P.s, .slice vo n vc, .string ⟨P.b.toArray⟩, .slice uo m uc]) (hu : Upd ab wA wf) : MB20 w0 ab P vo n vc uo m uc wf :=
 ⟨hge, ha, ft_updr20 hf hu (hz.keep hb), ft_updr20 ht hu (hz.keep hb), (below_two hS hb).trans (hu.below hge)⟩
theorem ew_keep20 {w w' : World} {v : Value} {l : List Dk.En} (h : EW19 w v l) (hb : Below w.heap.size w w') : EW19 w' v l := by
 have h0 := h
 rcases h with h | ⟨a, cap, hv, hcs⟩
 ·exact .inl h
 ·refine .inr ⟨a, cap, hv, fun i e he => ?_⟩
  subst hv
  obtain ⟨a2, h2, hc⟩ := h0.at hb i e he
  obtain rfl : a = a2 := Option.some.inj h2
  exact ⟨Nat.lt_of_lt_of_le (hcs i e he).1 hb.size, hc⟩
theorem ar_upd20 {w w' : World} {b k : Nat} {t : TypeId} {c : Array Value} (h : Ar w b t c) (hu : Upd k w w') (hn : b ≠ k) : Ar w' b t c := (hu.block b hn).trans h
namespace Ap
theorem mid_small (a : Rp) : (mid a).fs.length ≤ a.fs.length + 1 ∧ (mid a).ts.length ≤ a.ts.length := by
 unfold mid
 split
 ·exact ⟨Nat.le_succ _, Nat.zero_le _⟩
 ·split
  ·exact ⟨by simp, Nat.zero_le _⟩
  ·exact ⟨Nat.le_succ _, Nat.le_refl _⟩
theorem fin_small (h : Bool) (a : Rp) : (fin h a).fs.length ≤ a.fs.length + 1 ∧ (fin h a).ts.length ≤ a.ts.length := by
 have h1 := mid_small a
 unfold fin
 split
 ·exact ⟨h1.1, Nat.zero_le _⟩
 ·exact h1
theorem raw_ts (l : List (Rt.Ro × ByteArray)) (es : List Dk.En) (r : Rq) : (raw l es r).ts.length ≤ r.ts.length := by
 unfold raw
 split
 ·exact Nat.zero_le _
 ·split
  ·unfold met
   split
   ·exact Nat.zero_le _
   ·split
    ·exact Nat.zero_le _
    ·split
     ·exact Nat.zero_le _
     ·split
      ·unfold by'
       split
       ·exact Nat.zero_le _
       ·split
        ·exact Nat.le_refl _
        ·split
         ·exact Nat.zero_le _
         ·exact Nat.zero_le _
      ·exact Nat.zero_le _
  ·exact Nat.zero_le _
end Ap
theorem ans_small20 (l : List Fr18) (es : List Dk.En) (r : Ap.Rq) (hbr : BR20 l) (hq : BQ20 r) (hes : ∀ e ∈ es, EN19 e) : (Ap.ans l es r).fs.length ≤ 6 ∧ (Ap.ans l es r).ts.length ≤ 1048576 := by
 obtain ⟨_, h2⟩ := Ap.raw_fit l es r hes (fun x hx => (hbr.1 x hx).1) hq.p hq.b
 have h3 := Ap.raw_ts l es r
 have h4 := Ap.fin_small (r.m.data.toList == Fs.mHEAD) (Ap.raw l es r)
 have h5 := hq.tl
 unfold Ap.ans
 omega


theorem brH20 : BR20 Ap.headL := by
 unfold BR20 BD18
 decide

end Go.Proofs.YtcfbobegbmcbeaaGreatDoor
