/-
  writeFields of the code, lines of the document: by their contracts.
-/
import Derived.Test.YtbpdhcfmdkmoiaaDoorPwAF
import Derived.Test.YtbpdhcfmdkmoiaaDoorPwAJ
import Derived.Test.YtbpdhcfmdkmoiaaDoorPwAM
namespace Go.Proofs.YtbpdhcfmdkmoiaaDoor
open Go.RowKit

namespace Hw
theorem lns_take {l : List Fd} {k : Nat} {f : Fd} (h : l[k]? = some f) : (l.take (k + 1)).flatMap line = (l.take k).flatMap line ++ line f := by rw [List.take_add_one, h]; simp
theorem lns_le (l : List Fd) (k : Nat) : ((l.take k).flatMap line).length ≤ (l.flatMap line).length := by
  conv => rhs; rw [← List.take_append_drop k l, List.flatMap_append, List.length_append]
  omega
end Hw
/-- What writeFields keeps: the builder, the row that it goes through. -/
structure WF22 (w0 : World) (b : Nat) (B2 : Nat) (v : Value) (fs : List Fd) (l : List UInt8) (W : World) : Prop where
  bld : Bld W w0.heap.size b l
  row : W.ownsRow B2 45 2 v fs.length (fC fs)
  bel : Below w0.heap.size w0 W
theorem WF22.keep {w0 W W' : World} {b B2 : Nat} {v : Value} {fs : List Fd} {l : List UInt8} (h : WF22 w0 b B2 v fs l W) (hb : Below W.heap.size W W') : WF22 w0 b B2 v fs l W' :=
  ⟨bld_keep h.bld hb, own_same h.row (fun k hk => hb.block k (own_lt h.row k hk)), h.bel.trans (hb.mono h.bel.size)⟩
theorem own_uf22 {w w' : World} {b B2 n s : Nat} {e : TypeId} {v p q : Value} {xs : List Value} (h : w.ownsRow B2 e s v n xs) (hu : UF b w w') (hb : Ar w b 76 #[p, q]) (h1 : e ≠ 5) (h2 : e ≠ 76) : w'.ownsRow B2 e s v n xs :=
  own_same h (fun k hk => by
    obtain ⟨_, cs, hc⟩ := own_ty h k hk
    exact hu.block k (own_lt h k hk) (ar_ne22 (show Ar w k e cs from hc) hb h2) (fun ds fz hd => by rw [hc] at hd; injection hd with hd; injection hd with _ hd _; exact h1 hd))
theorem WF22.uf {w0 W W' : World} {b B2 : Nat} {v : Value} {fs : List Fd} {l l' : List UInt8} (h : WF22 w0 b B2 v fs l W) (h1 : Bld W' w0.heap.size b l') (h2 : Below w0.heap.size W W') (h3 : UF b W W') : WF22 w0 b B2 v fs l' W' := by
  obtain ⟨p, q, ho⟩ := bld_obj h.bld
  exact ⟨h1, own_uf22 h.row h3 ho (by decide) (by decide), h.bel.trans h2⟩
theorem WF22.put {w0 W : World} {b B2 : Nat} {v : Value} {fs : List Fd} {l : List UInt8} (h : WF22 w0 b B2 v fs l W) (s : List UInt8) (hl : l.length + s.length ≤ 140737488355328) :
    Calls Tryd.prog 66 #[.pointer (some ⟨b, 0, none⟩), .string ⟨s.toArray⟩] W fun e w' => e = .returned (.tuple #[.int .i64 (s.length : Int), .nilIface]) ∧ WF22 w0 b B2 v fs (l ++ s) w' ∧ UF b W w' := by
  refine (writeString_any w0.heap.size b l s W h.bld hl h.bel.size).mono ?_
  rintro e w' ⟨rfl, h1, h2, h3⟩
  exact ⟨rfl, h.uf h1 h2 h3, h3⟩
theorem box_uf22 {W W' : World} {b x : Nat} {B : Nat} {l : List UInt8} {cs : Array Value} (h : Ar W x 45 cs) (hu : UF b W W') (hb : Bld W B b l) : Ar W' x 45 cs := by
  obtain ⟨p, q, ho⟩ := bld_obj hb
  exact hu.ar h (ar_ne22 h ho (by decide)) (by decide)

set_option maxHeartbeats 4000000 in
set_option maxRecDepth 20000 in
theorem cflds22 (v : Value) (l : List Fd) (w : World) (h : FW w v l) (hl : l.length ≤ 1048576) (hs : ∀ f ∈ l, f.n.size ≤ 140737488355328) (hz : (Hw.lns l).length ≤ 70368744177664) :
    Calls Tryd.prog 47 #[v] w fun e w' => e = .returned (.string ⟨(Hw.lns l).toArray⟩) ∧ Below w.heap.size w w' := by
  have HST := hid' (fun W (hb : Below w.heap.size w W) => cstrip14 v l W (h.keep hb) hl hs)
  obtain ⟨L, hL⟩ : ∃ L, Ms.strip l = L := ⟨_, rfl⟩
  have HZ : Hid ((L.flatMap Hw.line).length ≤ 70368744177664) := hid' (by rw [← hL]; exact hz)
  have HR : Hid (Hw.lns l = L.flatMap Hw.line) := hid' (by unfold Hw.lns; rw [hL])
  have HSL : Hid (∀ f ∈ L, f.n.size ≤ 140737488355328) := hid' (fun f hf => hs f (by rw [← hL] at hf; exact (List.mem_filter.1 hf).1))
  have HLL : Hid (L.length ≤ 1048576) := hid' (by rw [← hL]; exact Nat.le_trans (List.length_filter_le _ _) hl)
  rw [hL] at HST
  clear h hl hs hz hL
  go_enter Tryd.func47, Tryd.ntmps47
  go_wp2_with (refine wpl_alloc 76 rfl rfl _ zeroBd22 ?_)
  intro b w1 hb1 ha1 hl1
  have HB1 : Hid (Bld w1 w.heap.size b [] ∧ Below w.heap.size w w1) := hid' ⟨bld_new w b w1 hb1 ha1, hl1⟩
  clear hb1 ha1 hl1
  go_wp2_with (go_at_call 65; refine (HST.out _ HB1.out.2).mono ?_; rintro e w2 ⟨⟨m, ro, rc, rfl, hm, ho⟩, hb2⟩; refine Hid.out ?_)
  refine hid' ?_
  have HM := hid' hm
  have hm9 : m ≤ 1048576 := by rw [← hm]; exact HLL.out
  have HW2 : Hid (WF22 w b w1.heap.size (.slice ro m rc) L [] w2) := hid' ⟨bld_keep HB1.out.1 hb2, by rw [hm]; exact ho, HB1.out.2.trans (hb2.mono HB1.out.2.size)⟩
  clear hm ho hb2
  go_wp2
  go_loopw [9] (fun s9 wr => ∃ k : Nat, s9 = .int .i64 (k : Int) ∧ k ≤ m ∧ Hid (WF22 w b w1.heap.size (.slice ro m rc) L ((L.take k).flatMap Hw.line) wr)) (fun s9 _ => m - (intOf s9).toNat)
  case atStart => exact ⟨0, rfl, Nat.zero_le _, HW2⟩
  case round =>
    obtain ⟨k, rfl, hk, HK⟩ := hrel
    by_cases hlt : k < m
    · have hlt2 : (k : Int) < (m : Int) := by omega
      have HLT := hid' hlt
      obtain ⟨p, hp⟩ : ∃ p, L[k]? = some p := ⟨_, List.getElem?_eq_getElem (by rw [HM.out]; exact hlt)⟩
      obtain ⟨a, hao, y0, y1⟩ := (show FW wr (.slice ro m rc) L from FW.of_own HK.out.row).two k p hp
      subst hao
      obtain ⟨N, hN⟩ : ∃ N, Tx.lower p.n.data.toList = N := ⟨_, rfl⟩
      obtain ⟨V, hV⟩ : ∃ V, p.v.data.toList = V := ⟨_, rfl⟩
      have HV2 : Hid (p.v = ⟨V.toArray⟩) := hid' (by rw [← hV])
      have HTK : Hid ((L.take (k + 1)).flatMap Hw.line = (L.take k).flatMap Hw.line ++ N ++ [58, 32] ++ V ++ [13, 10]) := hid' (by rw [Hw.lns_take hp, Hw.line, hN, hV]; simp [Hw.crlf])
      have HLE : Hid ((((L.take k).flatMap Hw.line) ++ N ++ [58, 32] ++ V ++ [13, 10]).length ≤ 70368744177664) := hid' (by
        rw [← HTK.out]; exact Nat.le_trans (Hw.lns_le L (k + 1)) HZ.out)
      have HLO : Hid (∀ W, Calls Tryd.prog 63 #[.string p.n] W fun e w' => e = .returned (.string ⟨N.toArray⟩) ∧ Below W.heap.size W w') := hid' (fun W => by have := lower_any p.n W (by have := HSL.out p (List.mem_of_getElem? hp); unfold maxLen; omega); rwa [hN] at this)
      have HX := hid' (fd_new wr p)
      have HK1 := hid' (HK.out.keep (bl_alloc wr (.cells #[.string p.n, .string p.v] 45)))
      obtain ⟨T, hT⟩ : ∃ T, (L.take k).flatMap Hw.line = T := ⟨_, rfl⟩
      rw [hT] at HK1 HTK HLE
      clear hp hN hV hT
      go_wp2_with fail
      obtain ⟨xb, hxb⟩ : ∃ xb, wr.heap.size = xb := ⟨_, rfl⟩
      rw [hxb] at HX ⊢
      clear hxb y0 y1
      generalize wr.alloc (.cells #[.string p.n, .string p.v] 45) = w3 at *
      refine (HLO.out _).mono ?_
      rintro e w4 ⟨rfl, hb4⟩
      have HK4 := hid' (HK1.out.keep hb4)
      have HX4 := hid' (HX.out.keep hb4)
      clear hb4
      have HP1 := hid' (HK4.out.put N (by have := HLE.out; simp only [List.length_append] at this; omega))
      go_wp2_with fail
      refine HP1.out.mono ?_
      rintro e w5 ⟨rfl, hk5, hu5⟩
      have HK5 := hid' hk5
      have HX5 := hid' (box_uf22 HX4.out hu5 HK4.out.bld)
      have HP2 := hid' (HK5.out.put [58, 32] (by have := HLE.out; simp only [List.length_append] at this ⊢; omega))
      clear hk5 hu5
      go_wp2_with fail
      refine HP2.out.mono ?_
      rintro e w6 ⟨rfl, hk6, hu6⟩
      have HK6 := hid' hk6
      have HX6 := hid' (box_uf22 HX5.out hu6 HK5.out.bld)
      have HP3 := hid' (HK6.out.put V (by have := HLE.out; simp only [List.length_append] at this ⊢; omega))
      rw [← HV2.out] at HP3
      have x1 := HX6.out.cell 1 _ rfl
      clear hk6 hu6
      go_wp2_with fail
      refine HP3.out.mono ?_
      rintro e w7 ⟨rfl, hk7, hu7⟩
      have HK7 := hid' hk7
      have HP4 := hid' (HK7.out.put [13, 10] (by have := HLE.out; simp only [List.length_append] at this ⊢; omega))
      clear hk7 hu7 x1
      go_wp2_with fail
      refine HP4.out.mono ?_
      rintro e w8 ⟨rfl, hk8, hu8⟩
      have HK8 := hid' hk8
      rw [← HTK.out] at HK8
      clear hk8 hu8
      go_wp2
      go_roundw
      case rel => exact ⟨k + 1, by go_num, by have := HLT.out; omega, HK8⟩
      case measure => have := HLT.out; simp [intOf]; omega
    · obtain rfl : k = m := by omega
      have hlt2 : ¬ (k : Int) < (k : Int) := by omega
      have HKE := HK.out
      rw [List.take_of_length_le (by rw [HM.out]; exact Nat.le_refl _)] at HKE
      have HG := hid' HKE
      have HSG := hid' (string_any w.heap.size b _ wr HG.out.bld HG.out.bel.size)
      clear hlt HKE
      go_wp2_with fail
      refine HSG.out.mono ?_
      rintro e w9 ⟨rfl, hb9, hu9⟩
      have HB9 := hid' (HG.out.bel.trans hb9)
      clear hb9 hu9
      go_wp2
      go_ret
      exact ⟨by rw [HR.out]; rfl, HB9.out⟩

end Go.Proofs.YtbpdhcfmdkmoiaaDoor
