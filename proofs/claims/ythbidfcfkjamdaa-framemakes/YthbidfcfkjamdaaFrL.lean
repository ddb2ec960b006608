/-
  frame.payloadOf of some kinds, by its contract.
-/
import Derived.Test.YthbidfcfkjamdaaFrK
namespace Go.Proofs.Ythbidfcfkjamdaa
open Go.RowKit

theorem br_own {w : World} {B : Nat} {v : Value} {l : List UInt8} (h : BR w B v l) : w.ownsRow B 5 1 v l.length (Lib.byteCells l) := h
theorem br_nil (w : World) (B : Nat) : BR w B (.slice none 0 0) [] := World.ownsRow_nil _ _ _ _

set_option maxHeartbeats 4000000 in
set_option maxRecDepth 20000 in
theorem cpay_reset (fl st : Int) (p : Fm.Pt) (hd : p.data.length ≤ 16777215) (hs : p.sets.length ≤ 2796202) : PAYok 3 fl st p (Fm.enc 4 p.code ++ p.data) := by
  intro w v hv
  obtain ⟨i0, hi, hz0, hz1, hz2⟩ := info_parts' infoByte'
  have HI := hid' hi
  have HZ0 := hid' hz0
  have HZ1 := hid' hz1
  have HZ2 := hid' hz2
  clear hi hz0 hz1 hz2
  obtain ⟨ao, cap, hsh⟩ := hv.shape
  subst hsh
  obtain ⟨n, hn⟩ : ∃ n, p.sets.length = n := ⟨_, rfl⟩
  rw [hn] at hs ⊢
  have t1 : decide ((16777215 : Int) < (p.data.length : Int)) = false := decide_eq_false (by omega)
  have t2 : decide ((2796202 : Int) < (n : Int)) = false := decide_eq_false (by omega)
  have HD := hid' hd
  clear hn hv hs hd
  go_enter Try.func34, Try.ntmps34
  go_wp2_with (refine wpl_boxes _ _ rfl rfl rfl rfl 3 fl st [] p (.slice ao n cap) (by kernel_rfl) (fun b => by kernel_rfl) ?_)
  intro b1 b2 w0 hF
  obtain ⟨c0, c1, c2, c3⟩ := frC_cells hF.a1
  obtain ⟨x0, x1, x2, x3, x4, x5, x6, x7⟩ := pt_cells hF.a2
  have HN0 := hid' (NB.of_below hF.bel (Nat.le_refl _))
  have HA0 := hid' hF.a2
  have HO0 : Hid (BR w0 w.heap.size (.slice none 0 0) []) := hid' (br_nil _ _)
  clear hF
  go_upto_region 16 with fail
  go_wp2_with fail
  refine (cappend_any w.heap.size (.slice none 0 0) _ p.code 4 _ (by decide) HO0.out HN0.out.bel.size (by simp)).mono ?_
  rintro e w1 ⟨⟨v1, rfl, ho1⟩, hn1⟩
  have HN1 := hid' (HN0.out.trans hn1)
  have ha1 := hn1.ar _ _ _ (by decide) HA0.out
  obtain ⟨x0, x1, x2, x3, x4, x5, x6, x7⟩ := pt_cells ha1
  have HA1 := hid' ha1
  have HO1 := hid' ho1.out
  clear hn1 ha1 ho1
  go_upto_region 28 with fail
  have hlen : (([] : List UInt8) ++ Fm.enc 4 p.code).length ≤ 8 := by simp [Fm.enc_length]
  obtain ⟨xs, hxs⟩ : ∃ xs, Lib.byteCells (([] : List UInt8) ++ Fm.enc 4 p.code) = xs := ⟨_, rfl⟩
  obtain ⟨np, hnp⟩ : ∃ np, (([] : List UInt8) ++ Fm.enc 4 p.code).length = np := ⟨_, rfl⟩
  have HOX := hid' (br_own HO1.out)
  rw [hxs, hnp] at HOX
  rw [hnp] at hlen
  have HXX := hid' hxs
  have HNP := hid' hnp
  clear hxs hnp
  go_wp2_with (at_builtin; refine Lib.wpList_append_own_string _ rfl _ _ 66 9 rfl w.heap.size 5 i0 Try.underlying66 Try.underlying9 HI.out HZ0.out HZ1.out HZ2.out _ _ _ rfl HOX.out ⟨p.data.toArray⟩ rfl ?c3 ?c4 ?c5 ?_)
  case c3 => show np + p.data.length ≤ maxLen; have := HD.out; unfold maxLen; omega
  case c4 => show np + p.data.length ≤ _; have := HD.out; omega
  case c5 => exact HN1.out.bel.size
  intro v9 w9 hown9 hgrow9 _
  have HB9 := hid' (HN1.out.bel.trans (NB.of_grown HOX.out hgrow9 HN1.out.bel.size).bel)
  have HBR : Hid (BR w9 w.heap.size v9 (Fm.enc 4 p.code ++ p.data)) := hid' (by
    unfold BR
    have e : (Fm.enc 4 p.code ++ p.data) = (([] : List UInt8) ++ Fm.enc 4 p.code) ++ p.data := by simp
    rw [e, bytes_app, List.length_append, HXX.out, HNP.out]
    exact hown9)
  clear hown9 hgrow9
  go_wp2
  go_ret2
  exact ⟨⟨_, rfl, hid' (br_str HBR.out)⟩, HB9.out⟩

set_option maxHeartbeats 4000000 in
set_option maxRecDepth 20000 in
theorem cpay_ping (fl st : Int) (p : Fm.Pt) (hd : p.data.length ≤ 16777215) (hs : p.sets.length ≤ 2796202) : PAYok 6 fl st p (p.data) := by
  intro w v hv
  obtain ⟨i0, hi, hz0, hz1, hz2⟩ := info_parts' infoByte'
  have HI := hid' hi
  have HZ0 := hid' hz0
  have HZ1 := hid' hz1
  have HZ2 := hid' hz2
  clear hi hz0 hz1 hz2
  obtain ⟨ao, cap, hsh⟩ := hv.shape
  subst hsh
  obtain ⟨n, hn⟩ : ∃ n, p.sets.length = n := ⟨_, rfl⟩
  rw [hn] at hs ⊢
  have t1 : decide ((16777215 : Int) < (p.data.length : Int)) = false := decide_eq_false (by omega)
  have t2 : decide ((2796202 : Int) < (n : Int)) = false := decide_eq_false (by omega)
  have HD := hid' hd
  clear hn hv hs hd
  go_enter Try.func34, Try.ntmps34
  go_wp2_with (refine wpl_boxes _ _ rfl rfl rfl rfl 6 fl st [] p (.slice ao n cap) (by kernel_rfl) (fun b => by kernel_rfl) ?_)
  intro b1 b2 w0 hF
  obtain ⟨c0, c1, c2, c3⟩ := frC_cells hF.a1
  obtain ⟨x0, x1, x2, x3, x4, x5, x6, x7⟩ := pt_cells hF.a2
  have HN0 := hid' (NB.of_below hF.bel (Nat.le_refl _))
  have HA0 := hid' hF.a2
  have HO0 : Hid (BR w0 w.heap.size (.slice none 0 0) []) := hid' (br_nil _ _)
  clear hF
  go_upto_region 28 with fail
  have hlen : (([] : List UInt8)).length ≤ 8 := by simp
  obtain ⟨xs, hxs⟩ : ∃ xs, Lib.byteCells (([] : List UInt8)) = xs := ⟨_, rfl⟩
  obtain ⟨np, hnp⟩ : ∃ np, (([] : List UInt8)).length = np := ⟨_, rfl⟩
  have HOX := hid' (br_own HO0.out)
  rw [hxs, hnp] at HOX
  rw [hnp] at hlen
  have HXX := hid' hxs
  have HNP := hid' hnp
  clear hxs hnp
  go_wp2_with (at_builtin; refine Lib.wpList_append_own_string _ rfl _ _ 66 9 rfl w.heap.size 5 i0 Try.underlying66 Try.underlying9 HI.out HZ0.out HZ1.out HZ2.out _ _ _ rfl HOX.out ⟨p.data.toArray⟩ rfl ?c3 ?c4 ?c5 ?_)
  case c3 => show np + p.data.length ≤ maxLen; have := HD.out; unfold maxLen; omega
  case c4 => show np + p.data.length ≤ _; have := HD.out; omega
  case c5 => exact HN0.out.bel.size
  intro v9 w9 hown9 hgrow9 _
  have HB9 := hid' (HN0.out.bel.trans (NB.of_grown HOX.out hgrow9 HN0.out.bel.size).bel)
  have HBR : Hid (BR w9 w.heap.size v9 (p.data)) := hid' (by
    unfold BR
    have e : (p.data) = (([] : List UInt8)) ++ p.data := by simp
    rw [e, bytes_app, List.length_append, HXX.out, HNP.out]
    exact hown9)
  clear hown9 hgrow9
  go_wp2
  go_ret2
  exact ⟨⟨_, rfl, hid' (br_str HBR.out)⟩, HB9.out⟩

set_option maxHeartbeats 4000000 in
set_option maxRecDepth 20000 in
theorem cpay_more (fl st : Int) (p : Fm.Pt) (hd : p.data.length ≤ 16777215) (hs : p.sets.length ≤ 2796202) : PAYok 9 fl st p (p.data) := by
  intro w v hv
  obtain ⟨i0, hi, hz0, hz1, hz2⟩ := info_parts' infoByte'
  have HI := hid' hi
  have HZ0 := hid' hz0
  have HZ1 := hid' hz1
  have HZ2 := hid' hz2
  clear hi hz0 hz1 hz2
  obtain ⟨ao, cap, hsh⟩ := hv.shape
  subst hsh
  obtain ⟨n, hn⟩ : ∃ n, p.sets.length = n := ⟨_, rfl⟩
  rw [hn] at hs ⊢
  have t1 : decide ((16777215 : Int) < (p.data.length : Int)) = false := decide_eq_false (by omega)
  have t2 : decide ((2796202 : Int) < (n : Int)) = false := decide_eq_false (by omega)
  have HD := hid' hd
  clear hn hv hs hd
  go_enter Try.func34, Try.ntmps34
  go_wp2_with (refine wpl_boxes _ _ rfl rfl rfl rfl 9 fl st [] p (.slice ao n cap) (by kernel_rfl) (fun b => by kernel_rfl) ?_)
  intro b1 b2 w0 hF
  obtain ⟨c0, c1, c2, c3⟩ := frC_cells hF.a1
  obtain ⟨x0, x1, x2, x3, x4, x5, x6, x7⟩ := pt_cells hF.a2
  have HN0 := hid' (NB.of_below hF.bel (Nat.le_refl _))
  have HA0 := hid' hF.a2
  have HO0 : Hid (BR w0 w.heap.size (.slice none 0 0) []) := hid' (br_nil _ _)
  clear hF
  go_upto_region 28 with fail
  have hlen : (([] : List UInt8)).length ≤ 8 := by simp
  obtain ⟨xs, hxs⟩ : ∃ xs, Lib.byteCells (([] : List UInt8)) = xs := ⟨_, rfl⟩
  obtain ⟨np, hnp⟩ : ∃ np, (([] : List UInt8)).length = np := ⟨_, rfl⟩
  have HOX := hid' (br_own HO0.out)
  rw [hxs, hnp] at HOX
  rw [hnp] at hlen
  have HXX := hid' hxs
  have HNP := hid' hnp
  clear hxs hnp
  go_wp2_with (at_builtin; refine Lib.wpList_append_own_string _ rfl _ _ 66 9 rfl w.heap.size 5 i0 Try.underlying66 Try.underlying9 HI.out HZ0.out HZ1.out HZ2.out _ _ _ rfl HOX.out ⟨p.data.toArray⟩ rfl ?c3 ?c4 ?c5 ?_)
  case c3 => show np + p.data.length ≤ maxLen; have := HD.out; unfold maxLen; omega
  case c4 => show np + p.data.length ≤ _; have := HD.out; omega
  case c5 => exact HN0.out.bel.size
  intro v9 w9 hown9 hgrow9 _
  have HB9 := hid' (HN0.out.bel.trans (NB.of_grown HOX.out hgrow9 HN0.out.bel.size).bel)
  have HBR : Hid (BR w9 w.heap.size v9 (p.data)) := hid' (by
    unfold BR
    have e : (p.data) = (([] : List UInt8)) ++ p.data := by simp
    rw [e, bytes_app, List.length_append, HXX.out, HNP.out]
    exact hown9)
  clear hown9 hgrow9
  go_wp2
  go_ret2
  exact ⟨⟨_, rfl, hid' (br_str HBR.out)⟩, HB9.out⟩

set_option maxHeartbeats 4000000 in
set_option maxRecDepth 20000 in
theorem cpay_away (fl st : Int) (p : Fm.Pt) (hd : p.data.length ≤ 16777215) (hs : p.sets.length ≤ 2796202) : PAYok 7 fl st p (Fm.enc 4 p.last ++ (Fm.enc 4 p.code ++ p.data)) := by
  intro w v hv
  obtain ⟨i0, hi, hz0, hz1, hz2⟩ := info_parts' infoByte'
  have HI := hid' hi
  have HZ0 := hid' hz0
  have HZ1 := hid' hz1
  have HZ2 := hid' hz2
  clear hi hz0 hz1 hz2
  obtain ⟨ao, cap, hsh⟩ := hv.shape
  subst hsh
  obtain ⟨n, hn⟩ : ∃ n, p.sets.length = n := ⟨_, rfl⟩
  rw [hn] at hs ⊢
  have t1 : decide ((16777215 : Int) < (p.data.length : Int)) = false := decide_eq_false (by omega)
  have t2 : decide ((2796202 : Int) < (n : Int)) = false := decide_eq_false (by omega)
  have HD := hid' hd
  clear hn hv hs hd
  go_enter Try.func34, Try.ntmps34
  go_wp2_with (refine wpl_boxes _ _ rfl rfl rfl rfl 7 fl st [] p (.slice ao n cap) (by kernel_rfl) (fun b => by kernel_rfl) ?_)
  intro b1 b2 w0 hF
  obtain ⟨c0, c1, c2, c3⟩ := frC_cells hF.a1
  obtain ⟨x0, x1, x2, x3, x4, x5, x6, x7⟩ := pt_cells hF.a2
  have HN0 := hid' (NB.of_below hF.bel (Nat.le_refl _))
  have HA0 := hid' hF.a2
  have HO0 : Hid (BR w0 w.heap.size (.slice none 0 0) []) := hid' (br_nil _ _)
  clear hF
  go_upto_region 22 with fail
  go_wp2_with fail
  refine (cappend_any w.heap.size (.slice none 0 0) _ p.last 4 _ (by decide) HO0.out HN0.out.bel.size (by simp)).mono ?_
  rintro e w1 ⟨⟨v1, rfl, ho1⟩, hn1⟩
  have HN1 := hid' (HN0.out.trans hn1)
  have ha1 := hn1.ar _ _ _ (by decide) HA0.out
  obtain ⟨x0, x1, x2, x3, x4, x5, x6, x7⟩ := pt_cells ha1
  have HA1 := hid' ha1
  have HO1 := hid' ho1.out
  clear hn1 ha1 ho1
  go_upto_region 23 with fail
  go_wp2_with fail
  refine (cappend_any w.heap.size v1 _ p.code 4 _ (by decide) HO1.out HN1.out.bel.size (by simp [Fm.enc_length])).mono ?_
  rintro e w2 ⟨⟨v2, rfl, ho2⟩, hn2⟩
  have HN2 := hid' (HN1.out.trans hn2)
  have ha2 := hn2.ar _ _ _ (by decide) HA1.out
  obtain ⟨x0, x1, x2, x3, x4, x5, x6, x7⟩ := pt_cells ha2
  have HA2 := hid' ha2
  have HO2 := hid' ho2.out
  clear hn2 ha2 ho2
  go_upto_region 28 with fail
  have hlen : (([] : List UInt8) ++ Fm.enc 4 p.last ++ Fm.enc 4 p.code).length ≤ 8 := by simp [Fm.enc_length]
  obtain ⟨xs, hxs⟩ : ∃ xs, Lib.byteCells (([] : List UInt8) ++ Fm.enc 4 p.last ++ Fm.enc 4 p.code) = xs := ⟨_, rfl⟩
  obtain ⟨np, hnp⟩ : ∃ np, (([] : List UInt8) ++ Fm.enc 4 p.last ++ Fm.enc 4 p.code).length = np := ⟨_, rfl⟩
  have HOX := hid' (br_own HO2.out)
  rw [hxs, hnp] at HOX
  rw [hnp] at hlen
  have HXX := hid' hxs
  have HNP := hid' hnp
  clear hxs hnp
  go_wp2_with (at_builtin; refine Lib.wpList_append_own_string _ rfl _ _ 66 9 rfl w.heap.size 5 i0 Try.underlying66 Try.underlying9 HI.out HZ0.out HZ1.out HZ2.out _ _ _ rfl HOX.out ⟨p.data.toArray⟩ rfl ?c3 ?c4 ?c5 ?_)
  case c3 => show np + p.data.length ≤ maxLen; have := HD.out; unfold maxLen; omega
  case c4 => show np + p.data.length ≤ _; have := HD.out; omega
  case c5 => exact HN2.out.bel.size
  intro v9 w9 hown9 hgrow9 _
  have HB9 := hid' (HN2.out.bel.trans (NB.of_grown HOX.out hgrow9 HN2.out.bel.size).bel)
  have HBR : Hid (BR w9 w.heap.size v9 (Fm.enc 4 p.last ++ (Fm.enc 4 p.code ++ p.data))) := hid' (by
    unfold BR
    have e : (Fm.enc 4 p.last ++ (Fm.enc 4 p.code ++ p.data)) = (([] : List UInt8) ++ Fm.enc 4 p.last ++ Fm.enc 4 p.code) ++ p.data := by simp
    rw [e, bytes_app, List.length_append, HXX.out, HNP.out]
    exact hown9)
  clear hown9 hgrow9
  go_wp2
  go_ret2
  exact ⟨⟨_, rfl, hid' (br_str HBR.out)⟩, HB9.out⟩

set_option maxHeartbeats 4000000 in
set_option maxRecDepth 20000 in
theorem cpay_window (fl st : Int) (p : Fm.Pt) (hd : p.data.length ≤ 16777215) (hs : p.sets.length ≤ 2796202) : PAYok 8 fl st p (Fm.enc 4 p.more ++ p.data) := by
  intro w v hv
  obtain ⟨i0, hi, hz0, hz1, hz2⟩ := info_parts' infoByte'
  have HI := hid' hi
  have HZ0 := hid' hz0
  have HZ1 := hid' hz1
  have HZ2 := hid' hz2
  clear hi hz0 hz1 hz2
  obtain ⟨ao, cap, hsh⟩ := hv.shape
  subst hsh
  obtain ⟨n, hn⟩ : ∃ n, p.sets.length = n := ⟨_, rfl⟩
  rw [hn] at hs ⊢
  have t1 : decide ((16777215 : Int) < (p.data.length : Int)) = false := decide_eq_false (by omega)
  have t2 : decide ((2796202 : Int) < (n : Int)) = false := decide_eq_false (by omega)
  have HD := hid' hd
  clear hn hv hs hd
  go_enter Try.func34, Try.ntmps34
  go_wp2_with (refine wpl_boxes _ _ rfl rfl rfl rfl 8 fl st [] p (.slice ao n cap) (by kernel_rfl) (fun b => by kernel_rfl) ?_)
  intro b1 b2 w0 hF
  obtain ⟨c0, c1, c2, c3⟩ := frC_cells hF.a1
  obtain ⟨x0, x1, x2, x3, x4, x5, x6, x7⟩ := pt_cells hF.a2
  have HN0 := hid' (NB.of_below hF.bel (Nat.le_refl _))
  have HA0 := hid' hF.a2
  have HO0 : Hid (BR w0 w.heap.size (.slice none 0 0) []) := hid' (br_nil _ _)
  clear hF
  go_upto_region 25 with fail
  go_wp2_with fail
  refine (cappend_any w.heap.size (.slice none 0 0) _ p.more 4 _ (by decide) HO0.out HN0.out.bel.size (by simp)).mono ?_
  rintro e w1 ⟨⟨v1, rfl, ho1⟩, hn1⟩
  have HN1 := hid' (HN0.out.trans hn1)
  have ha1 := hn1.ar _ _ _ (by decide) HA0.out
  obtain ⟨x0, x1, x2, x3, x4, x5, x6, x7⟩ := pt_cells ha1
  have HA1 := hid' ha1
  have HO1 := hid' ho1.out
  clear hn1 ha1 ho1
  go_upto_region 28 with fail
  have hlen : (([] : List UInt8) ++ Fm.enc 4 p.more).length ≤ 8 := by simp [Fm.enc_length]
  obtain ⟨xs, hxs⟩ : ∃ xs, Lib.byteCells (([] : List UInt8) ++ Fm.enc 4 p.more) = xs := ⟨_, rfl⟩
  obtain ⟨np, hnp⟩ : ∃ np, (([] : List UInt8) ++ Fm.enc 4 p.more).length = np := ⟨_, rfl⟩
  have HOX := hid' (br_own HO1.out)
  rw [hxs, hnp] at HOX
  rw [hnp] at hlen
  have HXX := hid' hxs
  have HNP := hid' hnp
  clear hxs hnp
  go_wp2_with (at_builtin; refine Lib.wpList_append_own_string _ rfl _ _ 66 9 rfl w.heap.size 5 i0 Try.underlying66 Try.underlying9 HI.out HZ0.out HZ1.out HZ2.out _ _ _ rfl HOX.out ⟨p.data.toArray⟩ rfl ?c3 ?c4 ?c5 ?_)
  case c3 => show np + p.data.length ≤ maxLen; have := HD.out; unfold maxLen; omega
  case c4 => show np + p.data.length ≤ _; have := HD.out; omega
  case c5 => exact HN1.out.bel.size
  intro v9 w9 hown9 hgrow9 _
  have HB9 := hid' (HN1.out.bel.trans (NB.of_grown HOX.out hgrow9 HN1.out.bel.size).bel)
  have HBR : Hid (BR w9 w.heap.size v9 (Fm.enc 4 p.more ++ p.data)) := hid' (by
    unfold BR
    have e : (Fm.enc 4 p.more ++ p.data) = (([] : List UInt8) ++ Fm.enc 4 p.more) ++ p.data := by simp
    rw [e, bytes_app, List.length_append, HXX.out, HNP.out]
    exact hown9)
  clear hown9 hgrow9
  go_wp2
  go_ret2
  exact ⟨⟨_, rfl, hid' (br_str HBR.out)⟩, HB9.out⟩

set_option maxHeartbeats 4000000 in
set_option maxRecDepth 20000 in
theorem cpay_update (fl st : Int) (p : Fm.Pt) (hd : p.data.length ≤ 16777215) (hs : p.sets.length ≤ 2796202) : PAYok 16 fl st p (Fm.enc 4 p.last ++ p.data) := by
  intro w v hv
  obtain ⟨i0, hi, hz0, hz1, hz2⟩ := info_parts' infoByte'
  have HI := hid' hi
  have HZ0 := hid' hz0
  have HZ1 := hid' hz1
  have HZ2 := hid' hz2
  clear hi hz0 hz1 hz2
  obtain ⟨ao, cap, hsh⟩ := hv.shape
  subst hsh
  obtain ⟨n, hn⟩ : ∃ n, p.sets.length = n := ⟨_, rfl⟩
  rw [hn] at hs ⊢
  have t1 : decide ((16777215 : Int) < (p.data.length : Int)) = false := decide_eq_false (by omega)
  have t2 : decide ((2796202 : Int) < (n : Int)) = false := decide_eq_false (by omega)
  have HD := hid' hd
  clear hn hv hs hd
  go_enter Try.func34, Try.ntmps34
  go_wp2_with (refine wpl_boxes _ _ rfl rfl rfl rfl 16 fl st [] p (.slice ao n cap) (by kernel_rfl) (fun b => by kernel_rfl) ?_)
  intro b1 b2 w0 hF
  obtain ⟨c0, c1, c2, c3⟩ := frC_cells hF.a1
  obtain ⟨x0, x1, x2, x3, x4, x5, x6, x7⟩ := pt_cells hF.a2
  have HN0 := hid' (NB.of_below hF.bel (Nat.le_refl _))
  have HA0 := hid' hF.a2
  have HO0 : Hid (BR w0 w.heap.size (.slice none 0 0) []) := hid' (br_nil _ _)
  clear hF
  go_upto_region 27 with fail
  go_wp2_with fail
  refine (cappend_any w.heap.size (.slice none 0 0) _ p.last 4 _ (by decide) HO0.out HN0.out.bel.size (by simp)).mono ?_
  rintro e w1 ⟨⟨v1, rfl, ho1⟩, hn1⟩
  have HN1 := hid' (HN0.out.trans hn1)
  have ha1 := hn1.ar _ _ _ (by decide) HA0.out
  obtain ⟨x0, x1, x2, x3, x4, x5, x6, x7⟩ := pt_cells ha1
  have HA1 := hid' ha1
  have HO1 := hid' ho1.out
  clear hn1 ha1 ho1
  go_upto_region 28 with fail
  have hlen : (([] : List UInt8) ++ Fm.enc 4 p.last).length ≤ 8 := by simp [Fm.enc_length]
  obtain ⟨xs, hxs⟩ : ∃ xs, Lib.byteCells (([] : List UInt8) ++ Fm.enc 4 p.last) = xs := ⟨_, rfl⟩
  obtain ⟨np, hnp⟩ : ∃ np, (([] : List UInt8) ++ Fm.enc 4 p.last).length = np := ⟨_, rfl⟩
  have HOX := hid' (br_own HO1.out)
  rw [hxs, hnp] at HOX
  rw [hnp] at hlen
  have HXX := hid' hxs
  have HNP := hid' hnp
  clear hxs hnp
  go_wp2_with (at_builtin; refine Lib.wpList_append_own_string _ rfl _ _ 66 9 rfl w.heap.size 5 i0 Try.underlying66 Try.underlying9 HI.out HZ0.out HZ1.out HZ2.out _ _ _ rfl HOX.out ⟨p.data.toArray⟩ rfl ?c3 ?c4 ?c5 ?_)
  case c3 => show np + p.data.length ≤ maxLen; have := HD.out; unfold maxLen; omega
  case c4 => show np + p.data.length ≤ _; have := HD.out; omega
  case c5 => exact HN1.out.bel.size
  intro v9 w9 hown9 hgrow9 _
  have HB9 := hid' (HN1.out.bel.trans (NB.of_grown HOX.out hgrow9 HN1.out.bel.size).bel)
  have HBR : Hid (BR w9 w.heap.size v9 (Fm.enc 4 p.last ++ p.data)) := hid' (by
    unfold BR
    have e : (Fm.enc 4 p.last ++ p.data) = (([] : List UInt8) ++ Fm.enc 4 p.last) ++ p.data := by simp
    rw [e, bytes_app, List.length_append, HXX.out, HNP.out]
    exact hown9)
  clear hown9 hgrow9
  go_wp2
  go_ret2
  exact ⟨⟨_, rfl, hid' (br_str HBR.out)⟩, HB9.out⟩

end Go.Proofs.Ythbidfcfkjamdaa
