/-
  The document's payload of any kind.
  ostlerref07.Same of parts that differ: by its contract.
  ostlerref07.Make, by its contract.
  Both Makes answer the same.
  The settings of one's own: a row that is appended to in a region that draws.
-/
import Derived.Test.YthbidfcfkjamdaaFrEn
import Derived.Test.YthbidfcfkjamdaaFrEp
import Derived.Test.YthbidfcfkjamdaaFrSm
import Derived.Test.YthbidfcfkjamdaaFrDt
import Derived.Test.YthbidfcfkjamdaaFrDv
import Derived.Test.YthbidfcfkjamdaaFrAw
namespace Go.Proofs.Ythbidfcfkjamdaa
open Go.RowKit

/-- How great parts can be. -/
structure Fm.Bd (p : Fm.Pt) : Prop where
  code : p.code ≤ 9223372036854775807
  last : p.last ≤ 9223372036854775807
  more : p.more ≤ 9223372036854775807
  data : p.data.length ≤ 140737488355328
  sets : p.sets.length ≤ 8796093022208
theorem Fm.pos_of {n : Int} (h : Fm.fit4 n = true) : Fm.pos n = n := by
  have := Fm.fit4_yes h
  unfold Fm.pos
  omega

theorem dpay_is (k fl : Int) (p : Fm.Pt) (hf : 0 ≤ fl ∧ fl ≤ 255) (hb : Fm.Bd p) : (Fm.dpay k fl p = none ∧ RPno k fl p) ∨ (∃ s, Fm.dpay k fl p = some s ∧ RPok k fl p s) := by
  unfold Fm.dpay
  by_cases k0 : k = 0
  · subst k0
    cases h8 : Fm.has fl 8 with
    | false => exact .inr ⟨p.data, by simp, rpay_data fl p hf h8⟩
    | true =>
      by_cases hp : p.pad < 1 ∨ 256 < p.pad
      · exact .inl ⟨by simp [hp], rpay_datano fl p hf h8 hp⟩
      · exact .inr ⟨(Fm.enc 1 (p.pad - 1) ++ p.data) ++ List.replicate (p.pad - 1).toNat 0, by simp only [if_true]; rw [if_neg hp], rpay_datapad fl p hf hb.data h8 (by omega) (by omega)⟩
  by_cases k1 : k = 1
  · subst k1
    cases h8 : Fm.has fl 8 with
    | true =>
      cases h5 : Fm.has fl 32 with
      | false => exact .inl ⟨by simp, rpay_headpad fl p hf h8 h5⟩
      | true =>
        cases h6 : Fm.fiveOk p with
        | false => exact .inl ⟨by simp, rpay_hp_no fl p hf hb.data h5 h6⟩
        | true => exact .inl ⟨by simp, rpay_hp_pad fl p hf hb.data h5 h8 h6⟩
    | false =>
      cases h5 : Fm.has fl 32 with
      | false => exact .inr ⟨p.data, by simp, rpay_head fl p hf h8 h5⟩
      | true =>
        cases h6 : Fm.fiveOk p with
        | false => exact .inl ⟨by simp, rpay_hp_no fl p hf hb.data h5 h6⟩
        | true => exact .inr ⟨Fm.five p ++ p.data, by simp, rpay_hp fl p hf hb.data h5 h8 h6⟩
  by_cases k2 : k = 2
  · subst k2
    cases h6 : Fm.fiveOk p with
    | false => exact .inl ⟨by simp, rpay_prio_no fl p h6⟩
    | true => exact .inr ⟨Fm.five p, by simp, rpay_prio fl p h6⟩
  by_cases k3 : k = 3
  · subst k3
    cases h6 : Fm.fit4 p.code with
    | false => exact .inl ⟨by simp, fun w v hv => (rpay_reset fl p hb.code w v hv).mono fun e w' ⟨h1, h2⟩ => ⟨by rw [h6] at h1; exact ⟨_, h1⟩, h2⟩⟩
    | true => exact .inr ⟨Fm.enc 4 p.code, by simp, fun w v hv => (rpay_reset fl p hb.code w v hv).mono fun e w' ⟨h1, h2⟩ => ⟨by rw [h6, Fm.pos_of h6] at h1; exact h1, h2⟩⟩
  by_cases k4 : k = 4
  · subst k4
    cases h6 : p.sets.all (fun x => Fm.fit2 x.1 && Fm.fit4 x.2) with
    | false => exact .inl ⟨by simp, fun w v hv => (rpay_sets fl p hb.sets false h6 w v hv).mono fun e w' ⟨h1, h2⟩ => ⟨⟨_, h1⟩, h2⟩⟩
    | true => exact .inr ⟨Fm.stB p.sets, by simp, fun w v hv => (rpay_sets fl p hb.sets true h6 w v hv).mono fun e w' ⟨h1, h2⟩ => ⟨h1, h2⟩⟩
  by_cases k6 : k = 6
  · subst k6
    exact .inr ⟨p.data, by simp, rpay_ping fl p⟩
  by_cases k7 : k = 7
  · subst k7
    cases h6 : Fm.fit4 p.last with
    | false => exact .inl ⟨by simp, fun w v hv => (rpay_away_no fl p hb.code hb.last hb.data h6 w v hv).mono fun e w' ⟨h1, h2⟩ => ⟨⟨_, h1⟩, h2⟩⟩
    | true =>
      cases h7 : Fm.fit4 p.code with
      | false => exact .inl ⟨by simp, fun w v hv => (rpay_away fl p hb.code hb.last hb.data h6 w v hv).mono fun e w' ⟨h1, h2⟩ => ⟨by rw [h7] at h1; exact ⟨_, h1⟩, h2⟩⟩
      | true => exact .inr ⟨(Fm.enc 4 p.last ++ Fm.enc 4 p.code) ++ p.data, by simp only [if_neg (show ¬ (7 : Int) = 0 by decide), if_neg (show ¬ (7 : Int) = 1 by decide), if_neg (show ¬ (7 : Int) = 2 by decide), if_neg (show ¬ (7 : Int) = 3 by decide), if_neg (show ¬ (7 : Int) = 4 by decide), if_neg (show ¬ (7 : Int) = 6 by decide), if_true, and_self], fun w v hv => (rpay_away fl p hb.code hb.last hb.data h6 w v hv).mono fun e w' ⟨h1, h2⟩ => ⟨by rw [h7, Fm.pos_of h6, Fm.pos_of h7] at h1; exact h1, h2⟩⟩
  by_cases k8 : k = 8
  · subst k8
    cases h6 : Fm.fit4 p.more with
    | false => exact .inl ⟨by simp, fun w v hv => (rpay_window fl p hb.more w v hv).mono fun e w' ⟨h1, h2⟩ => ⟨by rw [h6] at h1; exact ⟨_, h1⟩, h2⟩⟩
    | true => exact .inr ⟨Fm.enc 4 p.more, by simp, fun w v hv => (rpay_window fl p hb.more w v hv).mono fun e w' ⟨h1, h2⟩ => ⟨by rw [h6, Fm.pos_of h6] at h1; exact h1, h2⟩⟩
  by_cases k9 : k = 9
  · subst k9
    exact .inr ⟨p.data, by simp, rpay_more fl p⟩
  by_cases k16 : k = 16
  · subst k16
    cases h6 : Fm.fit4 p.last with
    | false => exact .inl ⟨by simp, fun w v hv => (rpay_update fl p hb.last hb.data w v hv).mono fun e w' ⟨h1, h2⟩ => ⟨by rw [h6] at h1; exact ⟨_, h1⟩, h2⟩⟩
    | true => exact .inr ⟨Fm.enc 4 p.last ++ p.data, by simp, fun w v hv => (rpay_update fl p hb.last hb.data w v hv).mono fun e w' ⟨h1, h2⟩ => ⟨by rw [h6, Fm.pos_of h6] at h1; exact h1, h2⟩⟩
  exact .inl ⟨by simp [k0, k1, k2, k3, k4, k6, k7, k8, k9, k16], rpay_kind k fl p ⟨k0, k1, k2, k3, k4, k6, k7, k8, k9, k16⟩⟩

end Go.Proofs.Ythbidfcfkjamdaa

namespace Go.Proofs.Ythbidfcfkjamdaa
open Go.RowKit

set_option maxHeartbeats 2000000 in
set_option maxRecDepth 20000 in
theorem csame_no0 (pd : List UInt8) (pp : Int) (pc : Int) (pl : Int) (pw : Int) (po : Bool) (pm : Int) (ps : List (Int × Int)) (qd : List UInt8) (qp : Int) (qc : Int) (ql : Int) (qw : Int) (qo : Bool) (qm : Int) (qs : List (Int × Int)) (v v' : Value) (w : World) (h : SR w v ps) (h' : SR w v' qs) (hne : pd ≠ qd) :
    Calls Try.prog 12 #[.agg (ptC ⟨pd, pp, pc, pl, pw, po, pm, ps⟩ v), .agg (ptC ⟨qd, qp, qc, ql, qw, qo, qm, qs⟩ v')] w fun e w' => e = .returned (.bool false) ∧ Below w.heap.size w w' := by
  obtain ⟨ao, cap, rfl⟩ := h.shape
  obtain ⟨bo, cap', rfl⟩ := h'.shape
  obtain ⟨n, hn⟩ : ∃ n, ps.length = n := ⟨_, rfl⟩
  obtain ⟨n', hn'⟩ : ∃ n, qs.length = n := ⟨_, rfl⟩
  rw [hn, hn']
  clear h h' hn hn'
  have hd1 : (pd == qd) = false := beq_false_of_ne hne
  have hd2 : decide (pd = qd) = false := decide_eq_false hne
  clear hne
  go_enter Try.func12, Try.ntmps12
  go_wp2_with (refine wpl_boxpp _ _ rfl rfl rfl rfl ⟨pd, pp, pc, pl, pw, po, pm, ps⟩ ⟨qd, qp, qc, ql, qw, qo, qm, qs⟩ (.slice ao n cap) (.slice bo n' cap') (by kernel_rfl) (fun b => by kernel_rfl) ?_)
  intro b1 b2 w0 ha1 ha2 hb0
  obtain ⟨x0, x1, x2, x3, x4, x5, x6, x7⟩ := pt_cells ha1
  obtain ⟨y0, y1, y2, y3, y4, y5, y6, y7⟩ := pt_cells ha2
  have HB := hid' hb0
  clear ha1 ha2 hb0
  go_wp2
  go_ret
  exact ⟨rfl, HB.out⟩

set_option maxHeartbeats 2000000 in
set_option maxRecDepth 20000 in
theorem csame_no1 (pd : List UInt8) (pp : Int) (pc : Int) (pl : Int) (pw : Int) (po : Bool) (pm : Int) (ps : List (Int × Int)) (qp : Int) (qc : Int) (ql : Int) (qw : Int) (qo : Bool) (qm : Int) (qs : List (Int × Int)) (v v' : Value) (w : World) (h : SR w v ps) (h' : SR w v' qs) (hne : pp ≠ qp) :
    Calls Try.prog 12 #[.agg (ptC ⟨pd, pp, pc, pl, pw, po, pm, ps⟩ v), .agg (ptC ⟨pd, qp, qc, ql, qw, qo, qm, qs⟩ v')] w fun e w' => e = .returned (.bool false) ∧ Below w.heap.size w w' := by
  obtain ⟨ao, cap, rfl⟩ := h.shape
  obtain ⟨bo, cap', rfl⟩ := h'.shape
  obtain ⟨n, hn⟩ : ∃ n, ps.length = n := ⟨_, rfl⟩
  obtain ⟨n', hn'⟩ : ∃ n, qs.length = n := ⟨_, rfl⟩
  rw [hn, hn']
  clear h h' hn hn'
  have hd1 : (pp == qp) = false := beq_false_of_ne hne
  have hd2 : decide (pp = qp) = false := decide_eq_false hne
  have hd4 : (pp = qp) = False := eq_false hne
  go_enter Try.func12, Try.ntmps12
  go_wp2_with (refine wpl_boxpp _ _ rfl rfl rfl rfl ⟨pd, pp, pc, pl, pw, po, pm, ps⟩ ⟨pd, qp, qc, ql, qw, qo, qm, qs⟩ (.slice ao n cap) (.slice bo n' cap') (by kernel_rfl) (fun b => by kernel_rfl) ?_)
  intro b1 b2 w0 ha1 ha2 hb0
  obtain ⟨x0, x1, x2, x3, x4, x5, x6, x7⟩ := pt_cells ha1
  obtain ⟨y0, y1, y2, y3, y4, y5, y6, y7⟩ := pt_cells ha2
  have HB := hid' hb0
  clear ha1 ha2 hb0
  go_wp2
  go_ret
  exact ⟨rfl, HB.out⟩

set_option maxHeartbeats 2000000 in
set_option maxRecDepth 20000 in
theorem csame_no2 (pd : List UInt8) (pp : Int) (pc : Int) (pl : Int) (pw : Int) (po : Bool) (pm : Int) (ps : List (Int × Int)) (qc : Int) (ql : Int) (qw : Int) (qo : Bool) (qm : Int) (qs : List (Int × Int)) (v v' : Value) (w : World) (h : SR w v ps) (h' : SR w v' qs) (hne : pc ≠ qc) :
    Calls Try.prog 12 #[.agg (ptC ⟨pd, pp, pc, pl, pw, po, pm, ps⟩ v), .agg (ptC ⟨pd, pp, qc, ql, qw, qo, qm, qs⟩ v')] w fun e w' => e = .returned (.bool false) ∧ Below w.heap.size w w' := by
  obtain ⟨ao, cap, rfl⟩ := h.shape
  obtain ⟨bo, cap', rfl⟩ := h'.shape
  obtain ⟨n, hn⟩ : ∃ n, ps.length = n := ⟨_, rfl⟩
  obtain ⟨n', hn'⟩ : ∃ n, qs.length = n := ⟨_, rfl⟩
  rw [hn, hn']
  clear h h' hn hn'
  have hd1 : (pc == qc) = false := beq_false_of_ne hne
  have hd2 : decide (pc = qc) = false := decide_eq_false hne
  have hd4 : (pc = qc) = False := eq_false hne
  go_enter Try.func12, Try.ntmps12
  go_wp2_with (refine wpl_boxpp _ _ rfl rfl rfl rfl ⟨pd, pp, pc, pl, pw, po, pm, ps⟩ ⟨pd, pp, qc, ql, qw, qo, qm, qs⟩ (.slice ao n cap) (.slice bo n' cap') (by kernel_rfl) (fun b => by kernel_rfl) ?_)
  intro b1 b2 w0 ha1 ha2 hb0
  obtain ⟨x0, x1, x2, x3, x4, x5, x6, x7⟩ := pt_cells ha1
  obtain ⟨y0, y1, y2, y3, y4, y5, y6, y7⟩ := pt_cells ha2
  have HB := hid' hb0
  clear ha1 ha2 hb0
  go_wp2
  go_ret
  exact ⟨rfl, HB.out⟩

set_option maxHeartbeats 2000000 in
set_option maxRecDepth 20000 in
theorem csame_no3 (pd : List UInt8) (pp : Int) (pc : Int) (pl : Int) (pw : Int) (po : Bool) (pm : Int) (ps : List (Int × Int)) (ql : Int) (qw : Int) (qo : Bool) (qm : Int) (qs : List (Int × Int)) (v v' : Value) (w : World) (h : SR w v ps) (h' : SR w v' qs) (hne : pl ≠ ql) :
    Calls Try.prog 12 #[.agg (ptC ⟨pd, pp, pc, pl, pw, po, pm, ps⟩ v), .agg (ptC ⟨pd, pp, pc, ql, qw, qo, qm, qs⟩ v')] w fun e w' => e = .returned (.bool false) ∧ Below w.heap.size w w' := by
  obtain ⟨ao, cap, rfl⟩ := h.shape
  obtain ⟨bo, cap', rfl⟩ := h'.shape
  obtain ⟨n, hn⟩ : ∃ n, ps.length = n := ⟨_, rfl⟩
  obtain ⟨n', hn'⟩ : ∃ n, qs.length = n := ⟨_, rfl⟩
  rw [hn, hn']
  clear h h' hn hn'
  have hd1 : (pl == ql) = false := beq_false_of_ne hne
  have hd2 : decide (pl = ql) = false := decide_eq_false hne
  have hd4 : (pl = ql) = False := eq_false hne
  go_enter Try.func12, Try.ntmps12
  go_wp2_with (refine wpl_boxpp _ _ rfl rfl rfl rfl ⟨pd, pp, pc, pl, pw, po, pm, ps⟩ ⟨pd, pp, pc, ql, qw, qo, qm, qs⟩ (.slice ao n cap) (.slice bo n' cap') (by kernel_rfl) (fun b => by kernel_rfl) ?_)
  intro b1 b2 w0 ha1 ha2 hb0
  obtain ⟨x0, x1, x2, x3, x4, x5, x6, x7⟩ := pt_cells ha1
  obtain ⟨y0, y1, y2, y3, y4, y5, y6, y7⟩ := pt_cells ha2
  have HB := hid' hb0
  clear ha1 ha2 hb0
  go_wp2
  go_ret
  exact ⟨rfl, HB.out⟩

set_option maxHeartbeats 2000000 in
set_option maxRecDepth 20000 in
theorem csame_no4 (pd : List UInt8) (pp : Int) (pc : Int) (pl : Int) (pw : Int) (po : Bool) (pm : Int) (ps : List (Int × Int)) (qw : Int) (qo : Bool) (qm : Int) (qs : List (Int × Int)) (v v' : Value) (w : World) (h : SR w v ps) (h' : SR w v' qs) (hne : pw ≠ qw) :
    Calls Try.prog 12 #[.agg (ptC ⟨pd, pp, pc, pl, pw, po, pm, ps⟩ v), .agg (ptC ⟨pd, pp, pc, pl, qw, qo, qm, qs⟩ v')] w fun e w' => e = .returned (.bool false) ∧ Below w.heap.size w w' := by
  obtain ⟨ao, cap, rfl⟩ := h.shape
  obtain ⟨bo, cap', rfl⟩ := h'.shape
  obtain ⟨n, hn⟩ : ∃ n, ps.length = n := ⟨_, rfl⟩
  obtain ⟨n', hn'⟩ : ∃ n, qs.length = n := ⟨_, rfl⟩
  rw [hn, hn']
  clear h h' hn hn'
  have hd1 : (pw == qw) = false := beq_false_of_ne hne
  have hd2 : decide (pw = qw) = false := decide_eq_false hne
  have hd4 : (pw = qw) = False := eq_false hne
  go_enter Try.func12, Try.ntmps12
  go_wp2_with (refine wpl_boxpp _ _ rfl rfl rfl rfl ⟨pd, pp, pc, pl, pw, po, pm, ps⟩ ⟨pd, pp, pc, pl, qw, qo, qm, qs⟩ (.slice ao n cap) (.slice bo n' cap') (by kernel_rfl) (fun b => by kernel_rfl) ?_)
  intro b1 b2 w0 ha1 ha2 hb0
  obtain ⟨x0, x1, x2, x3, x4, x5, x6, x7⟩ := pt_cells ha1
  obtain ⟨y0, y1, y2, y3, y4, y5, y6, y7⟩ := pt_cells ha2
  have HB := hid' hb0
  clear ha1 ha2 hb0
  go_wp2
  go_ret
  exact ⟨rfl, HB.out⟩

set_option maxHeartbeats 2000000 in
set_option maxRecDepth 20000 in
theorem csame_no5 (pd : List UInt8) (pp : Int) (pc : Int) (pl : Int) (pw : Int) (po : Bool) (pm : Int) (ps : List (Int × Int)) (qo : Bool) (qm : Int) (qs : List (Int × Int)) (v v' : Value) (w : World) (h : SR w v ps) (h' : SR w v' qs) (hne : po ≠ qo) :
    Calls Try.prog 12 #[.agg (ptC ⟨pd, pp, pc, pl, pw, po, pm, ps⟩ v), .agg (ptC ⟨pd, pp, pc, pl, pw, qo, qm, qs⟩ v')] w fun e w' => e = .returned (.bool false) ∧ Below w.heap.size w w' := by
  obtain ⟨ao, cap, rfl⟩ := h.shape
  obtain ⟨bo, cap', rfl⟩ := h'.shape
  obtain ⟨n, hn⟩ : ∃ n, ps.length = n := ⟨_, rfl⟩
  obtain ⟨n', hn'⟩ : ∃ n, qs.length = n := ⟨_, rfl⟩
  rw [hn, hn']
  clear h h' hn hn'
  have hd1 : (po == qo) = false := beq_false_of_ne hne
  have hd2 : (po != qo) = true := by rw [bne, hd1]; rfl
  have hd4 : (po = qo) = False := eq_false hne
  clear hne
  go_enter Try.func12, Try.ntmps12
  go_wp2_with (refine wpl_boxpp _ _ rfl rfl rfl rfl ⟨pd, pp, pc, pl, pw, po, pm, ps⟩ ⟨pd, pp, pc, pl, pw, qo, qm, qs⟩ (.slice ao n cap) (.slice bo n' cap') (by kernel_rfl) (fun b => by kernel_rfl) ?_)
  intro b1 b2 w0 ha1 ha2 hb0
  obtain ⟨x0, x1, x2, x3, x4, x5, x6, x7⟩ := pt_cells ha1
  obtain ⟨y0, y1, y2, y3, y4, y5, y6, y7⟩ := pt_cells ha2
  have HB := hid' hb0
  clear ha1 ha2 hb0
  go_wp2
  go_ret
  exact ⟨rfl, HB.out⟩

set_option maxHeartbeats 2000000 in
set_option maxRecDepth 20000 in
theorem csame_no6 (pd : List UInt8) (pp : Int) (pc : Int) (pl : Int) (pw : Int) (po : Bool) (pm : Int) (ps : List (Int × Int)) (qm : Int) (qs : List (Int × Int)) (v v' : Value) (w : World) (h : SR w v ps) (h' : SR w v' qs) (hne : pm ≠ qm) :
    Calls Try.prog 12 #[.agg (ptC ⟨pd, pp, pc, pl, pw, po, pm, ps⟩ v), .agg (ptC ⟨pd, pp, pc, pl, pw, po, qm, qs⟩ v')] w fun e w' => e = .returned (.bool false) ∧ Below w.heap.size w w' := by
  obtain ⟨ao, cap, rfl⟩ := h.shape
  obtain ⟨bo, cap', rfl⟩ := h'.shape
  obtain ⟨n, hn⟩ : ∃ n, ps.length = n := ⟨_, rfl⟩
  obtain ⟨n', hn'⟩ : ∃ n, qs.length = n := ⟨_, rfl⟩
  rw [hn, hn']
  clear h h' hn hn'
  have hd1 : (pm == qm) = false := beq_false_of_ne hne
  have hd2 : decide (pm = qm) = false := decide_eq_false hne
  have hd4 : (pm = qm) = False := eq_false hne
  go_enter Try.func12, Try.ntmps12
  go_wp2_with (refine wpl_boxpp _ _ rfl rfl rfl rfl ⟨pd, pp, pc, pl, pw, po, pm, ps⟩ ⟨pd, pp, pc, pl, pw, po, qm, qs⟩ (.slice ao n cap) (.slice bo n' cap') (by kernel_rfl) (fun b => by kernel_rfl) ?_)
  intro b1 b2 w0 ha1 ha2 hb0
  obtain ⟨x0, x1, x2, x3, x4, x5, x6, x7⟩ := pt_cells ha1
  obtain ⟨y0, y1, y2, y3, y4, y5, y6, y7⟩ := pt_cells ha2
  have HB := hid' hb0
  clear ha1 ha2 hb0
  go_wp2
  go_ret
  exact ⟨rfl, HB.out⟩

set_option maxHeartbeats 2000000 in
set_option maxRecDepth 20000 in
theorem csame_no7 (pd : List UInt8) (pp : Int) (pc : Int) (pl : Int) (pw : Int) (po : Bool) (pm : Int) (ps : List (Int × Int)) (qs : List (Int × Int)) (v v' : Value) (w : World) (h : SR w v ps) (h' : SR w v' qs) (hne : ps.length ≠ qs.length) :
    Calls Try.prog 12 #[.agg (ptC ⟨pd, pp, pc, pl, pw, po, pm, ps⟩ v), .agg (ptC ⟨pd, pp, pc, pl, pw, po, pm, qs⟩ v')] w fun e w' => e = .returned (.bool false) ∧ Below w.heap.size w w' := by
  obtain ⟨ao, cap, rfl⟩ := h.shape
  obtain ⟨bo, cap', rfl⟩ := h'.shape
  obtain ⟨n, hn⟩ : ∃ n, ps.length = n := ⟨_, rfl⟩
  obtain ⟨n', hn'⟩ : ∃ n, qs.length = n := ⟨_, rfl⟩
  rw [hn, hn']
  rw [hn, hn'] at hne
  clear h h' hn hn'
  have hd1 : ((n : Int) == (n' : Int)) = false := beq_false_of_ne (by omega)
  have hd2 : decide ((n : Int) = (n' : Int)) = false := decide_eq_false (by omega)
  have hd3 : (n == n') = false := beq_false_of_ne (by omega)
  have hd4 : (n = n') = False := eq_false hne
  have hd5 : ((n : Int) = (n' : Int)) = False := eq_false (by omega)
  clear hne
  go_enter Try.func12, Try.ntmps12
  go_wp2_with (refine wpl_boxpp _ _ rfl rfl rfl rfl ⟨pd, pp, pc, pl, pw, po, pm, ps⟩ ⟨pd, pp, pc, pl, pw, po, pm, qs⟩ (.slice ao n cap) (.slice bo n' cap') (by kernel_rfl) (fun b => by kernel_rfl) ?_)
  intro b1 b2 w0 ha1 ha2 hb0
  obtain ⟨x0, x1, x2, x3, x4, x5, x6, x7⟩ := pt_cells ha1
  obtain ⟨y0, y1, y2, y3, y4, y5, y6, y7⟩ := pt_cells ha2
  have HB := hid' hb0
  clear ha1 ha2 hb0
  go_wp2
  go_ret
  exact ⟨rfl, HB.out⟩

set_option maxHeartbeats 4000000 in
set_option maxRecDepth 20000 in
theorem csame_no8 (pd : List UInt8) (pp : Int) (pc : Int) (pl : Int) (pw : Int) (po : Bool) (pm : Int) (ps : List (Int × Int)) (qs : List (Int × Int)) (v v' : Value) (w : World) (h : SR w v ps) (h' : SR w v' qs) (hl : ps.length = qs.length) (hne : ps ≠ qs) (hnb : ps.length ≤ 140737488355328) :
    Calls Try.prog 12 #[.agg (ptC ⟨pd, pp, pc, pl, pw, po, pm, ps⟩ v), .agg (ptC ⟨pd, pp, pc, pl, pw, po, pm, qs⟩ v')] w fun e w' => e = .returned (.bool false) ∧ Below w.heap.size w w' := by
  obtain ⟨ao, cap, rfl⟩ := h.shape
  obtain ⟨bo, cap', rfl⟩ := h'.shape
  obtain ⟨n, hn⟩ : ∃ n, ps.length = n := ⟨_, rfl⟩
  have hn' : qs.length = n := by rw [← hl]; exact hn
  rw [hn] at h hnb ⊢
  rw [hn'] at h' ⊢
  have H := hid' h
  have H' := hid' h'
  have HN := hid' hn
  have HN' := hid' hn'
  have HNE := hid' hne
  clear h h' hn hn' hne hl
  go_enter Try.func12, Try.ntmps12
  go_wp2_with (refine wpl_boxpp _ _ rfl rfl rfl rfl ⟨pd, pp, pc, pl, pw, po, pm, ps⟩ ⟨pd, pp, pc, pl, pw, po, pm, qs⟩ (.slice ao n cap) (.slice bo n cap') (by kernel_rfl) (fun b => by kernel_rfl) ?_)
  intro b1 b2 w0 ha1 ha2 hb0
  obtain ⟨x0, x1, x2, x3, x4, x5, x6, x7⟩ := pt_cells ha1
  obtain ⟨y0, y1, y2, y3, y4, y5, y6, y7⟩ := pt_cells ha2
  have HB := hid' hb0
  have HS0 : Hid (Below w0.heap.size w0 w0 ∧ ∀ t, t < 0 → ps[t]? = qs[t]?) := hid' ⟨Below.refl _ _, fun t ht => absurd ht (Nat.not_lt_zero _)⟩
  have HA1 := hid' ha1
  have HA2 := hid' ha2
  clear ha1 ha2 hb0
  go_wp2
  clear x0 x1 x2 x3 x4 x5 x6 x7 y0 y1 y2 y3 y4 y5 y6 y7
  go_loopw [5] (fun s5 wr => ∃ i : Nat, s5 = .int .i64 (i : Int) ∧ i ≤ n ∧ Hid (Below w0.heap.size w0 wr ∧ ∀ t, t < i → ps[t]? = qs[t]?)) (fun s5 _ => n - (intOf s5).toNat)
  case atStart => exact ⟨0, rfl, Nat.zero_le _, HS0⟩
  case round =>
    clear HS0
    obtain ⟨i, rfl, hi, HX⟩ := hrel
    have HW : Hid (Below w0.heap.size w0 wr) := hid' HX.out.1
    have HE : Hid (∀ t, t < i → ps[t]? = qs[t]?) := hid' HX.out.2
    clear HX
    obtain ⟨_, _, _, _, _, _, _, x7⟩ := pt_cells (HA1.out.keep HW.out)
    obtain ⟨_, _, _, _, _, _, _, y7⟩ := pt_cells (HA2.out.keep HW.out)
    by_cases hlt : i < n
    · have hlt2 : (i : Int) < (n : Int) := by omega
      obtain ⟨f, hf⟩ : ∃ f, ps[i]? = some f := ⟨_, List.getElem?_eq_getElem (by rw [HN.out]; exact hlt)⟩
      obtain ⟨g, hg⟩ : ∃ f, qs[i]? = some f := ⟨_, List.getElem?_eq_getElem (by rw [HN'.out]; exact hlt)⟩
      obtain ⟨a, hao, c0, c1⟩ := ((H.out.keep HB.out).keep HW.out).two i f hf
      obtain ⟨b, hbo, d0, d1⟩ := ((H'.out.keep HB.out).keep HW.out).two i g hg
      subst hao hbo
      by_cases hfg : f = g
      · subst hfg
        have hnq : ∀ W, (binOp .neq 29 (.agg #[.int .i64 f.1, .int .i64 f.2]) (.agg #[.int .i64 f.1, .int .i64 f.2])).run Try.prog W = .ok (.bool false) W := fun W => by rw [neq_set]; simp
        have hng := noGuardS
        have HE2 : Hid (∀ t, t < i + 1 → ps[t]? = qs[t]?) := hid' (fun t ht => by
          by_cases h1 : t < i
          · exact HE.out t h1
          · obtain rfl : t = i := by omega
            rw [hf, hg])
        clear hf hg
        go_wp2
        go_quiet (fail)
        go_wp2
        go_roundw
        case rel => exact ⟨i + 1, by go_num, by omega, hid' ⟨below_drewN' HW.out _, HE2.out⟩⟩
        case measure => simp [intOf]; omega
      · have hnq : ∀ W, (binOp .neq 29 (.agg #[.int .i64 f.1, .int .i64 f.2]) (.agg #[.int .i64 g.1, .int .i64 g.2])).run Try.prog W = .ok (.bool true) W := fun W => by
          rw [neq_set]
          have : (f.1 == g.1 && f.2 == g.2) = false := by
            cases hq : (f.1 == g.1 && f.2 == g.2) with
            | false => rfl
            | true =>
              simp only [Bool.and_eq_true, beq_iff_eq] at hq
              exact absurd (Prod.ext hq.1 hq.2) hfg
          simp [this]
        have hng := noGuardS
        have HB2 := hid' (below_two HB.out HW.out)
        clear hf hg hfg
        go_wp2
        go_quiet (fail)
        go_wp2
        go_ret
        exact ⟨rfl, below_drewN' HB2.out _⟩
    · exact absurd (List.ext_getElem? (fun t => by
        by_cases h1 : t < i
        · exact HE.out t h1
        · rw [List.getElem?_eq_none (by rw [HN.out]; omega), List.getElem?_eq_none (by rw [HN'.out]; omega)])) HNE.out

/-- Same of parts that are not one. -/
theorem csame_no (p q : Fm.Pt) (v v' : Value) (w : World) (h : SR w v p.sets) (h' : SR w v' q.sets) (hne : p ≠ q) (hnb : p.sets.length ≤ 140737488355328) :
    Calls Try.prog 12 #[.agg (ptC p v), .agg (ptC q v')] w fun e w' => e = .returned (.bool false) ∧ Below w.heap.size w w' := by
  obtain ⟨pd, pp, pc, pl, pw, po, pm, ps⟩ := p
  obtain ⟨qd, qp, qc, ql, qw, qo, qm, qs⟩ := q
  simp only at h h' hnb
  by_cases e0 : pd = qd
  case neg => exact csame_no0 pd pp pc pl pw po pm ps qd qp qc ql qw qo qm qs v v' w h h' e0
  subst e0
  by_cases e1 : pp = qp
  case neg => exact csame_no1 pd pp pc pl pw po pm ps qp qc ql qw qo qm qs v v' w h h' e1
  subst e1
  by_cases e2 : pc = qc
  case neg => exact csame_no2 pd pp pc pl pw po pm ps qc ql qw qo qm qs v v' w h h' e2
  subst e2
  by_cases e3 : pl = ql
  case neg => exact csame_no3 pd pp pc pl pw po pm ps ql qw qo qm qs v v' w h h' e3
  subst e3
  by_cases e4 : pw = qw
  case neg => exact csame_no4 pd pp pc pl pw po pm ps qw qo qm qs v v' w h h' e4
  subst e4
  by_cases e5 : po = qo
  case neg => exact csame_no5 pd pp pc pl pw po pm ps qo qm qs v v' w h h' e5
  subst e5
  by_cases e6 : pm = qm
  case neg => exact csame_no6 pd pp pc pl pw po pm ps qm qs v v' w h h' e6
  subst e6
  by_cases e7 : ps.length = qs.length
  case neg => exact csame_no7 pd pp pc pl pw po pm ps qs v v' w h h' e7
  exact csame_no8 pd pp pc pl pw po pm ps qs v v' w h h' e7 (fun e => hne (by rw [e])) hnb

end Go.Proofs.Ythbidfcfkjamdaa

namespace Go.Proofs.Ythbidfcfkjamdaa
open Go.RowKit

/-- The document's Parse of a frame that is not too long. -/
theorem rparse_both (k fl st : Int) (l : List UInt8) (r : Fm.Rd) (hsz : l.length ≤ 16777215) (hr : Fm.parse k fl st l = r) (w : World) : Calls Try.prog 38 #[.agg (frC k fl st l)] w fun e w' => (∃ v, e = .returned (rdV r v) ∧ Hid (∀ p, r = .ok p → SR w' v p.sets)) ∧ Below w.heap.size w w' := by
  by_cases hk : k = 4
  · subst hk
    refine (rparse_settings fl st l r (by omega) hr w).mono ?_
    rintro e w' ⟨⟨v, rfl, ho⟩, hb⟩
    exact ⟨⟨v, rfl, hid' (fun p hp => SR.of_own (ho.out p hp))⟩, hb⟩
  · refine (rparse_any k fl st hk l r (by omega) hr w).mono ?_
    rintro e w' ⟨rfl, hb⟩
    refine ⟨⟨_, rfl, hid' (fun p hp => ?_)⟩, hb⟩
    subst hp
    rw [Fm.say_sets hk (Fm.parse_out hr).2.2]
    exact SR.nil _

set_option maxHeartbeats 4000000 in
set_option maxRecDepth 20000 in
theorem rmake_not0 (k fl st : Int) (p : Fm.Pt) (v : Value) (q0 : k < 0) (w : World) (hv : SR w v p.sets) :
    Calls Try.prog 10 #[.int .i64 k, .int .i64 fl, .int .i64 st, .agg (ptC p v)] w fun e w' => e = .returned (.tuple #[.agg frZ, .int .i64 70]) ∧ Below w.heap.size w w' := by
  obtain ⟨ao, cap, hsh⟩ := hv.shape
  subst hsh
  clear hv
  have d0 : decide (k < 0) = true := decide_eq_true q0
  clear q0
  go_enter Try.func10, Try.ntmps10
  go_wp2_with (refine wpl_bp _ rfl rfl rfl rfl p (.slice ao p.sets.length cap) (by kernel_rfl) ?_)
  intro b1 b2 w0 hg1 hg2 ha1 ha2 hb0
  have HG2 := hid' hg2
  have HA1 := hid' ha1
  have HA2 := hid' ha2
  have HB0 := hid' hb0
  clear hg1 hg2 ha1 ha2 hb0
  go_upto_region 2 with fail
  go_wp2_with (refine wpl_stf _ _ rfl rfl b2 0 0 0 [] (by kernel_rfl) (by kernel_rfl) _ HA2.out rfl ?_)
  intro w9 ha9 hu9
  go_wp2
  exact bodyPost_ret (v := .tuple #[.agg frZ, .int .i64 70]) (by simp [results, Try.results10, asAddr, ldf ha9]; rfl) rfl ⟨rfl, HB0.out.trans (hu9.below HG2.out)⟩

set_option maxHeartbeats 4000000 in
set_option maxRecDepth 20000 in
theorem rmake_not1 (k fl st : Int) (p : Fm.Pt) (v : Value) (q0 : ¬ k < 0) (q1 : (255 : Int) < k) (w : World) (hv : SR w v p.sets) :
    Calls Try.prog 10 #[.int .i64 k, .int .i64 fl, .int .i64 st, .agg (ptC p v)] w fun e w' => e = .returned (.tuple #[.agg frZ, .int .i64 70]) ∧ Below w.heap.size w w' := by
  obtain ⟨ao, cap, hsh⟩ := hv.shape
  subst hsh
  clear hv
  have d0 : decide (k < 0) = false := decide_eq_false q0
  have d1 : decide ((255 : Int) < k) = true := decide_eq_true q1
  clear q0 q1
  go_enter Try.func10, Try.ntmps10
  go_wp2_with (refine wpl_bp _ rfl rfl rfl rfl p (.slice ao p.sets.length cap) (by kernel_rfl) ?_)
  intro b1 b2 w0 hg1 hg2 ha1 ha2 hb0
  have HG2 := hid' hg2
  have HA1 := hid' ha1
  have HA2 := hid' ha2
  have HB0 := hid' hb0
  clear hg1 hg2 ha1 ha2 hb0
  go_upto_region 2 with fail
  go_wp2_with (refine wpl_stf _ _ rfl rfl b2 0 0 0 [] (by kernel_rfl) (by kernel_rfl) _ HA2.out rfl ?_)
  intro w9 ha9 hu9
  go_wp2
  exact bodyPost_ret (v := .tuple #[.agg frZ, .int .i64 70]) (by simp [results, Try.results10, asAddr, ldf ha9]; rfl) rfl ⟨rfl, HB0.out.trans (hu9.below HG2.out)⟩

set_option maxHeartbeats 4000000 in
set_option maxRecDepth 20000 in
theorem rmake_not2 (k fl st : Int) (p : Fm.Pt) (v : Value) (q0 : ¬ k < 0) (q1 : ¬ (255 : Int) < k) (q2 : fl < 0) (w : World) (hv : SR w v p.sets) :
    Calls Try.prog 10 #[.int .i64 k, .int .i64 fl, .int .i64 st, .agg (ptC p v)] w fun e w' => e = .returned (.tuple #[.agg frZ, .int .i64 70]) ∧ Below w.heap.size w w' := by
  obtain ⟨ao, cap, hsh⟩ := hv.shape
  subst hsh
  clear hv
  have d0 : decide (k < 0) = false := decide_eq_false q0
  have d1 : decide ((255 : Int) < k) = false := decide_eq_false q1
  have d2 : decide (fl < 0) = true := decide_eq_true q2
  clear q0 q1 q2
  go_enter Try.func10, Try.ntmps10
  go_wp2_with (refine wpl_bp _ rfl rfl rfl rfl p (.slice ao p.sets.length cap) (by kernel_rfl) ?_)
  intro b1 b2 w0 hg1 hg2 ha1 ha2 hb0
  have HG2 := hid' hg2
  have HA1 := hid' ha1
  have HA2 := hid' ha2
  have HB0 := hid' hb0
  clear hg1 hg2 ha1 ha2 hb0
  go_upto_region 2 with fail
  go_wp2_with (refine wpl_stf _ _ rfl rfl b2 0 0 0 [] (by kernel_rfl) (by kernel_rfl) _ HA2.out rfl ?_)
  intro w9 ha9 hu9
  go_wp2
  exact bodyPost_ret (v := .tuple #[.agg frZ, .int .i64 70]) (by simp [results, Try.results10, asAddr, ldf ha9]; rfl) rfl ⟨rfl, HB0.out.trans (hu9.below HG2.out)⟩

set_option maxHeartbeats 4000000 in
set_option maxRecDepth 20000 in
theorem rmake_not3 (k fl st : Int) (p : Fm.Pt) (v : Value) (q0 : ¬ k < 0) (q1 : ¬ (255 : Int) < k) (q2 : ¬ fl < 0) (q3 : (255 : Int) < fl) (w : World) (hv : SR w v p.sets) :
    Calls Try.prog 10 #[.int .i64 k, .int .i64 fl, .int .i64 st, .agg (ptC p v)] w fun e w' => e = .returned (.tuple #[.agg frZ, .int .i64 70]) ∧ Below w.heap.size w w' := by
  obtain ⟨ao, cap, hsh⟩ := hv.shape
  subst hsh
  clear hv
  have d0 : decide (k < 0) = false := decide_eq_false q0
  have d1 : decide ((255 : Int) < k) = false := decide_eq_false q1
  have d2 : decide (fl < 0) = false := decide_eq_false q2
  have d3 : decide ((255 : Int) < fl) = true := decide_eq_true q3
  clear q0 q1 q2 q3
  go_enter Try.func10, Try.ntmps10
  go_wp2_with (refine wpl_bp _ rfl rfl rfl rfl p (.slice ao p.sets.length cap) (by kernel_rfl) ?_)
  intro b1 b2 w0 hg1 hg2 ha1 ha2 hb0
  have HG2 := hid' hg2
  have HA1 := hid' ha1
  have HA2 := hid' ha2
  have HB0 := hid' hb0
  clear hg1 hg2 ha1 ha2 hb0
  go_upto_region 2 with fail
  go_wp2_with (refine wpl_stf _ _ rfl rfl b2 0 0 0 [] (by kernel_rfl) (by kernel_rfl) _ HA2.out rfl ?_)
  intro w9 ha9 hu9
  go_wp2
  exact bodyPost_ret (v := .tuple #[.agg frZ, .int .i64 70]) (by simp [results, Try.results10, asAddr, ldf ha9]; rfl) rfl ⟨rfl, HB0.out.trans (hu9.below HG2.out)⟩

set_option maxHeartbeats 4000000 in
set_option maxRecDepth 20000 in
theorem rmake_not4 (k fl st : Int) (p : Fm.Pt) (v : Value) (q0 : ¬ k < 0) (q1 : ¬ (255 : Int) < k) (q2 : ¬ fl < 0) (q3 : ¬ (255 : Int) < fl) (q4 : st < 0) (w : World) (hv : SR w v p.sets) :
    Calls Try.prog 10 #[.int .i64 k, .int .i64 fl, .int .i64 st, .agg (ptC p v)] w fun e w' => e = .returned (.tuple #[.agg frZ, .int .i64 70]) ∧ Below w.heap.size w w' := by
  obtain ⟨ao, cap, hsh⟩ := hv.shape
  subst hsh
  clear hv
  have d0 : decide (k < 0) = false := decide_eq_false q0
  have d1 : decide ((255 : Int) < k) = false := decide_eq_false q1
  have d2 : decide (fl < 0) = false := decide_eq_false q2
  have d3 : decide ((255 : Int) < fl) = false := decide_eq_false q3
  have d4 : decide (st < 0) = true := decide_eq_true q4
  clear q0 q1 q2 q3 q4
  go_enter Try.func10, Try.ntmps10
  go_wp2_with (refine wpl_bp _ rfl rfl rfl rfl p (.slice ao p.sets.length cap) (by kernel_rfl) ?_)
  intro b1 b2 w0 hg1 hg2 ha1 ha2 hb0
  have HG2 := hid' hg2
  have HA1 := hid' ha1
  have HA2 := hid' ha2
  have HB0 := hid' hb0
  clear hg1 hg2 ha1 ha2 hb0
  go_upto_region 2 with fail
  go_wp2_with (refine wpl_stf _ _ rfl rfl b2 0 0 0 [] (by kernel_rfl) (by kernel_rfl) _ HA2.out rfl ?_)
  intro w9 ha9 hu9
  go_wp2
  exact bodyPost_ret (v := .tuple #[.agg frZ, .int .i64 70]) (by simp [results, Try.results10, asAddr, ldf ha9]; rfl) rfl ⟨rfl, HB0.out.trans (hu9.below HG2.out)⟩

set_option maxHeartbeats 4000000 in
set_option maxRecDepth 20000 in
theorem rmake_not5 (k fl st : Int) (p : Fm.Pt) (v : Value) (q0 : ¬ k < 0) (q1 : ¬ (255 : Int) < k) (q2 : ¬ fl < 0) (q3 : ¬ (255 : Int) < fl) (q4 : ¬ st < 0) (q5 : (2147483647 : Int) < st) (w : World) (hv : SR w v p.sets) :
    Calls Try.prog 10 #[.int .i64 k, .int .i64 fl, .int .i64 st, .agg (ptC p v)] w fun e w' => e = .returned (.tuple #[.agg frZ, .int .i64 70]) ∧ Below w.heap.size w w' := by
  obtain ⟨ao, cap, hsh⟩ := hv.shape
  subst hsh
  clear hv
  have d0 : decide (k < 0) = false := decide_eq_false q0
  have d1 : decide ((255 : Int) < k) = false := decide_eq_false q1
  have d2 : decide (fl < 0) = false := decide_eq_false q2
  have d3 : decide ((255 : Int) < fl) = false := decide_eq_false q3
  have d4 : decide (st < 0) = false := decide_eq_false q4
  have d5 : decide ((2147483647 : Int) < st) = true := decide_eq_true q5
  clear q0 q1 q2 q3 q4 q5
  go_enter Try.func10, Try.ntmps10
  go_wp2_with (refine wpl_bp _ rfl rfl rfl rfl p (.slice ao p.sets.length cap) (by kernel_rfl) ?_)
  intro b1 b2 w0 hg1 hg2 ha1 ha2 hb0
  have HG2 := hid' hg2
  have HA1 := hid' ha1
  have HA2 := hid' ha2
  have HB0 := hid' hb0
  clear hg1 hg2 ha1 ha2 hb0
  go_upto_region 2 with fail
  go_wp2_with (refine wpl_stf _ _ rfl rfl b2 0 0 0 [] (by kernel_rfl) (by kernel_rfl) _ HA2.out rfl ?_)
  intro w9 ha9 hu9
  go_wp2
  exact bodyPost_ret (v := .tuple #[.agg frZ, .int .i64 70]) (by simp [results, Try.results10, asAddr, ldf ha9]; rfl) rfl ⟨rfl, HB0.out.trans (hu9.below HG2.out)⟩

set_option maxHeartbeats 4000000 in
set_option maxRecDepth 20000 in
theorem rmake_none (k fl st : Int) (p : Fm.Pt) (v : Value) (hk : 0 ≤ k ∧ k ≤ 255) (hf : 0 ≤ fl ∧ fl ≤ 255) (hs : 0 ≤ st ∧ st ≤ 2147483647) (hpay : RPno k fl p) (w : World) (hv : SR w v p.sets) :
    Calls Try.prog 10 #[.int .i64 k, .int .i64 fl, .int .i64 st, .agg (ptC p v)] w fun e w' => e = .returned (.tuple #[.agg frZ, .int .i64 70]) ∧ Below w.heap.size w w' := by
  have HV := hid' hv
  obtain ⟨ao, cap, hsh⟩ := hv.shape
  subst hsh
  clear hv
  have d0 : decide (k < 0) = false := decide_eq_false (by omega)
  have d1 : decide ((255 : Int) < k) = false := decide_eq_false (by omega)
  have d2 : decide (fl < 0) = false := decide_eq_false (by omega)
  have d3 : decide ((255 : Int) < fl) = false := decide_eq_false (by omega)
  have d4 : decide (st < 0) = false := decide_eq_false (by omega)
  have d5 : decide ((2147483647 : Int) < st) = false := decide_eq_false (by omega)
  have HPAY := hid' hpay
  clear hpay hk hf hs
  go_enter Try.func10, Try.ntmps10
  go_wp2_with (refine wpl_bp _ rfl rfl rfl rfl p (.slice ao p.sets.length cap) (by kernel_rfl) ?_)
  intro b1 b2 w0 hg1 hg2 ha1 ha2 hb0
  have HG2 := hid' hg2
  have HA1 := hid' ha1
  have HA2 := hid' ha2
  have HB0 := hid' hb0
  clear hg1 hg2 ha1 ha2 hb0
  obtain ⟨x0, x1, x2, x3, x4, x5, x6, x7⟩ := pt_cells HA1.out
  go_wp2_with fail
  refine (HPAY.out _ _ (HV.out.keep HB0.out)).mono ?_
  rintro e w1 ⟨⟨s, rfl⟩, hb1⟩
  have HB1 := hid' (below_two HB0.out hb1)
  have HF1 := hid' (HA2.out.keep hb1)
  have HP1 := hid' (HA1.out.keep hb1)
  clear hb1 x0 x1 x2 x3 x4 x5 x6 x7
  go_wp2_with (refine wpl_alloc 31 rfl rfl _ zeroFrame ?_)
  intro b3 w2 hg3 ha3 hb2
  refine wpl_stf _ _ rfl rfl b3 k fl st s (by kernel_rfl) (by kernel_rfl) _ ha3 rfl ?_
  intro w3 ha3' hu3
  have hb3 := hb2.trans (hu3.below hg3)
  have HB3 := hid' (below_two HB1.out hb3)
  have HF3 := hid' (HF1.out.keep hb3)
  have HP3 := hid' (HP1.out.keep hb3)
  have HN23 := hid' (show b2 ≠ b3 by have := HF1.out.lt; omega)
  have HA3 := hid' ha3'
  clear hg3 ha3 hb2 ha3' hu3 hb3
  go_upto_region 6 with fail
  go_wp2_with (refine wpl_stf _ _ rfl rfl b2 0 0 0 [] (by kernel_rfl) (by kernel_rfl) _ HF3.out rfl ?_)
  intro w9 ha9 hu9
  go_wp2
  exact bodyPost_ret (v := .tuple #[.agg frZ, .int .i64 70]) (by simp [results, Try.results10, asAddr, ldf ha9]; rfl) rfl ⟨rfl, HB3.out.trans (hu9.below HG2.out)⟩

set_option maxHeartbeats 4000000 in
set_option maxRecDepth 20000 in
theorem rmake_long (k fl st : Int) (p : Fm.Pt) (v : Value) (hk : 0 ≤ k ∧ k ≤ 255) (hf : 0 ≤ fl ∧ fl ≤ 255) (hs : 0 ≤ st ∧ st ≤ 2147483647) (s : List UInt8) (hpay : RPok k fl p s) (hl : 16777215 < s.length) (w : World) (hv : SR w v p.sets) :
    Calls Try.prog 10 #[.int .i64 k, .int .i64 fl, .int .i64 st, .agg (ptC p v)] w fun e w' => e = .returned (.tuple #[.agg frZ, .int .i64 70]) ∧ Below w.heap.size w w' := by
  have HV := hid' hv
  obtain ⟨ao, cap, hsh⟩ := hv.shape
  subst hsh
  clear hv
  have d0 : decide (k < 0) = false := decide_eq_false (by omega)
  have d1 : decide ((255 : Int) < k) = false := decide_eq_false (by omega)
  have d2 : decide (fl < 0) = false := decide_eq_false (by omega)
  have d3 : decide ((255 : Int) < fl) = false := decide_eq_false (by omega)
  have d4 : decide (st < 0) = false := decide_eq_false (by omega)
  have d5 : decide ((2147483647 : Int) < st) = false := decide_eq_false (by omega)
  have HPAY := hid' hpay
  have dl : decide ((16777215 : Int) < (s.length : Int)) = true := decide_eq_true (by omega)
  clear hpay hk hf hs hl
  go_enter Try.func10, Try.ntmps10
  go_wp2_with (refine wpl_bp _ rfl rfl rfl rfl p (.slice ao p.sets.length cap) (by kernel_rfl) ?_)
  intro b1 b2 w0 hg1 hg2 ha1 ha2 hb0
  have HG2 := hid' hg2
  have HA1 := hid' ha1
  have HA2 := hid' ha2
  have HB0 := hid' hb0
  clear hg1 hg2 ha1 ha2 hb0
  obtain ⟨x0, x1, x2, x3, x4, x5, x6, x7⟩ := pt_cells HA1.out
  go_wp2_with fail
  refine (HPAY.out _ _ (HV.out.keep HB0.out)).mono ?_
  rintro e w1 ⟨rfl, hb1⟩
  have HB1 := hid' (below_two HB0.out hb1)
  have HF1 := hid' (HA2.out.keep hb1)
  have HP1 := hid' (HA1.out.keep hb1)
  clear hb1 x0 x1 x2 x3 x4 x5 x6 x7
  go_wp2_with (refine wpl_alloc 31 rfl rfl _ zeroFrame ?_)
  intro b3 w2 hg3 ha3 hb2
  refine wpl_stf _ _ rfl rfl b3 k fl st s (by kernel_rfl) (by kernel_rfl) _ ha3 rfl ?_
  intro w3 ha3' hu3
  have hb3 := hb2.trans (hu3.below hg3)
  have HB3 := hid' (below_two HB1.out hb3)
  have HF3 := hid' (HF1.out.keep hb3)
  have HP3 := hid' (HP1.out.keep hb3)
  have HN23 := hid' (show b2 ≠ b3 by have := HF1.out.lt; omega)
  have HA3 := hid' ha3'
  clear hg3 ha3 hb2 ha3' hu3 hb3
  go_upto_region 6 with fail
  go_wp2_with (refine wpl_stf _ _ rfl rfl b2 0 0 0 [] (by kernel_rfl) (by kernel_rfl) _ HF3.out rfl ?_)
  intro w9 ha9 hu9
  go_wp2
  exact bodyPost_ret (v := .tuple #[.agg frZ, .int .i64 70]) (by simp [results, Try.results10, asAddr, ldf ha9]; rfl) rfl ⟨rfl, HB3.out.trans (hu9.below HG2.out)⟩

set_option maxHeartbeats 4000000 in
set_option maxRecDepth 20000 in
theorem rmake_bad (k fl st : Int) (p : Fm.Pt) (v : Value) (hk : 0 ≤ k ∧ k ≤ 255) (hf : 0 ≤ fl ∧ fl ≤ 255) (hs : 0 ≤ st ∧ st ≤ 2147483647) (s : List UInt8) (hpay : RPok k fl p s) (hl : s.length ≤ 16777215) (c : Bool) (e0 : Int) (hr : Fm.parse k fl st s = .bad c e0) (w : World) (hv : SR w v p.sets) :
    Calls Try.prog 10 #[.int .i64 k, .int .i64 fl, .int .i64 st, .agg (ptC p v)] w fun e w' => e = .returned (.tuple #[.agg frZ, .int .i64 70]) ∧ Below w.heap.size w w' := by
  have HV := hid' hv
  obtain ⟨ao, cap, hsh⟩ := hv.shape
  subst hsh
  clear hv
  have d0 : decide (k < 0) = false := decide_eq_false (by omega)
  have d1 : decide ((255 : Int) < k) = false := decide_eq_false (by omega)
  have d2 : decide (fl < 0) = false := decide_eq_false (by omega)
  have d3 : decide ((255 : Int) < fl) = false := decide_eq_false (by omega)
  have d4 : decide (st < 0) = false := decide_eq_false (by omega)
  have d5 : decide ((2147483647 : Int) < st) = false := decide_eq_false (by omega)
  have HPAY := hid' hpay
  have dl : decide ((16777215 : Int) < (s.length : Int)) = false := decide_eq_false (by omega)
  have HPR := hid' (fun W => rparse_both k fl st s _ hl hr W)
  clear hpay hk hf hs hl hr
  go_enter Try.func10, Try.ntmps10
  go_wp2_with (refine wpl_bp _ rfl rfl rfl rfl p (.slice ao p.sets.length cap) (by kernel_rfl) ?_)
  intro b1 b2 w0 hg1 hg2 ha1 ha2 hb0
  have HG2 := hid' hg2
  have HA1 := hid' ha1
  have HA2 := hid' ha2
  have HB0 := hid' hb0
  clear hg1 hg2 ha1 ha2 hb0
  obtain ⟨x0, x1, x2, x3, x4, x5, x6, x7⟩ := pt_cells HA1.out
  go_wp2_with fail
  refine (HPAY.out _ _ (HV.out.keep HB0.out)).mono ?_
  rintro e w1 ⟨rfl, hb1⟩
  have HB1 := hid' (below_two HB0.out hb1)
  have HF1 := hid' (HA2.out.keep hb1)
  have HP1 := hid' (HA1.out.keep hb1)
  clear hb1 x0 x1 x2 x3 x4 x5 x6 x7
  go_wp2_with (refine wpl_alloc 31 rfl rfl _ zeroFrame ?_)
  intro b3 w2 hg3 ha3 hb2
  refine wpl_stf _ _ rfl rfl b3 k fl st s (by kernel_rfl) (by kernel_rfl) _ ha3 rfl ?_
  intro w3 ha3' hu3
  have hb3 := hb2.trans (hu3.below hg3)
  have HB3 := hid' (below_two HB1.out hb3)
  have HF3 := hid' (HF1.out.keep hb3)
  have HP3 := hid' (HP1.out.keep hb3)
  have HN23 := hid' (show b2 ≠ b3 by have := HF1.out.lt; omega)
  have HA3 := hid' ha3'
  clear hg3 ha3 hb2 ha3' hu3 hb3
  obtain ⟨c0, c1, c2, c3⟩ := frC_cells HA3.out
  go_wp2_with fail
  refine (HPR.out _).mono ?_
  rintro e w4 ⟨⟨u, rfl, hu⟩, hb4⟩
  simp only [rdV]
  clear hu
  have HB4 := hid' (below_two HB3.out hb4)
  have HF4 := hid' (HF3.out.keep hb4)
  have HP4 := hid' (HP3.out.keep hb4)
  have HA4 := hid' (HA3.out.keep hb4)
  clear hb4 c0 c1 c2 c3
  go_wp2_with (refine wpl_open2 rfl rfl rfl rfl ?_)
  intro b7 b8 w7 hg7 hg8 ha7 ha8 hb7
  refine wpl_st2 _ _ _ _ rfl rfl rfl rfl w4.heap.size b7 b8 Fm.none' none 0 0 true c e0 (by kernel_rfl) (by kernel_rfl) (by kernel_rfl) (by kernel_rfl) ha7 ha8 hg7 hg8 ?_
  intro w8 hp8 hw8 hb8
  have hb8' := hb7.trans hb8
  have HB8 := hid' (below_two HB4.out hb8')
  have HF8 := hid' (HF4.out.keep hb8')
  have HP8 := hid' (HP4.out.keep hb8')
  have HA8 := hid' (HA4.out.keep hb8')
  have HQ8 := hid' hp8
  obtain ⟨z0, z1, z2⟩ := wg_cells hw8
  clear hg7 hg8 ha7 ha8 hb7 hb8 hb8' hp8 hw8
  go_upto_region 9 with fail
  go_wp2_with (refine wpl_stf _ _ rfl rfl b2 0 0 0 [] (by kernel_rfl) (by kernel_rfl) _ HF8.out rfl ?_)
  intro w9 ha9 hu9
  go_wp2
  exact bodyPost_ret (v := .tuple #[.agg frZ, .int .i64 70]) (by simp [results, Try.results10, asAddr, ldf ha9]; rfl) rfl ⟨rfl, HB8.out.trans (hu9.below HG2.out)⟩

set_option maxHeartbeats 4000000 in
set_option maxRecDepth 20000 in
theorem rmake_diff (k fl st : Int) (p : Fm.Pt) (v : Value) (hk : 0 ≤ k ∧ k ≤ 255) (hf : 0 ≤ fl ∧ fl ≤ 255) (hs : 0 ≤ st ∧ st ≤ 2147483647) (s : List UInt8) (hpay : RPok k fl p s) (hl : s.length ≤ 16777215) (q : Fm.Pt) (hr : Fm.parse k fl st s = .ok q) (hne : p ≠ q) (hnb : p.sets.length ≤ 8796093022208) (w : World) (hv : SR w v p.sets) :
    Calls Try.prog 10 #[.int .i64 k, .int .i64 fl, .int .i64 st, .agg (ptC p v)] w fun e w' => e = .returned (.tuple #[.agg frZ, .int .i64 70]) ∧ Below w.heap.size w w' := by
  have HV := hid' hv
  obtain ⟨ao, cap, hsh⟩ := hv.shape
  subst hsh
  clear hv
  have d0 : decide (k < 0) = false := decide_eq_false (by omega)
  have d1 : decide ((255 : Int) < k) = false := decide_eq_false (by omega)
  have d2 : decide (fl < 0) = false := decide_eq_false (by omega)
  have d3 : decide ((255 : Int) < fl) = false := decide_eq_false (by omega)
  have d4 : decide (st < 0) = false := decide_eq_false (by omega)
  have d5 : decide ((2147483647 : Int) < st) = false := decide_eq_false (by omega)
  have HPAY := hid' hpay
  have dl : decide ((16777215 : Int) < (s.length : Int)) = false := decide_eq_false (by omega)
  have HPR := hid' (fun W => rparse_both k fl st s _ hl hr W)
  have HNE := hid' hne
  have HNB := hid' hnb
  clear hpay hk hf hs hl hr hne hnb
  go_enter Try.func10, Try.ntmps10
  go_wp2_with (refine wpl_bp _ rfl rfl rfl rfl p (.slice ao p.sets.length cap) (by kernel_rfl) ?_)
  intro b1 b2 w0 hg1 hg2 ha1 ha2 hb0
  have HG2 := hid' hg2
  have HA1 := hid' ha1
  have HA2 := hid' ha2
  have HB0 := hid' hb0
  clear hg1 hg2 ha1 ha2 hb0
  obtain ⟨x0, x1, x2, x3, x4, x5, x6, x7⟩ := pt_cells HA1.out
  go_wp2_with fail
  refine (HPAY.out _ _ (HV.out.keep HB0.out)).mono ?_
  rintro e w1 ⟨rfl, hb1⟩
  have HB1 := hid' (below_two HB0.out hb1)
  have HF1 := hid' (HA2.out.keep hb1)
  have HP1 := hid' (HA1.out.keep hb1)
  clear hb1 x0 x1 x2 x3 x4 x5 x6 x7
  go_wp2_with (refine wpl_alloc 31 rfl rfl _ zeroFrame ?_)
  intro b3 w2 hg3 ha3 hb2
  refine wpl_stf _ _ rfl rfl b3 k fl st s (by kernel_rfl) (by kernel_rfl) _ ha3 rfl ?_
  intro w3 ha3' hu3
  have hb3 := hb2.trans (hu3.below hg3)
  have HB3 := hid' (below_two HB1.out hb3)
  have HF3 := hid' (HF1.out.keep hb3)
  have HP3 := hid' (HP1.out.keep hb3)
  have HN23 := hid' (show b2 ≠ b3 by have := HF1.out.lt; omega)
  have HA3 := hid' ha3'
  clear hg3 ha3 hb2 ha3' hu3 hb3
  obtain ⟨c0, c1, c2, c3⟩ := frC_cells HA3.out
  go_wp2_with fail
  refine (HPR.out _).mono ?_
  rintro e w4 ⟨⟨u, rfl, hu⟩, hb4⟩
  simp only [rdV]
  have HU4 : Hid (SR w4 u q.sets) := hid' (hu.out _ rfl)
  clear hu
  obtain ⟨bo, cap', hsh⟩ := HU4.out.shape
  subst hsh
  have HB4 := hid' (below_two HB3.out hb4)
  have HF4 := hid' (HF3.out.keep hb4)
  have HP4 := hid' (HP3.out.keep hb4)
  have HA4 := hid' (HA3.out.keep hb4)
  clear hb4 c0 c1 c2 c3
  go_wp2_with (refine wpl_open2 rfl rfl rfl rfl ?_)
  intro b7 b8 w7 hg7 hg8 ha7 ha8 hb7
  refine wpl_st2 _ _ _ _ rfl rfl rfl rfl w4.heap.size b7 b8 q bo q.sets.length cap' false false 0 (by kernel_rfl) (by kernel_rfl) (by kernel_rfl) (by kernel_rfl) ha7 ha8 hg7 hg8 ?_
  intro w8 hp8 hw8 hb8
  have hb8' := hb7.trans hb8
  have HB8 := hid' (below_two HB4.out hb8')
  have HF8 := hid' (HF4.out.keep hb8')
  have HP8 := hid' (HP4.out.keep hb8')
  have HA8 := hid' (HA4.out.keep hb8')
  have HQ8 := hid' hp8
  obtain ⟨z0, z1, z2⟩ := wg_cells hw8
  have HU8 := hid' (HU4.out.keep hb8')
  clear hg7 hg8 ha7 ha8 hb7 hb8 hb8' hp8 hw8
  obtain ⟨x0, x1, x2, x3, x4, x5, x6, x7⟩ := pt_cells HP8.out
  obtain ⟨y0, y1, y2, y3, y4, y5, y6, y7⟩ := pt_cells HQ8.out
  go_wp2_with fail
  refine (csame_no p q _ _ _ (HV.out.keep HB8.out) HU8.out HNE.out (by have := HNB.out; omega)).mono ?_
  rintro e w9 ⟨rfl, hb9⟩
  have HB9 := hid' (below_two HB8.out hb9)
  have HF9 := hid' (HF8.out.keep hb9)
  have HA9 := hid' (HA8.out.keep hb9)
  clear hb9 x0 x1 x2 x3 x4 x5 x6 x7 y0 y1 y2 y3 y4 y5 y6 y7 z0 z1 z2
  go_upto_region 9 with fail
  go_wp2_with (refine wpl_stf _ _ rfl rfl b2 0 0 0 [] (by kernel_rfl) (by kernel_rfl) _ HF9.out rfl ?_)
  intro w10 ha10 hu10
  go_wp2
  exact bodyPost_ret (v := .tuple #[.agg frZ, .int .i64 70]) (by simp [results, Try.results10, asAddr, ldf ha10]; rfl) rfl ⟨rfl, HB9.out.trans (hu10.below HG2.out)⟩

set_option maxHeartbeats 4000000 in
set_option maxRecDepth 20000 in
theorem rmake_yes (k fl st : Int) (p : Fm.Pt) (v : Value) (hk : 0 ≤ k ∧ k ≤ 255) (hf : 0 ≤ fl ∧ fl ≤ 255) (hs : 0 ≤ st ∧ st ≤ 2147483647) (s : List UInt8) (hpay : RPok k fl p s) (hl : s.length ≤ 16777215) (hr : Fm.parse k fl st s = .ok p) (hnb : p.sets.length ≤ 8796093022208) (w : World) (hv : SR w v p.sets) :
    Calls Try.prog 10 #[.int .i64 k, .int .i64 fl, .int .i64 st, .agg (ptC p v)] w fun e w' => e = .returned (.tuple #[.agg (frC k fl st s), .int .i64 0]) ∧ Below w.heap.size w w' := by
  have HV := hid' hv
  obtain ⟨ao, cap, hsh⟩ := hv.shape
  subst hsh
  clear hv
  have d0 : decide (k < 0) = false := decide_eq_false (by omega)
  have d1 : decide ((255 : Int) < k) = false := decide_eq_false (by omega)
  have d2 : decide (fl < 0) = false := decide_eq_false (by omega)
  have d3 : decide ((255 : Int) < fl) = false := decide_eq_false (by omega)
  have d4 : decide (st < 0) = false := decide_eq_false (by omega)
  have d5 : decide ((2147483647 : Int) < st) = false := decide_eq_false (by omega)
  have HPAY := hid' hpay
  have dl : decide ((16777215 : Int) < (s.length : Int)) = false := decide_eq_false (by omega)
  have HPR := hid' (fun W => rparse_both k fl st s _ hl hr W)
  have HNB := hid' hnb
  clear hpay hk hf hs hl hr hnb
  go_enter Try.func10, Try.ntmps10
  go_wp2_with (refine wpl_bp _ rfl rfl rfl rfl p (.slice ao p.sets.length cap) (by kernel_rfl) ?_)
  intro b1 b2 w0 hg1 hg2 ha1 ha2 hb0
  have HG2 := hid' hg2
  have HA1 := hid' ha1
  have HA2 := hid' ha2
  have HB0 := hid' hb0
  clear hg1 hg2 ha1 ha2 hb0
  obtain ⟨x0, x1, x2, x3, x4, x5, x6, x7⟩ := pt_cells HA1.out
  go_wp2_with fail
  refine (HPAY.out _ _ (HV.out.keep HB0.out)).mono ?_
  rintro e w1 ⟨rfl, hb1⟩
  have HB1 := hid' (below_two HB0.out hb1)
  have HF1 := hid' (HA2.out.keep hb1)
  have HP1 := hid' (HA1.out.keep hb1)
  clear hb1 x0 x1 x2 x3 x4 x5 x6 x7
  go_wp2_with (refine wpl_alloc 31 rfl rfl _ zeroFrame ?_)
  intro b3 w2 hg3 ha3 hb2
  refine wpl_stf _ _ rfl rfl b3 k fl st s (by kernel_rfl) (by kernel_rfl) _ ha3 rfl ?_
  intro w3 ha3' hu3
  have hb3 := hb2.trans (hu3.below hg3)
  have HB3 := hid' (below_two HB1.out hb3)
  have HF3 := hid' (HF1.out.keep hb3)
  have HP3 := hid' (HP1.out.keep hb3)
  have HN23 := hid' (show b2 ≠ b3 by have := HF1.out.lt; omega)
  have HA3 := hid' ha3'
  clear hg3 ha3 hb2 ha3' hu3 hb3
  obtain ⟨c0, c1, c2, c3⟩ := frC_cells HA3.out
  go_wp2_with fail
  refine (HPR.out _).mono ?_
  rintro e w4 ⟨⟨u, rfl, hu⟩, hb4⟩
  simp only [rdV]
  have HU4 : Hid (SR w4 u p.sets) := hid' (hu.out _ rfl)
  clear hu
  obtain ⟨bo, cap', hsh⟩ := HU4.out.shape
  subst hsh
  have HB4 := hid' (below_two HB3.out hb4)
  have HF4 := hid' (HF3.out.keep hb4)
  have HP4 := hid' (HP3.out.keep hb4)
  have HA4 := hid' (HA3.out.keep hb4)
  clear hb4 c0 c1 c2 c3
  go_wp2_with (refine wpl_open2 rfl rfl rfl rfl ?_)
  intro b7 b8 w7 hg7 hg8 ha7 ha8 hb7
  refine wpl_st2 _ _ _ _ rfl rfl rfl rfl w4.heap.size b7 b8 p bo p.sets.length cap' false false 0 (by kernel_rfl) (by kernel_rfl) (by kernel_rfl) (by kernel_rfl) ha7 ha8 hg7 hg8 ?_
  intro w8 hp8 hw8 hb8
  have hb8' := hb7.trans hb8
  have HB8 := hid' (below_two HB4.out hb8')
  have HF8 := hid' (HF4.out.keep hb8')
  have HP8 := hid' (HP4.out.keep hb8')
  have HA8 := hid' (HA4.out.keep hb8')
  have HQ8 := hid' hp8
  obtain ⟨z0, z1, z2⟩ := wg_cells hw8
  have HU8 := hid' (HU4.out.keep hb8')
  clear hg7 hg8 ha7 ha8 hb7 hb8 hb8' hp8 hw8
  obtain ⟨x0, x1, x2, x3, x4, x5, x6, x7⟩ := pt_cells HP8.out
  obtain ⟨y0, y1, y2, y3, y4, y5, y6, y7⟩ := pt_cells HQ8.out
  go_wp2_with fail
  refine (csame_yes p _ _ _ (HV.out.keep HB8.out) HU8.out (by have := HNB.out; omega)).mono ?_
  rintro e w9 ⟨rfl, hb9⟩
  have HB9 := hid' (below_two HB8.out hb9)
  have HF9 := hid' (HF8.out.keep hb9)
  have HA9 := hid' (HA8.out.keep hb9)
  clear hb9 x0 x1 x2 x3 x4 x5 x6 x7 y0 y1 y2 y3 y4 y5 y6 y7 z0 z1 z2
  go_upto_region 10 with fail
  go_wp2_with (first | refine wpl_ldfr _ rfl rfl b3 (by kernel_rfl) k fl st s HA9.out ?_ | refine wpl_stf _ _ rfl rfl b2 k fl st s (by kernel_rfl) (by kernel_rfl) _ HF9.out rfl ?_)
  intro w10 ha10 hu10
  go_wp2
  exact bodyPost_ret (v := .tuple #[.agg (frC k fl st s), .int .i64 0]) (by simp [results, Try.results10, asAddr, ldf ha10]) rfl ⟨rfl, HB9.out.trans (hu10.below HG2.out)⟩

end Go.Proofs.Ythbidfcfkjamdaa

namespace Go.Proofs.Ythbidfcfkjamdaa
open Go.RowKit

/-- One answer of both. -/
def MKS (k fl st : Int) (p : Fm.Pt) (k' fl' st' : Int) (s : List UInt8) (e0 : Int) : Prop :=
  (∀ (w : World) (v : Value), SR w v p.sets → Calls Try.prog 9 #[.int .i64 k, .int .i64 fl, .int .i64 st, .agg (ptC p v)] w fun e w' => e = .returned (.tuple #[.agg (frC k' fl' st' s), .int .i64 e0]) ∧ Below w.heap.size w w') ∧
  (∀ (w : World) (v : Value), SR w v p.sets → Calls Try.prog 10 #[.int .i64 k, .int .i64 fl, .int .i64 st, .agg (ptC p v)] w fun e w' => e = .returned (.tuple #[.agg (frC k' fl' st' s), .int .i64 e0]) ∧ Below w.heap.size w w')

theorem Fm.unw_zero {k fl st : Int} {n : Nat} : Fm.unw k fl st n = 0 ↔ ((0 ≤ k ∧ k ≤ 255) ∧ (0 ≤ fl ∧ fl ≤ 255) ∧ (0 ≤ st ∧ st ≤ 2147483647)) ∧ n ≤ 16777215 := by
  unfold Fm.unw Fm.may
  by_cases h : 0 ≤ k ∧ k ≤ 255 ∧ 0 ≤ fl ∧ fl ≤ 255 ∧ 0 ≤ st ∧ st ≤ 2147483647
  · rw [decide_eq_true h, if_pos rfl]
    by_cases hn : 16777215 < n
    · rw [if_pos hn]; simp; omega
    · rw [if_neg hn]; simp; omega
  · rw [decide_eq_false h, if_neg (by decide)]
    simp
    omega

theorem makes_same (k fl st : Int) (p : Fm.Pt) (hb : Fm.Bd p) : ∃ (k' fl' st' : Int) (s : List UInt8) (e0 : Int), MKS k fl st p k' fl' st' s e0 := by
  by_cases hA : ∃ s, Fm.cpay k fl p = some s ∧ Fm.unw k fl st s.length = 0 ∧ Fm.parse k fl st s = .ok p
  · obtain ⟨s, hs, hu, hp⟩ := hA
    obtain ⟨⟨hk, hf, hst⟩, hl⟩ := Fm.unw_zero.1 hu
    refine ⟨k, fl, st, s, 0, cmake_A k fl st p s hs hu hp, ?_⟩
    rcases dpay_is k fl p hf hb with ⟨hno, _⟩ | ⟨s', hs', hpay⟩
    · rw [Fm.pay_eq hp hl, hno] at hs
      cases hs
    · rw [Fm.pay_eq hp hl, hs'] at hs
      injection hs with hs
      subst hs
      exact fun w v hv => rmake_yes k fl st p v hk hf hst s' hpay hl hp hb.sets w hv
  · have hB : ∀ s, Fm.cpay k fl p = some s → Fm.unw k fl st s.length = 0 → Fm.parse k fl st s = .ok p → False := fun s h1 h2 h3 => hA ⟨s, h1, h2, h3⟩
    refine ⟨0, 0, 0, [], 70, cmake_B k fl st p hB, ?_⟩
    by_cases q0 : k < 0
    · exact fun w v hv => rmake_not0 k fl st p v q0 w hv
    by_cases q1 : 255 < k
    · exact fun w v hv => rmake_not1 k fl st p v q0 q1 w hv
    by_cases q2 : fl < 0
    · exact fun w v hv => rmake_not2 k fl st p v q0 q1 q2 w hv
    by_cases q3 : 255 < fl
    · exact fun w v hv => rmake_not3 k fl st p v q0 q1 q2 q3 w hv
    by_cases q4 : st < 0
    · exact fun w v hv => rmake_not4 k fl st p v q0 q1 q2 q3 q4 w hv
    by_cases q5 : 2147483647 < st
    · exact fun w v hv => rmake_not5 k fl st p v q0 q1 q2 q3 q4 q5 w hv
    have hk : 0 ≤ k ∧ k ≤ 255 := by omega
    have hf : 0 ≤ fl ∧ fl ≤ 255 := by omega
    have hst : 0 ≤ st ∧ st ≤ 2147483647 := by omega
    rcases dpay_is k fl p hf hb with ⟨_, hno⟩ | ⟨s, hs, hpay⟩
    · exact fun w v hv => rmake_none k fl st p v hk hf hst hno w hv
    · by_cases hl : 16777215 < s.length
      · exact fun w v hv => rmake_long k fl st p v hk hf hst s hpay hl w hv
      · have hl' : s.length ≤ 16777215 := by omega
        cases hr : Fm.parse k fl st s with
        | bad c e0 => exact fun w v hv => rmake_bad k fl st p v hk hf hst s hpay hl' c e0 hr w hv
        | ok q =>
          by_cases hpq : p = q
          · subst hpq
            exact (hB s (by rw [Fm.pay_eq hr hl']; exact hs) (Fm.unw_zero.2 ⟨⟨hk, hf, hst⟩, hl'⟩) hr).elim
          · exact fun w v hv => rmake_diff k fl st p v hk hf hst s hpay hl' q hr hpq hb.sets w hv

end Go.Proofs.Ythbidfcfkjamdaa

namespace Go.Proofs.Ythbidfcfkjamdaa
open Go.RowKit

/-- The boxes of the law. -/
structure BX (w0 W : World) (b1 b2 b5 : Nat) (hd pt pt5 : Array Value) : Prop where
  bel : Below w0.heap.size w0 W
  h1 : Ar W b1 23 hd
  h2 : Ar W b2 27 pt
  h5 : Ar W b5 27 pt5
theorem BX.keep {w0 W W' : World} {b1 b2 b5 : Nat} {hd pt pt5 : Array Value} (h : BX w0 W b1 b2 b5 hd pt pt5) (hb : Below W.heap.size W W') : BX w0 W' b1 b2 b5 hd pt pt5 :=
  ⟨below_two h.bel hb, h.h1.keep hb, h.h2.keep hb, h.h5.keep hb⟩
theorem BX.grown {w0 W W' : World} {b1 b2 b5 n : Nat} {hd pt pt5 : Array Value} {v : Value} {xs : List Value} (h : BX w0 W b1 b2 b5 hd pt pt5) (ho : W.ownsRow w0.heap.size 29 2 v n xs) (hg : W.grownBy W' v.ownBlock) : BX w0 W' b1 b2 b5 hd pt pt5 :=
  ⟨h.bel.trans (Below.of_grown hg (fun k hk => (ho.lt k hk).1) h.bel.size), ar_grown h.h1 hg (own_apart ho h.h1 (by decide)), ar_grown h.h2 hg (own_apart ho h.h2 (by decide)), ar_grown h.h5 hg (own_apart ho h.h5 (by decide))⟩

/-- A slice is built of a literal, in a region that draws. -/
theorem step_lit {w : World} {ops : Array Oper} {o : Oper} {a : Act} {K : Act → World → Prop} {Q : Exit → Act → World → Prop} {E : Prop} (hgd : o.guard = none) (e : TypeId) (n : Nat) (cs : Array Value)
    (hrun : (execOp a.eval o).run Try.prog w = .ok (.value (.slice (some ⟨w.heap.size, 0, none⟩) n n)) (w.alloc (.cells cs e)))
    (h : ∀ b w', w.heap.size = b → Ar w' b e cs → Below w.heap.size w w' → K (a.put o.dst (.slice (some ⟨b, 0, none⟩) n n)) w') :
    if Region.wanted o (yielded ops a.tmps) = true then Oper.wp Try.prog o a w K Q else E := by
  have hw : Region.wanted o (yielded ops a.tmps) = true := by simp [Region.wanted, hgd]
  rw [if_pos hw]
  unfold Oper.wp
  rw [hrun]
  exact h _ _ rfl (heap_alloc_last w _) ((Below.refl _ w).alloc (Nat.le_refl _) _)

/-- A row of settings of one's own that holds a block's. -/
theorem own_of_ar {w : World} {B b n : Nat} {cs : Array Value} (h : Ar w b 29 cs) (hB : B ≤ b) (hn : n ≤ maxLen) (hs : cs.size = n * 2) : w.ownsRow B 29 2 (.slice (some ⟨b, 0, none⟩) n n) n cs.toList :=
  ⟨by simpa using hs, .inr ⟨b, n, cs, rfl, hB, h, Nat.le_refl _, hn, hs, List.take_of_length_le (by rw [Array.length_toList, hs]; exact Nat.le_refl _)⟩⟩

theorem infoSet : (Try.prog.info? 29).map (fun i => (i.zero, i.size, i.bytes)) = some (some (.agg #[.int .i64 0, .int .i64 0]), 2, 16) := by kernel_rfl
theorem stCells_one (l : List (Int × Int)) : ∀ u ∈ stCells l, u.oneCell' = true := by
  intro u hu
  unfold stCells at hu
  obtain ⟨p, _, hp⟩ := List.mem_flatMap.1 hu
  rcases List.mem_cons.1 hp with rfl | hp
  · rfl
  · obtain rfl : u = .int .i64 p.2 := by simpa using hp
    rfl

/-- Settings that can be read are appended to a row of one's own. -/
theorem step_appS {w : World} {ops : Array Oper} {o : Oper} {a : Act} {K : Act → World → Prop} {Q : Exit → Act → World → Prop} {E : Prop} (hgd : o.guard = none) (s x : Operand)
    (ho : o.op = .call { callee := .builtin .append, args := #[s, x], argTypes := #[25, 25] })
    (B : Nat) (v u : Value) (m : Nat) (xs : List Value) (l : List (Int × Int)) (hs : a.eval s = v) (hown : w.ownsRow B 29 2 v m xs) (hx : a.eval x = u) (hu : SR w u l) (hlen : (m + l.length) * 16 ≤ 140737488355328) (hB : B ≤ w.heap.size)
    (h : ∀ v' w', w'.ownsRow B 29 2 v' (m + l.length) (xs ++ stCells l) → w.grownBy w' v.ownBlock → K (a.put o.dst v') w') :
    if Region.wanted o (yielded ops a.tmps) = true then Oper.wp Try.prog o a w K Q else E := by
  obtain ⟨i, hi, hz0, hz1, hz2⟩ := info_parts' infoSet
  rcases hu with ⟨rfl, rfl⟩ | ⟨ad, cap, rfl, hc⟩
  · have hw : Region.wanted o (yielded ops a.tmps) = true := by simp [Region.wanted, hgd]
    rw [if_pos hw]
    have hrun := run_append_owned_none (P := Try.prog) (w := w) B 25 o.type 29 i 2 Try.underlying25 hi v m xs hown
    have hk := h v w (by simpa [stCells] using hown) (World.grownBy.refl _ _)
    unfold Oper.wp
    simp only [execOp, ho, resolve, invoke, builtin, Sem.run_bind, Sem.run_pure, Result.andThen_ok, List.map_toArray, List.map_cons, List.map_nil, hs, hx, hrun]
    exact hk
  · exact step_app w hgd s x 25 ho B 29 i _ 2 16 Try.underlying25 hi hz0 hz1 hz2 rfl (by decide) v m xs hs hown ad l.length cap (stCells l) hx (stCells_length l) (fun j u hj => (hc j u hj).2) (stCells_one l) (by unfold maxLen; omega) hlen hB h

/-- What such a row holds. -/
theorem own_reads {w : World} {B g c : Nat} {l : List (Int × Int)} {i v : Int} (h : w.ownsRow B 29 2 (.slice (some ⟨g, 0, none⟩) (l.length + 1) c) (l.length + 1) (stCells l ++ [.int .i64 i, .int .i64 v])) :
    (∀ c', SR w (.slice (some ⟨g, 0, none⟩) l.length c') l) ∧ w.cell? ⟨g, l.length * 2, none⟩ = some (.int .i64 i) ∧ w.cell? ⟨g, l.length * 2 + 1, none⟩ = some (.int .i64 v) := by
  have hlt : ∀ j, ((⟨g, 0, none⟩ : Addr).add j) = ⟨g, j, none⟩ := fun j => by rw [Addr.add_mid, Nat.zero_add]
  have hc := h.cells (g := g) rfl
  have hl := stCells_length l
  refine ⟨fun c' => .inr ⟨⟨g, 0, none⟩, c', rfl, fun j u hj => ⟨?_, ?_⟩⟩, ?_, ?_⟩
  · rw [hlt]; exact (h.lt g rfl).2
  · exact hc j u (by rw [List.getElem?_append_left (List.getElem?_eq_some_iff.1 hj).1]; exact hj)
  · rw [← hlt]; exact hc _ _ (by rw [List.getElem?_append_right (by omega), hl]; simp)
  · rw [← hlt]; exact hc _ _ (by rw [List.getElem?_append_right (by omega), hl]; simp [show l.length * 2 + 1 - l.length * 2 = 1 by omega])

end Go.Proofs.Ythbidfcfkjamdaa
