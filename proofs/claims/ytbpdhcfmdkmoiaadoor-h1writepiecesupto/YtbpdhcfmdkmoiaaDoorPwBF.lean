/-
  awake: the chapter's examples.
  The document's Trailers, Same, SameRequest: by their contracts.
  Fields that are laid behind a row of one's own; the laws' lent and kept: by their contracts.
-/
import Derived.Test.YtbpdhcfmdkmoiaaDoorPwBE
import Derived.Laws.StructEq
import Derived.Test.YtbpdhcfmdkmoiaaDoorPwBA
import Derived.Laws.AppendOwnNone
namespace Go.Proofs.YtbpdhcfmdkmoiaaDoor
open Go.RowKit

theorem own_lit22 (w : World) (e : TypeId) (xs : List Value) (n s : Nat) (hl : xs.length = n * s) (hn : n ≤ maxLen) (B : Nat) (hB : B ≤ w.heap.size) : (w.alloc (.cells xs.toArray e)).ownsRow B e s (.slice (some ⟨w.heap.size, 0, none⟩) n n) n xs :=
  ⟨hl, .inr ⟨w.heap.size, n, xs.toArray, rfl, hB, heap_alloc_last w _, Nat.le_refl _, hn, by simpa using hl, by rw [← hl]; simp⟩⟩
theorem fw_lit22 (w : World) (l : List Fd) (n : Nat) (hn : l.length = n) (h : n ≤ maxLen) : FW (w.alloc (.cells (fC l).toArray 45)) (.slice (some ⟨w.heap.size, 0, none⟩) n n) l :=
  FW.of_own (B := w.heap.size) (e := 45) (by rw [hn]; exact own_lit22 w 45 (fC l) n 2 (by rw [fC_length, hn]) h w.heap.size (Nat.le_refl _))
namespace Hw
theorem awP1 : pieces ⟨200, [⟨⟨#[99, 111, 110, 116, 101, 110, 116, 45, 108, 101, 110, 103, 116, 104]⟩, ⟨#[50]⟩⟩], ⟨#[97, 98]⟩, []⟩ false false false = ([[72, 84, 84, 80, 47, 49, 46, 49, 32, 50, 48, 48, 32, 79, 75, 13, 10, 99, 111, 110, 116, 101, 110, 116, 45, 108, 101, 110, 103, 116, 104, 58, 32, 50, 13, 10, 13, 10], [97, 98]], 0) := by decide +kernel
theorem awP2 : pieces ⟨200, [⟨⟨#[120]⟩, ⟨#[97, 13, 98]⟩⟩], ⟨#[]⟩, []⟩ false false false = ([], 220) := by decide +kernel
theorem awR : reason 404 = [78, 111, 116, 32, 70, 111, 117, 110, 100] := by decide +kernel
theorem awC : line1 100 ++ crlf = [72, 84, 84, 80, 47, 49, 46, 49, 32, 49, 48, 48, 32, 67, 111, 110, 116, 105, 110, 117, 101, 13, 10, 13, 10] := by decide +kernel
end Hw
theorem awF1 : FO22 [⟨⟨#[99, 111, 110, 116, 101, 110, 116, 45, 108, 101, 110, 103, 116, 104]⟩, ⟨#[50]⟩⟩] := ⟨by decide, fun f hf => by rw [List.mem_singleton.1 hf]; exact ⟨by decide, by decide⟩, by decide +kernel⟩
theorem awF2 : FO22 [⟨⟨#[120]⟩, ⟨#[97, 13, 98]⟩⟩] := ⟨by decide, fun f hf => by rw [List.mem_singleton.1 hf]; exact ⟨by decide, by decide⟩, by decide +kernel⟩
theorem awF3 : FO22 [] := ⟨by decide, fun f hf => (by simp at hf), by decide +kernel⟩

set_option maxHeartbeats 4000000 in
set_option maxRecDepth 20000 in
theorem awake22 (w : World) (hT : TB w) (hZ : TZ w) : Calls Tryd.prog 9 #[] w fun e w' => e = .returned (.bool true) ∧ Below w.heap.size w w' := by
  have HT := hid' hT
  have HZ := hid' hZ
  clear hT hZ
  have HW1 := hid' (fw_lit22 w [⟨⟨#[99, 111, 110, 116, 101, 110, 116, 45, 108, 101, 110, 103, 116, 104]⟩, ⟨#[50]⟩⟩] 1 rfl (by decide))
  have HB1 := hid' (bl_alloc w (.cells (fC [⟨⟨#[99, 111, 110, 116, 101, 110, 116, 45, 108, 101, 110, 103, 116, 104]⟩, ⟨#[50]⟩⟩]).toArray 45))
  have HP1 := hid' (cpieces22 200 (.slice (some ⟨w.heap.size, 0, none⟩) 1 1) ⟨#[97, 98]⟩ (.slice none 0 0) [⟨⟨#[99, 111, 110, 116, 101, 110, 116, 45, 108, 101, 110, 103, 116, 104]⟩, ⟨#[50]⟩⟩] [] false false false _ HW1.out (.inl ⟨rfl, rfl⟩) awF1 awF3 (by decide) (HT.out.keep HB1.out) (HZ.out.keep HB1.out))
  rw [Hw.awP1] at HP1
  go_enter Tryd.func9, Tryd.ntmps9
  go_wp2_with (go_at_call 7; refine HP1.out.mono ?_; rintro e w2 ⟨ao, cap, rfl, ho, hb2⟩; refine Hid.out ?_)
  refine hid' ?_
  have HB2 := hid' (below_two HB1.out hb2)
  have HO2 := hid' ho
  clear ho hb2 HW1 HP1
  have HW3 := hid' (fw_lit22 w2 [⟨⟨#[120]⟩, ⟨#[97, 13, 98]⟩⟩] 1 rfl (by decide))
  have HB3 := hid' (bl_alloc w2 (.cells (fC [⟨⟨#[120]⟩, ⟨#[97, 13, 98]⟩⟩]).toArray 45))
  have HP3 := hid' (cpieces22 200 (.slice (some ⟨w2.heap.size, 0, none⟩) 1 1) ⟨#[]⟩ (.slice none 0 0) [⟨⟨#[120]⟩, ⟨#[97, 13, 98]⟩⟩] [] false false false _ HW3.out (.inl ⟨rfl, rfl⟩) awF2 awF3 (by decide) (HT.out.keep (below_two HB2.out HB3.out)) (HZ.out.keep (below_two HB2.out HB3.out)))
  rw [Hw.awP2] at HP3
  go_wp2_with (go_at_call 7; refine HP3.out.mono ?_; rintro e w4 ⟨ao4, cap4, rfl, ho4, hb4⟩; refine Hid.out ?_)
  refine hid' ?_
  have HB4 := hid' (below_two HB2.out (below_two HB3.out hb4))
  have HO4 := hid' (own_same HO2.out (fun i hi => (below_two HB3.out hb4).block i (own_lt HO2.out i hi)))
  clear ho4 hb4 HW3 HP3 HB3 HB2 HO2 HB1
  obtain ⟨g, rfl⟩ : ∃ g, ao = some ⟨g, 0, none⟩ := by
    rcases HO4.out.2 with ⟨_, h2⟩ | ⟨g, cp, cur, h1, _⟩
    · simp at h2
    · injection h1 with h1 _ _; exact ⟨g, h1⟩
  have y0 : w4.cell? ⟨g, 0, none⟩ = some (.string ⟨#[72, 84, 84, 80, 47, 49, 46, 49, 32, 50, 48, 48, 32, 79, 75, 13, 10, 99, 111, 110, 116, 101, 110, 116, 45, 108, 101, 110, 103, 116, 104, 58, 32, 50, 13, 10, 13, 10]⟩) := by
    have h1 := HO4.out.cells (g := g) rfl 0 _ rfl
    rwa [Addr.add_mid, Nat.zero_add] at h1
  have y1 : w4.cell? ⟨g, 1, none⟩ = some (.string ⟨#[97, 98]⟩) := by
    have h1 := HO4.out.cells (g := g) rfl 1 _ rfl
    rwa [Addr.add_mid, Nat.zero_add] at h1
  have HR := hid' (creason22 404)
  rw [Hw.awR] at HR
  have HC := hid' (ccont22 w4 (HT.out.keep HB4.out))
  rw [Hw.awC] at HC
  go_wp2_with (go_at_call 12; refine (HR.out _).mono ?_; rintro e w5 ⟨rfl, hw5⟩; refine Hid.out ?_)
  refine hid' ?_
  subst hw5
  go_wp2_with (go_at_call 36; refine HC.out.mono ?_; rintro e w6 ⟨rfl, hb6⟩; refine Hid.out ?_)
  refine hid' ?_
  have HB6 := hid' (below_two HB4.out hb6)
  clear hb6 y0 y1
  go_wp2
  go_ret
  exact ⟨rfl, HB6.out⟩

end Go.Proofs.YtbpdhcfmdkmoiaaDoor

namespace Go.Proofs.YtbpdhcfmdkmoiaaDoor
open Go.RowKit

theorem noStandF14 : Tryd.prog.stoodInHeld 45 = false := by kernel_rfl
theorem noGuardF14 : Tryd.prog.eqGuardType Tryd.prog.depth 45 = false := by kernel_rfl
theorem fieldsOfF14 : Tryd.prog.underlying 45 = some (.struct (Tryd.prog.fieldsOf 45)) := by kernel_rfl
set_option maxRecDepth 20000 in
theorem neq_f14 (f : Fd) (w : World) : (binOp .neq 45 (.agg #[.string f.n, .string f.v]) (.agg #[.string f.n, .string f.v])).run Tryd.prog w = .ok (.bool false) w := by
  rw [run_neq_struct, show (10000 : Nat) = 9999 + 1 by rfl, run_equalIn_agg w 9999 45 _ _ fieldsOfF14 noStandF14]
  simp only [Program.fieldsOf, Tryd.underlying45]
  go_simp

set_option maxHeartbeats 2000000 in
set_option maxRecDepth 20000 in
theorem rsame14 (va vb : Value) (l : List Fd) (w : World) (h1 : FW w va l) (h2 : FW w vb l) (hl : l.length ≤ 140737488355328) :
    Calls Tryd.prog 20 #[va, vb] w fun e w' => e = .returned (.bool true) ∧ ∃ m, w' = w.drewN m := by
  obtain ⟨ao, ca, hv⟩ := h1.shape
  subst hv
  obtain ⟨bo, cb, hv⟩ := h2.shape
  subst hv
  obtain ⟨n, hn⟩ : ∃ n, l.length = n := ⟨_, rfl⟩
  rw [hn] at h1 h2 hl ⊢
  have H1 := hid' h1
  have H2 := hid' h2
  have HN := hid' hn
  have hee : ((n : Int) == (n : Int)) = true := beq_self_eq_true _
  have hgd := noGuardF14
  clear h1 h2 hn
  go_enter Tryd.func20, Tryd.ntmps20
  go_wp2
  go_loopw [5] (fun s5 wr => ∃ i q : Nat, s5 = .int .i64 (i : Int) ∧ i ≤ n ∧ wr = w.drewN q) (fun s5 _ => n - (intOf s5).toNat)
  case atStart => exact ⟨0, 0, rfl, Nat.zero_le _, rfl⟩
  case round =>
    obtain ⟨i, q, rfl, hi, hwr⟩ := hrel
    subst hwr
    by_cases hlt : i < n
    · have hlt2 : (i : Int) < (n : Int) := by omega
      obtain ⟨p, hp⟩ : ∃ p, l[i]? = some p := ⟨_, List.getElem?_eq_getElem (by rw [HN.out]; exact hlt)⟩
      obtain ⟨a, hao, x0, x1⟩ := H1.out.two i p hp
      obtain ⟨a2, hbo, y0, y1⟩ := H2.out.two i p hp
      subst hao hbo
      have hne : ∀ W, (binOp .neq 45 (.agg #[.string p.n, .string p.v]) (.agg #[.string p.n, .string p.v])).run Tryd.prog W = .ok (.bool false) W := fun W => neq_f14 p W
      have HLT := hid' hlt
      clear hp hlt
      go_wp2
      go_quiet (fail)
      go_wp2
      go_roundw
      case rel => exact ⟨i + 1, _, by go_num, by have := HLT.out; omega, by first | rfl | simp⟩
      case measure => have := HLT.out; simp [intOf]; omega
    · have hlt2 : ¬ (i : Int) < (n : Int) := by omega
      clear hlt
      go_wp2
      go_ret
      exact ⟨rfl, _, rfl⟩

end Go.Proofs.YtbpdhcfmdkmoiaaDoor

namespace Go.Proofs.YtbpdhcfmdkmoiaaDoor
open Go.RowKit

theorem fC_one22 (l : List Fd) : ∀ u ∈ fC l, u.oneCell' = true := by
  intro u hu
  unfold fC at hu
  obtain ⟨f, _, hf⟩ := List.mem_flatMap.1 hu
  simp [fV] at hf
  rcases hf with rfl | rfl <;> rfl
theorem wpl_appL22 {w : World} {ops : Array Oper} {rest : List Oper} {o : Oper} {a : Act} {Q : Exit → Act → World → Prop} (hgd : o.guard = none) (s x : Operand)
    (ho : o.op = .call { callee := .builtin .append, args := #[s, x], argTypes := #[22, 22] })
    (B : Nat) (v : Value) (n : Nat) (xs : List Value) (hs : a.eval s = v) (hown : w.ownsRow B 45 2 v n xs) (y : Value) (l : List Fd) (hx : a.eval x = y) (hy : FW w y l)
    (h63 : n + l.length ≤ 4398046511103) (hB : B ≤ w.heap.size)
    (h : ∀ v' w', w'.ownsRow B 45 2 v' (n + l.length) (xs ++ fC l) → w.grownBy w' v.ownBlock → (v'.ownBlock = v.ownBlock ∨ v'.ownBlock = some w.heap.size) → wpList Tryd.prog ops Q rest (a.put o.dst v') w') :
    wpList Tryd.prog ops Q (o :: rest) a w := by
  obtain ⟨i0, hi0, hz0, hz1, hz2⟩ := minfo_parts infoF14
  rcases hy with ⟨rfl, rfl⟩ | ⟨ad, cap, rfl, hc, hcells⟩
  · refine wpList_append_own_none hgd s x 22 ho B 45 i0 2 Tryd.underlying22 hi0 v n xs hs hown hx ?_
    refine h v w ?_ ⟨rfl, rfl, rfl, Nat.le_refl _, fun _ _ _ => rfl⟩ (.inl rfl)
    simpa [fC] using hown
  · refine wpList_append_own_at w hgd s x 22 ho B 45 i0 (.agg #[.string ⟨#[]⟩, .string ⟨#[]⟩]) 2 32 Tryd.underlying22 hi0 hz0 hz1 hz2 rfl (by decide) v n xs hs hown ad l.length cap (fC l) hx (fC_length l) (fun j u hj => (hcells j u hj).2) (fC_one22 l) (by unfold maxLen; omega) (by omega) hB ?_
    intro v' w' h1 h2 _ h4
    exact h v' w' h1 h2 h4
theorem below_grown22 {B : Nat} {w0 w w' : World} {v : Value} {n : Nat} {xs : List Value} (hb : Below B w0 w) (hB : B ≤ w.heap.size) (ho : w.ownsRow B 45 2 v n xs) (hg : w.grownBy w' v.ownBlock) : Below B w0 w' :=
  hb.grown hg hB (fun k hk => (own_ty ho k hk).1)

def fMark22 : Fd := ⟨⟨#[45, 109, 97, 114, 107]⟩, ⟨#[]⟩⟩
/-- Fields that are lent: a marked one stands behind them. -/
structure LN22 (w : World) (B g cap : Nat) (l : List Fd) : Prop where
  own : w.ownsRow B 45 2 (.slice (some ⟨g, 0, none⟩) (l.length + 1) cap) (l.length + 1) (fC (l ++ [fMark22]))
theorem LN22.keep {w w' : World} {B g cap : Nat} {l : List Fd} (h : LN22 w B g cap l) (hb : Below w.heap.size w w') : LN22 w' B g cap l :=
  ⟨own_same h.own (fun k hk => hb.block k (own_lt h.own k hk))⟩
theorem LN22.fw {w : World} {B g cap : Nat} {l : List Fd} (h : LN22 w B g cap l) : FW w (.slice (some ⟨g, 0, none⟩) l.length cap) l := by
  have h1 : FW w (.slice (some ⟨g, 0, none⟩) (l.length + 1) cap) (l ++ [fMark22]) := FW.of_own (by rw [List.length_append]; exact h.own)
  have h2 := h1.take (k := l.length) (by simp)
  rwa [List.take_left] at h2
theorem LN22.cap {w : World} {B g cap : Nat} {l : List Fd} (h : LN22 w B g cap l) : l.length + 1 ≤ cap := by
  rcases h.own.2 with ⟨h1, _⟩ | ⟨_, _, _, h1, _, _, h4, _⟩
  · cases h1
  · injection h1 with _ _ e
    rw [e]; exact h4
theorem LN22.mark {w : World} {B g cap : Nat} {l : List Fd} (h : LN22 w B g cap l) : w.cell? ⟨g, l.length * 2, none⟩ = some (.string ⟨#[45, 109, 97, 114, 107]⟩) ∧ w.cell? ⟨g, l.length * 2 + 1, none⟩ = some (.string ⟨#[]⟩) := by
  have key : ∀ j u, j < 2 → (fV fMark22)[j]? = some u → w.cell? ⟨g, l.length * 2 + j, none⟩ = some u := fun j u hj hu => by
    have e1 : (fC (l ++ [fMark22]))[l.length * 2 + j]? = some u := by
      rw [f_at (l ++ [fMark22]) l.length fMark22 (by simp) j hj]; exact hu
    have := h.own.cells (g := g) rfl _ u e1
    rwa [Addr.add_mid, Nat.zero_add] at this
  exact ⟨key 0 _ (by omega) rfl, key 1 _ (by omega) rfl⟩

set_option maxHeartbeats 4000000 in
set_option maxRecDepth 20000 in
theorem lent22 (v : Value) (l : List Fd) (w : World) (h : FW w v l) (hl : l.length ≤ 1048576) :
    Calls Tryd.prog 6 #[v] w fun e w' => (∃ g cap, e = .returned (.slice (some ⟨g, 0, none⟩) l.length cap) ∧ LN22 w' w.heap.size g cap l) ∧ Below w.heap.size w w' := by
  have H := hid' h
  obtain ⟨ao, ac, hv⟩ := h.shape
  subst hv
  obtain ⟨n, hn⟩ : ∃ n, l.length = n := ⟨_, rfl⟩
  have HN := hid' hn
  rw [hn] at hl H ⊢
  clear h
  go_enter Tryd.func6, Tryd.ntmps6
  go_wp2_with (at_builtin; refine wpl_appL22 rfl _ _ rfl w.heap.size (.slice none 0 0) 0 [] rfl (World.ownsRow_nil _ _ _ _) _ l rfl H.out (by have := HN.out; omega) (Nat.le_refl _) ?_; intro v1 w1 hown1 hgrow1 _; refine Hid.out ?_)
  refine hid' ?_
  rw [Nat.zero_add, List.nil_append, HN.out] at hown1
  have HB1 : Hid (Below w.heap.size w w1) := hid' (below_grown22 (v := .slice none 0 0) (n := 0) (xs := []) (Below.refl _ _) (Nat.le_refl _) (World.ownsRow_nil _ _ _ _) hgrow1)
  obtain ⟨v1o, v1c, hv1⟩ := own_shape hown1
  subst hv1
  have HO1 := hid' (hown1.alloc (.cells #[.string ⟨#[45, 109, 97, 114, 107]⟩, .string ⟨#[]⟩] 45))
  have HBa := hid' (below_two HB1.out (bl_alloc w1 (.cells #[.string ⟨#[45, 109, 97, 114, 107]⟩, .string ⟨#[]⟩] 45)))
  have HLP : Hid (FW (w1.alloc (.cells #[.string ⟨#[45, 109, 97, 114, 107]⟩, .string ⟨#[]⟩] 45)) (.slice (some ⟨w1.heap.size, 0, none⟩) 1 1) [fMark22]) := hid' (fw_lit22 w1 [fMark22] 1 rfl (by decide))
  clear hown1 hgrow1
  go_wp2_with (at_builtin; refine wpl_appL22 rfl _ _ rfl w.heap.size (.slice v1o n v1c) n (fC l) rfl HO1.out _ [fMark22] rfl HLP.out (by simp; omega) HBa.out.size ?_; intro v2 w2 hown2 hgrow2 _; refine Hid.out ?_)
  refine hid' ?_
  rw [← fC_append, show n + [fMark22].length = n + 1 from rfl] at hown2
  have HB2 : Hid (Below w.heap.size w w2) := hid' (below_grown22 HBa.out HBa.out.size HO1.out hgrow2)
  have hg : ∃ g cap, v2 = .slice (some ⟨g, 0, none⟩) (n + 1) cap ∧ n + 1 ≤ cap := by
    rcases hown2.2 with ⟨_, h0⟩ | ⟨g, cap, cur, h1, _, _, h4, _⟩
    · omega
    · exact ⟨g, cap, h1, h4⟩
  obtain ⟨g, cap, rfl, hgc⟩ := hg
  have HLN : Hid (LN22 w2 w.heap.size g cap l) := hid' ⟨by rw [HN.out]; exact hown2⟩
  have g1 : (n : Int) ≤ (cap : Int) := by omega
  clear hown2 hgrow2 HO1 HBa HLP HB1
  go_wp2
  go_ret
  exact ⟨⟨g, cap, rfl, HLN.out⟩, HB2.out⟩

set_option maxHeartbeats 4000000 in
set_option maxRecDepth 20000 in
theorem kept22 (B g cap : Nat) (v : Value) (l : List Fd) (w : World) (h : LN22 w B g cap l) (hv : FW w v l) (hl : l.length ≤ 1048576) :
    Calls Tryd.prog 11 #[.slice (some ⟨g, 0, none⟩) l.length cap, v] w fun e w' => e = .returned (.bool true) ∧ Below w.heap.size w w' := by
  have H := hid' h.fw
  have HV := hid' hv
  have hcap := h.cap
  have HMK := hid' h
  obtain ⟨ao, ac, hvv⟩ := hv.shape
  subst hvv
  obtain ⟨n, hn⟩ : ∃ n, l.length = n := ⟨_, rfl⟩
  have HN := hid' hn
  have hmk := h.mark
  rw [hn] at hl H HV hcap hmk ⊢
  obtain ⟨m0, m1⟩ := hmk
  have g1 : (n : Int) + 1 ≤ (cap : Int) := by omega
  clear h hv hn
  go_enter Tryd.func11, Tryd.ntmps11
  go_wp2_with fail
  refine (rsame14 _ _ l w H.out HV.out (by have := HN.out; omega)).mono ?_
  rintro e w1 ⟨rfl, hw1⟩
  have hb1 : Below w.heap.size w w1 := by first | exact hw1 | exact hw1 ▸ Below.refl _ _ | (obtain ⟨q, hq⟩ := hw1; rw [hq]; exact below_drewN _ _)
  have HB1 := hid' hb1
  have k0 : w1.cell? ⟨g, n * 2, none⟩ = some (.string ⟨#[45, 109, 97, 114, 107]⟩) := (hb1.cell (cell_lt m0)).trans m0
  have k1 : w1.cell? ⟨g, n * 2 + 1, none⟩ = some (.string ⟨#[]⟩) := (hb1.cell (cell_lt m1)).trans m1
  clear hw1 hb1 m0 m1
  go_wp2
  go_ret
  exact ⟨rfl, HB1.out⟩

end Go.Proofs.YtbpdhcfmdkmoiaaDoor
