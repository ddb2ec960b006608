/-
  The document's table: all, by its contract.
  The document's table: shrink, by its contract.
  The document's table: Add, Resize: by their contracts.
  The document's table: At, Find: by their contracts.
  The document's table: Find, by its contract.
-/
import Derived.Test.YtmkkhfkfjmfdcaaGreatTabKx
import Derived.Laws.AppendOwnNone
import Derived.BigRegion
import Derived.Deep.RegionHeld3
import Derived.Test.YtmkkhfkfjmfdcaaGreatTabR
import Derived.WalkSmall
import Derived.Deep.QuietTactic
import Derived.BigQuiet
namespace Go.Proofs.YtmkkhfkfjmfdcaaGreat
open Go.RowKit

theorem step_append_own {P : Program} (w : World) {ops : Array Oper} {o : Oper} {a : Act} {K : Act → World → Prop} {Q : Exit → Act → World → Prop} {E : Prop} (hgd : o.guard = none) (s x : Operand) (t : TypeId)
    (ho : o.op = .call { callee := .builtin .append, args := #[s, x], argTypes := #[t, t] })
    (base : Nat) (e : TypeId) (i : TypeInfo) (z : Value) (size bytes : Nat) (ht : P.underlying t = some (.slice e)) (hi : P.info? e = some i) (hz : i.zero = some z)
    (hsize : i.size = size) (hby : i.bytes = bytes) (hzs : z.cells.size = size) (hsz : 0 < size)
    (v : Value) (n : Nat) (xs : List Value) (hs : a.eval s = v) (hown : w.ownsRow base e size v n xs)
    (ad : Addr) (m c : Nat) (news : List Value) (hx : a.eval x = .slice (some ad) m c) (hl : news.length = m * size) (hnews : ∀ j u, news[j]? = some u → w.cell? (ad.add j) = some u) (h1 : ∀ u ∈ news, u.oneCell' = true)
    (h63 : n + m ≤ maxLen) (hbytes : (n + m) * bytes ≤ 140737488355328) (hbase : base ≤ w.heap.size)
    (h : ∀ v' w', w'.ownsRow base e size v' (n + m) (xs ++ news) → w.grownBy w' v.ownBlock → K (a.put o.dst v') w') :
    if Region.wanted o (yielded ops a.tmps) = true then Oper.wp P o a w K Q else E := by
  have hw : Region.wanted o (yielded ops a.tmps) = true := by simp [Region.wanted, hgd]
  rw [if_pos hw]
  exact wp_append_own w s x t ho base e i z size bytes ht hi hz hsize hby hzs hsz v n xs hs hown ad m c news hx hl hnews h1 h63 hbytes hbase fun v' w' h2 h3 _ => h v' w' h2 h3
theorem step_append_none {P : Program} (w : World) {ops : Array Oper} {o : Oper} {a : Act} {K : Act → World → Prop} {Q : Exit → Act → World → Prop} {E : Prop} (hgd : o.guard = none) (s x : Operand) (t : TypeId)
    (ho : o.op = .call { callee := .builtin .append, args := #[s, x], argTypes := #[t, t] })
    (base : Nat) (e : TypeId) (i : TypeInfo) (size : Nat) (ht : P.underlying t = some (.slice e)) (hi : P.info? e = some i)
    (v : Value) (n : Nat) (xs : List Value) (hs : a.eval s = v) (hown : w.ownsRow base e size v n xs) (hx : a.eval x = .slice none 0 0)
    (h : ∀ v', v' = v → K (a.put o.dst v') w) :
    if Region.wanted o (yielded ops a.tmps) = true then Oper.wp P o a w K Q else E := by
  have hw : Region.wanted o (yielded ops a.tmps) = true := by simp [Region.wanted, hgd]
  rw [if_pos hw]
  have hrun := run_append_owned_none (P := P) (w := w) base t o.type e i size ht hi v n xs hown
  unfold Oper.wp
  simp [execOp, ho, resolve, invoke, builtin, hs, hx, hrun, Result.andThen]
  exact h _ rfl

theorem infoField : (Tryz.prog.info? 54).map (fun i => (i.zero, i.size, i.bytes)) = some (some (.agg #[.string ⟨#[]⟩, .string ⟨#[]⟩]), 2, 32) := by kernel_rfl
theorem stat_owns (w : World) : (w.alloc (.cells statCells 54)).ownsRow w.heap.size 54 2 (.slice (some ⟨w.heap.size, 0, none⟩) 61 61) 61 (Tb.cells Tb.stat) := by
  have := World.ownsRow_lit (base := w.heap.size) (e := 54) (size := 2) w statCells 61 (Nat.le_refl _) (by decide) (by unfold statCells; rw [List.size_toArray, Tb.cells_length, Tb.stat_length])
  rw [statCells] at this
  exact this
theorem alloc_cells (w : World) (o : Obj) (k i : Nat) (v : Value) (h : w.cell? ⟨k, i, none⟩ = some v) : (w.alloc o).cell? ⟨k, i, none⟩ = some v := by
  have hk := World.block_lt_of_cell? w ⟨k, i, none⟩ h
  rw [World.cell?_of_block (w := w) (Lib.alloc_old w o k hk)]; exact h

theorem rstatic_b (X : List Value) (hX : Tb.cells Tb.stat = X) (w : World) : Calls Tryz.prog 83 #[] w fun e w' => e = .returned (.slice (some ⟨w.heap.size, 0, none⟩) 61 61) ∧ w'.ownsRow w.heap.size 54 2 (.slice (some ⟨w.heap.size, 0, none⟩) 61 61) 61 X ∧ Below w.heap.size w w' := by
  subst hX
  refine (rstatic_any w).mono ?_
  rintro e w' ⟨rfl, rfl⟩
  exact ⟨rfl, stat_owns w, (Below.refl _ _).alloc (Nat.le_refl _) _⟩

set_option maxHeartbeats 1000000 in
set_option maxRecDepth 20000 in
theorem rall_any (B b : Nat) (v : Value) (M : Int) (fs : List (List UInt8 × List UInt8)) (w : World) (h : RT w B b v M fs) (hs : Tb.size fs ≤ 1048576) :
    Calls Tryz.prog 66 #[.pointer (some ⟨b, 0, none⟩)] w fun e w' => ∃ v', e = .returned v' ∧ w'.ownsRow w.heap.size 54 2 v' (61 + fs.length) (Tb.cells (Tb.all fs)) ∧ Below w.heap.size w w' := by
  obtain ⟨i0, hi, hz0, hz1, hz2⟩ := info_parts infoField
  have HI := hid' hi
  have HZ0 := hid' hz0
  have HZ1 := hid' hz1
  have HZ2 := hid' hz2
  clear hi hz0 hz1 hz2
  have H := hid' h
  have hfl : fs.length ≤ 1048576 := by have := Tb.size_len fs; omega
  have HC1 := hid' (h.obj.cell 1 _ rfl)
  have hbw : b < w.heap.size := h.obj.lt
  rcases h.row.2 with ⟨rfl, h0⟩ | ⟨g, cap, cur, rfl, _⟩
  · have hfn : fs = [] := List.eq_nil_of_length_eq_zero h0
    subst hfn
    clear h h0
    obtain ⟨X, hX⟩ : ∃ X, Tb.cells Tb.stat = X := ⟨_, rfl⟩
    have HX := hid' hX
    clear hX
    have hc1 : w.cell? ⟨b, 1, none⟩ = some (.slice none 0 0) := HC1.out
    go_enter Tryz.func66, Tryz.ntmps66
    go_wp2
    have hS : Below w.heap.size w w := Below.refl _ _
    have sOf : ∀ W, Below w.heap.size w W → Below w.heap.size w W ∧ W.cell? ⟨b, 1, none⟩ = some (.slice none 0 0) := fun W hW => ⟨hW, (hW.cell (p := ⟨b, 1, none⟩) hbw).trans hc1⟩
    have bt : ∀ W W1, (Below w.heap.size w W ∧ W.cell? ⟨b, 1, none⟩ = some (.slice none 0 0)) → Below W.heap.size W W1 → Below w.heap.size w W1 := fun W W1 hW h => below_two hW.1 h
    go_region_held3 (fun W => Below w.heap.size w W ∧ W.cell? ⟨b, 1, none⟩ = some (.slice none 0 0))
      (first | exact sOf _ (by assumption) | exact sOf _ (Below.drew (by assumption)))
      (first
      | (go_at_call 83; refine (rstatic_b X HX.out _).mono ?_; rintro e w1 ⟨rfl, hown, hbl⟩; have HOW : Hid (w1.ownsRow w.heap.size 54 2 (.slice (some ⟨w.heap.size, 0, none⟩) 61 61) 61 X) := hid' hown; have hb1 := bt _ _ (by assumption) hbl; clear hown hbl)
      | (refine step_append_none _ (by rfl) _ _ 27 (by rfl) w.heap.size 54 i0 2 Tryz.underlying27 HI.out (.slice (some ⟨w.heap.size, 0, none⟩) 61 61) 61 X (by rfl) HOW.out (by rfl) ?_; intro v2 hv2; have HV2 := hid' hv2; clear hv2))
    go_wp2
    go_ret
    exact ⟨v2, rfl, by have := HOW.out; rw [← HX.out, ← HV2.out] at this; simpa [Tb.all] using this, hb1⟩
  · clear h
    obtain ⟨X, hX⟩ : ∃ X, Tb.cells Tb.stat = X := ⟨_, rfl⟩
    have HX := hid' hX
    clear hX
    obtain ⟨Y, hY⟩ : ∃ Y, Tb.cells fs = Y := ⟨_, rfl⟩
    have HYL : Hid (Y.length = fs.length * 2) := hid' (by rw [← hY]; exact Tb.cells_length fs)
    have HY1 : Hid (∀ u ∈ Y, u.oneCell' = true) := hid' (by rw [← hY]; exact Tb.cells_one fs)
    have HYR : Hid (w.ownsRow B 54 2 (.slice (some ⟨g, 0, none⟩) fs.length cap) fs.length Y) := hid' (by rw [← hY]; exact H.out.row)
    have HYE := hid' hY
    clear hY
    have hc1 : w.cell? ⟨b, 1, none⟩ = some (.slice (some ⟨g, 0, none⟩) fs.length cap) := HC1.out
    go_enter Tryz.func66, Tryz.ntmps66
    go_wp2
    have hS : Below w.heap.size w w := Below.refl _ _
    have sOf : ∀ W, Below w.heap.size w W → Below w.heap.size w W ∧ W.cell? ⟨b, 1, none⟩ = some (.slice (some ⟨g, 0, none⟩) fs.length cap) := fun W hW => ⟨hW, (hW.cell (p := ⟨b, 1, none⟩) hbw).trans hc1⟩
    have szOf : ∀ W, (Below w.heap.size w W ∧ W.cell? ⟨b, 1, none⟩ = some (.slice (some ⟨g, 0, none⟩) fs.length cap)) → w.heap.size ≤ W.heap.size := fun W hW => hW.1.size
    have bt : ∀ W W1, (Below w.heap.size w W ∧ W.cell? ⟨b, 1, none⟩ = some (.slice (some ⟨g, 0, none⟩) fs.length cap)) → Below W.heap.size W W1 → Below w.heap.size w W1 := fun W W1 hW h => below_two hW.1 h
    have newsOf : ∀ W, (Below w.heap.size w W ∧ W.cell? ⟨b, 1, none⟩ = some (.slice (some ⟨g, 0, none⟩) fs.length cap)) → ∀ j u, Y[j]? = some u → W.cell? ((⟨g, 0, none⟩ : Addr).add j) = some u := fun W hW => (HYR.out.kept (row := none) (grown_of_below hW.1 _) (.inr (by simp [Value.ownBlock]))).cells rfl
    have hOf : ∀ W W2, (Below w.heap.size w W ∧ W.cell? ⟨b, 1, none⟩ = some (.slice (some ⟨g, 0, none⟩) fs.length cap)) → W.grownBy W2 (Value.slice (some ⟨w.heap.size, 0, none⟩) 61 61).ownBlock → Below w.heap.size w W2 := fun W W2 hW hg => hW.1.grown hg hW.1.size (fun k hk => by simp [Value.ownBlock] at hk; omega)
    go_region_held3 (fun W => Below w.heap.size w W ∧ W.cell? ⟨b, 1, none⟩ = some (.slice (some ⟨g, 0, none⟩) fs.length cap))
      (first | exact sOf _ (by assumption) | exact sOf _ (Below.drew (by assumption)))
      (first
      | (go_at_call 83; refine (rstatic_b X HX.out _).mono ?_; rintro e w1 ⟨rfl, hown, hbl⟩; have HOW : Hid (w1.ownsRow w.heap.size 54 2 (.slice (some ⟨w.heap.size, 0, none⟩) 61 61) 61 X) := hid' hown; have hb1 := bt _ _ (by assumption) hbl; clear hown hbl)
      | (refine step_append_own _ (by rfl) _ _ 27 (by rfl) w.heap.size 54 i0 (.agg #[.string ⟨#[]⟩, .string ⟨#[]⟩]) 2 32 Tryz.underlying27 HI.out HZ0.out HZ1.out HZ2.out (by rfl) (by decide) (.slice (some ⟨w.heap.size, 0, none⟩) 61 61) 61 X (by rfl) HOW.out ⟨g, 0, none⟩ fs.length cap Y (by rfl) HYL.out (newsOf _ (by assumption)) HY1.out (by unfold maxLen; omega) (by omega) (szOf _ (by assumption)) ?_; intro v2 w2 hown2 hgrow; have HOW2 := hid' hown2; have hb2 := hOf _ _ (by assumption) hgrow; clear hown2 hgrow))
    go_wp2
    go_ret
    exact ⟨v2, rfl, by have := HOW2.out; rw [← HX.out, ← HYE.out, ← Tb.cells_append] at this; exact this, hb2⟩

end Go.Proofs.YtmkkhfkfjmfdcaaGreat

namespace Go.Proofs.YtmkkhfkfjmfdcaaGreat
open Go.RowKit

set_option maxHeartbeats 1000000 in
theorem rshrink_any (B b : Nat) (v : Value) (M : Int) (fs : List (List UInt8 × List UInt8)) (m : Nat) (w : World) (h : RT w B b v M fs) (hs : Tb.size fs ≤ 1152921504606846976) :
    Calls Tryz.prog 34 #[.pointer (some ⟨b, 0, none⟩), .int .i64 (m : Int)] w fun e w' => e = .returned (.tuple #[]) ∧ ∃ v', RT w' B b v' M (Tb.shr m fs) ∧ v'.ownBlock = v.ownBlock ∧ w.grownBy w' (some b) := by
  have HS0 : Hid (∃ v' fs', RT w B b v' M fs' ∧ v'.ownBlock = v.ownBlock ∧ Tb.shr m fs' = Tb.shr m fs ∧ Tb.size fs' ≤ 1152921504606846976 ∧ w.grownBy w (some b)) := hid' ⟨v, fs, h, rfl, rfl, hs, ⟨rfl, rfl, rfl, Nat.le_refl _, fun _ _ _ => rfl⟩⟩
  go_enter Tryz.func34, Tryz.ntmps34
  go_wp2
  go_loopw [4] (fun _ wr => Hid (∃ v' fs', RT wr B b v' M fs' ∧ v'.ownBlock = v.ownBlock ∧ Tb.shr m fs' = Tb.shr m fs ∧ Tb.size fs' ≤ 1152921504606846976 ∧ w.grownBy wr (some b))) (fun _ wr => match wr.cell? ⟨b, 1, none⟩ with | some (.slice _ n _) => n | _ => 0)
  case atStart => exact HS0
  case round =>
    clear HS0
    obtain ⟨v', fs', hR, hv, hsh, hsz, hg⟩ := Hid.out hrel
    have HSH := hid' hsh
    have HV := hid' hv
    have HG := hid' hg
    have hRS := hid' hR
    clear hsh hv hg hrel
    by_cases hlt : m < Tb.size fs'
    · have hlt2 : decide ((m : Int) < (Tb.size fs' : Int)) = true := decide_eq_true (by omega)
      have hlt3 : decide (m < Tb.size fs') = true := decide_eq_true hlt
      obtain ⟨a, f, rfl⟩ : ∃ a f, fs' = a ++ [f] := by
        rcases List.eq_nil_or_concat fs' with h0 | ⟨a, f, h0⟩
        · subst h0; simp [Tb.size] at hlt
        · exact ⟨a, f, by simpa using h0⟩
      have hal : a.length ≤ 1152921504606846976 := by have := Tb.size_len (a ++ [f]); simp at this; omega
      obtain ⟨g, cap, rfl⟩ : ∃ g cap, v' = .slice (some ⟨g, 0, none⟩) (a.length + 1) cap := by
        rcases hR.row.2 with ⟨hv, h0⟩ | ⟨g, cap, cur, hv, _⟩
        · simp at h0
        · exact ⟨g, cap, by simpa using hv⟩
      have hcap : a.length + 1 ≤ cap := by
        rcases hR.row.2 with ⟨hv, h0⟩ | ⟨g', cap', cur, hv, _, _, hn, _⟩
        · simp at h0
        · simp at hv; obtain ⟨_, rfl⟩ := hv; simpa using hn
      have hgb : g ≠ b := fun e => hR.ne (by rw [e]; rfl)
      have HC : Hid (wr.cell? ⟨b, 1, none⟩ = some (.slice (some ⟨g, 0, none⟩) (a.length + 1) cap)) := hid' (hR.obj.cell 1 _ rfl)
      obtain ⟨S, hS⟩ : ∃ S, Tb.size (a ++ [f]) = S := ⟨_, rfl⟩
      have HS := hid' hS
      have HLT := hid' hlt
      clear hR
      go_wp2_with fail
      refine (rsize_any B b _ M _ _ hRS.out hsz).mono ?_
      rintro e w1 ⟨rfl, hb1⟩
      have hR1 := hRS.out.keep hb1
      have hc1 : w1.cell? ⟨b, 1, none⟩ = some (.slice (some ⟨g, 0, none⟩) (a.length + 1) cap) := hR1.obj.cell 1 _ rfl
      have hf1 := hR1.obj.free 1
      have HR1 := hid' hR1
      have HB1 := hid' hb1
      clear hR1 hb1 hlt hS
      go_wp2
      go_region
      go_wp2
      go_roundw
      case rel =>
        have hrow : w1.ownsRow B 54 2 (.slice (some ⟨g, 0, none⟩) a.length cap) a.length (Tb.cells a) := by
          have := HR1.out.row
          rw [Tb.cells_append] at this
          exact ownsRow_pop (Tb.cells_length a) (by simpa using this)
        have hsz2 : Tb.size a ≤ 1152921504606846976 := by have e := Tb.size_append a [f]; omega
        exact hid' ⟨_, a, (HR1.out.setRow hrow (by simpa [Value.ownBlock] using hgb)).drew, HV.out, by rw [← HSH.out, Tb.shr_snoc a f m HLT.out], hsz2, gb_drew (gb_trans (gb_below HG.out HB1.out) (gb_set _ _ _ _))⟩
      case measure =>
        rw [HC.out]
        have e : (w1.setCell ⟨b, 1, none⟩ (.slice (some ⟨g, 0, none⟩) a.length cap)).drew.cell? ⟨b, 1, none⟩ = some (.slice (some ⟨g, 0, none⟩) a.length cap) := (HR1.out.obj.set 1 _).cell 1 _ rfl
        rw [e]
        simp
    · have hlt2 : decide ((m : Int) < (Tb.size fs' : Int)) = false := decide_eq_false (by omega)
      have hlt3 : decide (m < Tb.size fs') = false := decide_eq_false hlt
      have HE : Hid (Tb.shr m fs = fs') := hid' (by rw [← HSH.out, Tb.shr_all fs' m (by omega)])
      clear hR
      go_wp2_with fail
      refine (rsize_any B b v' M fs' _ hRS.out hsz).mono ?_
      rintro e w1 ⟨rfl, hb1⟩
      have HR1 := hid' (hRS.out.keep hb1)
      have HG1 : Hid (w.grownBy w1 (some b)) := hid' ⟨hb1.os.trans HG.out.os, hb1.tape.trans HG.out.tape, hb1.output.trans HG.out.output, Nat.le_trans HG.out.size hb1.size, fun k hk hn => (hb1.block k (Nat.lt_of_lt_of_le hk HG.out.size)).trans (HG.out.block k hk hn)⟩
      clear hb1
      go_wp2
      go_end0
      exact ⟨rfl, v', by rw [HE.out]; exact HR1.out, HV.out, HG1.out⟩

end Go.Proofs.YtmkkhfkfjmfdcaaGreat

namespace Go.Proofs.YtmkkhfkfjmfdcaaGreat
open Go.RowKit

theorem Pm_grown_alloc {w : World} {o : Obj} {w' : World} {row : Option Nat} (h : (w.alloc o).grownBy w' row) : w.grownBy w' row :=
  ⟨h.os, h.tape, h.output, Nat.le_trans (by simp) h.size, fun k hk hne => by rw [h.block k (by simp; omega) hne]; exact Lib.alloc_old w _ k hk⟩
theorem rows_le {w : World} {base base' size n : Nat} {e : TypeId} {v : Value} {xs : List Value} (h : w.ownsRow base e size v n xs) (hb : base' ≤ base) : w.ownsRow base' e size v n xs := by
  refine ⟨h.1, ?_⟩
  rcases h.2 with h | ⟨g, cap, cur, hv, hg, rest⟩
  · exact .inl h
  · exact .inr ⟨g, cap, cur, hv, Nat.le_trans hb hg, rest⟩
theorem weight_b (n v : List UInt8) (k : Nat) (hk : Tb.wt (n, v) = k) (hs : k ≤ 1152921504606846976) (w : World) :
    Calls Tryz.prog 45 #[.agg #[.string ⟨n.toArray⟩, .string ⟨v.toArray⟩]] w fun e w' => e = .returned (.int .i64 (k : Int)) ∧ Below w.heap.size w w' := by
  refine (weight_at n v k hk hs w).mono ?_
  rintro e w' ⟨rfl, rfl⟩
  exact ⟨rfl, (Below.refl _ _).alloc (Nat.le_refl _) _⟩

set_option maxHeartbeats 1000000 in
set_option maxRecDepth 20000 in
theorem radd_any (B b : Nat) (v : Value) (M : Nat) (fs : List (List UInt8 × List UInt8)) (n val : List UInt8) (w : World) (h : RT w B b v (M : Int) fs) (hM : M ≤ 65536) (hs : Tb.size fs ≤ 1048576) (hB : B ≤ w.heap.size) (hw : Tb.wt (n, val) ≤ 1152921504606846976) :
    Calls Tryz.prog 46 #[.pointer (some ⟨b, 0, none⟩), .agg #[.string ⟨n.toArray⟩, .string ⟨val.toArray⟩]] w fun e w' => e = .returned (.tuple #[]) ∧ ∃ v', RT w' B b v' (M : Int) (Tb.add M fs (n, val)) ∧ (∀ k, v'.ownBlock = some k → v.ownBlock = some k ∨ w.heap.size ≤ k) ∧ w.grownBy w' (some b) := by
  obtain ⟨i0, hi, hz0, hz1, hz2⟩ := info_parts infoField
  have HI := hid' hi
  have HZ0 := hid' hz0
  have HZ1 := hid' hz1
  have HZ2 := hid' hz2
  clear hi hz0 hz1 hz2
  obtain ⟨k, hk⟩ : ∃ k, Tb.wt (n, val) = k := ⟨_, rfl⟩
  rw [hk] at hw
  have HK := hid' hk
  have hbw : b < w.heap.size := h.obj.lt
  have H := hid' h
  have HADD : Hid (Tb.add M fs (n, val) = if M < k then [] else (n, val) :: Tb.shr (M - k) fs) := hid' (by unfold Tb.add; rw [hk])
  clear hk h
  go_enter Tryz.func46, Tryz.ntmps46
  go_wp2
  have hb0 : Below w.heap.size w (w.alloc (.cells #[.string ⟨n.toArray⟩, .string ⟨val.toArray⟩] 54)) := (Below.refl _ _).alloc (Nat.le_refl _) _
  have hx0 : (w.alloc (.cells #[.string ⟨n.toArray⟩, .string ⟨val.toArray⟩] 54)).cell? ⟨w.heap.size, 0, none⟩ = some (.string ⟨n.toArray⟩) := Ar.cell (heap_alloc_last w _) 0 _ rfl
  have hx1 : (w.alloc (.cells #[.string ⟨n.toArray⟩, .string ⟨val.toArray⟩] 54)).cell? ⟨w.heap.size, 1, none⟩ = some (.string ⟨val.toArray⟩) := Ar.cell (heap_alloc_last w _) 1 _ rfl
  have hz : (w.alloc (.cells #[.string ⟨n.toArray⟩, .string ⟨val.toArray⟩] 54)).heap.size = w.heap.size + 1 := by simp
  generalize (w.alloc (.cells #[.string ⟨n.toArray⟩, .string ⟨val.toArray⟩] 54)) = w0 at hb0 hx0 hx1 hz ⊢
  have HB0 := hid' hb0
  have HR0 := hid' (H.out.keep hb0)
  have HZ := hid' hz
  obtain ⟨bx, hbx⟩ : ∃ bx, w.heap.size = bx := ⟨_, rfl⟩
  have HBX := hid' hbx
  rw [hbx] at hx0 hx1 hbw ⊢
  have hm0 : w0.cell? ⟨b, 0, none⟩ = some (.int .i64 (M : Int)) := HR0.out.obj.cell 0 _ rfl
  clear hb0 hz hbx
  have cOf : ∀ W W1, (W.cell? ⟨b, 0, none⟩ = some (.int .i64 (M : Int)) ∧ W.cell? ⟨bx, 0, none⟩ = some (.string ⟨n.toArray⟩) ∧ W.cell? ⟨bx, 1, none⟩ = some (.string ⟨val.toArray⟩)) → Below W.heap.size W W1 → W1.cell? ⟨b, 0, none⟩ = some (.int .i64 (M : Int)) ∧ W1.cell? ⟨bx, 0, none⟩ = some (.string ⟨n.toArray⟩) ∧ W1.cell? ⟨bx, 1, none⟩ = some (.string ⟨val.toArray⟩) := fun W W1 ⟨a, b', c⟩ hb => ⟨(hb.cell (World.block_lt_of_cell? W _ a)).trans a, (hb.cell (World.block_lt_of_cell? W _ b')).trans b', (hb.cell (World.block_lt_of_cell? W _ c)).trans c⟩
  have hS : w0.cell? ⟨b, 0, none⟩ = some (.int .i64 (M : Int)) ∧ w0.cell? ⟨bx, 0, none⟩ = some (.string ⟨n.toArray⟩) ∧ w0.cell? ⟨bx, 1, none⟩ = some (.string ⟨val.toArray⟩) := ⟨hm0, hx0, hx1⟩
  go_region_held3 (fun W => W.cell? ⟨b, 0, none⟩ = some (.int .i64 (M : Int)) ∧ W.cell? ⟨bx, 0, none⟩ = some (.string ⟨n.toArray⟩) ∧ W.cell? ⟨bx, 1, none⟩ = some (.string ⟨val.toArray⟩))
    (first | assumption | exact cOf _ _ (by assumption) (by assumption))
    (first | (go_at_call 45; refine (weight_b n val k HK.out hw _).mono ?_; rintro e w1 ⟨rfl, hb1⟩))
  have HB1 : Hid (Below w0.heap.size w0 w1) := hid' (below_two ((Below.refl _ _).drew) hb1)
  have hS1 := cOf _ _ hS HB1.out
  have HR1 := hid' (HR0.out.keep HB1.out)
  clear hb1 hS hx0 hx1 hm0
  by_cases hlt : M < k
  · have hd : decide (M < k) = true := decide_eq_true hlt
    have hd2 : decide ((M : Int) < (k : Int)) = true := decide_eq_true (by omega)
    have c1 := HR1.out.obj.cell 1 _ rfl
    have f1 := HR1.out.obj.free 1
    go_wp2
    refine bodyPost_ret (results_none rfl _ _ _) rfl ?_
    refine ⟨rfl, .slice none 0 0, ?_, fun k hk => by simp [Value.ownBlock] at hk, ?_⟩
    · rw [HADD.out, if_pos hlt]
      exact HR1.out.setRow (fs' := []) (World.ownsRow_nil _ _ _ _) (by simp [Value.ownBlock])
    · exact gb_trans (gb_below (grown_of_below HB0.out _) HB1.out) (gb_set _ _ _ _)
  · have hd : decide (M < k) = false := decide_eq_false hlt
    have hd2 : decide ((M : Int) < (k : Int)) = false := decide_eq_false (by omega)
    obtain ⟨m, hm⟩ : ∃ m : Nat, (M : Int) - (k : Int) = (m : Int) := ⟨M - k, by omega⟩
    have HWM : Hid (IntKind.i64.wrap (m : Int) = (m : Int)) := hid' (by rw [IntKind.wrap_i64]; omega)
    have HMK : Hid (M - k = m) := hid' (by omega)
    obtain ⟨c0, cx0, cx1⟩ := hS1
    have hS1 : w1.cell? ⟨b, 0, none⟩ = some (.int .i64 (M : Int)) ∧ w1.cell? ⟨bx, 0, none⟩ = some (.string ⟨n.toArray⟩) ∧ w1.cell? ⟨bx, 1, none⟩ = some (.string ⟨val.toArray⟩) := ⟨c0, cx0, cx1⟩
    have hbxb : bx ≠ b := by omega
    go_wp2
    have gOf : ∀ W W1 : World, (W.cell? ⟨b, 0, none⟩ = some (.int .i64 (M : Int)) ∧ W.cell? ⟨bx, 0, none⟩ = some (.string ⟨n.toArray⟩) ∧ W.cell? ⟨bx, 1, none⟩ = some (.string ⟨val.toArray⟩)) → (∃ v3, RT W1 B b v3 (M : Int) (Tb.shr m fs)) → W.grownBy W1 (some b) → W1.cell? ⟨b, 0, none⟩ = some (.int .i64 (M : Int)) ∧ W1.cell? ⟨bx, 0, none⟩ = some (.string ⟨n.toArray⟩) ∧ W1.cell? ⟨bx, 1, none⟩ = some (.string ⟨val.toArray⟩) := fun W W1 ⟨_, b', c⟩ ⟨v3, hR⟩ hg => ⟨hR.obj.cell 0 _ rfl, hg.cell b' (by simpa using hbxb), hg.cell c (by simpa using hbxb)⟩
    have rk : ∀ {W2 : World}, Below w1.drew.heap.size w1.drew W2 → RT W2 B b v (M : Int) fs := fun hb => HR1.out.keep (below_two ((Below.refl _ _).drew) hb)
    go_region_held3 (fun W => W.cell? ⟨b, 0, none⟩ = some (.int .i64 (M : Int)) ∧ W.cell? ⟨bx, 0, none⟩ = some (.string ⟨n.toArray⟩) ∧ W.cell? ⟨bx, 1, none⟩ = some (.string ⟨val.toArray⟩))
      (first | assumption | exact cOf _ _ (by assumption) (by assumption) | exact gOf _ _ (by assumption) (by assumption) (by assumption))
      (first
      | (go_at_call 45; refine (weight_b n val k HK.out hw _).mono ?_; rintro e w2 ⟨rfl, hb2⟩)
      | (go_at_call 34; rw [HWM.out]; refine (rshrink_any B b v (M : Int) fs m _ ?_ ?_).mono ?_; exact rk hb2; omega; rintro e w3 ⟨rfl, v3, hR3, hv3, hg3⟩; have hE3 : ∃ v3, RT w3 B b v3 (M : Int) (Tb.shr m fs) := ⟨v3, hR3⟩))
    have HB2 : Hid (Below w1.heap.size w1 w2) := hid' (below_two ((Below.refl _ _).drew) hb2)
    obtain ⟨c0, cx0, cx1⟩ := gOf _ _ (cOf _ _ hS1 HB2.out) hE3 hg3
    have HR3 := hid' hR3
    have HV3 := hid' hv3
    have HG3 : Hid (w.grownBy w3 (some b)) := hid' (gb_trans (gb_below (gb_below (grown_of_below HB0.out _) HB1.out) HB2.out) hg3)
    have HADD2 : Hid (Tb.add M fs (n, val) = (n, val) :: Tb.shr m fs) := hid' (by rw [HADD.out, if_neg hlt, HMK.out])
    have c1 := hR3.obj.cell 1 _ rfl
    have hbw3 : b < w3.heap.size := hR3.obj.lt
    have hw3 : w.heap.size ≤ w3.heap.size := HG3.out.size
    have hgl : (Tb.shr m fs).length ≤ 1048576 := by
      obtain ⟨q, hq, e⟩ := Tb.shr_prefix fs m
      have := Tb.size_len fs
      rw [e, List.length_take]; omega
    clear hE3 hg3 hb2 hS1 hv3 HR1 HR0 HB0 HB1 HB2 H HK HADD hm hd hd2 cOf gOf rk
    generalize Tb.shr m fs = gs at *
    have hrow := hR3.row
    have HL : Hid ((w3.alloc (.cells #[.string ⟨n.toArray⟩, .string ⟨val.toArray⟩] 54)).ownsRow w3.heap.size 54 2 (.slice (some ⟨w3.heap.size, 0, none⟩) 1 1) 1 [.string ⟨n.toArray⟩, .string ⟨val.toArray⟩]) := hid' (World.ownsRow_lit w3 #[.string ⟨n.toArray⟩, .string ⟨val.toArray⟩] 1 (Nat.le_refl _) (by decide) rfl)
    have HW3 := hid' hw3
    clear hR3
    rcases hrow.2 with ⟨rfl, h0⟩ | ⟨g, cap, cur, rfl, _⟩
    · have hgn : gs = [] := List.eq_nil_of_length_eq_zero h0
      subst hgn
      clear hrow h0
      have hc1 : w3.cell? ⟨b, 1, none⟩ = some (.slice none 0 0) := c1
      have f1 := HR3.out.obj.free 1
      clear c1
      go_wp2_with (at_builtin; refine wpList_append_own_none rfl _ _ 27 rfl w3.heap.size 54 i0 2 Tryz.underlying27 HI.out _ _ _ rfl HL.out rfl ?_)
      go_end0
      obtain ⟨V, hV⟩ : ∃ V : Value, V = .slice (some ⟨w3.heap.size, 0, none⟩) 1 1 := ⟨_, rfl⟩
      have hsz : (w3.setCell ⟨b, 1, none⟩ V).heap.size = w3.heap.size := (upd_setCell w3 b 1 V).size
      have HL2 := World.ownsRow_lit (base := w3.heap.size) (e := 54) (size := 2) (w3.setCell ⟨b, 1, none⟩ V) #[.string ⟨n.toArray⟩, .string ⟨val.toArray⟩] 1 (by rw [hsz]; exact Nat.le_refl _) (by decide) rfl
      rw [hsz, ← hV] at HL2
      rw [← hV]
      refine ⟨rfl, V, ?_, ?_, ?_⟩
      · rw [HADD2.out]
        exact ⟨HR3.out.ge, (HR3.out.obj.set 1 V).keep ((Below.refl _ _).alloc (Nat.le_refl _) _), rows_le HL2 (Nat.le_trans hB HW3.out)⟩
      · intro k hk
        rw [hV] at hk
        simp [Value.ownBlock] at hk
        exact .inr (by have := HW3.out; omega)
      · exact gb_trans (gb_trans HG3.out (gb_set w3 b 1 V)) (World.grownBy_alloc _ _ _)
    · obtain ⟨Y, hY⟩ : ∃ Y, Tb.cells gs = Y := ⟨_, rfl⟩
      rw [hY] at hrow
      have HYL : Hid (Y.length = gs.length * 2) := hid' (by rw [← hY]; exact Tb.cells_length gs)
      have HY1 : Hid (∀ u ∈ Y, u.oneCell' = true) := hid' (by rw [← hY]; exact Tb.cells_one gs)
      have HYC : Hid (∀ j u, Y[j]? = some u → (w3.alloc (.cells #[.string ⟨n.toArray⟩, .string ⟨val.toArray⟩] 54)).cell? ((⟨g, 0, none⟩ : Addr).add j) = some u) := hid' ((hrow.alloc _).cells rfl)
      have HYE := hid' hY
      have hc1 : w3.cell? ⟨b, 1, none⟩ = some (.slice (some ⟨g, 0, none⟩) gs.length cap) := c1
      clear hY hrow c1
      go_wp2_with (at_builtin; refine wpList_append_own _ rfl _ _ 27 rfl w3.heap.size 54 i0 (.agg #[.string ⟨#[]⟩, .string ⟨#[]⟩]) 2 32 Tryz.underlying27 HI.out HZ0.out HZ1.out HZ2.out rfl (by decide) _ _ _ rfl HL.out ⟨g, 0, none⟩ gs.length cap Y rfl HYL.out HYC.out HY1.out ?a1 ?a2 ?a3 ?_)
      case a1 => unfold maxLen; omega
      case a2 => omega
      case a3 => simp
      intro v5 w5 hown hgrow _
      have hown' : w5.ownsRow w3.heap.size 54 2 v5 (gs.length + 1) (.string ⟨n.toArray⟩ :: .string ⟨val.toArray⟩ :: Y) := by rw [Nat.add_comm]; exact hown
      obtain ⟨g5, cap5, rfl⟩ : ∃ g5 cap5, v5 = .slice (some ⟨g5, 0, none⟩) (gs.length + 1) cap5 := by
        rcases hown'.2 with ⟨_, h0⟩ | ⟨g, cap, cur, hv, _⟩
        · omega
        · exact ⟨g, cap, hv⟩
      have hg5 : w3.heap.size ≤ g5 := (hown'.lt g5 rfl).1
      have hb5 : w5.heap[b]? = w3.heap[b]? := by rw [hgrow.block b (by simp; omega) (by simp [Value.ownBlock]; omega)]; exact Lib.alloc_old w3 _ b hbw3
      have hob : Ar w5 b 52 #[.int .i64 (M : Int), .slice (some ⟨g, 0, none⟩) gs.length cap] := by unfold Ar; rw [hb5]; exact HR3.out.obj
      have d1 : w5.cell? ⟨b, 1, none⟩ = some (.slice (some ⟨g, 0, none⟩) gs.length cap) := hob.cell 1 _ rfl
      have g1 := hob.free 1
      have HOB := hid' hob
      have HOW5 := hid' hown'
      have HG5 : Hid (w3.grownBy w5 (some b)) := hid' (
        have h := Pm_grown_alloc hgrow
        ⟨h.os, h.tape, h.output, h.size, fun k hk _ => h.block k hk (by simp [Value.ownBlock]; omega)⟩)
      clear hob hown hown' hgrow hb5
      go_wp2
      go_end0
      refine ⟨rfl, .slice (some ⟨g5, 0, none⟩) (gs.length + 1) cap5, ?_, ?_, ?_⟩
      · rw [HADD2.out]
        have hr := HOW5.out
        rw [← HYE.out, ← Tb.cells_cons (n, val)] at hr
        exact ⟨HR3.out.ge, HOB.out.set 1 _, ownsRow_setCell_other (rows_le hr (Nat.le_trans hB HW3.out)) (by simp [Value.ownBlock]; omega) _⟩
      · intro k hk
        simp [Value.ownBlock] at hk
        exact .inr (by have := HW3.out; omega)
      · exact gb_trans (gb_trans HG3.out HG5.out) (gb_set _ _ _ _)

set_option maxHeartbeats 1000000 in
theorem rresize_no (B b : Nat) (v : Value) (M : Int) (fs : List (List UInt8 × List UInt8)) (most : Int) (w : World) (_h : RT w B b v M fs) (hm : most < 0 ∨ 65536 < most) :
    Calls Tryz.prog 18 #[.pointer (some ⟨b, 0, none⟩), .int .i64 most] w fun e w' => e = .returned (.int .i64 5) ∧ w' = w := by
  clear _h
  by_cases h0 : most < 0
  · clear hm
    go_enter Tryz.func18, Tryz.ntmps18
    go_wp2
    go_ret
    exact ⟨rfl, rfl⟩
  · have h1 : 65536 < most := by omega
    clear hm
    go_enter Tryz.func18, Tryz.ntmps18
    go_wp2
    go_ret
    exact ⟨rfl, rfl⟩

set_option maxHeartbeats 1000000 in
theorem rresize_yes (B b : Nat) (v : Value) (M : Int) (fs : List (List UInt8 × List UInt8)) (most : Nat) (w : World) (h : RT w B b v M fs) (hm : most ≤ 65536) (hs : Tb.size fs ≤ 1048576) :
    Calls Tryz.prog 18 #[.pointer (some ⟨b, 0, none⟩), .int .i64 (most : Int)] w fun e w' => e = .returned (.int .i64 0) ∧ ∃ v', RT w' B b v' (most : Int) (Tb.shr most fs) ∧ v'.ownBlock = v.ownBlock ∧ w.grownBy w' (some b) := by
  have H := hid' h
  have c0 := h.obj.cell 0 _ rfl
  have f0 := h.obj.free 0
  have hd0 : decide ((most : Int) < 0) = false := decide_eq_false (by omega)
  have hd1 : decide ((65536 : Int) < (most : Int)) = false := decide_eq_false (by omega)
  clear h
  go_enter Tryz.func18, Tryz.ntmps18
  go_wp2_with fail
  refine (rshrink_any B b v (most : Int) fs most _ (H.out.setMost _) (by omega)).mono ?_
  rintro e w1 ⟨rfl, v1, hR, hv, hg⟩
  have HR := hid' hR
  have HV := hid' hv
  have HG := hid' (gb_trans (gb_set w b 0 (.int .i64 (most : Int))) hg)
  clear hR hv hg
  go_wp2
  go_ret
  exact ⟨rfl, v1, HR.out, HV.out, HG.out⟩

end Go.Proofs.YtmkkhfkfjmfdcaaGreat

namespace Go.Proofs.YtmkkhfkfjmfdcaaGreat
open Go.RowKit

theorem row_some {w : World} {B s n : Nat} {e : TypeId} {v : Value} {xs : List Value} (h : w.ownsRow B e s v n xs) (hn : 0 < n) : ∃ g cap, v = .slice (some ⟨g, 0, none⟩) n cap := by
  rcases h.2 with ⟨_, h0⟩ | ⟨g, cap, cur, hv, _⟩
  · omega
  · exact ⟨g, cap, hv⟩

end Go.Proofs.YtmkkhfkfjmfdcaaGreat

namespace Go.Proofs.YtmkkhfkfjmfdcaaGreat
open Go.RowKit

theorem below_drewN5 (w : World) (n : Nat) : Below w.heap.size w (w.drewN n) := ⟨rfl, rfl, rfl, Nat.le_refl _, fun _ _ => rfl⟩

set_option maxHeartbeats 1000000 in
theorem rfind_any (B b : Nat) (v : Value) (M : Int) (fs : List (List UInt8 × List UInt8)) (n val : List UInt8) (w : World) (h : RT w B b v M fs) (hs : Tb.size fs ≤ 1048576) (k : Nat) (wh : Bool) (hk : Tb.find fs (n, val) = (k, wh)) :
    Calls Tryz.prog 43 #[.pointer (some ⟨b, 0, none⟩), .agg #[.string ⟨n.toArray⟩, .string ⟨val.toArray⟩]] w fun e w' => e = .returned (.tuple #[.int .i64 (k : Int), .bool wh]) ∧ Below w.heap.size w w' := by
  have H := hid' h
  have hfl : fs.length ≤ 1048576 := by have := Tb.size_len fs; omega
  obtain ⟨L, hL⟩ : ∃ L, 61 + fs.length = L := ⟨_, rfl⟩
  have HL := hid' hL
  have hL0 : 0 < L := by omega
  have hL2 : L ≤ 2000000 := by omega
  have HFD : Hid (Tb.findGo (n, val) ((Tb.all fs).drop 0) 0 0 = (k, wh)) := hid' hk
  have HAL : Hid ((Tb.all fs).length = L) := hid' (by rw [Tb.all_length, hL])
  clear h hL hk
  go_enter Tryz.func43, Tryz.ntmps43
  go_wp2_with fail
  refine (rall_any B b v M fs _ (H.out.keep ((Below.refl _ _).alloc (Nat.le_refl _) _)) hs).mono ?_
  rintro e w1 ⟨v1, rfl, hown, hb1⟩
  rw [HL.out] at hown
  obtain ⟨g, cap, rfl⟩ := row_some hown hL0
  have hA : Ar w1 w.heap.size 54 #[.string ⟨n.toArray⟩, .string ⟨val.toArray⟩] := Ar.keep (heap_alloc_last w _) hb1
  have x0 : w1.cell? ⟨w.heap.size, 0, none⟩ = some (.string ⟨n.toArray⟩) := hA.cell 0 _ rfl
  have x1 : w1.cell? ⟨w.heap.size, 1, none⟩ = some (.string ⟨val.toArray⟩) := hA.cell 1 _ rfl
  have HOW := hid' hown
  have HB := hid' (below_two ((Below.refl _ w).alloc (Nat.le_refl _) _) hb1)
  clear hown hA hb1
  go_wp2
  go_loopw [7, 8] (fun s7 s8 wr => ∃ m i nq : Nat, s7 = .int .i64 (m : Int) ∧ s8 = .int .i64 (i : Int) ∧ i ≤ L ∧ m ≤ i ∧ wr = w1.drewN nq ∧ Hid (Tb.findGo (n, val) ((Tb.all fs).drop i) i m = (k, wh))) (fun _ s8 _ => L - (intOf s8).toNat)
  case atStart => exact ⟨0, 0, 0, rfl, rfl, Nat.zero_le _, Nat.le_refl _, rfl, HFD⟩
  case round =>
    clear HFD
    obtain ⟨m, i, nq0, rfl, rfl, hiL, hmi, rfl, HF⟩ := hrel
    by_cases hlt : i < L
    · have hlt2 : decide ((i : Int) < (L : Int)) = true := decide_eq_true (by omega)
      have hil : i < (Tb.all fs).length := by rw [HAL.out]; exact hlt
      obtain ⟨f, hf⟩ : ∃ f, (Tb.all fs)[i]? = some f := ⟨_, List.getElem?_eq_getElem hil⟩
      obtain ⟨n2, val2⟩ := f
      obtain ⟨e0, e1⟩ := Tb.cells_at _ _ _ hf
      have c0 := (HOW.out.cellAt (i * 2) (by omega)).trans e0
      have c1 := (HOW.out.cellAt (i * 2 + 1) (by omega)).trans e1
      have hlt3 : (i : Int) < (L : Int) := by omega
      have HF2 : Hid ((k, wh) = if (n2, val2) = (n, val) then (i + 1, true) else Tb.findGo (n, val) ((Tb.all fs).drop (i + 1)) (i + 1) (if n2 = n ∧ m = 0 then i + 1 else m)) := hid' (by
        rw [← HF.out, List.drop_eq_getElem_cons hil, Tb.findGo]
        have e : (Tb.all fs)[i] = (n2, val2) := by rw [List.getElem?_eq_getElem hil] at hf; exact Option.some.inj hf
        rw [e])
      have hng := noGuard
      have hlN : decide (i < L) = true := decide_eq_true hlt
      clear e0 e1 hf HF
      by_cases hw : (n2, val2) = (n, val)
      · obtain ⟨rfl, rfl⟩ : n2 = n ∧ val2 = val := by simpa using hw
        have heq := eq_field_yes n2 val2
        have HKW : Hid (k = i + 1 ∧ wh = true) := hid' (by have := HF2.out; rw [if_pos rfl] at this; simpa using this)
        clear hw
        go_wp2
        go_quiet ((fail))
        go_wp2
        go_ret2
        exact ⟨by rw [HKW.out.1, HKW.out.2]; rfl, below_two HB.out (below_drewN5 _ _)⟩
      · have heq := eq_field_no n2 val2 n val hw
        have HF3 : Hid (Tb.findGo (n, val) ((Tb.all fs).drop (i + 1)) (i + 1) (if n2 = n ∧ m = 0 then i + 1 else m) = (k, wh)) := hid' (by have := HF2.out; rw [if_neg hw] at this; exact this.symm)
        clear hw
        by_cases hnn : n2 = n
        · subst hnn
          by_cases hm : m = 0
          · subst hm
            rw [if_pos ⟨rfl, rfl⟩] at HF3
            go_wp2
            go_quiet ((fail))
            go_wp2
            go_quiet ((fail))
            go_wp2
            go_roundw
            case rel => exact ⟨i + 1, i + 1, _, by go_num, by go_num, by omega, Nat.le_refl _, by first | rfl | trivial, HF3⟩
            case measure => simp [intOf]; omega
          · rw [if_neg (fun h => hm h.2)] at HF3
            have hm2 : ((m : Int) == 0) = false := beq_false_of_ne (by omega)
            go_wp2
            go_quiet ((fail))
            go_wp2
            go_quiet ((fail))
            go_wp2
            go_roundw
            case rel => exact ⟨m, i + 1, _, by go_num, by go_num, by omega, by omega, by first | rfl | trivial, HF3⟩
            case measure => simp [intOf]; omega
        · rw [if_neg (fun h => hnn h.1)] at HF3
          have hn2 : (n2 == n) = false := beq_false_of_ne hnn
          go_wp2
          go_quiet ((fail))
          go_wp2
          go_quiet ((fail))
          go_wp2
          go_roundw
          case rel => exact ⟨m, i + 1, _, by go_num, by go_num, by omega, by omega, by first | rfl | trivial, HF3⟩
          case measure => simp [intOf]; omega
    · have hlt2 : decide ((i : Int) < (L : Int)) = false := decide_eq_false (by omega)
      have hlN : decide (i < L) = false := decide_eq_false hlt
      have HKW : Hid (k = m ∧ wh = false) := hid' (by
        have := HF.out
        rw [List.drop_of_length_le (by rw [HAL.out]; omega), Tb.findGo] at this
        injection this with a c
        exact ⟨a.symm, c.symm⟩)
      go_wp2
      go_ret2
      exact ⟨by rw [HKW.out.1, HKW.out.2]; rfl, below_two HB.out (below_drewN5 _ _)⟩

end Go.Proofs.YtmkkhfkfjmfdcaaGreat
