/-
  frame.appendPriority, by its contract.
-/
import Derived.Test.YthbidfcfkjamdaaFrX
import Derived.Deep.RegionHeld3
namespace Go.Proofs.Ythbidfcfkjamdaa
open Go.RowKit

theorem step_app {P : Program} (w : World) {ops : Array Oper} {o : Oper} {a : Act} {K : Act → World → Prop} {Q : Exit → Act → World → Prop} {E : Prop} (hgd : o.guard = none) (s x : Operand) (t : TypeId)
    (ho : o.op = .call { callee := .builtin .append, args := #[s, x], argTypes := #[t, t] })
    (base : Nat) (e : TypeId) (i : TypeInfo) (z : Value) (size bytes : Nat) (ht : P.underlying t = some (.slice e)) (hi : P.info? e = some i) (hz : i.zero = some z)
    (hsize : i.size = size) (hby : i.bytes = bytes) (hzs : z.cells.size = size) (hsz : 0 < size)
    (v : Value) (n : Nat) (xs : List Value) (hs : a.eval s = v) (hown : w.ownsRow base e size v n xs)
    (ad : Addr) (m c : Nat) (news : List Value) (hx : a.eval x = .slice (some ad) m c) (hl : news.length = m * size) (hnews : ∀ j u, news[j]? = some u → w.cell? (ad.add j) = some u) (h1 : ∀ u ∈ news, u.oneCell' = true)
    (h63 : n + m ≤ maxLen) (hbytes : (n + m) * bytes ≤ 140737488355328) (hbase : base ≤ w.heap.size)
    (h : ∀ v' w', w'.ownsRow base e size v' (n + m) (xs ++ news) → w.grownBy w' v.ownBlock → K (a.put o.dst v') w') :
    if Region.wanted o (yielded ops a.tmps) = true then Oper.wp P o a w K Q else E := by
  have hw : Region.wanted o (yielded ops a.tmps) = true := by simp [Region.wanted, hgd]
  rw [if_pos hw]
  exact wp_append_own w s x t ho base e i z size bytes ht hi hz hsize hby hzs hsz v n xs hs hown ad m c news hx hl hnews h1 h63 hbytes hbase fun v' w' h2 h3 _ => h v' w' h2 h3

/-- The number that a priority's first four bytes are made of. -/
def Fm.lastOr (n : Int) (o : Bool) : Int := if o then Go.bits .or .i64 n 2147483648 else n
def Fm.prB (p : Fm.Pt) : List UInt8 := Fm.enc 4 (Fm.lastOr p.last p.only) ++ [Fm.byt (p.weight - 1)]
theorem cappn (r : Int) (w : World) : Calls Try.prog 45 #[.slice none 0 0, .int .i64 r, .int .i64 4] w fun e w' => (∃ v', e = .returned v' ∧ Hid (w'.ownsRow w.heap.size 5 1 v' 4 (Lib.byteCells (Fm.enc 4 r)))) ∧ Below w.heap.size w w' := by
  refine (cappend_any w.heap.size (.slice none 0 0) [] r 4 w (by decide) (br_nil _ _) (Nat.le_refl _) (by simp)).mono ?_
  rintro e w' ⟨⟨v', rfl, ho⟩, hn⟩
  refine ⟨⟨v', rfl, hid' ?_⟩, hn.bel⟩
  have := ho.out
  unfold BR at this
  rw [List.nil_append, Fm.enc_length] at this
  exact this

set_option maxHeartbeats 8000000 in
set_option maxRecDepth 20000 in
theorem cappPrio_any (p : Fm.Pt) (ao : Option Addr) (n cap : Nat) (w : World) : Calls Try.prog 44 #[.slice none 0 0, .agg (ptC p (.slice ao n cap))] w fun e w' => (∃ u, e = .returned u ∧ Hid (BR w' w.heap.size u (Fm.prB p))) ∧ Below w.heap.size w w' := by
  obtain ⟨i0, hi, hz0, hz1, hz2⟩ := info_parts' infoByte'
  have HI := hid' hi
  have HZ0 := hid' hz0
  have HZ1 := hid' hz1
  have HZ2 := hid' hz2
  clear hi hz0 hz1 hz2
  obtain ⟨r, hr⟩ : ∃ r, Fm.lastOr p.last p.only = r := ⟨_, rfl⟩
  obtain ⟨x, hx⟩ : ∃ x, Fm.byt (p.weight - 1) = x := ⟨_, rfl⟩
  have HPB : Hid (Fm.prB p = Fm.enc 4 r ++ [x]) := hid' (by unfold Fm.prB; rw [hr, hx])
  have hxv := Fm.byt_cast (p.weight - 1)
  rw [hx] at hxv
  have hx1 : IntKind.i64.wrap (p.weight - 1) % 256 = (x.toNat : Int) := by rw [hxv, IntKind.wrap_i64]; omega
  have hx2 : IntKind.u8.wrap (IntKind.i64.wrap (p.weight - 1)) = (x.toNat : Int) := by rw [IntKind.wrap_u8]; exact hx1
  have hl2 : (Fm.enc 4 r).length = 4 := Fm.enc_length _ _
  have HL2 := hid' hl2
  have hro : p.only = true → Go.bits .or .i64 p.last 2147483648 = r := by intro h; rw [← hr]; unfold Fm.lastOr; rw [h]; rfl
  have hrn : p.only = false → p.last = r := by intro h; rw [← hr]; unfold Fm.lastOr; rw [h]; rfl
  have HRO := hid' hro
  have HRN := hid' hrn
  clear hr hx hxv hl2 hro hrn
  go_enter Try.func44, Try.ntmps44
  go_wp2_with (refine wpl_box 27 _ rfl rfl (ptC p (.slice ao n cap)) (by kernel_rfl) ?_)
  intro b0 w0 hg0 ha0 hb0
  obtain ⟨x0, x1, x2, x3, x4, x5, x6, x7⟩ := pt_cells ha0
  have HB := hid' hb0
  have HA := hid' ha0
  have sOf : ∀ W W1 : World, (Below w0.heap.size w0 W ∧ W.cell? ⟨b0, 4, none⟩ = some (.int .i64 p.weight)) → Below W.heap.size W W1 → (Below w0.heap.size w0 W1 ∧ W1.cell? ⟨b0, 4, none⟩ = some (.int .i64 p.weight)) := fun W W1 h hb => ⟨below_two h.1 hb, (hb.cell (World.block_lt_of_cell? W _ h.2)).trans h.2⟩
  have hS : Below w0.heap.size w0 w0 ∧ w0.cell? ⟨b0, 4, none⟩ = some (.int .i64 p.weight) := ⟨Below.refl _ _, x4⟩
  clear ha0 hb0
  obtain ⟨Y, hY⟩ : ∃ Y, Lib.byteCells (Fm.enc 4 r) = Y := ⟨_, rfl⟩
  have HY := hid' hY
  have lowOf : ∀ (W W1 : World) (v : Value), (Below w0.heap.size w0 W ∧ W.cell? ⟨b0, 4, none⟩ = some (.int .i64 p.weight)) → W1.ownsRow W.heap.size 5 1 v 4 (Lib.byteCells (Fm.enc 4 r)) → W1.ownsRow w0.heap.size 5 1 v 4 Y := fun W W1 v h ho => by rw [HY.out] at ho; exact own_low ho h.1.size
  have szOf : ∀ W : World, (Below w0.heap.size w0 W ∧ W.cell? ⟨b0, 4, none⟩ = some (.int .i64 p.weight)) → w0.heap.size ≤ W.heap.size := fun W h => h.1.size
  have hb0lt : b0 < w0.heap.size := HA.out.lt
  have grOf : ∀ (W W1 : World) (v : Value), (Below w0.heap.size w0 W ∧ W.cell? ⟨b0, 4, none⟩ = some (.int .i64 p.weight)) → W.ownsRow w0.heap.size 5 1 v 4 Y → W.grownBy W1 v.ownBlock → (Below w0.heap.size w0 W1 ∧ W1.cell? ⟨b0, 4, none⟩ = some (.int .i64 p.weight)) := fun W W1 v h ho hg => by
    have hb : Below w0.heap.size W W1 := Below.of_grown hg (fun k hk => (ho.lt k hk).1) h.1.size
    exact ⟨h.1.trans hb, (hb.cell hb0lt).trans h.2⟩
  clear hY
  cases ho : p.only with
  | true =>
    rw [ho] at x5
    have hor := HRO.out ho
    go_upto_region 4 with fail
    go_region_held3 (fun W => Below w0.heap.size w0 W ∧ W.cell? ⟨b0, 4, none⟩ = some (.int .i64 p.weight))
      (first | assumption | exact sOf _ _ (by assumption) (by assumption) | exact sOf _ _ (by assumption) ((Below.refl _ _).drew) | exact sOf _ _ (by assumption) ((Below.refl _ _).alloc (Nat.le_refl _) _))
      (first
      | (go_at_call 45; refine (cappn r _).mono ?_; rintro e w5 ⟨⟨v5, rfl, ho5⟩, hb5⟩; have HO5 := hid' (lowOf _ _ _ (by assumption) ho5.out); (first | (have hlit : w5.cell? ⟨w0.heap.size, 0, none⟩ = some (.int .u8 (x.toNat : Int)) := by (refine (hb5.cell ?_).trans ?_ <;> simp; done)) | skip); clear ho5)
      | (refine step_app _ (by rfl) _ _ 66 (by rfl) w0.heap.size 5 i0 (.int .u8 0) 1 1 Try.underlying66 HI.out HZ0.out HZ1.out HZ2.out (by rfl) (by decide) v5 4 Y (by rfl) (World.ownsRow.alloc HO5.out _) ⟨w5.heap.size, 0, none⟩ 1 1 [.int .u8 (x.toNat : Int)] (by rfl) (by rfl) (one_newb _ _ _) (fun u hu => by simp at hu; subst hu; rfl) (by unfold maxLen; omega) (by omega) (szOf _ (by assumption)) ?_; intro v6 w6 hown6 hgrow6; have hS6 := grOf _ _ _ (by assumption) (World.ownsRow.alloc HO5.out _) hgrow6; have HO6 := hid' hown6; clear hown6 hgrow6)
      | (refine step_app _ (by rfl) _ _ 66 (by rfl) w0.heap.size 5 i0 (.int .u8 0) 1 1 Try.underlying66 HI.out HZ0.out HZ1.out HZ2.out (by rfl) (by decide) v5 4 Y (by rfl) HO5.out ⟨w0.heap.size, 0, none⟩ 1 1 [.int .u8 (x.toNat : Int)] (by rfl) (by rfl) (fun j u hj => by match j, hj with | 0, hj => (simp at hj; subst hj; simpa [Addr.add] using hlit)) (fun u hu => by simp at hu; subst hu; rfl) (by unfold maxLen; omega) (by omega) (szOf _ (by assumption)) ?_; intro v6 w6 hown6 hgrow6; have hS6 := grOf _ _ _ (by assumption) HO5.out hgrow6; have HO6 := hid' hown6; clear hown6 hgrow6))
    all_goals
      have HB6 := hid' (HB.out.trans (hS6.1.mono HB.out.size))
      have HBR : Hid (BR w6 w.heap.size v6 (Fm.prB p)) := hid' (by
        unfold BR
        rw [HPB.out, bytes_app, HY.out, List.length_append, HL2.out]
        exact own_low HO6.out HB.out.size)
      clear sOf hS lowOf szOf grOf
      go_wp2
      go_ret
      exact ⟨⟨_, rfl, HBR⟩, HB6.out⟩
  | false =>
    rw [ho] at x5
    have hor := HRN.out ho
    rw [hor] at x3
    go_upto_region 4 with fail
    go_region_held3 (fun W => Below w0.heap.size w0 W ∧ W.cell? ⟨b0, 4, none⟩ = some (.int .i64 p.weight))
      (first | assumption | exact sOf _ _ (by assumption) (by assumption) | exact sOf _ _ (by assumption) ((Below.refl _ _).drew) | exact sOf _ _ (by assumption) ((Below.refl _ _).alloc (Nat.le_refl _) _))
      (first
      | (go_at_call 45; refine (cappn r _).mono ?_; rintro e w5 ⟨⟨v5, rfl, ho5⟩, hb5⟩; have HO5 := hid' (lowOf _ _ _ (by assumption) ho5.out); (first | (have hlit : w5.cell? ⟨w0.heap.size, 0, none⟩ = some (.int .u8 (x.toNat : Int)) := by (refine (hb5.cell ?_).trans ?_ <;> simp; done)) | skip); clear ho5)
      | (refine step_app _ (by rfl) _ _ 66 (by rfl) w0.heap.size 5 i0 (.int .u8 0) 1 1 Try.underlying66 HI.out HZ0.out HZ1.out HZ2.out (by rfl) (by decide) v5 4 Y (by rfl) (World.ownsRow.alloc HO5.out _) ⟨w5.heap.size, 0, none⟩ 1 1 [.int .u8 (x.toNat : Int)] (by rfl) (by rfl) (one_newb _ _ _) (fun u hu => by simp at hu; subst hu; rfl) (by unfold maxLen; omega) (by omega) (szOf _ (by assumption)) ?_; intro v6 w6 hown6 hgrow6; have hS6 := grOf _ _ _ (by assumption) (World.ownsRow.alloc HO5.out _) hgrow6; have HO6 := hid' hown6; clear hown6 hgrow6)
      | (refine step_app _ (by rfl) _ _ 66 (by rfl) w0.heap.size 5 i0 (.int .u8 0) 1 1 Try.underlying66 HI.out HZ0.out HZ1.out HZ2.out (by rfl) (by decide) v5 4 Y (by rfl) HO5.out ⟨w0.heap.size, 0, none⟩ 1 1 [.int .u8 (x.toNat : Int)] (by rfl) (by rfl) (fun j u hj => by match j, hj with | 0, hj => (simp at hj; subst hj; simpa [Addr.add] using hlit)) (fun u hu => by simp at hu; subst hu; rfl) (by unfold maxLen; omega) (by omega) (szOf _ (by assumption)) ?_; intro v6 w6 hown6 hgrow6; have hS6 := grOf _ _ _ (by assumption) HO5.out hgrow6; have HO6 := hid' hown6; clear hown6 hgrow6))
    all_goals
      have HB6 := hid' (HB.out.trans (hS6.1.mono HB.out.size))
      have HBR : Hid (BR w6 w.heap.size v6 (Fm.prB p)) := hid' (by
        unfold BR
        rw [HPB.out, bytes_app, HY.out, List.length_append, HL2.out]
        exact own_low HO6.out HB.out.size)
      clear sOf hS lowOf szOf grOf
      go_wp2
      go_ret
      exact ⟨⟨_, rfl, HBR⟩, HB6.out⟩

end Go.Proofs.Ythbidfcfkjamdaa
