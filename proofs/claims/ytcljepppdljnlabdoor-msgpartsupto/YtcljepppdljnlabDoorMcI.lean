/-
  The code's head.addField where a field is laid behind the others: by its contract.
-/
import Derived.Test.YtcljepppdljnlabDoorMcH
import Derived.RegionTactic
import Derived.ChangeAlike
namespace Go.Proofs.YtcljepppdljnlabDoor
open Go.RowKit

section
variable {P : Program} {w : World}
/-- An append to a row of one's own in a region that draws, with where the new row lies. -/
theorem step_app14 {ops : Array Oper} {o : Oper} {a : Act} {K : Act → World → Prop} {Q : Exit → Act → World → Prop} {E : Prop} (hgd : o.guard = none) (s x : Operand) (t : TypeId)
    (ho : o.op = .call { callee := .builtin .append, args := #[s, x], argTypes := #[t, t] })
    (base : Nat) (e : TypeId) (i : TypeInfo) (z : Value) (size bytes : Nat) (ht : P.underlying t = some (.slice e)) (hi : P.info? e = some i) (hz : i.zero = some z)
    (hsize : i.size = size) (hby : i.bytes = bytes) (hzs : z.cells.size = size) (hsz : 0 < size)
    (v : Value) (n : Nat) (xs : List Value) (hs : a.eval s = v) (hown : w.ownsRow base e size v n xs)
    (ad : Addr) (m c : Nat) (news : List Value) (hx : a.eval x = .slice (some ad) m c) (hl : news.length = m * size) (hnews : ∀ j u, news[j]? = some u → w.cell? (ad.add j) = some u) (h1 : ∀ u ∈ news, u.oneCell' = true)
    (h63 : n + m ≤ maxLen) (hbytes : (n + m) * bytes ≤ 140737488355328) (hbase : base ≤ w.heap.size)
    (h : ∀ v' w', w'.ownsRow base e size v' (n + m) (xs ++ news) → w.grownBy w' v.ownBlock → (v'.ownBlock = v.ownBlock ∨ v'.ownBlock = some w.heap.size) → K (a.put o.dst v') w') :
    if Region.wanted o (yielded ops a.tmps) = true then Oper.wp P o a w K Q else E := by
  have hw : Region.wanted o (yielded ops a.tmps) = true := by simp [Region.wanted, hgd]
  rw [if_pos hw]
  obtain ⟨v', w', hr, h2, h3, _, h5⟩ := run_append_own_at (P := P) w base t o.type e i z size bytes ht hi hz hsize hby hzs hsz v n xs hown ad m c news hl hnews h1 h63 hbytes hbase
  unfold Oper.wp execOp
  simp only [ho, resolve, invoke, builtin, Sem.run_bind, Sem.run_pure, Result.andThen_ok, List.map_toArray, List.map_cons, List.map_nil, hs, hx, hr]
  exact h v' w' h2 h3 h5

end
set_option maxHeartbeats 4000000 in
set_option maxRecDepth 20000 in
theorem caf_app (B b : Nat) (H : Ms.Hd) (f : Fd) (fv : Value) (w : World) (h : HM w B b H fv) (hpl : Ms.plain f = true) (c0 : (f.n.toList == [116, 101]) = false) (c1 : (f.n.toList == [104, 111, 115, 116]) = false) (hl : H.fs.length ≤ 1048576) (hn : f.n.size ≤ 140737488355328) (hv : f.v.size ≤ 140737488355328) :
    Calls Tryd.prog 39 #[.pointer (some ⟨b, 0, none⟩), .agg #[.string f.n, .string f.v]] w fun e w' => e = .returned (.int .i64 0) ∧ Below B w w' ∧ ∃ fv', HM w' B b { H with fs := H.fs ++ [f] } fv' := by
  have hBw : B ≤ w.heap.size := Nat.le_trans h.lo (Nat.le_of_lt h.obj.lt)
  have hb := bl_alloc w (.cells #[.string f.n, .string f.v] 28)
  have hA := fd_new w f
  have HP := hid' (cplain14 f true hpl (w.alloc (.cells #[.string f.n, .string f.v] 28)) hn hv)
  have hbx : b ≠ w.heap.size := Nat.ne_of_lt h.obj.lt
  have HBX := hid' hbx
  have H0 := hid' h
  have HBW := hid' hBw
  go_enter Tryd.func39, Tryd.ntmps39
  go_wp2_with fail
  obtain ⟨xb, hxb⟩ : ∃ xb, w.heap.size = xb := ⟨_, rfl⟩
  refine HP.out.mono ?_
  rintro e w1 ⟨rfl, hb1⟩
  have HB1 := hid' (below_two hb hb1)
  have HA1 : Hid (Ar w1 xb 28 #[.string f.n, .string f.v]) := hid' (hxb ▸ hA.keep hb1)
  have HX1 : Hid (HM w1 B b H fv) := hid' (h.keep (below_two hb hb1))
  have x0 := HA1.out.cell 0 _ rfl
  have x1 := HA1.out.cell 1 _ rfl
  rw [hxb] at HBX ⊢
  clear hb hA hb1 hbx hBw h hpl hn hv HP
  obtain ⟨i0, hi0, hz0, hz1, hz2⟩ := minfo_parts infoF14
  have HI := hid' hi0
  have HZ0 := hid' hz0
  have HZ1 := hid' hz1
  have HZ2 := hid' hz2
  clear hi0 hz0 hz1 hz2 hxb
  obtain ⟨ao, cap, hfv⟩ := own_shape HX1.out.row
  subst hfv
  obtain ⟨n, hn⟩ : ∃ n, H.fs.length = n := ⟨_, rfl⟩
  have HN := hid' hn
  rw [hn] at hl
  obtain ⟨xs, hxs⟩ : ∃ xs, fC H.fs = xs := ⟨_, rfl⟩
  have HR : Hid (w1.ownsRow B 28 2 (.slice ao n cap) n xs) := hid' (by have := HX1.out.row; rwa [hn, hxs] at this)
  have HO : Hid (Ar w1 b 52 (hdC H (.slice ao n cap))) := hid' (by have := HX1.out.obj; rwa [hn] at this)
  have HXS := hid' hxs
  have g11 : w1.cell? ⟨b, 11, none⟩ = some (.slice ao n cap) := HO.out.cell 11 _ rfl
  have f11 := HO.out.free 11
  have hob : ∀ k, (Value.slice ao n cap).ownBlock = some k → k ≠ b := own_apart HR.out HO.out (by decide)
  have hS : w1.cell? ⟨b, 11, none⟩ = some (.slice ao n cap) ∧ w1.cell? ⟨xb, 0, none⟩ = some (.string f.n) ∧ w1.cell? ⟨xb, 1, none⟩ = some (.string f.v) ∧ w1.frozen? ⟨b, 11, none⟩ = false := ⟨g11, x0, x1, f11⟩
  clear hn hxs HX1
  go_wp2
  obtain ⟨w00, hw00⟩ : ∃ w00, w00 = (w1.alloc (.cells #[.string f.n, .string f.v] 28)).drew := ⟨_, rfl⟩
  have hb00 : Below w1.heap.size w1 w00 := by rw [hw00]; exact ((Below.refl _ _).alloc (Nat.le_refl _) _).drew
  have hO00 := HO.out.keep hb00
  have hR00 : w00.ownsRow B 28 2 (.slice ao n cap) n xs := own_same HR.out (fun k hk => hb00.block k (own_lt HR.out k hk))
  have hnews : ∀ j u, [Value.string f.n, .string f.v][j]? = some u → w00.cell? ((⟨w1.heap.size, 0, none⟩ : Addr).add j) = some u := by
    intro j u hj
    have hA : Ar w00 w1.heap.size 28 #[.string f.n, .string f.v] := by rw [hw00]; exact heap_alloc_last w1 _
    rw [Addr.add_mid, Nat.zero_add]
    exact hA.cell j u (by simpa using hj)
  have hsz00 : B ≤ w00.heap.size := Nat.le_trans HBW.out (Nat.le_trans HB1.out.size hb00.size)
  have HB00 := hid' (below_two HB1.out hb00)
  have HW00 := hid' hw00
  have HO00 := hid' hO00
  rw [hw00] at hR00 hnews hsz00
  have HR00 := hid' hR00
  have HNW := hid' hnews
  have HSZ := hid' hsz00
  have HOB := hid' hob
  have g11' : (w1.alloc (.cells #[.string f.n, .string f.v] 28)).cell? ⟨b, 11, none⟩ = some (.slice ao n cap) := ((bl_alloc w1 _).cell (cell_lt g11)).trans g11
  clear hb00 hw00 hO00 hR00 hnews hsz00 hob hS
  go_region_law (refine step_app14 (by rfl) _ _ 22 (by rfl) B 28 i0 (.agg #[.string ⟨#[]⟩, .string ⟨#[]⟩]) 2 32 Tryd.underlying22 HI.out HZ0.out HZ1.out HZ2.out (by rfl) (by decide) (.slice ao n cap) n xs (by rfl) HR00.out ⟨w1.heap.size, 0, none⟩ 1 1 [.string f.n, .string f.v] (by rfl) (by rfl) HNW.out (by simp [Value.oneCell']) (by unfold maxLen; omega) (by omega) HSZ.out ?_; intro v2 w2 hrow hgrow _; obtain ⟨v2o, v2c, hv2⟩ := own_shape hrow; subst hv2; have hO2 := ar_grown (HW00.out ▸ HO00.out) hgrow HOB.out; have c11 := hO2.cell 11 _ rfl; have e11 := hO2.free 11)
  all_goals
    have HB2 : Hid (Below B w w2) := hid' (((HW00.out ▸ HB00.out.mono HBW.out)).grown hgrow HSZ.out (fun k hk => (own_ty HR00.out k hk).1))
    have HO2 := hid' hO2
    have HR2 := hid' hrow
    have HLO : Hid (B ≤ b) := hid' H0.out.lo
    clear hO2 hrow hgrow
    go_wp2
    go_ret
    refine ⟨rfl, HB2.out.setCell HLO.out _, .slice v2o (n + 1) v2c, HLO.out, ?_, ?_⟩
    · have h1 := HO2.out.set 11 (.slice v2o (n + 1) v2c)
      have e : (hdC H (.slice ao n cap)).setIfInBounds 11 (.slice v2o (n + 1) v2c) = hdC { H with fs := H.fs ++ [f] } (.slice v2o (n + 1) v2c) := by simp [hdC]
      rw [e] at h1
      exact h1
    · have h2 : w2.ownsRow B 28 2 (.slice v2o (n + 1) v2c) (H.fs ++ [f]).length (fC (H.fs ++ [f])) := by
        rw [List.length_append, HN.out, fC_append, HXS.out]
        exact HR2.out
      exact own_same h2 (fun k hk => (upd_setCell w2 b 11 _).block k (own_apart h2 HO2.out (by decide) k hk))

end Go.Proofs.YtcljepppdljnlabDoor
