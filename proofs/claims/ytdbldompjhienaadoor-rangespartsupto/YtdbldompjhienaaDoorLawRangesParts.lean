/-
  What a body of several ranges is.
-/
import Derived.Test.YtdbldompjhienaaDoorRhK
import Derived.Test.YtdbldompjhienaaDoorRgK
import Derived.Test.YtdbldompjhienaaDoorRgQ
import Derived.Laws.AppendOwnNone
namespace Go.Proofs.YtdbldompjhienaaDoor
open Go.RowKit

theorem rgC_one16 (l : List Rg.Rn) : ∀ u ∈ rgC l, u.oneCell' = true := by
  intro u hu
  unfold rgC at hu
  obtain ⟨r, _, hr⟩ := List.mem_flatMap.1 hu
  simp [rgV] at hr
  rcases hr with rfl | rfl <;> rfl
theorem rw_cells16 {w : World} {a : Addr} {rs : List Rg.Rn} (h : RW16 w (some a) rs) : ∀ j u, (rgC rs)[j]? = some u → w.cell? (a.add j) = some u := by
  intro j u hj
  have hlt : j < rs.length * 2 := by rw [← rgC_length]; exact (List.getElem?_eq_some_iff.1 hj).1
  have hi : j / 2 < rs.length := by omega
  obtain ⟨a', ha, _, c0, c1⟩ := h (j / 2) rs[j / 2] (List.getElem?_eq_getElem hi)
  injection ha with ha
  subst ha
  have hr := rg_at rs (j / 2) rs[j / 2] (List.getElem?_eq_getElem hi)
  rcases Nat.mod_two_eq_zero_or_one j with h2 | h2
  · have e : j = j / 2 * 2 + 0 := by omega
    have := hr 0 (by omega)
    rw [← e, hj] at this
    simp [rgV] at this
    have e2 : a.add j = a.add (j / 2 * 2) := by rw [show j / 2 * 2 = j by omega]
    rw [this, e2]
    exact c0
  · have e : j = j / 2 * 2 + 1 := by omega
    have := hr 1 (by omega)
    rw [← e, hj] at this
    simp [rgV] at this
    have e2 : a.add j = (a.add (j / 2 * 2)).add 1 := by rw [Addr.add_add, ← e]
    rw [this, e2, Addr.add_succ']
    exact c1
theorem wpl_appR16 {w : World} {ops : Array Oper} {rest : List Oper} {o : Oper} {a : Act} {Q : Exit → Act → World → Prop} (hgd : o.guard = none) (s x : Operand)
    (ho : o.op = .call { callee := .builtin .append, args := #[s, x], argTypes := #[24, 24] })
    (B : Nat) (hs : a.eval s = .slice none 0 0) (ao : Option Addr) (n cap : Nat) (rs : List Rg.Rn) (hn : rs.length = n) (hx : a.eval x = .slice ao n cap) (hc : ao = none → cap = 0) (hy : RW16 w ao rs) (hz : ao = none → rs = [])
    (h63 : n ≤ 1048576) (hB : B ≤ w.heap.size)
    (h : ∀ v' w', w'.ownsRow B 23 2 v' n (rgC rs) → w.grownBy w' none → wpList Tryd.prog ops Q rest (a.put o.dst v') w') :
    wpList Tryd.prog ops Q (o :: rest) a w := by
  obtain ⟨i0, hi0, hz0, hz1, hz2⟩ := minfo16 infoRg16
  cases ao with
  | none =>
    obtain rfl := hz rfl
    obtain rfl := hc rfl
    obtain rfl : n = 0 := hn.symm
    refine wpList_append_own_none hgd s x 24 ho B 23 i0 2 Tryd.underlying24 hi0 (.slice none 0 0) 0 [] hs (World.ownsRow_nil _ _ _ _) hx ?_
    exact h _ w (World.ownsRow_nil _ _ _ _) ⟨rfl, rfl, rfl, Nat.le_refl _, fun _ _ _ => rfl⟩
  | some ad =>
    refine wpList_append_own_at w hgd s x 24 ho B 23 i0 (.agg #[.int .i64 0, .int .i64 0]) 2 16 Tryd.underlying24 hi0 hz0 hz1 hz2 rfl (by decide) (.slice none 0 0) 0 [] hs (World.ownsRow_nil _ _ _ _) ad n cap (rgC rs) hx (by rw [rgC_length, hn]) (rw_cells16 hy) (rgC_one16 rs) (by unfold maxLen; omega) (by omega) hB ?_
    intro v' w' h1 h2 _ _
    rw [Nat.zero_add, List.nil_append] at h1
    exact h v' w' h1 h2

set_option maxHeartbeats 8000000 in
set_option maxRecDepth 20000 in
theorem rangesParts_any (x kd : ByteArray) (ao : Option Addr) (cap : Nat) (rs : List Rg.Rn) (w : World) (hz : ao = none → rs = [] ∧ cap = 0) (hr : RW16 w ao rs) (hT : TB16 w) (hx : x.size ≤ 1048576) (hk : kd.size ≤ 1048576) (hnb : rs.length ≤ 1048576) :
    Calls Tryd.prog 4 #[.string x, .string kd, .slice ao rs.length cap] w fun e w' => e = .returned (.bool true) ∧ Below w.heap.size w w' := by
  obtain ⟨i0, hi0, hz0, hz1, hz2⟩ := minfo16 infoRg16
  have HI := hid' hi0
  have HZ0 := hid' hz0
  have HZ1 := hid' hz1
  have HZ2 := hid' hz2
  clear hi0 hz0 hz1 hz2
  have HT := hid' hT
  have HAW := hid' (fun W (h : TB16 W) => awake16 W h)
  obtain ⟨q, hq⟩ := Rg.free_ex x.data.toList
  have hqx : q ≤ 1048576 := by have := hq.2.2; rw [← Lib.size_eq] at this; omega
  have HLC := hid' (cline16 x q hq w hx hT)
  have HLR := hid' (fun W => rline16 x q (by omega) hq.1 hq.2.1 W (by omega))
  have hll : (Rg.line q).length ≤ 25 := Rg.line_len q (by omega)
  obtain ⟨ln, hln⟩ : ∃ ln : ByteArray, (⟨(Rg.line q).toArray⟩ : ByteArray) = ln := ⟨_, rfl⟩
  have hls : ln.size ≤ 1048576 := by rw [← hln, size_l16]; omega
  rw [hln] at HLC HLR
  obtain ⟨n, hn⟩ : ∃ n, rs.length = n := ⟨_, rfl⟩
  rw [hn] at hnb ⊢
  have HN := hid' hn
  have HR := hid' hr
  have HZ := hid' hz
  have HPC := hid' (fun (bo : Option Addr) (bc : Nat) W (h : RW16 W bo rs) (ht : TB16 W) => cparts16 x kd ln bo n bc rs HN.out hnb W h hx hk hls ht)
  have HPR := hid' (fun W (h : RW16 W ao rs) => rparts16 x kd ln ao n cap rs HN.out hnb W h hx hk hls)
  generalize Rg.partsS x.data.toList kd.data.toList ln.data.toList rs = P at HPC HPR
  generalize Rg.partsE x.data.toList rs = er at HPC HPR
  clear hT hq hll hln hn hr hz
  go_enter Tryd.func4, Tryd.ntmps4
  go_wp2_with fail
  refine HLC.out.mono ?_
  rintro e w1 ⟨rfl, hb1⟩
  have HB1 := hid' hb1
  have HR1 := hid' (HR.out.below hb1)
  clear hb1 HLC
  go_wp2_with (at_builtin; refine wpl_appR16 rfl _ _ rfl w1.heap.size rfl ao n cap rs HN.out rfl (fun h => (HZ.out h).2) HR1.out (fun h => (HZ.out h).1) hnb (Nat.le_refl _) ?_; intro v2 w2 hown2 hgrow2; refine Hid.out ?_)
  refine hid' ?_
  have HB2 : Hid (Below w1.heap.size w1 w2) := hid' ((Below.refl _ _).grown hgrow2 (Nat.le_refl _) (fun k hk => by cases hk))
  obtain ⟨v2o, v2c, hv2⟩ := own_shape16 hown2
  subst hv2
  have HA : Hid ((w2.alloc (.cells #[.int .i64 (-77), .int .i64 0] 23)).ownsRow w1.heap.size 23 2 (.slice v2o n v2c) n (rgC rs)) := hid' (hown2.alloc _)
  clear hown2 hgrow2
  go_wp2_with (at_builtin; refine wpList_append_own_at _ rfl _ _ 24 rfl w1.heap.size 23 i0 (.agg #[.int .i64 0, .int .i64 0]) 2 16 Tryd.underlying24 HI.out HZ0.out HZ1.out HZ2.out rfl (by decide) (.slice v2o n v2c) n (rgC rs) rfl HA.out ⟨w2.heap.size, 0, none⟩ 1 1 [.int .i64 (-77), .int .i64 0] rfl rfl (two_new16 _ _ _ _) (by simp [Value.oneCell']) (by unfold maxLen; omega) (by omega) (by simp; have := HB2.out.size; omega) ?_; intro v3 w3 hown3 hgrow3 _ _; refine Hid.out ?_)
  refine hid' ?_
  have HB3 : Hid (Below w1.heap.size w1 w3) := hid' ((HB2.out.alloc HB2.out.size _).grown hgrow3 (by simp; have := HB2.out.size; omega) (fun k hk => (HA.out.lt k hk).1))
  have e3 : rgC rs ++ [Value.int .i64 (-77), .int .i64 0] = rgC (rs ++ [⟨-77, 0⟩]) := by rw [rgC_app]; rfl
  rw [e3] at hown3
  have hsh : ∃ g c, v3 = .slice (some ⟨g, 0, none⟩) (n + 1) c ∧ n + 1 ≤ c ∧ c ≤ 9223372036854775807 := by
    rcases hown3.2 with ⟨_, h0⟩ | ⟨g, c, cur, h1, _, _, h4, h5, _⟩
    · omega
    · exact ⟨g, c, h1, h4, by unfold maxLen at h5; exact h5⟩
  obtain ⟨g, c, hv3, hgc, hcm⟩ := hsh
  subst hv3
  have HO3 := hid' hown3
  have HW3 := hid' (below_two HB1.out HB3.out)
  have HR3 := hid' (HR.out.below HW3.out)
  have HOR := hid' ((RW16.own hown3).take)
  have HT3 := hid' (HT.out.keep HW3.out)
  have hnc : (n : Int) ≤ (c : Int) := by omega
  have hnc1 : n ≤ c := by omega
  clear hown3 hgrow3 e3 HA HB2 HB3
  go_wp2_with fail
  refine (HPC.out (some ⟨g, 0, none⟩) c _ HOR.out HT3.out).mono ?_
  rintro e w4 ⟨rfl, hb4⟩
  have HW4 := hid' (below_two HW3.out hb4)
  have HR4 := hid' (HR.out.below HW4.out)
  have HO4 := hid' (own_kp16 HO3.out hb4)
  clear hb4
  go_wp2_with fail
  refine (HPR.out _ HR4.out).mono ?_
  rintro e w5 ⟨rfl, hb5⟩
  have HW5 := hid' (below_two HW4.out hb5)
  have HO5 := hid' (own_kp16 HO4.out hb5)
  clear hb5
  go_wp2_with fail
  refine (HLR.out _).mono ?_
  rintro e w6 ⟨rfl, hb6⟩
  have HW6 := hid' (below_two HW5.out hb6)
  have HO6 := hid' (own_kp16 HO5.out hb6)
  have HR6 := hid' (HR.out.below HW6.out)
  have HSM := hid' (rsame16 (some ⟨g, 0, none⟩) ao n c cap rs HN.out (by omega) w6 ((RW16.own HO6.out).take) HR6.out)
  clear hb6
  go_wp2_with fail
  refine HSM.out.mono ?_
  rintro e w7 ⟨rfl, hb7⟩
  have HW7 := hid' (below_two HW6.out hb7)
  have HO7 := hid' (own_kp16 HO6.out hb7)
  have HT7 := hid' (HT.out.keep HW7.out)
  have hcell : w7.cell? ⟨g, n * 2, none⟩ = some (.int .i64 (-77)) := by
    obtain ⟨g', hg', c0, _⟩ := own_two16 HO7.out n ⟨-77, 0⟩ (by rw [List.getElem?_append_right (by rw [HN.out]; exact Nat.le_refl _), HN.out]; simp)
    injection hg' with hg'
    injection hg' with hg'
    rw [hg']; exact c0
  have hlt1 : (n : Int) < ((n + 1 : Nat) : Int) := by omega
  have hlt2 : (n : Int) < (n : Int) + 1 := by omega
  clear hb7
  go_wp2_with fail
  refine (HAW.out _ HT7.out).mono ?_
  rintro e w8 ⟨rfl, hb8⟩
  have HW8 := hid' (below_two HW7.out hb8)
  clear hb8
  go_wp2
  go_ret
  exact ⟨rfl, HW8.out⟩

end Go.Proofs.YtdbldompjhienaaDoor
