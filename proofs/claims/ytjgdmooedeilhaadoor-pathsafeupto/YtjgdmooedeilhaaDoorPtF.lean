/-
  The document's Escape: by its contract.
-/
import Derived.Test.YtjgdmooedeilhaaDoorPtB
import Derived.Deep.RegionLaw
import Derived.RegionTactic
namespace Go.Proofs.YtjgdmooedeilhaaDoor
open Go.RowKit

theorem step_app17 {P : Program} {w : World} {ops : Array Oper} {o : Oper} {a : Act} {K : Act → World → Prop} {Q : Exit → Act → World → Prop} {E : Prop} (hgd : o.guard = none) (s x : Operand) (t : TypeId)
    (ho : o.op = .call { callee := .builtin .append, args := #[s, x], argTypes := #[t, t] })
    (base : Nat) (e : TypeId) (i : TypeInfo) (z : Value) (size bytes : Nat) (ht : P.underlying t = some (.slice e)) (hi : P.info? e = some i) (hz : i.zero = some z)
    (hsize : i.size = size) (hby : i.bytes = bytes) (hzs : z.cells.size = size) (hsz : 0 < size)
    (v : Value) (n : Nat) (xs : List Value) (hs : a.eval s = v) (hown : w.ownsRow base e size v n xs)
    (ad : Addr) (m c : Nat) (news : List Value) (hx : a.eval x = .slice (some ad) m c) (hl : news.length = m * size) (hnews : ∀ j u, news[j]? = some u → w.cell? (ad.add j) = some u) (h1 : ∀ u ∈ news, u.oneCell' = true)
    (h63 : n + m ≤ maxLen) (hbytes : (n + m) * bytes ≤ 140737488355328) (hbase : base ≤ w.heap.size)
    (h : ∀ v' w', w'.ownsRow base e size v' (n + m) (xs ++ news) → w.grownBy w' v.ownBlock → (v'.ownBlock = v.ownBlock ∨ v'.ownBlock = some w.heap.size) → K (a.put o.dst v') w') :
    if Region.wanted o (yielded ops a.tmps) = true then Oper.wp P o a w K Q else E := by
  have hw : Region.wanted o (yielded ops a.tmps) = true := by simp [Region.wanted, hgd]
  rw [if_pos hw]
  obtain ⟨v', w', hr, h2, h3, _, h5⟩ := run_append_own_at (P := P) w base t o.type e i z size bytes ht hi hz hsize hby hzs hsz v n xs hown ad m c news hl hnews h1 h63 hbytes hbase
  unfold Oper.wp execOp
  simp only [ho, resolve, invoke, builtin, Sem.run_bind, Sem.run_pure, Result.andThen_ok, List.map_toArray, List.map_cons, List.map_nil, hs, hx, hr]
  exact h v' w' h2 h3 h5
def hexB17 : ByteArray := ⟨#[48, 49, 50, 51, 52, 53, 54, 55, 56, 57, 65, 66, 67, 68, 69, 70]⟩
theorem hexB_at17 (n : Nat) (h : n < 16) (hs : n < hexB17.size) : hexB17[n] = Pt.hd16 n := by
  have : ∀ n : Fin 16, hexB17[n.val]'(by have := n.2; show n.val < 16; omega) = Pt.hd16 n.val := by decide
  exact this ⟨n, h⟩
namespace Pt
theorem plain_cases (x : Int) (c : UInt8) (h : (c.toNat : Int) = x) : plain c = (((((((((decide (97 ≤ x) && decide (x ≤ 122)) || (decide (65 ≤ x) && decide (x ≤ 90))) || (decide (48 ≤ x) && decide (x ≤ 57))) || (x == 45)) || (x == 46)) || (x == 95)) || (x == 126)) || (x == 47))) := by
  subst h
  have e : ∀ k : UInt8, (c == k) = ((c.toNat : Int) == (k.toNat : Int)) := fun k => by
    rw [Bool.eq_iff_iff, beq_iff_eq, beq_iff_eq]
    exact ⟨fun h => by rw [h], fun h => UInt8.toNat_inj.1 (by omega)⟩
  have d : ∀ a b : Nat, decide (a ≤ b) = decide ((a : Int) ≤ (b : Int)) := fun a b => decide_eq_decide.2 (by omega)
  unfold plain
  rw [e 45, e 46, e 95, e 126, e 47, d 97 c.toNat, d c.toNat 122, d 65 c.toNat, d c.toNat 90, d 48 c.toNat, d c.toNat 57]
  rfl
end Pt

set_option maxHeartbeats 4000000 in
set_option maxRecDepth 20000 in
theorem resc17 (s : ByteArray) (l : List UInt8) (hl : s.data.toList = l) (w : World) (hs : s.size ≤ 4194304) :
    Calls Tryd.prog 13 #[.string s] w fun e w' => e = .returned (.string ⟨(Pt.esc l).toArray⟩) ∧ Below w.heap.size w w' := by
  obtain ⟨i0, hi0, hz0, hz1, hz2⟩ := minfo17 infoB17
  have HI := hid' hi0
  have HZ0 := hid' hz0
  have HZ1 := hid' hz1
  have HZ2 := hid' hz2
  clear hi0 hz0 hz1 hz2
  have HSZ : Hid (s.size = l.length) := hid' (by rw [Lib.size_eq, hl])
  have HGB : Hid (∀ k (h : k < s.size), l[k]? = some s[k]) := hid' (fun k h => by rw [← hl]; exact Tx.get_byte s k h)
  obtain ⟨hb, hhb⟩ : ∃ hb, hexB17 = hb := ⟨_, rfl⟩
  have HHB : Hid (hb = hexB17) := hid' hhb.symm
  have HHL : Hid ((⟨#[48, 49, 50, 51, 52, 53, 54, 55, 56, 57, 65, 66, 67, 68, 69, 70]⟩ : ByteArray) = hb) := hid' hhb
  have hbs : hb.size = 16 := by rw [← hhb]; rfl
  have HBS := hid' hbs
  clear hl hhb hbs
  go_enter Tryd.func13, Tryd.ntmps13
  go_wp2
  rw [HHL.out]
  go_loopw [4, 5] (fun s4 s5 wr => ∃ (k c : Nat) (ro : Option Addr) (rc : Nat) (Z : List UInt8), s5 = .int .i64 (k : Int) ∧ s4 = .slice ro c rc ∧ k ≤ s.size ∧ c ≤ 3 * k ∧ Hid (Z.length = c) ∧ Hid (Pt.esc l = Z ++ Pt.esc (l.drop k)) ∧ Hid (wr.ownsRow w.heap.size 5 1 (.slice ro c rc) c (byteCells Z)) ∧ Hid (Below w.heap.size w wr)) (fun _ s5 _ => s.size - (intOf s5).toNat)
  case atStart => exact ⟨0, 0, none, 0, [], rfl, rfl, Nat.zero_le _, Nat.le_refl _, hid' rfl, hid' (by rw [List.drop_zero]; rfl), hid' (World.ownsRow_nil _ _ _ _), hid' (Below.refl _ _)⟩
  case round =>
    obtain ⟨k, c, ro, rc, Z, rfl, rfl, hk, hck, HZL, HU, HO, HB⟩ := hrel
    by_cases hlt : k < s.size
    · have hlt2 : (k : Int) < (s.size : Int) := by omega
      have HD := hid' (Pt.drop_c (HGB.out k hlt))
      rw [HD.out, show Pt.esc (s[k] :: l.drop (k + 1)) = Pt.esc1 s[k] ++ Pt.esc (l.drop (k + 1)) from rfl] at HU
      obtain ⟨d, hd⟩ : ∃ d, s[k] = d := ⟨_, rfl⟩
      rw [hd] at HU
      have hPL := Pt.plain_cases (d.toNat : Int) d rfl
      have HES : Hid (Pt.esc1 d = if Pt.plain d then [d] else [37, Pt.hd16 (d.toNat / 16), Pt.hd16 (d.toNat % 16)]) := hid' rfl
      have hx1 := d.toNat_lt
      go_upto_region 7 with fail
      clear hd
      by_cases c1 : 97 ≤ d.toNat
      · skip
        by_cases c2 : d.toNat ≤ 122
        · skip
          have tA : decide ((97 : Int) ≤ (d.toNat : Int)) = true := decide_eq_true (by omega)
          have ta : decide ((d.toNat : Int) ≤ 122) = true := decide_eq_true (by omega)
          have tB : decide ((65 : Int) ≤ (d.toNat : Int)) = true := decide_eq_true (by omega)
          have tb : decide ((d.toNat : Int) ≤ 90) = false := decide_eq_false (by omega)
          have tC : decide ((48 : Int) ≤ (d.toNat : Int)) = true := decide_eq_true (by omega)
          have tc : decide ((d.toNat : Int) ≤ 57) = false := decide_eq_false (by omega)
          have t45 : ((d.toNat : Int) == 45) = false := by rw [beq_eq_false_iff_ne]; omega
          have t46 : ((d.toNat : Int) == 46) = false := by rw [beq_eq_false_iff_ne]; omega
          have t95 : ((d.toNat : Int) == 95) = false := by rw [beq_eq_false_iff_ne]; omega
          have t126 : ((d.toNat : Int) == 126) = false := by rw [beq_eq_false_iff_ne]; omega
          have t47 : ((d.toNat : Int) == 47) = false := by rw [beq_eq_false_iff_ne]; omega
          have hp : Pt.plain d = true := by rw [hPL, tA, ta, tB, tb, tC, tc, t45, t46, t95, t126, t47]; rfl
          rw [HES.out, hp, if_pos rfl] at HU
          have HA : Hid ((wr.alloc (.cells #[.int .u8 (d.toNat : Int)] 5)).ownsRow w.heap.size 5 1 (.slice ro c rc) c (byteCells Z)) := hid' (HO.out.alloc _)
          clear hPL hp
          go_wp2_with (at_builtin; refine wpList_append_own_at _ rfl _ _ 40 rfl w.heap.size 5 i0 (.int .u8 0) 1 1 Tryd.underlying40 HI.out HZ0.out HZ1.out HZ2.out rfl (by decide) (.slice ro c rc) c (byteCells Z) rfl HA.out ⟨wr.heap.size, 0, none⟩ 1 1 [.int .u8 (d.toNat : Int)] rfl rfl (one_cell17 _ _ _) (by simp [Value.oneCell']) (by unfold maxLen; omega) (by omega) (by simp; have := HB.out.size; omega) ?_; intro v3 w3 hown3 hgrow3 _ _; refine Hid.out ?_)
          refine hid' ?_
          rw [bc_snoc17] at hown3
          obtain ⟨v3o, v3c, hv3⟩ := own_shape17 hown3
          subst hv3
          have HO3 := hid' hown3
          have HB3 : Hid (Below w.heap.size w w3) := hid' ((HB.out.alloc HB.out.size _).grown hgrow3 (by simp; have := HB.out.size; omega) (fun k hk => (HA.out.lt k hk).1))
          clear hown3 hgrow3
          go_wp2
          go_roundw
          case rel => exact ⟨k + 1, c + 1, v3o, v3c, Z ++ [d], by go_num, rfl, by omega, by omega, hid' (by rw [List.length_append, HZL.out]; rfl), hid' (by rw [HU.out]; simp), HO3, HB3⟩
          case measure => simp [intOf]; omega
        · skip
          by_cases c3 : d.toNat = 126
          · skip
            have tA : decide ((97 : Int) ≤ (d.toNat : Int)) = true := decide_eq_true (by omega)
            have ta : decide ((d.toNat : Int) ≤ 122) = false := decide_eq_false (by omega)
            have tB : decide ((65 : Int) ≤ (d.toNat : Int)) = true := decide_eq_true (by omega)
            have tb : decide ((d.toNat : Int) ≤ 90) = false := decide_eq_false (by omega)
            have tC : decide ((48 : Int) ≤ (d.toNat : Int)) = true := decide_eq_true (by omega)
            have tc : decide ((d.toNat : Int) ≤ 57) = false := decide_eq_false (by omega)
            have t45 : ((d.toNat : Int) == 45) = false := by rw [beq_eq_false_iff_ne]; omega
            have t46 : ((d.toNat : Int) == 46) = false := by rw [beq_eq_false_iff_ne]; omega
            have t95 : ((d.toNat : Int) == 95) = false := by rw [beq_eq_false_iff_ne]; omega
            have t126 : ((d.toNat : Int) == 126) = true := by rw [beq_iff_eq]; omega
            have t47 : ((d.toNat : Int) == 47) = false := by rw [beq_eq_false_iff_ne]; omega
            have hp : Pt.plain d = true := by rw [hPL, tA, ta, tB, tb, tC, tc, t45, t46, t95, t126, t47]; rfl
            clear c3
            rw [HES.out, hp, if_pos rfl] at HU
            have HA : Hid ((wr.alloc (.cells #[.int .u8 (d.toNat : Int)] 5)).ownsRow w.heap.size 5 1 (.slice ro c rc) c (byteCells Z)) := hid' (HO.out.alloc _)
            clear hPL hp
            go_wp2_with (at_builtin; refine wpList_append_own_at _ rfl _ _ 40 rfl w.heap.size 5 i0 (.int .u8 0) 1 1 Tryd.underlying40 HI.out HZ0.out HZ1.out HZ2.out rfl (by decide) (.slice ro c rc) c (byteCells Z) rfl HA.out ⟨wr.heap.size, 0, none⟩ 1 1 [.int .u8 (d.toNat : Int)] rfl rfl (one_cell17 _ _ _) (by simp [Value.oneCell']) (by unfold maxLen; omega) (by omega) (by simp; have := HB.out.size; omega) ?_; intro v3 w3 hown3 hgrow3 _ _; refine Hid.out ?_)
            refine hid' ?_
            rw [bc_snoc17] at hown3
            obtain ⟨v3o, v3c, hv3⟩ := own_shape17 hown3
            subst hv3
            have HO3 := hid' hown3
            have HB3 : Hid (Below w.heap.size w w3) := hid' ((HB.out.alloc HB.out.size _).grown hgrow3 (by simp; have := HB.out.size; omega) (fun k hk => (HA.out.lt k hk).1))
            clear hown3 hgrow3
            go_wp2
            go_roundw
            case rel => exact ⟨k + 1, c + 1, v3o, v3c, Z ++ [d], by go_num, rfl, by omega, by omega, hid' (by rw [List.length_append, HZL.out]; rfl), hid' (by rw [HU.out]; simp), HO3, HB3⟩
            case measure => simp [intOf]; omega
          · skip
            have tA : decide ((97 : Int) ≤ (d.toNat : Int)) = true := decide_eq_true (by omega)
            have ta : decide ((d.toNat : Int) ≤ 122) = false := decide_eq_false (by omega)
            have tB : decide ((65 : Int) ≤ (d.toNat : Int)) = true := decide_eq_true (by omega)
            have tb : decide ((d.toNat : Int) ≤ 90) = false := decide_eq_false (by omega)
            have tC : decide ((48 : Int) ≤ (d.toNat : Int)) = true := decide_eq_true (by omega)
            have tc : decide ((d.toNat : Int) ≤ 57) = false := decide_eq_false (by omega)
            have t45 : ((d.toNat : Int) == 45) = false := by rw [beq_eq_false_iff_ne]; omega
            have t46 : ((d.toNat : Int) == 46) = false := by rw [beq_eq_false_iff_ne]; omega
            have t95 : ((d.toNat : Int) == 95) = false := by rw [beq_eq_false_iff_ne]; omega
            have t126 : ((d.toNat : Int) == 126) = false := by rw [beq_eq_false_iff_ne]; omega
            have t47 : ((d.toNat : Int) == 47) = false := by rw [beq_eq_false_iff_ne]; omega
            have hp : Pt.plain d = false := by rw [hPL, tA, ta, tB, tb, tC, tc, t45, t46, t95, t126, t47]; rfl
            rw [HES.out, hp, if_neg (by decide)] at HU
            clear hPL hp
            go_upto_region 9 with fail
            clear tA ta tB tb tC tc t45 t46 t95 t126 t47
            obtain ⟨q, hq⟩ : ∃ q, d.toNat / 16 = q := ⟨_, rfl⟩
            obtain ⟨r, hr⟩ : ∃ r, d.toNat % 16 = r := ⟨_, rfl⟩
            rw [hq, hr] at HU
            have v1 : (d.toNat : Int).tdiv 16 = (q : Int) := by rw [Int.tdiv_eq_ediv_of_nonneg (by omega)]; omega
            have v2 : (d.toNat : Int).tmod 16 = (r : Int) := by rw [Int.tmod_eq_emod_of_nonneg (by omega)]; omega
            have j1 : q < hb.size := by rw [HBS.out]; omega
            have j2 : r < hb.size := by rw [HBS.out]; omega
            have j1I : (q : Int) < (hb.size : Int) := by omega
            have j2I : (r : Int) < (hb.size : Int) := by omega
            have wq1 : IntKind.u8.wrap (q : Int) = (q : Int) := by rw [IntKind.wrap_u8]; omega
            have wq2 : IntKind.u8.wrap (r : Int) = (r : Int) := by rw [IntKind.wrap_u8]; omega
            have HH1 : Hid (hb[q] = Pt.hd16 q) := hid' (by obtain rfl := HHB.out; exact hexB_at17 q (by omega) j1)
            have HH2 : Hid (hb[r] = Pt.hd16 r) := hid' (by obtain rfl := HHB.out; exact hexB_at17 r (by omega) j2)
            have HQ := hid' hq
            have HRM := hid' hr
            clear hq hr
            obtain ⟨w00, hw00⟩ : ∃ w00, w00 = (wr.alloc (.cells #[.int .u8 37, .int .u8 (hb[q].toNat : Int), .int .u8 (hb[r].toNat : Int)] 5)).drew := ⟨_, rfl⟩
            have hb00 : Below wr.heap.size wr w00 := by rw [hw00]; exact ((Below.refl _ _).alloc (Nat.le_refl _) _).drew
            have HW00 := hid' hw00
            have HR00 : Hid (w00.ownsRow w.heap.size 5 1 (.slice ro c rc) c (byteCells Z)) := hid' (own_kp17 HO.out hb00)
            have HNW : Hid (∀ j u, [Value.int .u8 37, .int .u8 (hb[q].toNat : Int), .int .u8 (hb[r].toNat : Int)][j]? = some u → w00.cell? ((⟨wr.heap.size, 0, none⟩ : Addr).add j) = some u) := hid' (by
              intro j u hj
              have hA : Ar w00 wr.heap.size 5 #[.int .u8 37, .int .u8 (hb[q].toNat : Int), .int .u8 (hb[r].toNat : Int)] := by rw [hw00]; exact heap_alloc_last wr _
              rw [Addr.add_mid, Nat.zero_add]
              exact hA.cell j u (by simpa using hj))
            have HSZ0 : Hid (w.heap.size ≤ w00.heap.size) := hid' (Nat.le_trans HB.out.size hb00.size)
            have HB00 := hid' (below_two HB.out hb00)
            rw [hw00] at HR00 HNW HSZ0
            clear hb00 hw00
            go_wp2
            go_region_law (refine step_app17 (by rfl) _ _ 40 (by rfl) w.heap.size 5 i0 (.int .u8 0) 1 1 Tryd.underlying40 HI.out HZ0.out HZ1.out HZ2.out (by rfl) (by decide) (.slice ro c rc) c (byteCells Z) (by rfl) HR00.out ⟨wr.heap.size, 0, none⟩ 3 3 [.int .u8 37, .int .u8 (hb[q].toNat : Int), .int .u8 (hb[r].toNat : Int)] (by rfl) (by rfl) HNW.out (by simp [Value.oneCell']) (by unfold maxLen; omega) (by omega) HSZ0.out ?_; intro v2 w2 hrow hgrow _; obtain ⟨v2o, v2c, hv2⟩ := own_shape17 hrow; subst hv2)
            all_goals
              have HB2 : Hid (Below w.heap.size w w2) := hid' ((HW00.out ▸ HB00.out).grown hgrow HSZ0.out (fun j hj => (HR00.out.lt j hj).1))
              have HRW : Hid (w2.ownsRow w.heap.size 5 1 (.slice v2o (c + 3) v2c) (c + 3) (byteCells (Z ++ [37, Pt.hd16 q, Pt.hd16 r]))) := hid' (by
                have e : byteCells (Z ++ [37, Pt.hd16 q, Pt.hd16 r]) = byteCells Z ++ [Value.int .u8 37, .int .u8 (hb[q].toNat : Int), .int .u8 (hb[r].toNat : Int)] := by
                  have h1 := HH1.out
                  have h2 := HH2.out
                  rw [h1, h2]
                  unfold byteCells
                  rw [List.map_append]
                  rfl
                rw [e]; exact hrow)
              clear hrow hgrow
              go_wp2
              go_roundw
              case rel => exact ⟨k + 1, c + 3, v2o, v2c, Z ++ [37, Pt.hd16 q, Pt.hd16 r], by go_num, rfl, by omega, by omega, hid' (by rw [List.length_append, HZL.out]; rfl), hid' (by rw [HU.out]; simp), HRW, HB2⟩
              case measure => simp [intOf]; omega
      · skip
        by_cases c2 : 65 ≤ d.toNat
        · skip
          by_cases c3 : d.toNat ≤ 90
          · skip
            have tA : decide ((97 : Int) ≤ (d.toNat : Int)) = false := decide_eq_false (by omega)
            have ta : decide ((d.toNat : Int) ≤ 122) = true := decide_eq_true (by omega)
            have tB : decide ((65 : Int) ≤ (d.toNat : Int)) = true := decide_eq_true (by omega)
            have tb : decide ((d.toNat : Int) ≤ 90) = true := decide_eq_true (by omega)
            have tC : decide ((48 : Int) ≤ (d.toNat : Int)) = true := decide_eq_true (by omega)
            have tc : decide ((d.toNat : Int) ≤ 57) = false := decide_eq_false (by omega)
            have t45 : ((d.toNat : Int) == 45) = false := by rw [beq_eq_false_iff_ne]; omega
            have t46 : ((d.toNat : Int) == 46) = false := by rw [beq_eq_false_iff_ne]; omega
            have t95 : ((d.toNat : Int) == 95) = false := by rw [beq_eq_false_iff_ne]; omega
            have t126 : ((d.toNat : Int) == 126) = false := by rw [beq_eq_false_iff_ne]; omega
            have t47 : ((d.toNat : Int) == 47) = false := by rw [beq_eq_false_iff_ne]; omega
            have hp : Pt.plain d = true := by rw [hPL, tA, ta, tB, tb, tC, tc, t45, t46, t95, t126, t47]; rfl
            rw [HES.out, hp, if_pos rfl] at HU
            have HA : Hid ((wr.alloc (.cells #[.int .u8 (d.toNat : Int)] 5)).ownsRow w.heap.size 5 1 (.slice ro c rc) c (byteCells Z)) := hid' (HO.out.alloc _)
            clear hPL hp
            go_wp2_with (at_builtin; refine wpList_append_own_at _ rfl _ _ 40 rfl w.heap.size 5 i0 (.int .u8 0) 1 1 Tryd.underlying40 HI.out HZ0.out HZ1.out HZ2.out rfl (by decide) (.slice ro c rc) c (byteCells Z) rfl HA.out ⟨wr.heap.size, 0, none⟩ 1 1 [.int .u8 (d.toNat : Int)] rfl rfl (one_cell17 _ _ _) (by simp [Value.oneCell']) (by unfold maxLen; omega) (by omega) (by simp; have := HB.out.size; omega) ?_; intro v3 w3 hown3 hgrow3 _ _; refine Hid.out ?_)
            refine hid' ?_
            rw [bc_snoc17] at hown3
            obtain ⟨v3o, v3c, hv3⟩ := own_shape17 hown3
            subst hv3
            have HO3 := hid' hown3
            have HB3 : Hid (Below w.heap.size w w3) := hid' ((HB.out.alloc HB.out.size _).grown hgrow3 (by simp; have := HB.out.size; omega) (fun k hk => (HA.out.lt k hk).1))
            clear hown3 hgrow3
            go_wp2
            go_roundw
            case rel => exact ⟨k + 1, c + 1, v3o, v3c, Z ++ [d], by go_num, rfl, by omega, by omega, hid' (by rw [List.length_append, HZL.out]; rfl), hid' (by rw [HU.out]; simp), HO3, HB3⟩
            case measure => simp [intOf]; omega
          · skip
            by_cases c4 : d.toNat = 95
            · skip
              have tA : decide ((97 : Int) ≤ (d.toNat : Int)) = false := decide_eq_false (by omega)
              have ta : decide ((d.toNat : Int) ≤ 122) = true := decide_eq_true (by omega)
              have tB : decide ((65 : Int) ≤ (d.toNat : Int)) = true := decide_eq_true (by omega)
              have tb : decide ((d.toNat : Int) ≤ 90) = false := decide_eq_false (by omega)
              have tC : decide ((48 : Int) ≤ (d.toNat : Int)) = true := decide_eq_true (by omega)
              have tc : decide ((d.toNat : Int) ≤ 57) = false := decide_eq_false (by omega)
              have t45 : ((d.toNat : Int) == 45) = false := by rw [beq_eq_false_iff_ne]; omega
              have t46 : ((d.toNat : Int) == 46) = false := by rw [beq_eq_false_iff_ne]; omega
              have t95 : ((d.toNat : Int) == 95) = true := by rw [beq_iff_eq]; omega
              have t126 : ((d.toNat : Int) == 126) = false := by rw [beq_eq_false_iff_ne]; omega
              have t47 : ((d.toNat : Int) == 47) = false := by rw [beq_eq_false_iff_ne]; omega
              have hp : Pt.plain d = true := by rw [hPL, tA, ta, tB, tb, tC, tc, t45, t46, t95, t126, t47]; rfl
              clear c4
              rw [HES.out, hp, if_pos rfl] at HU
              have HA : Hid ((wr.alloc (.cells #[.int .u8 (d.toNat : Int)] 5)).ownsRow w.heap.size 5 1 (.slice ro c rc) c (byteCells Z)) := hid' (HO.out.alloc _)
              clear hPL hp
              go_wp2_with (at_builtin; refine wpList_append_own_at _ rfl _ _ 40 rfl w.heap.size 5 i0 (.int .u8 0) 1 1 Tryd.underlying40 HI.out HZ0.out HZ1.out HZ2.out rfl (by decide) (.slice ro c rc) c (byteCells Z) rfl HA.out ⟨wr.heap.size, 0, none⟩ 1 1 [.int .u8 (d.toNat : Int)] rfl rfl (one_cell17 _ _ _) (by simp [Value.oneCell']) (by unfold maxLen; omega) (by omega) (by simp; have := HB.out.size; omega) ?_; intro v3 w3 hown3 hgrow3 _ _; refine Hid.out ?_)
              refine hid' ?_
              rw [bc_snoc17] at hown3
              obtain ⟨v3o, v3c, hv3⟩ := own_shape17 hown3
              subst hv3
              have HO3 := hid' hown3
              have HB3 : Hid (Below w.heap.size w w3) := hid' ((HB.out.alloc HB.out.size _).grown hgrow3 (by simp; have := HB.out.size; omega) (fun k hk => (HA.out.lt k hk).1))
              clear hown3 hgrow3
              go_wp2
              go_roundw
              case rel => exact ⟨k + 1, c + 1, v3o, v3c, Z ++ [d], by go_num, rfl, by omega, by omega, hid' (by rw [List.length_append, HZL.out]; rfl), hid' (by rw [HU.out]; simp), HO3, HB3⟩
              case measure => simp [intOf]; omega
            · skip
              have tA : decide ((97 : Int) ≤ (d.toNat : Int)) = false := decide_eq_false (by omega)
              have ta : decide ((d.toNat : Int) ≤ 122) = true := decide_eq_true (by omega)
              have tB : decide ((65 : Int) ≤ (d.toNat : Int)) = true := decide_eq_true (by omega)
              have tb : decide ((d.toNat : Int) ≤ 90) = false := decide_eq_false (by omega)
              have tC : decide ((48 : Int) ≤ (d.toNat : Int)) = true := decide_eq_true (by omega)
              have tc : decide ((d.toNat : Int) ≤ 57) = false := decide_eq_false (by omega)
              have t45 : ((d.toNat : Int) == 45) = false := by rw [beq_eq_false_iff_ne]; omega
              have t46 : ((d.toNat : Int) == 46) = false := by rw [beq_eq_false_iff_ne]; omega
              have t95 : ((d.toNat : Int) == 95) = false := by rw [beq_eq_false_iff_ne]; omega
              have t126 : ((d.toNat : Int) == 126) = false := by rw [beq_eq_false_iff_ne]; omega
              have t47 : ((d.toNat : Int) == 47) = false := by rw [beq_eq_false_iff_ne]; omega
              have hp : Pt.plain d = false := by rw [hPL, tA, ta, tB, tb, tC, tc, t45, t46, t95, t126, t47]; rfl
              rw [HES.out, hp, if_neg (by decide)] at HU
              clear hPL hp
              go_upto_region 9 with fail
              clear tA ta tB tb tC tc t45 t46 t95 t126 t47
              obtain ⟨q, hq⟩ : ∃ q, d.toNat / 16 = q := ⟨_, rfl⟩
              obtain ⟨r, hr⟩ : ∃ r, d.toNat % 16 = r := ⟨_, rfl⟩
              rw [hq, hr] at HU
              have v1 : (d.toNat : Int).tdiv 16 = (q : Int) := by rw [Int.tdiv_eq_ediv_of_nonneg (by omega)]; omega
              have v2 : (d.toNat : Int).tmod 16 = (r : Int) := by rw [Int.tmod_eq_emod_of_nonneg (by omega)]; omega
              have j1 : q < hb.size := by rw [HBS.out]; omega
              have j2 : r < hb.size := by rw [HBS.out]; omega
              have j1I : (q : Int) < (hb.size : Int) := by omega
              have j2I : (r : Int) < (hb.size : Int) := by omega
              have wq1 : IntKind.u8.wrap (q : Int) = (q : Int) := by rw [IntKind.wrap_u8]; omega
              have wq2 : IntKind.u8.wrap (r : Int) = (r : Int) := by rw [IntKind.wrap_u8]; omega
              have HH1 : Hid (hb[q] = Pt.hd16 q) := hid' (by obtain rfl := HHB.out; exact hexB_at17 q (by omega) j1)
              have HH2 : Hid (hb[r] = Pt.hd16 r) := hid' (by obtain rfl := HHB.out; exact hexB_at17 r (by omega) j2)
              have HQ := hid' hq
              have HRM := hid' hr
              clear hq hr
              obtain ⟨w00, hw00⟩ : ∃ w00, w00 = (wr.alloc (.cells #[.int .u8 37, .int .u8 (hb[q].toNat : Int), .int .u8 (hb[r].toNat : Int)] 5)).drew := ⟨_, rfl⟩
              have hb00 : Below wr.heap.size wr w00 := by rw [hw00]; exact ((Below.refl _ _).alloc (Nat.le_refl _) _).drew
              have HW00 := hid' hw00
              have HR00 : Hid (w00.ownsRow w.heap.size 5 1 (.slice ro c rc) c (byteCells Z)) := hid' (own_kp17 HO.out hb00)
              have HNW : Hid (∀ j u, [Value.int .u8 37, .int .u8 (hb[q].toNat : Int), .int .u8 (hb[r].toNat : Int)][j]? = some u → w00.cell? ((⟨wr.heap.size, 0, none⟩ : Addr).add j) = some u) := hid' (by
                intro j u hj
                have hA : Ar w00 wr.heap.size 5 #[.int .u8 37, .int .u8 (hb[q].toNat : Int), .int .u8 (hb[r].toNat : Int)] := by rw [hw00]; exact heap_alloc_last wr _
                rw [Addr.add_mid, Nat.zero_add]
                exact hA.cell j u (by simpa using hj))
              have HSZ0 : Hid (w.heap.size ≤ w00.heap.size) := hid' (Nat.le_trans HB.out.size hb00.size)
              have HB00 := hid' (below_two HB.out hb00)
              rw [hw00] at HR00 HNW HSZ0
              clear hb00 hw00
              go_wp2
              go_region_law (refine step_app17 (by rfl) _ _ 40 (by rfl) w.heap.size 5 i0 (.int .u8 0) 1 1 Tryd.underlying40 HI.out HZ0.out HZ1.out HZ2.out (by rfl) (by decide) (.slice ro c rc) c (byteCells Z) (by rfl) HR00.out ⟨wr.heap.size, 0, none⟩ 3 3 [.int .u8 37, .int .u8 (hb[q].toNat : Int), .int .u8 (hb[r].toNat : Int)] (by rfl) (by rfl) HNW.out (by simp [Value.oneCell']) (by unfold maxLen; omega) (by omega) HSZ0.out ?_; intro v2 w2 hrow hgrow _; obtain ⟨v2o, v2c, hv2⟩ := own_shape17 hrow; subst hv2)
              all_goals
                have HB2 : Hid (Below w.heap.size w w2) := hid' ((HW00.out ▸ HB00.out).grown hgrow HSZ0.out (fun j hj => (HR00.out.lt j hj).1))
                have HRW : Hid (w2.ownsRow w.heap.size 5 1 (.slice v2o (c + 3) v2c) (c + 3) (byteCells (Z ++ [37, Pt.hd16 q, Pt.hd16 r]))) := hid' (by
                  have e : byteCells (Z ++ [37, Pt.hd16 q, Pt.hd16 r]) = byteCells Z ++ [Value.int .u8 37, .int .u8 (hb[q].toNat : Int), .int .u8 (hb[r].toNat : Int)] := by
                    have h1 := HH1.out
                    have h2 := HH2.out
                    rw [h1, h2]
                    unfold byteCells
                    rw [List.map_append]
                    rfl
                  rw [e]; exact hrow)
                clear hrow hgrow
                go_wp2
                go_roundw
                case rel => exact ⟨k + 1, c + 3, v2o, v2c, Z ++ [37, Pt.hd16 q, Pt.hd16 r], by go_num, rfl, by omega, by omega, hid' (by rw [List.length_append, HZL.out]; rfl), hid' (by rw [HU.out]; simp), HRW, HB2⟩
                case measure => simp [intOf]; omega
        · skip
          by_cases c3 : 48 ≤ d.toNat
          · skip
            by_cases c4 : d.toNat ≤ 57
            · skip
              have tA : decide ((97 : Int) ≤ (d.toNat : Int)) = false := decide_eq_false (by omega)
              have ta : decide ((d.toNat : Int) ≤ 122) = true := decide_eq_true (by omega)
              have tB : decide ((65 : Int) ≤ (d.toNat : Int)) = false := decide_eq_false (by omega)
              have tb : decide ((d.toNat : Int) ≤ 90) = true := decide_eq_true (by omega)
              have tC : decide ((48 : Int) ≤ (d.toNat : Int)) = true := decide_eq_true (by omega)
              have tc : decide ((d.toNat : Int) ≤ 57) = true := decide_eq_true (by omega)
              have t45 : ((d.toNat : Int) == 45) = false := by rw [beq_eq_false_iff_ne]; omega
              have t46 : ((d.toNat : Int) == 46) = false := by rw [beq_eq_false_iff_ne]; omega
              have t95 : ((d.toNat : Int) == 95) = false := by rw [beq_eq_false_iff_ne]; omega
              have t126 : ((d.toNat : Int) == 126) = false := by rw [beq_eq_false_iff_ne]; omega
              have t47 : ((d.toNat : Int) == 47) = false := by rw [beq_eq_false_iff_ne]; omega
              have hp : Pt.plain d = true := by rw [hPL, tA, ta, tB, tb, tC, tc, t45, t46, t95, t126, t47]; rfl
              rw [HES.out, hp, if_pos rfl] at HU
              have HA : Hid ((wr.alloc (.cells #[.int .u8 (d.toNat : Int)] 5)).ownsRow w.heap.size 5 1 (.slice ro c rc) c (byteCells Z)) := hid' (HO.out.alloc _)
              clear hPL hp
              go_wp2_with (at_builtin; refine wpList_append_own_at _ rfl _ _ 40 rfl w.heap.size 5 i0 (.int .u8 0) 1 1 Tryd.underlying40 HI.out HZ0.out HZ1.out HZ2.out rfl (by decide) (.slice ro c rc) c (byteCells Z) rfl HA.out ⟨wr.heap.size, 0, none⟩ 1 1 [.int .u8 (d.toNat : Int)] rfl rfl (one_cell17 _ _ _) (by simp [Value.oneCell']) (by unfold maxLen; omega) (by omega) (by simp; have := HB.out.size; omega) ?_; intro v3 w3 hown3 hgrow3 _ _; refine Hid.out ?_)
              refine hid' ?_
              rw [bc_snoc17] at hown3
              obtain ⟨v3o, v3c, hv3⟩ := own_shape17 hown3
              subst hv3
              have HO3 := hid' hown3
              have HB3 : Hid (Below w.heap.size w w3) := hid' ((HB.out.alloc HB.out.size _).grown hgrow3 (by simp; have := HB.out.size; omega) (fun k hk => (HA.out.lt k hk).1))
              clear hown3 hgrow3
              go_wp2
              go_roundw
              case rel => exact ⟨k + 1, c + 1, v3o, v3c, Z ++ [d], by go_num, rfl, by omega, by omega, hid' (by rw [List.length_append, HZL.out]; rfl), hid' (by rw [HU.out]; simp), HO3, HB3⟩
              case measure => simp [intOf]; omega
            · skip
              have tA : decide ((97 : Int) ≤ (d.toNat : Int)) = false := decide_eq_false (by omega)
              have ta : decide ((d.toNat : Int) ≤ 122) = true := decide_eq_true (by omega)
              have tB : decide ((65 : Int) ≤ (d.toNat : Int)) = false := decide_eq_false (by omega)
              have tb : decide ((d.toNat : Int) ≤ 90) = true := decide_eq_true (by omega)
              have tC : decide ((48 : Int) ≤ (d.toNat : Int)) = true := decide_eq_true (by omega)
              have tc : decide ((d.toNat : Int) ≤ 57) = false := decide_eq_false (by omega)
              have t45 : ((d.toNat : Int) == 45) = false := by rw [beq_eq_false_iff_ne]; omega
              have t46 : ((d.toNat : Int) == 46) = false := by rw [beq_eq_false_iff_ne]; omega
              have t95 : ((d.toNat : Int) == 95) = false := by rw [beq_eq_false_iff_ne]; omega
              have t126 : ((d.toNat : Int) == 126) = false := by rw [beq_eq_false_iff_ne]; omega
              have t47 : ((d.toNat : Int) == 47) = false := by rw [beq_eq_false_iff_ne]; omega
              have hp : Pt.plain d = false := by rw [hPL, tA, ta, tB, tb, tC, tc, t45, t46, t95, t126, t47]; rfl
              rw [HES.out, hp, if_neg (by decide)] at HU
              clear hPL hp
              go_upto_region 9 with fail
              clear tA ta tB tb tC tc t45 t46 t95 t126 t47
              obtain ⟨q, hq⟩ : ∃ q, d.toNat / 16 = q := ⟨_, rfl⟩
              obtain ⟨r, hr⟩ : ∃ r, d.toNat % 16 = r := ⟨_, rfl⟩
              rw [hq, hr] at HU
              have v1 : (d.toNat : Int).tdiv 16 = (q : Int) := by rw [Int.tdiv_eq_ediv_of_nonneg (by omega)]; omega
              have v2 : (d.toNat : Int).tmod 16 = (r : Int) := by rw [Int.tmod_eq_emod_of_nonneg (by omega)]; omega
              have j1 : q < hb.size := by rw [HBS.out]; omega
              have j2 : r < hb.size := by rw [HBS.out]; omega
              have j1I : (q : Int) < (hb.size : Int) := by omega
              have j2I : (r : Int) < (hb.size : Int) := by omega
              have wq1 : IntKind.u8.wrap (q : Int) = (q : Int) := by rw [IntKind.wrap_u8]; omega
              have wq2 : IntKind.u8.wrap (r : Int) = (r : Int) := by rw [IntKind.wrap_u8]; omega
              have HH1 : Hid (hb[q] = Pt.hd16 q) := hid' (by obtain rfl := HHB.out; exact hexB_at17 q (by omega) j1)
              have HH2 : Hid (hb[r] = Pt.hd16 r) := hid' (by obtain rfl := HHB.out; exact hexB_at17 r (by omega) j2)
              have HQ := hid' hq
              have HRM := hid' hr
              clear hq hr
              obtain ⟨w00, hw00⟩ : ∃ w00, w00 = (wr.alloc (.cells #[.int .u8 37, .int .u8 (hb[q].toNat : Int), .int .u8 (hb[r].toNat : Int)] 5)).drew := ⟨_, rfl⟩
              have hb00 : Below wr.heap.size wr w00 := by rw [hw00]; exact ((Below.refl _ _).alloc (Nat.le_refl _) _).drew
              have HW00 := hid' hw00
              have HR00 : Hid (w00.ownsRow w.heap.size 5 1 (.slice ro c rc) c (byteCells Z)) := hid' (own_kp17 HO.out hb00)
              have HNW : Hid (∀ j u, [Value.int .u8 37, .int .u8 (hb[q].toNat : Int), .int .u8 (hb[r].toNat : Int)][j]? = some u → w00.cell? ((⟨wr.heap.size, 0, none⟩ : Addr).add j) = some u) := hid' (by
                intro j u hj
                have hA : Ar w00 wr.heap.size 5 #[.int .u8 37, .int .u8 (hb[q].toNat : Int), .int .u8 (hb[r].toNat : Int)] := by rw [hw00]; exact heap_alloc_last wr _
                rw [Addr.add_mid, Nat.zero_add]
                exact hA.cell j u (by simpa using hj))
              have HSZ0 : Hid (w.heap.size ≤ w00.heap.size) := hid' (Nat.le_trans HB.out.size hb00.size)
              have HB00 := hid' (below_two HB.out hb00)
              rw [hw00] at HR00 HNW HSZ0
              clear hb00 hw00
              go_wp2
              go_region_law (refine step_app17 (by rfl) _ _ 40 (by rfl) w.heap.size 5 i0 (.int .u8 0) 1 1 Tryd.underlying40 HI.out HZ0.out HZ1.out HZ2.out (by rfl) (by decide) (.slice ro c rc) c (byteCells Z) (by rfl) HR00.out ⟨wr.heap.size, 0, none⟩ 3 3 [.int .u8 37, .int .u8 (hb[q].toNat : Int), .int .u8 (hb[r].toNat : Int)] (by rfl) (by rfl) HNW.out (by simp [Value.oneCell']) (by unfold maxLen; omega) (by omega) HSZ0.out ?_; intro v2 w2 hrow hgrow _; obtain ⟨v2o, v2c, hv2⟩ := own_shape17 hrow; subst hv2)
              all_goals
                have HB2 : Hid (Below w.heap.size w w2) := hid' ((HW00.out ▸ HB00.out).grown hgrow HSZ0.out (fun j hj => (HR00.out.lt j hj).1))
                have HRW : Hid (w2.ownsRow w.heap.size 5 1 (.slice v2o (c + 3) v2c) (c + 3) (byteCells (Z ++ [37, Pt.hd16 q, Pt.hd16 r]))) := hid' (by
                  have e : byteCells (Z ++ [37, Pt.hd16 q, Pt.hd16 r]) = byteCells Z ++ [Value.int .u8 37, .int .u8 (hb[q].toNat : Int), .int .u8 (hb[r].toNat : Int)] := by
                    have h1 := HH1.out
                    have h2 := HH2.out
                    rw [h1, h2]
                    unfold byteCells
                    rw [List.map_append]
                    rfl
                  rw [e]; exact hrow)
                clear hrow hgrow
                go_wp2
                go_roundw
                case rel => exact ⟨k + 1, c + 3, v2o, v2c, Z ++ [37, Pt.hd16 q, Pt.hd16 r], by go_num, rfl, by omega, by omega, hid' (by rw [List.length_append, HZL.out]; rfl), hid' (by rw [HU.out]; simp), HRW, HB2⟩
                case measure => simp [intOf]; omega
          · skip
            by_cases c4 : d.toNat = 45
            · skip
              have tA : decide ((97 : Int) ≤ (d.toNat : Int)) = false := decide_eq_false (by omega)
              have ta : decide ((d.toNat : Int) ≤ 122) = true := decide_eq_true (by omega)
              have tB : decide ((65 : Int) ≤ (d.toNat : Int)) = false := decide_eq_false (by omega)
              have tb : decide ((d.toNat : Int) ≤ 90) = true := decide_eq_true (by omega)
              have tC : decide ((48 : Int) ≤ (d.toNat : Int)) = false := decide_eq_false (by omega)
              have tc : decide ((d.toNat : Int) ≤ 57) = true := decide_eq_true (by omega)
              have t45 : ((d.toNat : Int) == 45) = true := by rw [beq_iff_eq]; omega
              have t46 : ((d.toNat : Int) == 46) = false := by rw [beq_eq_false_iff_ne]; omega
              have t95 : ((d.toNat : Int) == 95) = false := by rw [beq_eq_false_iff_ne]; omega
              have t126 : ((d.toNat : Int) == 126) = false := by rw [beq_eq_false_iff_ne]; omega
              have t47 : ((d.toNat : Int) == 47) = false := by rw [beq_eq_false_iff_ne]; omega
              have hp : Pt.plain d = true := by rw [hPL, tA, ta, tB, tb, tC, tc, t45, t46, t95, t126, t47]; rfl
              clear c4
              rw [HES.out, hp, if_pos rfl] at HU
              have HA : Hid ((wr.alloc (.cells #[.int .u8 (d.toNat : Int)] 5)).ownsRow w.heap.size 5 1 (.slice ro c rc) c (byteCells Z)) := hid' (HO.out.alloc _)
              clear hPL hp
              go_wp2_with (at_builtin; refine wpList_append_own_at _ rfl _ _ 40 rfl w.heap.size 5 i0 (.int .u8 0) 1 1 Tryd.underlying40 HI.out HZ0.out HZ1.out HZ2.out rfl (by decide) (.slice ro c rc) c (byteCells Z) rfl HA.out ⟨wr.heap.size, 0, none⟩ 1 1 [.int .u8 (d.toNat : Int)] rfl rfl (one_cell17 _ _ _) (by simp [Value.oneCell']) (by unfold maxLen; omega) (by omega) (by simp; have := HB.out.size; omega) ?_; intro v3 w3 hown3 hgrow3 _ _; refine Hid.out ?_)
              refine hid' ?_
              rw [bc_snoc17] at hown3
              obtain ⟨v3o, v3c, hv3⟩ := own_shape17 hown3
              subst hv3
              have HO3 := hid' hown3
              have HB3 : Hid (Below w.heap.size w w3) := hid' ((HB.out.alloc HB.out.size _).grown hgrow3 (by simp; have := HB.out.size; omega) (fun k hk => (HA.out.lt k hk).1))
              clear hown3 hgrow3
              go_wp2
              go_roundw
              case rel => exact ⟨k + 1, c + 1, v3o, v3c, Z ++ [d], by go_num, rfl, by omega, by omega, hid' (by rw [List.length_append, HZL.out]; rfl), hid' (by rw [HU.out]; simp), HO3, HB3⟩
              case measure => simp [intOf]; omega
            · skip
              by_cases c5 : d.toNat = 46
              · skip
                have tA : decide ((97 : Int) ≤ (d.toNat : Int)) = false := decide_eq_false (by omega)
                have ta : decide ((d.toNat : Int) ≤ 122) = true := decide_eq_true (by omega)
                have tB : decide ((65 : Int) ≤ (d.toNat : Int)) = false := decide_eq_false (by omega)
                have tb : decide ((d.toNat : Int) ≤ 90) = true := decide_eq_true (by omega)
                have tC : decide ((48 : Int) ≤ (d.toNat : Int)) = false := decide_eq_false (by omega)
                have tc : decide ((d.toNat : Int) ≤ 57) = true := decide_eq_true (by omega)
                have t45 : ((d.toNat : Int) == 45) = false := by rw [beq_eq_false_iff_ne]; omega
                have t46 : ((d.toNat : Int) == 46) = true := by rw [beq_iff_eq]; omega
                have t95 : ((d.toNat : Int) == 95) = false := by rw [beq_eq_false_iff_ne]; omega
                have t126 : ((d.toNat : Int) == 126) = false := by rw [beq_eq_false_iff_ne]; omega
                have t47 : ((d.toNat : Int) == 47) = false := by rw [beq_eq_false_iff_ne]; omega
                have hp : Pt.plain d = true := by rw [hPL, tA, ta, tB, tb, tC, tc, t45, t46, t95, t126, t47]; rfl
                clear c5
                rw [HES.out, hp, if_pos rfl] at HU
                have HA : Hid ((wr.alloc (.cells #[.int .u8 (d.toNat : Int)] 5)).ownsRow w.heap.size 5 1 (.slice ro c rc) c (byteCells Z)) := hid' (HO.out.alloc _)
                clear hPL hp
                go_wp2_with (at_builtin; refine wpList_append_own_at _ rfl _ _ 40 rfl w.heap.size 5 i0 (.int .u8 0) 1 1 Tryd.underlying40 HI.out HZ0.out HZ1.out HZ2.out rfl (by decide) (.slice ro c rc) c (byteCells Z) rfl HA.out ⟨wr.heap.size, 0, none⟩ 1 1 [.int .u8 (d.toNat : Int)] rfl rfl (one_cell17 _ _ _) (by simp [Value.oneCell']) (by unfold maxLen; omega) (by omega) (by simp; have := HB.out.size; omega) ?_; intro v3 w3 hown3 hgrow3 _ _; refine Hid.out ?_)
                refine hid' ?_
                rw [bc_snoc17] at hown3
                obtain ⟨v3o, v3c, hv3⟩ := own_shape17 hown3
                subst hv3
                have HO3 := hid' hown3
                have HB3 : Hid (Below w.heap.size w w3) := hid' ((HB.out.alloc HB.out.size _).grown hgrow3 (by simp; have := HB.out.size; omega) (fun k hk => (HA.out.lt k hk).1))
                clear hown3 hgrow3
                go_wp2
                go_roundw
                case rel => exact ⟨k + 1, c + 1, v3o, v3c, Z ++ [d], by go_num, rfl, by omega, by omega, hid' (by rw [List.length_append, HZL.out]; rfl), hid' (by rw [HU.out]; simp), HO3, HB3⟩
                case measure => simp [intOf]; omega
              · skip
                by_cases c6 : d.toNat = 47
                · skip
                  have tA : decide ((97 : Int) ≤ (d.toNat : Int)) = false := decide_eq_false (by omega)
                  have ta : decide ((d.toNat : Int) ≤ 122) = true := decide_eq_true (by omega)
                  have tB : decide ((65 : Int) ≤ (d.toNat : Int)) = false := decide_eq_false (by omega)
                  have tb : decide ((d.toNat : Int) ≤ 90) = true := decide_eq_true (by omega)
                  have tC : decide ((48 : Int) ≤ (d.toNat : Int)) = false := decide_eq_false (by omega)
                  have tc : decide ((d.toNat : Int) ≤ 57) = true := decide_eq_true (by omega)
                  have t45 : ((d.toNat : Int) == 45) = false := by rw [beq_eq_false_iff_ne]; omega
                  have t46 : ((d.toNat : Int) == 46) = false := by rw [beq_eq_false_iff_ne]; omega
                  have t95 : ((d.toNat : Int) == 95) = false := by rw [beq_eq_false_iff_ne]; omega
                  have t126 : ((d.toNat : Int) == 126) = false := by rw [beq_eq_false_iff_ne]; omega
                  have t47 : ((d.toNat : Int) == 47) = true := by rw [beq_iff_eq]; omega
                  have hp : Pt.plain d = true := by rw [hPL, tA, ta, tB, tb, tC, tc, t45, t46, t95, t126, t47]; rfl
                  clear c6
                  rw [HES.out, hp, if_pos rfl] at HU
                  have HA : Hid ((wr.alloc (.cells #[.int .u8 (d.toNat : Int)] 5)).ownsRow w.heap.size 5 1 (.slice ro c rc) c (byteCells Z)) := hid' (HO.out.alloc _)
                  clear hPL hp
                  go_wp2_with (at_builtin; refine wpList_append_own_at _ rfl _ _ 40 rfl w.heap.size 5 i0 (.int .u8 0) 1 1 Tryd.underlying40 HI.out HZ0.out HZ1.out HZ2.out rfl (by decide) (.slice ro c rc) c (byteCells Z) rfl HA.out ⟨wr.heap.size, 0, none⟩ 1 1 [.int .u8 (d.toNat : Int)] rfl rfl (one_cell17 _ _ _) (by simp [Value.oneCell']) (by unfold maxLen; omega) (by omega) (by simp; have := HB.out.size; omega) ?_; intro v3 w3 hown3 hgrow3 _ _; refine Hid.out ?_)
                  refine hid' ?_
                  rw [bc_snoc17] at hown3
                  obtain ⟨v3o, v3c, hv3⟩ := own_shape17 hown3
                  subst hv3
                  have HO3 := hid' hown3
                  have HB3 : Hid (Below w.heap.size w w3) := hid' ((HB.out.alloc HB.out.size _).grown hgrow3 (by simp; have := HB.out.size; omega) (fun k hk => (HA.out.lt k hk).1))
                  clear hown3 hgrow3
                  go_wp2
                  go_roundw
                  case rel => exact ⟨k + 1, c + 1, v3o, v3c, Z ++ [d], by go_num, rfl, by omega, by omega, hid' (by rw [List.length_append, HZL.out]; rfl), hid' (by rw [HU.out]; simp), HO3, HB3⟩
                  case measure => simp [intOf]; omega
                · skip
                  have tA : decide ((97 : Int) ≤ (d.toNat : Int)) = false := decide_eq_false (by omega)
                  have ta : decide ((d.toNat : Int) ≤ 122) = true := decide_eq_true (by omega)
                  have tB : decide ((65 : Int) ≤ (d.toNat : Int)) = false := decide_eq_false (by omega)
                  have tb : decide ((d.toNat : Int) ≤ 90) = true := decide_eq_true (by omega)
                  have tC : decide ((48 : Int) ≤ (d.toNat : Int)) = false := decide_eq_false (by omega)
                  have tc : decide ((d.toNat : Int) ≤ 57) = true := decide_eq_true (by omega)
                  have t45 : ((d.toNat : Int) == 45) = false := by rw [beq_eq_false_iff_ne]; omega
                  have t46 : ((d.toNat : Int) == 46) = false := by rw [beq_eq_false_iff_ne]; omega
                  have t95 : ((d.toNat : Int) == 95) = false := by rw [beq_eq_false_iff_ne]; omega
                  have t126 : ((d.toNat : Int) == 126) = false := by rw [beq_eq_false_iff_ne]; omega
                  have t47 : ((d.toNat : Int) == 47) = false := by rw [beq_eq_false_iff_ne]; omega
                  have hp : Pt.plain d = false := by rw [hPL, tA, ta, tB, tb, tC, tc, t45, t46, t95, t126, t47]; rfl
                  rw [HES.out, hp, if_neg (by decide)] at HU
                  clear hPL hp
                  go_upto_region 9 with fail
                  clear tA ta tB tb tC tc t45 t46 t95 t126 t47
                  obtain ⟨q, hq⟩ : ∃ q, d.toNat / 16 = q := ⟨_, rfl⟩
                  obtain ⟨r, hr⟩ : ∃ r, d.toNat % 16 = r := ⟨_, rfl⟩
                  rw [hq, hr] at HU
                  have v1 : (d.toNat : Int).tdiv 16 = (q : Int) := by rw [Int.tdiv_eq_ediv_of_nonneg (by omega)]; omega
                  have v2 : (d.toNat : Int).tmod 16 = (r : Int) := by rw [Int.tmod_eq_emod_of_nonneg (by omega)]; omega
                  have j1 : q < hb.size := by rw [HBS.out]; omega
                  have j2 : r < hb.size := by rw [HBS.out]; omega
                  have j1I : (q : Int) < (hb.size : Int) := by omega
                  have j2I : (r : Int) < (hb.size : Int) := by omega
                  have wq1 : IntKind.u8.wrap (q : Int) = (q : Int) := by rw [IntKind.wrap_u8]; omega
                  have wq2 : IntKind.u8.wrap (r : Int) = (r : Int) := by rw [IntKind.wrap_u8]; omega
                  have HH1 : Hid (hb[q] = Pt.hd16 q) := hid' (by obtain rfl := HHB.out; exact hexB_at17 q (by omega) j1)
                  have HH2 : Hid (hb[r] = Pt.hd16 r) := hid' (by obtain rfl := HHB.out; exact hexB_at17 r (by omega) j2)
                  have HQ := hid' hq
                  have HRM := hid' hr
                  clear hq hr
                  obtain ⟨w00, hw00⟩ : ∃ w00, w00 = (wr.alloc (.cells #[.int .u8 37, .int .u8 (hb[q].toNat : Int), .int .u8 (hb[r].toNat : Int)] 5)).drew := ⟨_, rfl⟩
                  have hb00 : Below wr.heap.size wr w00 := by rw [hw00]; exact ((Below.refl _ _).alloc (Nat.le_refl _) _).drew
                  have HW00 := hid' hw00
                  have HR00 : Hid (w00.ownsRow w.heap.size 5 1 (.slice ro c rc) c (byteCells Z)) := hid' (own_kp17 HO.out hb00)
                  have HNW : Hid (∀ j u, [Value.int .u8 37, .int .u8 (hb[q].toNat : Int), .int .u8 (hb[r].toNat : Int)][j]? = some u → w00.cell? ((⟨wr.heap.size, 0, none⟩ : Addr).add j) = some u) := hid' (by
                    intro j u hj
                    have hA : Ar w00 wr.heap.size 5 #[.int .u8 37, .int .u8 (hb[q].toNat : Int), .int .u8 (hb[r].toNat : Int)] := by rw [hw00]; exact heap_alloc_last wr _
                    rw [Addr.add_mid, Nat.zero_add]
                    exact hA.cell j u (by simpa using hj))
                  have HSZ0 : Hid (w.heap.size ≤ w00.heap.size) := hid' (Nat.le_trans HB.out.size hb00.size)
                  have HB00 := hid' (below_two HB.out hb00)
                  rw [hw00] at HR00 HNW HSZ0
                  clear hb00 hw00
                  go_wp2
                  go_region_law (refine step_app17 (by rfl) _ _ 40 (by rfl) w.heap.size 5 i0 (.int .u8 0) 1 1 Tryd.underlying40 HI.out HZ0.out HZ1.out HZ2.out (by rfl) (by decide) (.slice ro c rc) c (byteCells Z) (by rfl) HR00.out ⟨wr.heap.size, 0, none⟩ 3 3 [.int .u8 37, .int .u8 (hb[q].toNat : Int), .int .u8 (hb[r].toNat : Int)] (by rfl) (by rfl) HNW.out (by simp [Value.oneCell']) (by unfold maxLen; omega) (by omega) HSZ0.out ?_; intro v2 w2 hrow hgrow _; obtain ⟨v2o, v2c, hv2⟩ := own_shape17 hrow; subst hv2)
                  all_goals
                    have HB2 : Hid (Below w.heap.size w w2) := hid' ((HW00.out ▸ HB00.out).grown hgrow HSZ0.out (fun j hj => (HR00.out.lt j hj).1))
                    have HRW : Hid (w2.ownsRow w.heap.size 5 1 (.slice v2o (c + 3) v2c) (c + 3) (byteCells (Z ++ [37, Pt.hd16 q, Pt.hd16 r]))) := hid' (by
                      have e : byteCells (Z ++ [37, Pt.hd16 q, Pt.hd16 r]) = byteCells Z ++ [Value.int .u8 37, .int .u8 (hb[q].toNat : Int), .int .u8 (hb[r].toNat : Int)] := by
                        have h1 := HH1.out
                        have h2 := HH2.out
                        rw [h1, h2]
                        unfold byteCells
                        rw [List.map_append]
                        rfl
                      rw [e]; exact hrow)
                    clear hrow hgrow
                    go_wp2
                    go_roundw
                    case rel => exact ⟨k + 1, c + 3, v2o, v2c, Z ++ [37, Pt.hd16 q, Pt.hd16 r], by go_num, rfl, by omega, by omega, hid' (by rw [List.length_append, HZL.out]; rfl), hid' (by rw [HU.out]; simp), HRW, HB2⟩
                    case measure => simp [intOf]; omega
    · have hlt2 : ¬ (k : Int) < (s.size : Int) := by omega
      have HE : Hid (Pt.esc l = Z) := hid' (by rw [HU.out, List.drop_eq_nil_of_le (by have := HSZ.out; omega)]; simp [Pt.esc])
      have hcv := own_string' HO.out HZL.out
      clear hlt
      go_wp2
      go_ret
      exact ⟨by rw [HE.out]; rfl, HB.out⟩

end Go.Proofs.YtjgdmooedeilhaaDoor
