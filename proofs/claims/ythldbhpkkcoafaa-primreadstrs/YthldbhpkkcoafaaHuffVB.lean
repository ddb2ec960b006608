/-
  ostlerref03.bits, by its contract.
-/
import Derived.Test.YthldbhpkkcoafaaHuffV
namespace Go.Proofs.Ythldbhpkkcoafaa
open Go.RowKit

/-- Bits as bytes of 0 and 1. -/
def bcells (l : List Bool) : List Value := l.map fun b => .int .u8 (b.toNat : Int)
theorem bcells_length (l : List Bool) : (bcells l).length = l.length := by simp [bcells]
theorem bcells_snoc (l : List Bool) (b : Bool) : bcells (l ++ [b]) = bcells l ++ [.int .u8 (b.toNat : Int)] := by simp [bcells]
theorem grown_below8 {w w' : World} {B n : Nat} {e : TypeId} {v : Value} {xs : List Value} (h : w.ownsRow B e 1 v n xs) (hg : w.grownBy w' v.ownBlock) (hB : B ≤ w.heap.size) : Below B w w' :=
  ⟨hg.os, hg.tape, hg.output, hg.size, fun k hk => hg.block k (by omega) (fun e => by have := (World.ownsRow.lt h k e.symm).1; omega)⟩
theorem owns_below {w w' : World} {B n : Nat} {e : TypeId} {v : Value} {xs : List Value} (h : w.ownsRow B e 1 v n xs) (hb : Below w.heap.size w w') : w'.ownsRow B e 1 v n xs :=
  World.ownsRow.kept h (row := none) ⟨hb.os, hb.tape, hb.output, hb.size, fun k hk _ => hb.block k hk⟩ (by cases hv : v.ownBlock <;> simp)
theorem owns_lower {w : World} {B B' n : Nat} {e : TypeId} {v : Value} {xs : List Value} (h : w.ownsRow B e 1 v n xs) (hb : B' ≤ B) : w.ownsRow B' e 1 v n xs := by
  refine ⟨h.1, ?_⟩
  rcases h.2 with hn | ⟨g, cap, cur, hv, hB, rest⟩
  · exact .inl hn
  · exact .inr ⟨g, cap, cur, hv, by omega, rest⟩
theorem own_keep {w w' : World} {B B' : Nat} {v : Value} {l : List Int} (h : Own w B v l) (hb : Below B' w w') (hv : ∀ k, v.ownBlock = some k → k < B') : Own w' B v l := by
  refine ⟨⟨h.1.1, ?_⟩, h.2⟩
  rcases h.1.2 with hn | ⟨g, cap, cur, hv', hB, hg, rest⟩
  · exact .inl hn
  · subst hv'
    exact .inr ⟨g, cap, cur, rfl, hB, by rw [hb.block g (hv g rfl)]; exact hg, rest⟩
theorem own_lt {w : World} {B : Nat} {v : Value} {l : List Int} (h : Own w B v l) : ∀ k, v.ownBlock = some k → k < w.heap.size := fun k hk => (World.ownsRow.lt h.1 k hk).2

/-- What the loops of 'bits' keep: the code in block b, its slices, all ahead of Bo. -/
structure Kept (w0 w : World) (Bo b g0 g1 g2 c0 c1 c2 : Nat) : Prop where
  at3 : Ar w b 67 #[.slice (some ⟨g0, 0, none⟩) 257 c0, .slice (some ⟨g1, 0, none⟩) 257 c1, .slice (some ⟨g2, 0, none⟩) 257 c2]
  o0 : Own w w0.heap.size (.slice (some ⟨g0, 0, none⟩) 257 c0) Hf.ordsL
  o1 : Own w w0.heap.size (.slice (some ⟨g1, 0, none⟩) 257 c1) Hf.oLen
  o2 : Own w w0.heap.size (.slice (some ⟨g2, 0, none⟩) 257 c2) Hf.oCod
  be : Below w0.heap.size w0 w
  lb : b < Bo
  l0 : g0 < Bo
  l1 : g1 < Bo
  l2 : g2 < Bo
  sz : Bo ≤ w.heap.size
  s0 : w0.heap.size ≤ Bo
theorem Kept.below {w0 w w' : World} {Bo b g0 g1 g2 c0 c1 c2 : Nat} (h : Kept w0 w Bo b g0 g1 g2 c0 c1 c2) (hb : Below Bo w w') : Kept w0 w' Bo b g0 g1 g2 c0 c1 c2 :=
  ⟨h.at3.below hb h.lb, own_keep h.o0 hb (fun k e => by simp [Value.ownBlock] at e; subst e; exact h.l0), own_keep h.o1 hb (fun k e => by simp [Value.ownBlock] at e; subst e; exact h.l1), own_keep h.o2 hb (fun k e => by simp [Value.ownBlock] at e; subst e; exact h.l2),
    h.be.trans (hb.mono h.s0), h.lb, h.l0, h.l1, h.l2, Nat.le_trans h.sz hb.size, h.s0⟩
theorem Kept.drew {w0 w : World} {Bo b g0 g1 g2 c0 c1 c2 : Nat} (h : Kept w0 w Bo b g0 g1 g2 c0 c1 c2) : Kept w0 w.drew Bo b g0 g1 g2 c0 c1 c2 := h.below (Below.refl _ _).drew
/-- The code, laid into a variable of the caller's. -/
theorem kept_start {w w1 w2 w3 : World} {b : Nat} {v0 v1 v2 : Value} (h0 : Own w1 w.heap.size v0 Hf.ordsL) (h1 : Own w1 w.heap.size v1 Hf.oLen) (h2 : Own w1 w.heap.size v2 Hf.oCod) (hl1 : Below w.heap.size w w1)
    (hb : w1.heap.size ≤ b) (hl2 : Below w1.heap.size w1 w2) (ha3 : Ar w3 b 67 #[v0, v1, v2]) (hu : Upd b w2 w3) :
    ∃ g0 g1 g2 c0 c1 c2, v0 = .slice (some ⟨g0, 0, none⟩) 257 c0 ∧ v1 = .slice (some ⟨g1, 0, none⟩) 257 c1 ∧ v2 = .slice (some ⟨g2, 0, none⟩) 257 c2 ∧ Kept w w3 w3.heap.size b g0 g1 g2 c0 c1 c2 := by
  have n0 : Hf.ordsL ≠ [] := fun e => by have := Hf.ordsL_length; rw [e] at this; simp at this
  have n1 : Hf.oLen ≠ [] := fun e => by have := Hf.oLen_length; rw [e] at this; simp at this
  have n2 : Hf.oCod ≠ [] := fun e => by have := Hf.oCod_length; rw [e] at this; simp at this
  obtain ⟨g0, c0, rfl⟩ := h0.at n0
  obtain ⟨g1, c1, rfl⟩ := h1.at n1
  obtain ⟨g2, c2, rfl⟩ := h2.at n2
  rw [Hf.ordsL_length] at h0 ha3
  rw [Hf.oLen_length] at h1 ha3
  rw [Hf.oCod_length] at h2 ha3
  have hbe : Below w1.heap.size w1 w3 := hl2.trans (hu.below hb)
  have s := hbe.size
  have s0 := hl1.size
  refine ⟨g0, g1, g2, c0, c1, c2, by rw [Hf.ordsL_length], by rw [Hf.oLen_length], by rw [Hf.oCod_length], ha3, h0.below hbe, h1.below hbe, h2.below hbe, below_two hl1 hbe, ha3.lt, ?_, ?_, ?_, Nat.le_refl _, by omega⟩
  · have := own_lt h0 g0 rfl; omega
  · have := own_lt h1 g1 rfl; omega
  · have := own_lt h2 g2 rfl; omega

set_option maxHeartbeats 2000000 in
set_option maxRecDepth 100000 in
theorem rbits_any (s : ByteArray) (hs : s.size ≤ 2147483648) (w : World) : Calls Try.prog 34 #[.string s] w fun e w' => ∃ v, e = .returned v ∧ w'.ownsRow w.heap.size 5 1 v (Hf.bits s.data.toList).length (bcells (Hf.bits s.data.toList)) ∧ Below w.heap.size w w' := by
  obtain ⟨i0, hi, hz0, hz1, hz2⟩ := info_parts infoByte
  have HI := hid' hi
  have HZ0 := hid' hz0
  have HZ1 := hid' hz1
  have HZ2 := hid' hz2
  clear hi hz0 hz1 hz2
  go_enter Try.func34, Try.ntmps34
  go_wp2_with fail
  refine (rcodes_any _).mono ?_
  rintro e w1 ⟨v0, v1, v2, rfl, ho0, ho1, ho2, hl1⟩
  go_wp2_with (refine wpl_alloc 67 rfl rfl _ zeroCode ?_)
  intro b w2 hb ha2 hl2
  refine wpl_store 67 _ _ rfl rfl b #[v0, v1, v2] (by kernel_rfl) (by kernel_rfl) _ _ ha2 (by exact sizeCode) rfl (by obtain ⟨_, _, rfl⟩ := ho0.shape; obtain ⟨_, _, rfl⟩ := ho1.shape; obtain ⟨_, _, rfl⟩ := ho2.shape; simp [Value.oneCell']) ?_
  intro w3 ha3 hu3
  obtain ⟨g0, g1, g2, c0, c1, c2, rfl, rfl, rfl, hkept⟩ := kept_start ho0 ho1 ho2 hl1 hb hl2 ha3 hu3
  obtain ⟨Bo, hBo⟩ : ∃ Bo, w3.heap.size = Bo := ⟨_, rfl⟩
  rw [hBo] at hkept
  have HK := hid' hkept
  clear ho0 ho1 ho2 hl1 hb ha2 hl2 ha3 hu3 hkept hBo
  go_wp2
  go_loopw [5, 4] (fun s5 ov wr => ∃ k : Nat, s5 = .int .i64 (k : Int) ∧ k ≤ s.size ∧ Hid (wr.ownsRow Bo 5 1 ov (Hf.bits (s.data.toList.take k)).length (bcells (Hf.bits (s.data.toList.take k)))) ∧ Hid (Kept w wr Bo b g0 g1 g2 c0 c1 c2)) (fun s5 _ _ => s.size - (intOf s5).toNat)
  case atStart => exact ⟨0, rfl, Nat.zero_le _, hid' (World.ownsRow_nil _ _ _ _), HK⟩
  case round =>
    clear HK
    obtain ⟨k, rfl, hk, HO, HK⟩ := hrel
    by_cases hlt : k < s.size
    · have hl : k < s.data.toList.length := by rw [← Lib.size_eq]; exact hlt
      obtain ⟨x, hx⟩ : ∃ x : UInt8, s[k] = x := ⟨_, rfl⟩
      have hxl : s.data.toList[k] = x := hx
      have x256 := UInt8.toNat_lt x
      have x257 : x.toNat < 257 := by omega
      have q0 := HK.out.at3.cell 0 _ rfl
      have q1 := HK.out.at3.cell 1 _ rfl
      have q2 := HK.out.at3.cell 2 _ rfl
      have HO0 := hid' HK.out.drew.o0
      go_wp2
      have hxw : IntKind.i64.wrap (x.toNat : Int) = (x.toNat : Int) := by rw [IntKind.wrap_i64]; omega
      go_region_with (go_at_call 43; (try rw [hxw]); refine (rplace_any _ _ _ x.toNat x257 _ w.heap.size HO0.out).mono ?_; rintro e w4 ⟨rfl, hb4⟩)
      all_goals
        obtain ⟨p1, p2, p3, p4⟩ := Hf.pos_at x.toNat x257
        obtain ⟨r1, r2, r3, r4⟩ := Hf.o_at _ p4
        rw [p2] at r1 r3
        rw [p3] at r2 r4
        obtain ⟨len0, len5, len30⟩ := Hf.len_at x.toNat x257
        obtain ⟨p, hp⟩ : ∃ p, Hf.pos x.toNat = p := ⟨_, rfl⟩
        rw [hp] at r3 r4 p4
        obtain ⟨q, hq⟩ : ∃ q, Hf.lenN x.toNat = q := ⟨_, rfl⟩
        obtain ⟨c, hc⟩ : ∃ c, Hf.codN x.toNat = c := ⟨_, rfl⟩
        rw [hq] at r3 r1 len5
        rw [hc] at r2 r4
        have HK4 := hid' ((HK.out.drew).below (hb4.mono HK.out.sz))
        have HO4 := hid' (owns_below (w := wr.drew) HO.out hb4)
        have t1 := HK4.out.at3.cell 1 _ rfl
        have t2 := HK4.out.at3.cell 2 _ rfl
        have t3 := HK4.out.o1.val p _ r3
        have t4 := HK4.out.o2.val p _ r4
        have hp257 : (p : Int) < 257 := by omega
        have HW : Hid (Hf.bits (s.data.toList.take (k + 1)) = Hf.bits (s.data.toList.take k) ++ Hf.bitsN q c) := hid' (by
          rw [Hf.take_snoc _ k hl, hxl, Hf.bits_append]
          have : Hf.bits [x] = Hf.word x.toNat := by simp [Hf.bits]
          rw [this, Hf.word, hq, hc])
        have HP4 : Hid (Hf.oCod[p]? = some (c : Int)) := hid' r4
        rw [hp]
        clear hb4 HK HO HO0 q0 q1 q2 r3 r4 len0 hp hq hc hxl p1 p2 p3
        go_wp2
        go_loopw [7, 4] (fun s7 ov wr => ∃ (j : Nat) (sh : Int), s7 = .int .i64 sh ∧ Hid (sh = (j : Int) - 1 ∧ j ≤ q) ∧ Hid (∃ ob, ob ++ Hf.bitsN j c = Hf.bits (s.data.toList.take (k + 1)) ∧ wr.ownsRow Bo 5 1 ov ob.length (bcells ob)) ∧ Hid (Kept w wr Bo b g0 g1 g2 c0 c1 c2)) (fun s7 _ _ => (intOf s7 + 1).toNat)
        case atStart => exact ⟨q, (q : Int) - 1, rfl, hid' ⟨rfl, Nat.le_refl _⟩, hid' ⟨_, HW.out.symm, HO4.out⟩, HK4⟩
        case round =>
          clear HO4 HK4 t1 t2 t3 t4
          obtain ⟨j, sh, rfl, HJ, HO, HK⟩ := hrel
          cases j with
          | zero =>
            obtain rfl : sh = -1 := by have := HJ.out; omega
            go_wp2
            go_roundw
            case rel =>
              obtain ⟨ob, h1, h2⟩ := HO.out
              have e : ob = Hf.bits (s.data.toList.take (k + 1)) := by simpa [Hf.bitsN] using h1
              subst e
              exact ⟨k + 1, by go_num, by omega, hid' h2, HK⟩
            case measure => simp [intOf]; omega
          | succ j =>
            obtain rfl : sh = (j : Int) := by have := HJ.out; omega
            have hjq : j < q := by have := HJ.out; omega
            have q2 := HK.out.at3.cell 2 _ rfl
            have q4 := HK.out.o2.val p _ HP4.out
            go_wp2
            go_loopw [8, 9] (fun s8 s9 wx => ∃ i y : Nat, s8 = .int .i64 (y : Int) ∧ s9 = .int .i64 (i : Int) ∧ i ≤ j ∧ Hid (y = c / 2 ^ i) ∧ wr = wx) (fun _ s9 _ => j - (intOf s9).toNat)
            case atStart => exact ⟨0, c, rfl, rfl, Nat.zero_le _, hid' (by simp), rfl⟩
            case round =>
              obtain ⟨i, y, rfl, rfl, hij, HY, rfl⟩ := hrel
              have hyc : y ≤ c := by rw [HY.out]; exact Nat.div_le_self _ _
              by_cases hij2 : i < j
              · have hij3 : (i : Int) < (j : Int) := by omega
                obtain ⟨z, hz⟩ : ∃ z, y / 2 = z := ⟨_, rfl⟩
                have hzt : (y : Int).tdiv 2 = (z : Int) := by rw [Int.tdiv_eq_ediv_of_nonneg (by omega)]; omega
                have hze : (y : Int) / 2 = (z : Int) := by omega
                have HZZ := hid' hz
                clear hz
                go_wp2
                go_roundw
                case rel => exact ⟨i + 1, z, rfl, by go_num, by omega, hid' (by rw [← HZZ.out, HY.out, Nat.div_div_eq_div_mul, Nat.pow_succ]), by first | rfl | trivial⟩
                case measure => simp [intOf]; omega
              · have hij3 : (j : Int) ≤ (i : Int) := by omega
                obtain rfl : i = j := by omega
                obtain ⟨bt, hbt⟩ : ∃ bt : Bool, (c / 2 ^ i % 2 == 1) = bt := ⟨_, rfl⟩
                have hb01 : (bt.toNat : Int) = (y : Int) % 2 := by
                  have h1 := Hf.beq_bit (c / 2 ^ i % 2) (by omega)
                  rw [hbt, ← HY.out] at h1
                  omega
                have hrm : (y : Int).tmod 2 = (bt.toNat : Int) := by rw [Int.tmod_eq_emod_of_nonneg (by omega)]; omega
                have hrm2 : (y : Int) % 2 = (bt.toNat : Int) := hb01.symm
                have hbn : bt.toNat ≤ 1 := by cases bt <;> simp
                obtain ⟨z, hz⟩ : ∃ z : Nat, bt.toNat = z := ⟨_, rfl⟩
                rw [hz] at hrm hrm2 hbn
                obtain ⟨ob, n0, xs, HOB, HON, HOX, HOW⟩ : ∃ ob n0 xs, Hid (ob ++ Hf.bitsN (i + 1) c = Hf.bits (s.data.toList.take (k + 1))) ∧ Hid (ob.length = n0) ∧ Hid (bcells ob = xs) ∧ Hid (wr.ownsRow Bo 5 1 u4 n0 xs) := by
                  obtain ⟨ob, h1, h2⟩ := HO.out
                  exact ⟨ob, _, _, hid' h1, hid' rfl, hid' rfl, hid' h2⟩
                have hn0 : n0 ≤ 64424509440 := by
                  have h1 := congrArg List.length HOB.out
                  rw [List.length_append, Hf.bits_length, HON.out] at h1
                  have h2 := (Hf.nbits_le (s.data.toList.take (k + 1))).2
                  rw [List.length_take, ← Lib.size_eq] at h2
                  omega
                have HBT := hid' hbt
                have HZ := hid' hz
                clear hbt hb01 hz HY hyc q2 q4 HO
                go_wp2_with (at_builtin; refine wpList_append_own _ rfl _ _ 41 rfl Bo 5 i0 (.int .u8 0) 1 1 Try.underlying41 HI.out HZ0.out HZ1.out HZ2.out rfl (by decide) _ _ _ rfl (World.ownsRow.alloc HOW.out _) ⟨wr.heap.size, 0, none⟩ 1 1 [.int .u8 (z : Int)] rfl rfl (one_new _ _ _) (fun u hu => by simp at hu; subst hu; rfl) ?a1 ?a2 ?a3 ?_)
                case a1 => unfold maxLen; omega
                case a2 => omega
                case a3 => have := HK.out.sz; simp; omega
                intro vx w5 hown hgrow _
                have HK5 := hid' (HK.out.below (grown_below8 HOW.out (grown_alloc hgrow) HK.out.sz))
                have HO5 : Hid (∃ ob, ob ++ Hf.bitsN i c = Hf.bits (s.data.toList.take (k + 1)) ∧ w5.ownsRow Bo 5 1 vx ob.length (bcells ob)) := hid' (by
                  refine ⟨ob ++ [bt], ?_, ?_⟩
                  · rw [← HOB.out, Hf.bitsN, HBT.out]; simp
                  · rw [bcells_snoc, HOX.out, HZ.out, List.length_append, HON.out]; exact hown)
                clear hown hgrow
                go_wp2
                go_roundw
                case rel => exact ⟨i, (i : Int) - 1, by go_num, hid' ⟨rfl, by omega⟩, HO5, HK5⟩
                case measure => simp [intOf] <;> omega
    · have hk' : k = s.size := by omega
      have ht : s.data.toList.take k = s.data.toList := by rw [hk']; exact List.take_of_length_le (by rw [← Lib.size_eq]; exact Nat.le_refl _)
      rw [ht] at HO
      clear ht
      go_wp2
      go_ret
      exact ⟨_, rfl, owns_lower HO.out HK.out.s0, HK.out.be⟩

end Go.Proofs.Ythldbhpkkcoafaa
