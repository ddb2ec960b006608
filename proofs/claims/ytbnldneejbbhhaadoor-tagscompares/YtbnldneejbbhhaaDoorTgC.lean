/-
  The code's isInner, pieces, endsPiece, first: by their contracts.
-/
import Derived.Test.YtbnldneejbbhhaaDoorTgS
import Derived.Test.YtbnldneejbbhhaaDoorShelf
import Derived.Shelf.Strings.SlTrimAscii
namespace Go.Proofs.YtbnldneejbbhhaaDoor
open Go.RowKit

namespace Tg
theorem u8_is {c : UInt8} {n : Nat} (hn : n < 256) : (c == UInt8.ofNat n) = ((c.toNat : Int) == (n : Int)) := by
  rw [Bool.eq_iff_iff, beq_iff_eq, beq_iff_eq]
  constructor
  · rintro rfl; rw [UInt8.toNat_ofNat', Nat.mod_eq_of_lt hn]
  · intro h
    apply UInt8.toNat_inj.1
    rw [UInt8.toNat_ofNat', Nat.mod_eq_of_lt hn]; omega
theorem blk_in (c : UInt8) : ([32, 9] : List UInt8).contains c = Tx.blkB c := by
  unfold Tx.blkB Tx.blkC
  rw [List.contains_cons, List.contains_cons, List.contains_nil, Bool.or_false]
  rw [show (c == 32) = ((c.toNat : Int) == ((32 : Nat) : Int)) from u8_is (by decide), show (c == 9) = ((c.toNat : Int) == ((9 : Nat) : Int)) from u8_is (by decide)]
  rfl
theorem sep_in (c : UInt8) : ([32, 9, 44] : List UInt8).contains c = sepB c := by
  unfold sepB
  rw [← blk_in]
  simp only [List.contains_cons, List.contains_nil, Bool.or_false, Bool.or_assoc]
theorem trim_sep (l : List UInt8) : Lib.trimLeftS l [32, 9, 44] = pieces l := by
  unfold Lib.trimLeftS pieces
  congr 1
  funext c
  exact sep_in c
theorem trim_blk (l : List UInt8) : Lib.trimLeftS l [32, 9] = l.dropWhile Tx.blkB := by
  unfold Lib.trimLeftS
  congr 1
  funext c
  exact blk_in c
theorem pre_one (l : List UInt8) (c : UInt8) : Lib.hasPrefix l [c] = (l.head? == some c) := by
  unfold Lib.hasPrefix
  cases l with
  | nil => rfl
  | cons a r => simp [List.isPrefixOf]; exact Bool.beq_comm
theorem pre_wk (l : List UInt8) : Lib.hasPrefix l [87, 47] = wk l := by
  unfold Lib.hasPrefix wk
  match l with
  | [] => rfl
  | [a] => simp [List.isPrefixOf]
  | a :: b :: r => simp [List.isPrefixOf]; rw [Bool.beq_comm (a := a), Bool.beq_comm (a := b)]
theorem cut_wk (l : List UInt8) : Lib.trimPrefix l [87, 47] = opq l := by
  unfold Lib.trimPrefix opq wn
  rw [pre_wk]
  cases wk l <;> rfl
theorem cut_q (l : List UInt8) : Lib.trimPrefix l [34] = if l.head? == some 34 then l.drop 1 else l := by
  unfold Lib.trimPrefix
  rw [pre_one]
  rfl
/-- What first answers. -/
def fV (l : List UInt8) : Value := if isOne l then .tuple #[.agg (tV (tagOf l)).toArray, .string ⟨(l.drop (nOf l)).toArray⟩, .bool true] else .tuple #[.agg #[.bool false, .string ⟨#[]⟩], .string ⟨#[]⟩, .bool false]
theorem fV_no {l : List UInt8} (h : isOne l = false) : fV l = .tuple #[.agg #[.bool false, .string ⟨#[]⟩], .string ⟨#[]⟩, .bool false] := by unfold fV; rw [h]; rfl
theorem fV_yes {l : List UInt8} (h : isOne l = true) : fV l = .tuple #[.agg #[.bool (tagOf l).w, .string ⟨(tagOf l).v.toArray⟩], .string ⟨(l.drop (nOf l)).toArray⟩, .bool true] := by unfold fV; rw [h]; rfl
end Tg

set_option maxHeartbeats 1000000 in
theorem cinner15 (c : Int) (b : Bool) (hb : Tg.etC c = b) (w : World) : Calls Tryd.prog 37 #[.int .u8 c] w fun e w' => e = .returned (.bool b) ∧ w' = w := by
  subst hb
  unfold Tg.etC
  cases h1 : (c == 33) <;> cases h2 : decide (35 ≤ c) <;> cases h3 : decide (c ≤ 126) <;> cases h4 : decide (128 ≤ c)
  all_goals
    go_enter Tryd.func37, Tryd.ntmps37
    go_wp2
    go_ret
    exact ⟨rfl, rfl⟩

set_option maxHeartbeats 1000000 in
theorem cpieces15 (s : ByteArray) (l : List UInt8) (hl : s.data.toList = l) (r : ByteArray) (hr : (⟨(Tg.pieces l).toArray⟩ : ByteArray) = r) (w : World) :
    Calls Tryd.prog 19 #[.string s] w fun e w' => e = .returned (.string r) ∧ Below w.heap.size w w' := by
  have hcon := Any.strings_TrimLeft_laid Tryd.lays161 (by kernel_rfl) s ⟨#[32, 9, 44]⟩ w (by decide) (ascii_of_all (by decide))
  change Calls Tryd.prog 35 _ _ (fun e w' => e = .returned (.string ⟨(Lib.trimLeftS s.data.toList [32, 9, 44]).toArray⟩) ∧ Below w.heap.size w w') at hcon
  rw [Tg.trim_sep, hl, hr] at hcon
  clear hr
  go_enter Tryd.func19, Tryd.ntmps19
  go_wp2_with (go_at_call 35; refine hcon.mono ?_; rintro e w' ⟨rfl, hB⟩)
  go_ret
  exact ⟨rfl, hB⟩

set_option maxHeartbeats 1000000 in
theorem cends15 (s : ByteArray) (l : List UInt8) (hl : s.data.toList = l) (b : Bool) (hb : Tg.ends l = b) (w : World) :
    Calls Tryd.prog 21 #[.string s] w fun e w' => e = .returned (.bool b) ∧ Below w.heap.size w w' := by
  have hcon := Any.strings_TrimLeft_laid Tryd.lays161 (by kernel_rfl) s ⟨#[32, 9]⟩ w (by decide) (ascii_of_all (by decide))
  change Calls Tryd.prog 35 _ _ (fun e w' => e = .returned (.string ⟨(Lib.trimLeftS s.data.toList [32, 9]).toArray⟩) ∧ Below w.heap.size w w') at hcon
  rw [Tg.trim_blk, hl] at hcon
  unfold Tg.ends at hb
  obtain ⟨u, hu⟩ : ∃ u, l.dropWhile Tx.blkB = u := ⟨_, rfl⟩
  rw [hu] at hcon hb
  obtain ⟨x, hx⟩ : ∃ x : ByteArray, (⟨u.toArray⟩ : ByteArray) = x := ⟨_, rfl⟩
  have hxl : x.data.toList = u := by rw [← hx]
  rw [hx] at hcon
  have HP : Hid (∀ W, Calls Tryd.prog 38 #[.string x, .string ⟨#[44]⟩] W fun e w' => e = .returned (.bool (u.head? == some 44)) ∧ w' = W) := hid' (fun W => by have := Tryd.strings_HasPrefix x ⟨#[44]⟩ W; rw [← Tg.pre_one, ← hxl]; exact this)
  have HC := hid' hcon
  have e1 : (x.toList == []) = (u == []) := by rw [Lib.toList_data, hxl]
  clear hcon hu hx hxl
  rw [← e1] at hb
  cases h1 : (x.toList == [])
  · rw [h1, Bool.false_or] at hb
    rw [hb] at HP
    clear e1
    go_enter Tryd.func21, Tryd.ntmps21
    go_wp2_with fail
    refine HC.out.mono ?_
    rintro e w1 ⟨rfl, hb1⟩
    go_wp2_with fail
    refine (HP.out _).mono ?_
    rintro e w2 ⟨rfl, hw2⟩
    subst w2
    go_wp2
    go_ret
    exact ⟨rfl, hb1⟩
  · rw [h1, Bool.true_or] at hb
    subst hb
    clear e1
    go_enter Tryd.func21, Tryd.ntmps21
    go_wp2_with fail
    refine HC.out.mono ?_
    rintro e w1 ⟨rfl, hb1⟩
    go_wp2
    go_ret
    exact ⟨rfl, hb1⟩

set_option maxHeartbeats 4000000 in
set_option maxRecDepth 20000 in
theorem cfirst15 (s : ByteArray) (l : List UInt8) (hl : s.data.toList = l) (w : World) (hs : s.size ≤ 140737488355328) :
    Calls Tryd.prog 20 #[.string s] w fun e w' => e = .returned (Tg.fV l) ∧ Below w.heap.size w w' := by
  have HC1 : Hid (∀ W, Calls Tryd.prog 36 #[.string s, .string ⟨#[87, 47]⟩] W fun e w' => e = .returned (.tuple #[.string ⟨(Tg.opq l).toArray⟩, .bool (Tg.wk l)]) ∧ w' = W) := hid' (fun W => by
    have := Tryd.strings_CutPrefix s ⟨#[87, 47]⟩ W
    rw [hl] at this
    rw [← Tg.pre_wk, ← Tg.cut_wk]; exact this)
  obtain ⟨o, ho⟩ : ∃ o : ByteArray, (⟨(Tg.opq l).toArray⟩ : ByteArray) = o := ⟨_, rfl⟩
  have HO : Hid (o.data.toList = Tg.opq l) := hid' (by rw [← ho])
  have hos : o.size ≤ 140737488355328 := by
    rw [← ho, Tg.size_of_l]; unfold Tg.opq
    rw [List.length_drop, ← hl, ← Lib.size_eq]; omega
  obtain ⟨wkb, hwk⟩ : ∃ b, Tg.wk l = b := ⟨_, rfl⟩
  rw [ho, hwk] at HC1
  have HWK := hid' hwk
  have HC2 : Hid (∀ W, Calls Tryd.prog 36 #[.string o, .string ⟨#[34]⟩] W fun e w' => e = .returned (.tuple #[.string ⟨(if (Tg.opq l).head? == some 34 then (Tg.opq l).drop 1 else Tg.opq l).toArray⟩, .bool ((Tg.opq l).head? == some 34)]) ∧ w' = W) := hid' (fun W => by
    have := Tryd.strings_CutPrefix o ⟨#[34]⟩ W
    rw [HO.out] at this
    rw [← Tg.cut_q, ← Tg.pre_one]; exact this)
  obtain ⟨x, hx⟩ : ∃ x : ByteArray, (⟨(if (Tg.opq l).head? == some 34 then (Tg.opq l).drop 1 else Tg.opq l).toArray⟩ : ByteArray) = x := ⟨_, rfl⟩
  obtain ⟨is, his⟩ : ∃ b, ((Tg.opq l).head? == some 34) = b := ⟨_, rfl⟩
  have HXL : Hid (x.data.toList = if is then (Tg.opq l).drop 1 else Tg.opq l) := hid' (by rw [← hx, his])
  rw [hx, his] at HC2
  have HIS := hid' his
  have hxs : x.size ≤ 140737488355328 := by
    rw [Lib.size_eq, HXL.out, ← HO.out]
    rw [Lib.size_eq] at hos
    cases is <;> simp only [Bool.false_eq_true, if_false, if_true, List.length_drop] <;> omega
  obtain ⟨z, hz⟩ : ∃ z, Tg.inn x.data.toList = z := ⟨_, rfl⟩
  have HZ := hid' hz
  have hzb : z ≤ x.size := by rw [← hz, Lib.size_eq]; exact Tg.inn_le _
  have HP : Hid (∀ W, Calls Tryd.prog 38 #[.string (x.extract z x.size), .string ⟨#[34]⟩] W fun e w' => e = .returned (.bool ((x.data.toList.drop z).head? == some 34)) ∧ w' = W) := hid' (fun W => by
    have := Tryd.strings_HasPrefix (x.extract z x.size) ⟨#[34]⟩ W
    rw [Tg.ext_td, List.take_of_length_le (by rw [List.length_drop, ← Lib.size_eq]; exact Nat.le_refl _)] at this ⊢
    rw [← Tg.pre_one]; exact this)
  obtain ⟨hp, hhp⟩ : ∃ b, ((x.data.toList.drop z).head? == some 34) = b := ⟨_, rfl⟩
  rw [hhp] at HP
  have HHP := hid' hhp
  have hxe : x = ByteArray.empty → x.size = 0 := fun e => by rw [e]; rfl
  clear ho hwk hx his hz hhp hl hs
  go_enter Tryd.func20, Tryd.ntmps20
  go_wp2_with (refine wpl_alloc 31 rfl rfl #[.bool false, .string ⟨#[]⟩] zeroC15 ?_)
  intro b0 w0 hb0 ha0 hbe0
  have HX := hid' ha0
  have HB0 := hid' hbe0
  have HG0 := hid' hb0
  clear hb0 ha0 hbe0
  go_wp2_with fail
  refine (HC1.out _).mono ?_
  rintro e w1 ⟨rfl, hw1⟩
  subst w1
  go_wp2_with fail
  refine (HC2.out _).mono ?_
  rintro e w1 ⟨rfl, hw1⟩
  subst w1
  go_wp2
  go_loopw [9] (fun s9 wr => ∃ k : Nat, s9 = .int .i64 (k : Int) ∧ k ≤ z ∧ Hid (wr = w0)) (fun s9 _ => z - (intOf s9).toNat)
  case atStart => exact ⟨0, rfl, Nat.zero_le _, hid' rfl⟩
  case round =>
    obtain ⟨k, rfl, hk, HW⟩ := hrel
    obtain rfl := HW.out
    by_cases hkz : k < z
    · have hks : k < x.size := by omega
      have hks2 : (k : Int) < (x.size : Int) := by omega
      have he : Tg.etC (x[k].toNat : Int) = true := by
        have := Tg.in_at x 0 k (by omega) (by rw [List.drop_zero, HZ.out]; exact hkz)
        simpa using this
      go_wp2_with fail
      refine (cinner15 _ _ he _).mono ?_
      rintro e wq ⟨rfl, hwq⟩
      subst hwq
      go_wp2
      go_roundw
      case rel => exact ⟨k + 1, by go_num, by omega, HW⟩
      case measure => simp [intOf]; omega
    · obtain rfl : k = z := by omega
      have hkx : (k : Int) ≤ (x.size : Int) := by omega
      by_cases hks : k < x.size
      · have hks2 : (k : Int) < (x.size : Int) := by omega
        have he : Tg.etC (x[k].toNat : Int) = false := by
          have := Tg.in_stop x 0 k (by omega) (by rw [List.drop_zero, HZ.out])
          simpa using this
        cases is
        · have HV : Hid (Tg.fV l = .tuple #[.agg #[.bool false, .string ⟨#[]⟩], .string ⟨#[]⟩, .bool false]) := hid' (Tg.fV_no (by unfold Tg.isOne; rw [HIS.out]; rfl))
          go_wp2_with fail
          refine (cinner15 _ _ he _).mono ?_
          rintro e wq ⟨rfl, hwq⟩
          subst hwq
          clear he
          go_wp2_with (refine wpl_store 31 _ _ rfl rfl b0 #[.bool false, .string ⟨#[]⟩] (by kernel_rfl) (by kernel_rfl) _ _ HX.out sizeC15 rfl (by simp [Value.oneCell']) ?_)
          intro w2 ha2 hu2
          have hld := ldC15 ha2
          have HB2 := hid' (HB0.out.trans (hu2.below HG0.out))
          clear ha2 hu2
          go_wp2
          exact bodyPost_ret (v := .tuple #[.agg #[.bool false, .string ⟨#[]⟩], .string ⟨#[]⟩, .bool false]) (by simp [results, Tryd.results20, asAddr, hld]) rfl ⟨by rw [HV.out], HB2.out⟩
        · have HSZ : Hid (Tg.sz l = k) := hid' (by rw [← HZ.out, HXL.out]; rfl)
          have HPQ : Hid ((((Tg.opq l).drop (1 + k)).head? == some 34) = hp) := hid' (by
            have := HHP.out
            rw [HXL.out, if_pos rfl, List.drop_drop] at this
            exact this)
          cases hp
          · have HV : Hid (Tg.fV l = .tuple #[.agg #[.bool false, .string ⟨#[]⟩], .string ⟨#[]⟩, .bool false]) := hid' (Tg.fV_no (by unfold Tg.isOne; rw [HIS.out, HSZ.out, HPQ.out]; rfl))
            go_wp2_with fail
            refine (cinner15 _ _ he _).mono ?_
            rintro e wq ⟨rfl, hwq⟩
            subst hwq
            clear he
            go_wp2_with fail
            refine (HP.out _).mono ?_
            rintro e w1 ⟨rfl, hw1⟩
            subst w1
            go_wp2_with (refine wpl_store 31 _ _ rfl rfl b0 #[.bool false, .string ⟨#[]⟩] (by kernel_rfl) (by kernel_rfl) _ _ HX.out sizeC15 rfl (by simp [Value.oneCell']) ?_)
            intro w2 ha2 hu2
            have hld := ldC15 ha2
            have HB2 := hid' (HB0.out.trans (hu2.below HG0.out))
            clear ha2 hu2
            go_wp2
            exact bodyPost_ret (v := .tuple #[.agg #[.bool false, .string ⟨#[]⟩], .string ⟨#[]⟩, .bool false]) (by simp [results, Tryd.results20, asAddr, hld]) rfl ⟨by rw [HV.out], HB2.out⟩
          · have H1 : Hid (Tg.isOne l = true) := hid' (by unfold Tg.isOne; rw [HIS.out, HSZ.out, HPQ.out]; rfl)
            have hko : k + 2 ≤ o.size := by
              rw [Lib.size_eq, HO.out]
              rcases Nat.lt_or_ge (1 + k) (Tg.opq l).length with h | h
              · omega
              · have := HPQ.out
                rw [List.drop_eq_nil_of_le h] at this
                cases this
            have hko2 : (k : Int) + 2 ≤ (o.size : Int) := by omega
            have hko3 : 1 + k + 1 ≤ o.size := by omega
            have HV : Hid (Tg.fV l = .tuple #[.agg #[.bool wkb, .string (o.extract 0 (k + 2))], .string (o.extract (k + 2) o.size), .bool true]) := hid' (by
              rw [Tg.fV_yes H1.out]
              unfold Tg.tagOf Tg.nOf
              rw [HWK.out, HSZ.out, Tg.ext_td, Tg.ext_td, HO.out, List.drop_zero, Nat.sub_zero, List.take_of_length_le (l := (Tg.opq l).drop (k + 2)) (by rw [List.length_drop, ← HO.out, ← Lib.size_eq]; exact Nat.le_refl _)]
              unfold Tg.opq
              rw [List.drop_drop])
            go_wp2_with fail
            refine (cinner15 _ _ he _).mono ?_
            rintro e wq ⟨rfl, hwq⟩
            subst hwq
            clear he
            go_wp2_with fail
            refine (HP.out _).mono ?_
            rintro e w1 ⟨rfl, hw1⟩
            subst w1
            go_wp2
            have p0 := HX.out.cell 0 _ rfl
            have p1 := HX.out.cell 1 _ rfl
            have pf := HX.out.free 0
            have pg := HX.out.free 1
            go_region
            have HA2 : Hid (Ar (((wq.setCell ⟨b0, 0, none⟩ (.bool wkb)).setCell ⟨b0, 1, none⟩ (.string (o.extract 0 (1 + k + 1)))).drew) b0 31 #[.bool wkb, .string (o.extract 0 (1 + k + 1))]) := hid' (((HX.out.set 0 (.bool wkb)).set 1 (.string (o.extract 0 (1 + k + 1)))).drew)
            have HB2 : Hid (Below w.heap.size w (((wq.setCell ⟨b0, 0, none⟩ (.bool wkb)).setCell ⟨b0, 1, none⟩ (.string (o.extract 0 (1 + k + 1)))).drew)) := hid' (Below.drew (HB0.out.trans (((upd_setCell wq b0 0 (.bool wkb)).below HG0.out).trans ((upd_setCell _ b0 1 (.string (o.extract 0 (1 + k + 1)))).below HG0.out))))
            have hld := ldC15 HA2.out
            clear p0 p1 pf pg
            go_wp2
            exact bodyPost_ret (v := .tuple #[.agg #[.bool wkb, .string (o.extract 0 (1 + k + 1))], .string (o.extract (1 + k + 1) o.size), .bool true]) (by simp [results, Tryd.results20, asAddr, hld]) rfl ⟨by rw [HV.out, show 1 + k + 1 = k + 2 by omega], HB2.out⟩
      · have hks2 : ¬ (k : Int) < (x.size : Int) := by omega
        cases is
        · have HV : Hid (Tg.fV l = .tuple #[.agg #[.bool false, .string ⟨#[]⟩], .string ⟨#[]⟩, .bool false]) := hid' (Tg.fV_no (by unfold Tg.isOne; rw [HIS.out]; rfl))
          skip
          go_wp2_with (refine wpl_store 31 _ _ rfl rfl b0 #[.bool false, .string ⟨#[]⟩] (by kernel_rfl) (by kernel_rfl) _ _ HX.out sizeC15 rfl (by simp [Value.oneCell']) ?_)
          intro w2 ha2 hu2
          have hld := ldC15 ha2
          have HB2 := hid' (HB0.out.trans (hu2.below HG0.out))
          clear ha2 hu2
          go_wp2
          exact bodyPost_ret (v := .tuple #[.agg #[.bool false, .string ⟨#[]⟩], .string ⟨#[]⟩, .bool false]) (by simp [results, Tryd.results20, asAddr, hld]) rfl ⟨by rw [HV.out], HB2.out⟩
        · have HSZ : Hid (Tg.sz l = k) := hid' (by rw [← HZ.out, HXL.out]; rfl)
          have HPQ : Hid ((((Tg.opq l).drop (1 + k)).head? == some 34) = hp) := hid' (by
            have := HHP.out
            rw [HXL.out, if_pos rfl, List.drop_drop] at this
            exact this)
          cases hp
          · have HV : Hid (Tg.fV l = .tuple #[.agg #[.bool false, .string ⟨#[]⟩], .string ⟨#[]⟩, .bool false]) := hid' (Tg.fV_no (by unfold Tg.isOne; rw [HIS.out, HSZ.out, HPQ.out]; rfl))
            skip
            go_wp2_with fail
            refine (HP.out _).mono ?_
            rintro e w1 ⟨rfl, hw1⟩
            subst w1
            go_wp2_with (refine wpl_store 31 _ _ rfl rfl b0 #[.bool false, .string ⟨#[]⟩] (by kernel_rfl) (by kernel_rfl) _ _ HX.out sizeC15 rfl (by simp [Value.oneCell']) ?_)
            intro w2 ha2 hu2
            have hld := ldC15 ha2
            have HB2 := hid' (HB0.out.trans (hu2.below HG0.out))
            clear ha2 hu2
            go_wp2
            exact bodyPost_ret (v := .tuple #[.agg #[.bool false, .string ⟨#[]⟩], .string ⟨#[]⟩, .bool false]) (by simp [results, Tryd.results20, asAddr, hld]) rfl ⟨by rw [HV.out], HB2.out⟩
          · have H1 : Hid (Tg.isOne l = true) := hid' (by unfold Tg.isOne; rw [HIS.out, HSZ.out, HPQ.out]; rfl)
            have hko : k + 2 ≤ o.size := by
              rw [Lib.size_eq, HO.out]
              rcases Nat.lt_or_ge (1 + k) (Tg.opq l).length with h | h
              · omega
              · have := HPQ.out
                rw [List.drop_eq_nil_of_le h] at this
                cases this
            have hko2 : (k : Int) + 2 ≤ (o.size : Int) := by omega
            have hko3 : 1 + k + 1 ≤ o.size := by omega
            have HV : Hid (Tg.fV l = .tuple #[.agg #[.bool wkb, .string (o.extract 0 (k + 2))], .string (o.extract (k + 2) o.size), .bool true]) := hid' (by
              rw [Tg.fV_yes H1.out]
              unfold Tg.tagOf Tg.nOf
              rw [HWK.out, HSZ.out, Tg.ext_td, Tg.ext_td, HO.out, List.drop_zero, Nat.sub_zero, List.take_of_length_le (l := (Tg.opq l).drop (k + 2)) (by rw [List.length_drop, ← HO.out, ← Lib.size_eq]; exact Nat.le_refl _)]
              unfold Tg.opq
              rw [List.drop_drop])
            skip
            go_wp2_with fail
            refine (HP.out _).mono ?_
            rintro e w1 ⟨rfl, hw1⟩
            subst w1
            go_wp2
            have p0 := HX.out.cell 0 _ rfl
            have p1 := HX.out.cell 1 _ rfl
            have pf := HX.out.free 0
            have pg := HX.out.free 1
            go_region
            have HA2 : Hid (Ar (((wr.setCell ⟨b0, 0, none⟩ (.bool wkb)).setCell ⟨b0, 1, none⟩ (.string (o.extract 0 (1 + k + 1)))).drew) b0 31 #[.bool wkb, .string (o.extract 0 (1 + k + 1))]) := hid' (((HX.out.set 0 (.bool wkb)).set 1 (.string (o.extract 0 (1 + k + 1)))).drew)
            have HB2 : Hid (Below w.heap.size w (((wr.setCell ⟨b0, 0, none⟩ (.bool wkb)).setCell ⟨b0, 1, none⟩ (.string (o.extract 0 (1 + k + 1)))).drew)) := hid' (Below.drew (HB0.out.trans (((upd_setCell wr b0 0 (.bool wkb)).below HG0.out).trans ((upd_setCell _ b0 1 (.string (o.extract 0 (1 + k + 1)))).below HG0.out))))
            have hld := ldC15 HA2.out
            clear p0 p1 pf pg
            go_wp2
            exact bodyPost_ret (v := .tuple #[.agg #[.bool wkb, .string (o.extract 0 (1 + k + 1))], .string (o.extract (1 + k + 1) o.size), .bool true]) (by simp [results, Tryd.results20, asAddr, hld]) rfl ⟨by rw [HV.out, show 1 + k + 1 = k + 2 by omega], HB2.out⟩

end Go.Proofs.YtbnldneejbbhhaaDoor
