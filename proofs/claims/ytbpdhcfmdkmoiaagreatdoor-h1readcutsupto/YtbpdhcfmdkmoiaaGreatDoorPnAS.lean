/-
  strings.IndexAny at "/?", of whatever bytes: by its contract.
  strings.IndexAny at "/?" of whatever bytes, onlyHost, areSound: by their contracts.
-/
import Derived.Test.YtbpdhcfmdkmoiaaGreatDoorShelfN
import Derived.Laws.RangeAny
import Derived.Scope
import Derived.Deep.RegionHeld3
import Derived.Test.YtbpdhcfmdkmoiaaGreatDoorPnAB
import Derived.Test.YtbpdhcfmdkmoiaaGreatDoorPnAH
import Derived.Test.YtbpdhcfmdkmoiaaGreatDoorPnAI
import Derived.Lib.OthersKept
import Derived.Test.YtbpdhcfmdkmoiaaGreatDoorPnAK
namespace Go.Proofs.YtbpdhcfmdkmoiaaGreatDoor
open Go.RowKit

theorem bl_alloc14 (w : World) (x : Obj) : Below w.heap.size w (w.alloc x) := (Below.refl _ _).alloc (Nat.le_refl _) _
theorem get14 (s : ByteArray) (k : Nat) (h : k < s.size) : s.get! k = s[k]'h := by
  show s.data[k]! = s.data[k]'h
  exact getElem!_pos s.data k h
theorem div64 {n : Nat} (h : (n / 64 == 2) = true) : 128 ≤ n := by
  have := beq_iff_eq.1 h
  omega
/-- Where a rune of more than one byte is read, no byte of it is below 128. -/
theorem dec_skip (s : ByteArray) (i : Nat) (h : i < s.size) (ha : 128 ≤ (s[i]'h).toNat) : 1 ≤ (Utf8.decode s i).2 ∧ ∀ j, j < (Utf8.decode s i).2 → ∃ hj : i + j < s.size, 128 ≤ (s[i + j]'hj).toNat := by
  have key0 : ∃ hj : i + 0 < s.size, 128 ≤ (s[i + 0]'hj).toNat := ⟨h, ha⟩
  have key : ∀ k, (decide (i + k < s.size) && ((s.get! (i + k)).toNat / 64 == 2)) = true → ∃ hj : i + k < s.size, 128 ≤ (s[i + k]'hj).toNat := by
    intro k hk
    rw [Bool.and_eq_true] at hk
    have hj := of_decide_eq_true hk.1
    have h2 := hk.2
    rw [get14 s (i + k) hj] at h2
    exact ⟨hj, div64 h2⟩
  have hb0 : ¬ (s.get! (i + 0)).toNat < 128 := by rw [Nat.add_zero, get14 s i h]; omega
  have one : 1 ≤ 1 ∧ ∀ j, j < 1 → ∃ hj : i + j < s.size, 128 ≤ (s[i + j]'hj).toNat := ⟨Nat.le_refl _, fun j hj => by
    have h0 : j = 0 := by omega
    subst h0
    exact key0⟩
  unfold Utf8.decode
  simp only []
  rw [if_neg hb0]
  split
  · rename_i h1
    rw [Bool.and_eq_true] at h1
    split
    · exact ⟨by simp, fun j hj => by
        rcases j with _ | _ | j
        · exact key0
        · exact key 1 h1.2
        · simp at hj; omega⟩
    · exact one
  · split
    · rename_i h1
      simp only [Bool.and_eq_true] at h1
      split
      · exact ⟨by simp, fun j hj => by
          rcases j with _ | _ | _ | j
          · exact key0
          · exact key 1 (by simp [h1.1.2])
          · exact key 2 (by simp [h1.2])
          · simp at hj; omega⟩
      · exact one
    · split
      · rename_i h1
        simp only [Bool.and_eq_true] at h1
        split
        · exact ⟨by simp, fun j hj => by
            rcases j with _ | _ | _ | _ | j
            · exact key0
            · exact key 1 (by simp [h1.1.1.2])
            · exact key 2 (by simp [h1.1.2])
            · exact key 3 (by simp [h1.2])
            · simp at hj; omega⟩
        · exact one
      · exact one
theorem enc_high (r : Int) (h : 128 ≤ r) (rs : ByteArray) (hrs : Utf8.encode r = rs) : rs.size = 2 ∧ (∃ hq : 1 < rs.size, 128 ≤ (rs[1]'hq).toNat) ∨ 3 ≤ rs.size ∧ rs.size ≤ 4 := by
  obtain ⟨c, hc⟩ : ∃ c, (if Utf8.valid r then r.toNat else Utf8.runeError) = c := ⟨_, rfl⟩
  have hc1 : 128 ≤ c := by
    rw [← hc]
    split
    · omega
    · decide
  unfold Utf8.encode at hrs
  simp only [hc] at hrs
  rw [if_neg (show ¬ c < 0x80 by omega)] at hrs
  by_cases h1 : c < 0x800
  · rw [if_pos h1] at hrs
    subst hrs
    refine .inl ⟨rfl, Nat.lt_succ_self 1, ?_⟩
    show 128 ≤ (UInt8.ofNat (0x80 + c % 64)).toNat
    rw [UInt8.toNat_ofNat']
    omega
  · rw [if_neg h1] at hrs
    by_cases h2 : c < 0x10000
    · rw [if_pos h2] at hrs
      subst hrs
      exact .inr ⟨Nat.le_refl 3, Nat.le_succ 3⟩
    · rw [if_neg h2] at hrs
      subst hrs
      exact .inr ⟨Nat.le_succ 3, Nat.le_refl 4⟩

set_option maxHeartbeats 4000000 in
set_option maxRecDepth 20000 in
/-- No rune of more than one byte stands in "/?". -/
theorem cidxr14 (r : Int) (h0 : 128 ≤ r) (h1 : r ≤ 2147483647) (w : World) :
    Calls Tryz.prog 110 #[.string ⟨#[47, 63]⟩, .int .i32 r] w fun e w' => e = .returned (.int .i64 (-1)) ∧ Below w.heap.size w w' := by
  have d1 : ¬ r < 128 := by omega
  have d2 : (0 : Int) ≤ r := by omega
  cases c1 : (r == 65533)
  · obtain ⟨vr, hvr⟩ : ∃ vr, Calls Tryz.prog 123 #[.int .i32 r] w fun e w' => e = .returned (.bool vr) ∧ w' = w := ⟨_, Tryz.utf8_ValidRune r w⟩
    have HV := hid' hvr
    clear hvr
    cases vr
    · go_enter Tryz.func110, Tryz.ntmps110
      go_wp2_with fail
      refine HV.out.mono ?_
      rintro e w1 ⟨rfl, hw⟩
      subst w1
      go_wp2
      go_ret
      exact ⟨rfl, Below.refl _ _⟩
    · obtain ⟨rs, hrs⟩ : ∃ rs, Utf8.encode r = rs := ⟨_, rfl⟩
      rcases enc_high r h0 rs hrs with ⟨hs2, hq, hb⟩ | ⟨hs3, hs4⟩
      · go_enter Tryz.func110, Tryz.ntmps110
        go_wp2_with fail
        refine HV.out.mono ?_
        rintro e w1 ⟨rfl, hw⟩
        subst w1
        go_wp2
        refine wp_scope_straight ?_
        go_wp2
        go_loopw [9] (fun s9 wr => s9 = .int .i64 1 ∧ wr = w) (fun _ _ => 0)
        case atStart => exact ⟨rfl, rfl⟩
        case round =>
          obtain ⟨rfl, hwr⟩ := hrel
          subst hwr
          have q1 : ((63 : Int) == (rs[1].toNat : Int)) = false := beq_false_of_ne (by omega)
          have q2 : ((63 : Int) != (rs[1].toNat : Int)) = true := by unfold bne; rw [q1]; rfl
          have q3 : ¬ (63 : Int) = (rs[1].toNat : Int) := by omega
          have hq2 : (1 : Int) < (rs.size : Int) := by omega
          have q4 : ((((⟨#[47, 63]⟩ : ByteArray)[1]'(by decide)).toNat : Int) != (rs[1].toNat : Int)) = true := q2
          have q5 : ((((⟨#[47, 63]⟩ : ByteArray)[1]'(by decide)).toNat : Int) == (rs[1].toNat : Int)) = false := q1
          have q6 : ¬ (((⟨#[47, 63]⟩ : ByteArray)[1]'(by decide)).toNat : Int) = (rs[1].toNat : Int) := q3
          clear q1 q2 q3
          go_wp2
          refine wp_scope_straight ?_
          go_wp2
          go_quiet (fail)
          have HIB : Hid (∀ W, Calls Tryz.prog 51 #[.string ⟨#[]⟩, .int .u8 (rs[1].toNat : Int)] W fun e w' => e = .returned (.int .i64 (-1)) ∧ w' = W) := hid' (fun W => Tryz.strings_IndexByte ⟨#[]⟩ _ W)
          go_wp2
          have HB7 := hid' (show Below wr.heap.size wr (wr.drewN nq) from ⟨rfl, rfl, rfl, Nat.le_refl _, fun _ _ => rfl⟩)
          generalize wr.drewN nq = w7 at *
          have hw2 : IntKind.i64.wrap 2 = 2 := by decide
          have hex : (⟨#[47, 63]⟩ : ByteArray).extract 2 2 = ⟨#[]⟩ := rfl
          have hne : Nonempty (BW w7) := ⟨⟨w7, Below.refl _ _⟩⟩
          refine wp_region_below_s (by kernel_rfl) (by kernel_rfl) ?_
          repeat (refine QS.step (fun K hK => ?_); go_simp; first | (refine hK _ ?_; clear hK K) | (apply Exists.intro; refine ⟨fun _ => ?_, hK _ ?_⟩; (go_at_call 51; exact Calls.below_same (HIB.out _)); clear hK K))
          refine QS.nil ?_
          rintro _ ⟨⟨wq, hBq⟩, rfl⟩
          have HBq := hid' (below_two HB7.out hBq)
          have hng : (-1 : Int) < 0 := by decide
          have hng2 : decide ((-1 : Int) < 0) = true := by decide
          clear hBq
          go_wp2
          change bodyPost Tryz.prog Tryz.f110 (fun e w' => e = .returned (.int .i64 (-1)) ∧ Below wr.heap.size wr w') Exit.ret _ _
          go_ret
          exact ⟨rfl, HBq.out⟩
      · go_enter Tryz.func110, Tryz.ntmps110
        go_wp2_with fail
        refine HV.out.mono ?_
        rintro e w1 ⟨rfl, hw⟩
        subst w1
        go_wp2
        refine wp_scope_straight ?_
        go_wp2
        have q9 : ¬ (rs.size : Int) - 1 < 2 := by omega
        go_loopw [9] (fun s9 wr => s9 = .int .i64 ((rs.size : Int) - 1) ∧ wr = w) (fun _ _ => 0)
        case atStart => exact ⟨rfl, rfl⟩
        case round =>
          obtain ⟨rfl, hwr⟩ := hrel
          subst hwr
          go_wp2
          go_ret
          exact ⟨rfl, Below.refl _ _⟩
  · obtain rfl : r = 65533 := beq_iff_eq.1 c1
    clear c1 h0 h1 d1 d2
    go_enter Tryz.func110, Tryz.ntmps110
    go_wp2
    go_loopg [5, 6] 2 (fun g _ _ wx => ∃ i : Nat, i + g = 2 ∧ wx = w.iter ⟨#[47, 63]⟩ i)
    case atStart => exact ⟨0, by omega, rfl⟩
    case round =>
      obtain ⟨i, hig, rfl⟩ := hrel
      cases gk with
      | zero =>
        obtain rfl : i = 2 := by omega
        have hnx := run_next_end (P := Tryz.prog) w ⟨#[47, 63]⟩ 2
        go_wp2
        go_ret
        exact ⟨rfl, bl_alloc14 w _⟩
      | succ g =>
        have hi : i = 0 ∨ i = 1 := by omega
        rcases hi with rfl | rfl
        · have hnx := fun ty => run_next_ascii (P := Tryz.prog) w ⟨#[47, 63]⟩ 0 ty (by decide) (by decide)
          have hb : (((⟨#[47, 63]⟩ : ByteArray)[0]'(by decide)).toNat : Int) = 47 := rfl
          rw [hb] at hnx
          go_wp2
          go_roundg g
          case measure => omega
          case rel => exact ⟨1, by omega, rfl⟩
        · have hnx := fun ty => run_next_ascii (P := Tryz.prog) w ⟨#[47, 63]⟩ 1 ty (by decide) (by decide)
          have hb : (((⟨#[47, 63]⟩ : ByteArray)[1]'(by decide)).toNat : Int) = 63 := rfl
          rw [hb] at hnx
          go_wp2
          go_roundg g
          case measure => omega
          case rel => exact ⟨2, by omega, rfl⟩

end Go.Proofs.YtbpdhcfmdkmoiaaGreatDoor

namespace Go.Proofs.YtbpdhcfmdkmoiaaGreatDoor
open Go.RowKit

/-- Where the first of "/?" stands. -/
def ixV (L : List UInt8) : Int := if Ms.stop L = L.length then -1 else (Ms.stop L : Int)
theorem ctn_goOn (x : UInt8) : ([47, 63] : List UInt8).contains x = !Ms.goOn x := by
  unfold Ms.goOn
  simp only [List.contains_cons, List.contains_nil, Bool.or_false]
  cases (x == 47) <;> cases (x == 63) <;> rfl
theorem idx_ixV (L : List UInt8) : Lib.indexAny L [47, 63] = ixV L := by
  have hno : Lib.NoAny L [47, 63] (Ms.stop L) := fun j b hj hb => by
    rw [ctn_goOn, Ms.stop_lt hj hb]; rfl
  unfold ixV
  by_cases h : Ms.stop L = L.length
  · rw [if_pos h]
    exact Lib.indexAny_none (h ▸ hno)
  · rw [if_neg h]
    have hl : Ms.stop L < L.length := Nat.lt_of_le_of_ne (Ms.stop_le L) h
    have hx : L[Ms.stop L]? = some L[Ms.stop L] := List.getElem?_eq_getElem hl
    exact Lib.indexAny_hit hno hx (by rw [ctn_goOn, Ms.stop_at hx]; rfl)

set_option maxHeartbeats 4000000 in
set_option maxRecDepth 20000 in
theorem cidx_short (s : ByteArray) (w : World) (h8 : s.size ≤ 8) :
    Calls Tryz.prog 92 #[.string s, .string ⟨#[47, 63]⟩] w fun e w' => e = .returned (.int .i64 (Lib.indexAny s.data.toList [47, 63])) ∧ Below w.heap.size w w' := by
  have h8z : decide ((8 : Int) < (s.size : Int)) = false := decide_eq_false (by omega)
  go_enter Tryz.func92, Tryz.ntmps92
  go_wp2_with fail
  refine (Tryz.strings_shouldUseASCIISet _ _).mono ?_
  rw [h8z]
  rintro e w1 ⟨rfl, hw⟩
  subst w1
  go_wp2
  obtain ⟨ib, hib⟩ : ∃ ib, w.heap.size = ib := ⟨_, rfl⟩
  have HIB := hid' hib
  rw [hib]
  go_loopg [9, 10] s.size (fun g _ _ wx => ∃ i : Nat, s.size ≤ i + g ∧ i ≤ s.size ∧ Hid (Below w.heap.size w wx) ∧ wx.heap[ib]? = some (.stringIter s i) ∧ Hid (Lib.NoAny s.data.toList [47, 63] i))
  case atStart => exact ⟨0, by omega, by omega, hid' (bl_alloc14 w _), hib ▸ World.iter_heap w s 0, hid' (Lib.NoAny.zero _ _)⟩
  case round =>
    obtain ⟨i, hig, his, HB, hit, HNO⟩ := hrel
    by_cases hlt : i < s.size
    · have hnx := fun ty => Lib.run_next_any_at (P := Tryz.prog) wr ib s i ty hit hlt
      have HIT := hid' (Lib.iterAt_heap wr ib s i (i + (Utf8.decode s i).2) hit)
      have HBI : Hid (Below w.heap.size w (wr.iterAt ib s (i + (Utf8.decode s i).2))) := hid' (Lib.below_iterAt HB.out (Nat.le_of_eq HIB.out) s _)
      have hx : s.data.toList[i]? = some (s[i]'hlt) := Lib.data_getElem? s i hlt
      by_cases hasc : (s[i]'hlt).toNat < 128
      · have hde := decode_ascii s i hlt hasc
        rw [hde] at hnx HIT HBI
        simp only at hnx HIT HBI
        obtain ⟨x, hxx⟩ : ∃ x, s[i]'hlt = x := ⟨_, rfl⟩
        rw [hxx] at hnx hx hasc
        have HX := hid' hx
        have hback : ((x.toNat : Int)).toNat.toUInt8 = x := by simp
        have HR : Hid (∀ W, Calls Tryz.prog 110 #[.string ⟨#[47, 63]⟩, .int .i32 (x.toNat : Int)] W fun e w' => e = .returned (.int .i64 (Lib.indexByte [47, 63] x)) ∧ w' = W) := hid' (fun W => by have := Tryz.strings_IndexRune_ascii ⟨#[47, 63]⟩ (x.toNat : Int) W (by omega) (by omega); rw [hback] at this; exact this)
        have hcon := Lib.contains_iff_indexByte [47, 63] x
        obtain ⟨v, hv⟩ : ∃ v, Lib.indexByte [47, 63] x = v := ⟨_, rfl⟩
        rw [hv] at HR hcon
        clear hde hx hxx hback hv
        cases hin : ([47, 63] : List UInt8).contains x
        · rw [hin] at hcon
          have hlt3 : ¬ ((0 : Int) ≤ v) := of_decide_eq_false hcon.symm
          have HNS := hid' (HNO.out.succ HX.out hin)
          clear hcon
          go_wp2_with fail
          refine (HR.out _).mono ?_
          rintro e w1 ⟨rfl, hw⟩
          subst w1
          go_wp2
          cases gk with
          | zero => omega
          | succ g =>
            go_roundg g
            case measure => omega
            case rel => exact ⟨i + 1, by omega, by omega, HBI, HIT.out, HNS⟩
        · rw [hin] at hcon
          have hge : (0 : Int) ≤ v := of_decide_eq_true hcon.symm
          have HF : Hid (Lib.indexAny s.data.toList [47, 63] = (i : Int)) := hid' (Lib.indexAny_hit HNO.out HX.out hin)
          clear hcon
          go_wp2_with fail
          refine (HR.out _).mono ?_
          rintro e w1 ⟨rfl, hw⟩
          subst w1
          go_wp2
          go_ret
          exact ⟨by rw [HF.out]; rfl, HBI.out⟩
      · obtain ⟨hw1, hsk⟩ := dec_skip s i hlt (by omega)
        have hdh := decode_high s i hlt (by omega)
        have hdl := decode_le s i
        obtain ⟨c, hc⟩ : ∃ c, (Utf8.decode s i).1 = c := ⟨_, rfl⟩
        obtain ⟨d, hd⟩ : ∃ d, (Utf8.decode s i).2 = d := ⟨_, rfl⟩
        rw [hc, hd] at hnx hdh
        rw [hd] at HIT HBI hw1 hsk
        rw [hc] at hdl
        have hds : i + d ≤ s.size := by
          obtain ⟨hj, _⟩ := hsk (d - 1) (by omega)
          omega
        have HNS : Hid (Lib.NoAny s.data.toList [47, 63] (i + d)) := hid' (fun j b hj hb => by
          by_cases h1 : j < i
          · exact HNO.out j b h1 hb
          · obtain ⟨hj2, h2⟩ := hsk (j - i) (by omega)
            have e1 : i + (j - i) = j := by omega
            have hb2 : s.data.toList[j]? = some (s[j]'(by omega)) := Lib.data_getElem? s j (by omega)
            rw [hb2] at hb
            injection hb with hb
            have h3 : 128 ≤ b.toNat := by rw [← hb]; simp only [e1] at h2; exact h2
            rw [ctn_goOn]
            unfold Ms.goOn
            have h4 : (b == 47) = false := beq_false_of_ne (by intro e; rw [e] at h3; exact absurd h3 (by decide))
            have h5 : (b == 63) = false := beq_false_of_ne (by intro e; rw [e] at h3; exact absurd h3 (by decide))
            rw [h4, h5]; rfl)
        have HR : Hid (∀ W, Calls Tryz.prog 110 #[.string ⟨#[47, 63]⟩, .int .i32 (c : Int)] W fun e w' => e = .returned (.int .i64 (-1)) ∧ Below W.heap.size W w') := hid' (fun W => cidxr14 (c : Int) (by omega) (by omega) W)
        clear hsk hx hdh hdl
        go_wp2_with fail
        refine (HR.out _).mono ?_
        rintro e w1 ⟨rfl, hb1⟩
        have HB1 := hid' (below_two HBI.out hb1)
        have HIT1 : Hid (w1.heap[ib]? = some (.stringIter s (i + d))) := hid' (by rw [hb1.block ib (Array.getElem?_eq_some_iff.1 HIT.out).1]; exact HIT.out)
        have hng : ¬ (0 : Int) ≤ -1 := by decide
        clear hb1
        go_wp2
        cases gk with
        | zero => omega
        | succ g =>
          go_roundg g
          case measure => omega
          case rel => exact ⟨i + d, by omega, by omega, HB1, HIT1.out, HNS⟩
    · obtain rfl : i = s.size := by omega
      have hnx := fun ty => Lib.run_next_end_at (P := Tryz.prog) wr ib s s.size ty hit hlt
      have HF : Hid (Lib.indexAny s.data.toList [47, 63] = -1) := hid' (Lib.indexAny_none (by rw [← Lib.size_eq]; exact HNO.out))
      go_wp2
      go_ret
      exact ⟨by rw [HF.out]; rfl, HB.out⟩

theorem zero_set : ∀ w : World, (zeroValue 136).run Tryz.prog w = .ok (.agg (Array.replicate 256 (.bool false))) w := (zero_of_info (show (Tryz.prog.info? 136).map (fun i => (i.zero, i.size)) = some (some (.agg (Array.replicate 256 (.bool false))), 256) by kernel_rfl)).1

theorem cidx14 (s : ByteArray) (w : World) (hs : s.size ≤ 1048576) :
    Calls Tryz.prog 92 #[.string s, .string ⟨#[47, 63]⟩] w fun e w' => e = .returned (.int .i64 (ixV (Ms.tx s))) ∧ Below w.heap.size w w' := by
  have e : ixV (Ms.tx s) = Lib.indexAny s.data.toList [47, 63] := (idx_ixV _).symm
  rw [e]
  by_cases h8 : s.size ≤ 8
  · exact cidx_short s w h8
  · refine (Tryz.strings_IndexAny_long zero_set s ⟨#[47, 63]⟩ w (by decide) (by omega) (by omega) (by decide) ?_).mono ?_
    · intro j b hj
      have : b = 47 ∨ b = 63 := by simpa using List.mem_of_getElem? hj
      rcases this with rfl | rfl <;> decide
    · rintro e w' ⟨rfl, rfl⟩
      exact ⟨rfl, (bl_alloc14 w _).trans ((Below.refl _ _).alloc (by simp) _)⟩

end Go.Proofs.YtbpdhcfmdkmoiaaGreatDoor
