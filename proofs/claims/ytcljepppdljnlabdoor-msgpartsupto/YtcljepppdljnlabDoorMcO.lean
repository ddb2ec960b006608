/-
  strings.IndexAny at "/?" of whatever bytes, onlyHost, areSound: by their contracts.
-/
import Derived.Test.YtcljepppdljnlabDoorMcN
import Derived.Test.YtcljepppdljnlabDoorMcB
import Derived.Lib.OthersKept
namespace Go.Proofs.YtcljepppdljnlabDoor
open Go.RowKit

/-- Where the first of "/?" stands. -/
def ixV (L : List UInt8) : Int := if Ms.stop L = L.length then -1 else (Ms.stop L : Int)
theorem ctn_goOn (x : UInt8) : ([47, 63] : List UInt8).contains x = !Ms.goOn x := by
  unfold Ms.goOn
  simp only [List.contains_cons, List.contains_nil, Bool.or_false]
  cases (x == 47) <;> cases (x == 63) <;> rfl
theorem idx_ixV (L : List UInt8) : Lib.indexAny L [47, 63] = ixV L := by
  have hno : Lib.NoAny L [47, 63] (Ms.stop L) := fun j b hj hb => by
    rw [ctn_goOn, Ms.stop_lt hj hb]; rfl
  unfold ixV
  by_cases h : Ms.stop L = L.length
  · rw [if_pos h]
    exact Lib.indexAny_none (h ▸ hno)
  · rw [if_neg h]
    have hl : Ms.stop L < L.length := Nat.lt_of_le_of_ne (Ms.stop_le L) h
    have hx : L[Ms.stop L]? = some L[Ms.stop L] := List.getElem?_eq_getElem hl
    exact Lib.indexAny_hit hno hx (by rw [ctn_goOn, Ms.stop_at hx]; rfl)

set_option maxHeartbeats 4000000 in
set_option maxRecDepth 20000 in
theorem cidx_short (s : ByteArray) (w : World) (h8 : s.size ≤ 8) :
    Calls Tryd.prog 43 #[.string s, .string ⟨#[47, 63]⟩] w fun e w' => e = .returned (.int .i64 (Lib.indexAny s.data.toList [47, 63])) ∧ Below w.heap.size w w' := by
  have h8z : decide ((8 : Int) < (s.size : Int)) = false := decide_eq_false (by omega)
  go_enter Tryd.func43, Tryd.ntmps43
  go_wp2_with fail
  refine (Tryd.strings_shouldUseASCIISet _ _).mono ?_
  rw [h8z]
  rintro e w1 ⟨rfl, hw⟩
  subst w1
  go_wp2
  obtain ⟨ib, hib⟩ : ∃ ib, w.heap.size = ib := ⟨_, rfl⟩
  have HIB := hid' hib
  rw [hib]
  go_loopg [9, 10] s.size (fun g _ _ wx => ∃ i : Nat, s.size ≤ i + g ∧ i ≤ s.size ∧ Hid (Below w.heap.size w wx) ∧ wx.heap[ib]? = some (.stringIter s i) ∧ Hid (Lib.NoAny s.data.toList [47, 63] i))
  case atStart => exact ⟨0, by omega, by omega, hid' (bl_alloc14 w _), hib ▸ World.iter_heap w s 0, hid' (Lib.NoAny.zero _ _)⟩
  case round =>
    obtain ⟨i, hig, his, HB, hit, HNO⟩ := hrel
    by_cases hlt : i < s.size
    · have hnx := fun ty => Lib.run_next_any_at (P := Tryd.prog) wr ib s i ty hit hlt
      have HIT := hid' (Lib.iterAt_heap wr ib s i (i + (Utf8.decode s i).2) hit)
      have HBI : Hid (Below w.heap.size w (wr.iterAt ib s (i + (Utf8.decode s i).2))) := hid' (Lib.below_iterAt HB.out (Nat.le_of_eq HIB.out) s _)
      have hx : s.data.toList[i]? = some (s[i]'hlt) := Lib.data_getElem? s i hlt
      by_cases hasc : (s[i]'hlt).toNat < 128
      · have hde := decode_ascii s i hlt hasc
        rw [hde] at hnx HIT HBI
        simp only at hnx HIT HBI
        obtain ⟨x, hxx⟩ : ∃ x, s[i]'hlt = x := ⟨_, rfl⟩
        rw [hxx] at hnx hx hasc
        have HX := hid' hx
        have hback : ((x.toNat : Int)).toNat.toUInt8 = x := by simp
        have HR : Hid (∀ W, Calls Tryd.prog 57 #[.string ⟨#[47, 63]⟩, .int .i32 (x.toNat : Int)] W fun e w' => e = .returned (.int .i64 (Lib.indexByte [47, 63] x)) ∧ w' = W) := hid' (fun W => by have := Tryd.strings_IndexRune_ascii ⟨#[47, 63]⟩ (x.toNat : Int) W (by omega) (by omega); rw [hback] at this; exact this)
        have hcon := Lib.contains_iff_indexByte [47, 63] x
        obtain ⟨v, hv⟩ : ∃ v, Lib.indexByte [47, 63] x = v := ⟨_, rfl⟩
        rw [hv] at HR hcon
        clear hde hx hxx hback hv
        cases hin : ([47, 63] : List UInt8).contains x
        · rw [hin] at hcon
          have hlt3 : ¬ ((0 : Int) ≤ v) := of_decide_eq_false hcon.symm
          have HNS := hid' (HNO.out.succ HX.out hin)
          clear hcon
          go_wp2_with fail
          refine (HR.out _).mono ?_
          rintro e w1 ⟨rfl, hw⟩
          subst w1
          go_wp2
          cases gk with
          | zero => omega
          | succ g =>
            go_roundg g
            case measure => omega
            case rel => exact ⟨i + 1, by omega, by omega, HBI, HIT.out, HNS⟩
        · rw [hin] at hcon
          have hge : (0 : Int) ≤ v := of_decide_eq_true hcon.symm
          have HF : Hid (Lib.indexAny s.data.toList [47, 63] = (i : Int)) := hid' (Lib.indexAny_hit HNO.out HX.out hin)
          clear hcon
          go_wp2_with fail
          refine (HR.out _).mono ?_
          rintro e w1 ⟨rfl, hw⟩
          subst w1
          go_wp2
          go_ret
          exact ⟨by rw [HF.out]; rfl, HBI.out⟩
      · obtain ⟨hw1, hsk⟩ := dec_skip s i hlt (by omega)
        have hdh := decode_high s i hlt (by omega)
        have hdl := decode_le s i
        obtain ⟨c, hc⟩ : ∃ c, (Utf8.decode s i).1 = c := ⟨_, rfl⟩
        obtain ⟨d, hd⟩ : ∃ d, (Utf8.decode s i).2 = d := ⟨_, rfl⟩
        rw [hc, hd] at hnx hdh
        rw [hd] at HIT HBI hw1 hsk
        rw [hc] at hdl
        have hds : i + d ≤ s.size := by
          obtain ⟨hj, _⟩ := hsk (d - 1) (by omega)
          omega
        have HNS : Hid (Lib.NoAny s.data.toList [47, 63] (i + d)) := hid' (fun j b hj hb => by
          by_cases h1 : j < i
          · exact HNO.out j b h1 hb
          · obtain ⟨hj2, h2⟩ := hsk (j - i) (by omega)
            have e1 : i + (j - i) = j := by omega
            have hb2 : s.data.toList[j]? = some (s[j]'(by omega)) := Lib.data_getElem? s j (by omega)
            rw [hb2] at hb
            injection hb with hb
            have h3 : 128 ≤ b.toNat := by rw [← hb]; simp only [e1] at h2; exact h2
            rw [ctn_goOn]
            unfold Ms.goOn
            have h4 : (b == 47) = false := beq_false_of_ne (by intro e; rw [e] at h3; exact absurd h3 (by decide))
            have h5 : (b == 63) = false := beq_false_of_ne (by intro e; rw [e] at h3; exact absurd h3 (by decide))
            rw [h4, h5]; rfl)
        have HR : Hid (∀ W, Calls Tryd.prog 57 #[.string ⟨#[47, 63]⟩, .int .i32 (c : Int)] W fun e w' => e = .returned (.int .i64 (-1)) ∧ Below W.heap.size W w') := hid' (fun W => cidxr14 (c : Int) (by omega) (by omega) W)
        clear hsk hx hdh hdl
        go_wp2_with fail
        refine (HR.out _).mono ?_
        rintro e w1 ⟨rfl, hb1⟩
        have HB1 := hid' (below_two HBI.out hb1)
        have HIT1 : Hid (w1.heap[ib]? = some (.stringIter s (i + d))) := hid' (by rw [hb1.block ib (Array.getElem?_eq_some_iff.1 HIT.out).1]; exact HIT.out)
        have hng : ¬ (0 : Int) ≤ -1 := by decide
        clear hb1
        go_wp2
        cases gk with
        | zero => omega
        | succ g =>
          go_roundg g
          case measure => omega
          case rel => exact ⟨i + d, by omega, by omega, HB1, HIT1.out, HNS⟩
    · obtain rfl : i = s.size := by omega
      have hnx := fun ty => Lib.run_next_end_at (P := Tryd.prog) wr ib s s.size ty hit hlt
      have HF : Hid (Lib.indexAny s.data.toList [47, 63] = -1) := hid' (Lib.indexAny_none (by rw [← Lib.size_eq]; exact HNO.out))
      go_wp2
      go_ret
      exact ⟨by rw [HF.out]; rfl, HB.out⟩

theorem zero_set : ∀ w : World, (zeroValue 82).run Tryd.prog w = .ok (.agg (Array.replicate 256 (.bool false))) w := (zero_of_info (show (Tryd.prog.info? 82).map (fun i => (i.zero, i.size)) = some (some (.agg (Array.replicate 256 (.bool false))), 256) by kernel_rfl)).1

theorem cidx14 (s : ByteArray) (w : World) (hs : s.size ≤ 1048576) :
    Calls Tryd.prog 43 #[.string s, .string ⟨#[47, 63]⟩] w fun e w' => e = .returned (.int .i64 (ixV (Ms.tx s))) ∧ Below w.heap.size w w' := by
  have e : ixV (Ms.tx s) = Lib.indexAny s.data.toList [47, 63] := (idx_ixV _).symm
  rw [e]
  by_cases h8 : s.size ≤ 8
  · exact cidx_short s w h8
  · refine (Tryd.strings_IndexAny_long zero_set s ⟨#[47, 63]⟩ w (by decide) (by omega) (by omega) (by decide) ?_).mono ?_
    · intro j b hj
      have : b = 47 ∨ b = 63 := by simpa using List.mem_of_getElem? hj
      rcases this with rfl | rfl <;> decide
    · rintro e w' ⟨rfl, rfl⟩
      exact ⟨rfl, (bl_alloc14 w _).trans ((Below.refl _ _).alloc (by simp) _)⟩

end Go.Proofs.YtcljepppdljnlabDoor
