/-
  The code's Parse and Format: strings.Cut at ';', changed, Decimal of a digit: by their contracts.
-/
import Derived.Test.YtekpjbhhbklboaaDoorPrS
import Derived.Test.YtekpjbhhbklboaaDoorPrG
import Derived.Test.YtekpjbhhbklboaaDoorList
import Derived.Test.YtekpjbhhbklboaaDoorOwn
namespace Go.Proofs.YtekpjbhhbklboaaDoor
open Go.RowKit

theorem size_l (l : List UInt8) : (⟨l.toArray⟩ : ByteArray).size = l.length := by simp [ByteArray.size]

theorem ext_take (s : ByteArray) (o : Nat) : s.extract 0 o = ⟨(s.data.toList.take o).toArray⟩ := by
  apply ByteArray.ext
  rw [ByteArray.data_extract]
  apply Array.toList_inj.1
  simp [Array.toList_extract, List.extract_eq_take_drop]
set_option maxHeartbeats 1000000 in
theorem scut_any (s : ByteArray) (w : World) (hs : s.size ≤ maxLen) :
    Calls Tryd.prog 38 #[.string s, .string ⟨#[59]⟩] w fun e w' => (∃ x y, e = .returned (.tuple #[.string ⟨(Pr.cutW s.data.toList).toArray⟩, .string x, .bool y])) ∧ Below w.heap.size w w' := by
  unfold maxLen at hs
  have hge := Lib.indexByte_ge s.data.toList 59
  by_cases h1 : Lib.indexByte s.data.toList 59 = -1
  · have HE := hid' (Pr.cutW_none h1)
    go_enter Tryd.func38, Tryd.ntmps38
    go_wp2_with fail
    refine (Tryd.stringslite_Index_one s 59 _).mono ?_
    rintro e w1 ⟨rfl, rfl⟩
    rw [h1]
    clear hge h1
    go_wp2
    go_ret3
    exact ⟨⟨⟨#[]⟩, false, by rw [HE.out]; rfl⟩, Below.refl _ _⟩
  · obtain ⟨o, ho⟩ : ∃ o : Nat, Lib.indexByte s.data.toList 59 = (o : Int) := ⟨(Lib.indexByte s.data.toList 59).toNat, by omega⟩
    obtain ⟨he, hlt⟩ := Pr.cutW_some ho
    have HE := hid' he
    have hlt2 : o < s.size := by rw [Lib.size_eq]; exact hlt
    have hlt3 : (o : Int) < (s.size : Int) := by omega
    have hle : (o : Int) ≤ (s.size : Int) := by omega
    have hle1 : (o : Int) + 1 ≤ (s.size : Int) := by omega
    have ho0 : (0 : Int) ≤ (o : Int) := by omega
    have hle2 : o ≤ s.size := by omega
    have hle3 : o + 1 ≤ s.size := by omega
    clear hge h1 he hlt
    go_enter Tryd.func38, Tryd.ntmps38
    go_wp2_with fail
    refine (Tryd.stringslite_Index_one s 59 _).mono ?_
    rintro e w1 ⟨rfl, rfl⟩
    rw [ho]
    clear ho
    go_wp2
    go_quiet (fail)
    go_wp2
    go_ret3
    exact ⟨⟨_, true, by rw [HE.out, ← ext_take]; rfl⟩, below_drewN _ _⟩

theorem cut_any (l : List UInt8) (w : World) (hs : l.length ≤ maxLen) :
    Calls Tryd.prog 25 #[.string ⟨l.toArray⟩, .string ⟨#[59]⟩] w fun e w' => (∃ x y, e = .returned (.tuple #[.string ⟨(Pr.cutW l).toArray⟩, .string x, .bool y])) ∧ Below w.heap.size w w' := by
  go_enter Tryd.func25, Tryd.ntmps25
  go_wp2_with fail
  refine (scut_any ⟨l.toArray⟩ _ (by rw [size_l]; exact hs)).mono ?_
  rintro e w1 ⟨⟨x, y, rfl⟩, hb⟩
  have HB := hid' hb
  clear hb
  go_wp2
  go_ret3
  exact ⟨⟨x, y, rfl⟩, HB.out⟩

/-- text.Decimal of a digit. -/
theorem dec_small (u : Nat) (hu : u ≤ 7) (c : UInt8) (hc : UInt8.ofNat (48 + u) = c) (w : World) : Calls Tryd.prog 30 #[.int .i64 (u : Int)] w fun e w' => e = .returned (.string ⟨#[c]⟩) ∧ w' = w := by
  have HD : Hid (Lib.decDigits u = [UInt8.ofNat (48 + u)]) := hid' (by
    match u, hu with
    | 0, _ => decide +kernel
    | 1, _ => decide +kernel
    | 2, _ => decide +kernel
    | 3, _ => decide +kernel
    | 4, _ => decide +kernel
    | 5, _ => decide +kernel
    | 6, _ => decide +kernel
    | 7, _ => decide +kernel)
  rw [hc] at HD
  clear hc
  go_enter Tryd.func30, Tryd.ntmps30
  go_wp2_with fail
  refine (Tryd.strconv_Itoa_small u (by omega) _).mono ?_
  rintro e w1 ⟨rfl, rfl⟩
  rw [HD.out]
  go_wp2
  go_ret
  exact ⟨rfl, rfl⟩
/-- How a priority is written. -/
def Pr.fmt (u : Nat) (p : Bool) : List UInt8 := [117, 61, UInt8.ofNat (48 + u)] ++ (if p = true then [44, 32, 105] else [])
set_option maxHeartbeats 1000000 in
theorem cfmt_any (x : Int) (p : Bool) (w : World) : Calls Tryd.prog 12 #[.agg #[.int .i64 x, .bool p]] w fun e w' => e = .returned (.string ⟨(Pr.fmt (Pr.kept x) p).toArray⟩) ∧ Below w.heap.size w w' := by
  obtain ⟨u, hu⟩ : ∃ u, Pr.kept x = u := ⟨_, rfl⟩
  have HU7 : Hid (u ≤ 7) := hid' (by rw [← hu]; exact Pr.kept_le x)
  have HU := hid' hu
  rw [hu]
  clear hu
  go_enter Tryd.func12, Tryd.ntmps12
  go_wp2_with (refine wpl_box 24 _ rfl rfl #[.int .i64 x, .bool p] (by kernel_rfl) ?_)
  intro pb w0 hg0 ha0 hb0
  have p0 := ha0.cell 0 _ rfl
  have p1 := ha0.cell 1 _ rfl
  have HA0 := hid' ha0
  have HB0 := hid' hb0
  clear hg0 ha0 hb0
  go_wp2_with fail
  refine (curg_any x p _).mono ?_
  rintro e w1 ⟨rfl, hb1⟩
  rw [HU.out]
  have q1 := (HA0.out.keep hb1).cell 1 _ rfl
  have HB1 := hid' (below_two HB0.out hb1)
  clear hb1 p0 p1
  go_wp2_with fail
  obtain ⟨c, hc⟩ : ∃ c, UInt8.ofNat (48 + u) = c := ⟨_, rfl⟩
  have HC := hid' hc
  refine (dec_small u HU7.out c hc _).mono ?_
  rintro e w2 ⟨rfl, hw⟩
  subst w2
  clear hc
  cases p
  · go_wp2
    go_ret
    exact ⟨ret_str (by unfold Pr.fmt; rw [HC.out]; exact str_cat [117, 61] [c]), HB1.out⟩
  · go_wp2
    go_ret
    refine ⟨ret_str ?_, HB1.out⟩
    unfold Pr.fmt
    rw [HC.out]
    have e1 := str_cat [117, 61] [c]
    have e2 := str_cat [117, 61, c] [44, 32, 105]
    simp only [List.cons_append, List.nil_append] at e1 e2
    rw [e1, e2]
    rfl

end Go.Proofs.YtekpjbhhbklboaaDoor
