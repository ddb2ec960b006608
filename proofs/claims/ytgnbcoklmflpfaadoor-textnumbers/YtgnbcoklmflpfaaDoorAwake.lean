/-
  awake, the chapter's examples: it returns true, whatever lies in memory, if the library's table of powers reads as its text lays it.
-/
import Derived.Test.YtgnbcoklmflpfaaDoorToks
import Derived.Test.YtgnbcoklmflpfaaDoorNums
import Derived.Test.YtgnbcoklmflpfaaDoorList
namespace Go.Proofs.YtgnbcoklmflpfaaDoor
open Go.RowKit

/-- What a call has built by append, as texts. -/
theorem strs_own {w : World} {B : Nat} {v : Value} {l : List (List UInt8)} (h : w.ownsRow B 9 1 v l.length (strCells l)) : Strs w v l := by
  rcases h.2 with ⟨rfl, hn⟩ | ⟨g, cap, cur, rfl, _⟩
  · exact ⟨none, 0, by rw [hn], fun j hj => absurd hj (by omega)⟩
  · refine ⟨some ⟨g, 0, none⟩, cap, rfl, fun j hj => ⟨g, 0, rfl, ?_⟩⟩
    have := h.cells (g := g) rfl j (.string ⟨l[j].toArray⟩) (by rw [strCells, List.getElem?_map, List.getElem?_eq_getElem hj]; rfl)
    have hadd : (⟨g, 0, none⟩ : Addr).add j = ⟨g, 0 + j, none⟩ := by unfold Addr.add; split <;> simp_all
    rwa [hadd] at this

theorem Strs.alloc {w : World} {v : Value} {l : List (List UInt8)} (h : Strs w v l) (o : Obj) : Strs (w.alloc o) v l := by
  obtain ⟨a, cap, rfl, hc⟩ := h
  refine ⟨a, cap, rfl, fun j hj => ?_⟩
  obtain ⟨b, o, e, h'⟩ := hc j hj
  exact ⟨b, o, e, (((Below.refl _ w).alloc (Nat.le_refl _) _).cell (World.block_lt_of_cell? w _ h')).trans h'⟩
theorem strs_lit (w : World) (l : List (List UInt8)) (cap : Nat) : Strs (w.alloc (.cells (strCells l).toArray 9)) (.slice (some ⟨w.heap.size, 0, none⟩) l.length cap) l := by
  refine ⟨_, _, rfl, fun j hj => ⟨_, _, rfl, ?_⟩⟩
  rw [World.cell?_alloc_mark]
  simp [strCells, List.getElem?_eq_getElem hj]

theorem aw_n1 (w : World) : Calls Tryd.prog 9 #[.string ⟨#[48, 48, 55]⟩] w fun e w' => e = .returned (.tuple #[.int .i64 7, .int .i64 0]) ∧ w' = w :=
  (number_any ⟨#[48, 48, 55]⟩ w (by decide)).mono fun e w' ⟨he, hw⟩ => ⟨he.trans (ret_two (p := Tx.num 10 [48, 48, 55]) (by decide +kernel)).symm, hw⟩
theorem aw_h1 (w : World) : Calls Tryd.prog 11 #[.string ⟨#[49, 70]⟩] w fun e w' => e = .returned (.tuple #[.int .i64 31, .int .i64 0]) ∧ w' = w :=
  (hex_any ⟨#[49, 70]⟩ w (by decide)).mono fun e w' ⟨he, hw⟩ => ⟨he.trans (ret_two (p := Tx.num 16 [49, 70]) (by decide +kernel)).symm, hw⟩
theorem aw_n2 (w : World) : Calls Tryd.prog 9 #[.string ⟨#[57, 50, 50, 51, 51, 55, 50, 48, 51, 54, 56, 53, 52, 55, 55, 53, 56, 48, 56]⟩] w fun e w' => e = .returned (.tuple #[.int .i64 0, .int .i64 5]) ∧ w' = w :=
  (number_any ⟨#[57, 50, 50, 51, 51, 55, 50, 48, 51, 54, 56, 53, 52, 55, 55, 53, 56, 48, 56]⟩ w (by decide)).mono fun e w' ⟨he, hw⟩ => ⟨he.trans (ret_two (p := Tx.num 10 [57, 50, 50, 51, 51, 55, 50, 48, 51, 54, 56, 53, 52, 55, 55, 53, 56, 48, 56]) (by decide +kernel)).symm, hw⟩
theorem aw_l1 (w : World) : Calls Tryd.prog 21 #[.string ⟨#[97, 44, 32, 44, 98, 59, 113, 61, 34, 120, 44, 121, 34, 32, 44, 44, 32, 99]⟩] w fun e w' => ∃ v, e = .returned v ∧ Strs w' v [[97], [98, 59, 113, 61, 34, 120, 44, 121, 34], [99]] ∧ Below w.heap.size w w' :=
  (list_any ⟨#[97, 44, 32, 44, 98, 59, 113, 61, 34, 120, 44, 121, 34, 32, 44, 44, 32, 99]⟩ w (by decide)).mono fun e w' ⟨v, he, ho, hb⟩ => ⟨v, he, by
    have e1 : Tx.list [97, 44, 32, 44, 98, 59, 113, 61, 34, 120, 44, 121, 34, 32, 44, 44, 32, 99] = [[97], [98, 59, 113, 61, 34, 120, 44, 121, 34], [99]] := by decide +kernel
    rw [← e1]; exact strs_own ho, hb⟩
theorem aw_t1 (w : World) : Calls Tryd.prog 23 #[.string ⟨#[97, 45, 98]⟩] w fun e w' => e = .returned (.bool true) ∧ w' = w :=
  (token_any ⟨#[97, 45, 98]⟩ w (by decide)).mono fun e w' ⟨he, hw⟩ => ⟨he.trans (ret_bool (by decide +kernel)), hw⟩
theorem aw_t2 (w : World) : Calls Tryd.prog 23 #[.string ⟨#[97, 32, 98]⟩] w fun e w' => e = .returned (.bool false) ∧ w' = w :=
  (token_any ⟨#[97, 32, 98]⟩ w (by decide)).mono fun e w' ⟨he, hw⟩ => ⟨he.trans (ret_bool (by decide +kernel)), hw⟩
theorem aw_v1 (w : World) : Calls Tryd.prog 24 #[.string ⟨#[97, 32, 98]⟩] w fun e w' => e = .returned (.bool true) ∧ w' = w :=
  (value_any ⟨#[97, 32, 98]⟩ w (by decide)).mono fun e w' ⟨he, hw⟩ => ⟨he.trans (ret_bool (by decide +kernel)), hw⟩
theorem aw_v2 (w : World) : Calls Tryd.prog 24 #[.string ⟨#[32, 97]⟩] w fun e w' => e = .returned (.bool false) ∧ w' = w :=
  (value_any ⟨#[32, 97]⟩ w (by decide)).mono fun e w' ⟨he, hw⟩ => ⟨he.trans (ret_bool (by decide +kernel)), hw⟩
theorem aw_lo (w : World) : Calls Tryd.prog 25 #[.string ⟨#[65, 122]⟩] w fun e w' => e = .returned (.string ⟨#[97, 122]⟩) ∧ Below w.heap.size w w' :=
  (lower_any ⟨#[65, 122]⟩ w (by decide)).mono fun e w' ⟨he, hw⟩ => ⟨he.trans (ret_str (by decide +kernel)), hw⟩
theorem aw_tr (w : World) : Calls Tryd.prog 26 #[.string ⟨#[32, 97, 9]⟩] w fun e w' => e = .returned (.string ⟨#[97]⟩) ∧ w' = w :=
  (trim_any ⟨#[32, 97, 9]⟩ w (by decide)).mono fun e w' ⟨he, hw⟩ => ⟨he.trans (ret_str (by decide +kernel)), hw⟩
theorem aw_de (w : World) (htab : Lib.TabIs Tryd.prog w "internal/strconv.uint64pow10" .u64 Lib.pow10Tab) : Calls Tryd.prog 27 #[.int .i64 (-10)] w fun e w' => e = .returned (.string ⟨#[45, 49, 48]⟩) ∧ Below w.heap.size w w' :=
  (decimal_any (-10) (by decide) (by decide) w htab).mono fun e w' ⟨he, hw⟩ => ⟨he.trans (ret_str (by decide +kernel)), hw⟩
theorem aw_sa (w : World) : Calls Tryd.prog 28 #[.string ⟨#[65]⟩, .string ⟨#[97]⟩] w fun e w' => e = .returned (.bool true) ∧ Below w.heap.size w w' :=
  (same_any ⟨#[65]⟩ ⟨#[97]⟩ w (by decide) (by decide)).mono fun e w' ⟨he, hw⟩ => ⟨he.trans (ret_bool (by decide +kernel)), hw⟩

set_option maxHeartbeats 2000000 in
theorem awake_any (w : World) (htab : Lib.TabIs Tryd.prog w "internal/strconv.uint64pow10" .u64 Lib.pow10Tab) :
    Calls Tryd.prog 13 #[] w fun e w' => e = .returned (.bool true) ∧ Below w.heap.size w w' := by
  have HT := hid htab
  clear htab
  go_enter Tryd.func13, Tryd.ntmps13
  go_wp2_with fail
  refine (aw_n1 _).mono ?_
  rintro e w1 ⟨rfl, rfl⟩
  go_wp2_with fail
  refine (aw_h1 _).mono ?_
  rintro e w2 ⟨rfl, rfl⟩
  go_wp2_with fail
  refine (aw_n2 _).mono ?_
  rintro e w3 ⟨rfl, rfl⟩
  go_wp2_with fail
  refine (aw_l1 _).mono ?_
  rintro e w4 ⟨v, rfl, hv, hb4⟩
  have HB4 := hid hb4
  have HV := hid hv
  clear hb4 hv
  go_wp2_with fail
  refine (sameTexts_any v _ [[97], [98, 59, 113, 61, 34, 120, 44, 121, 34], [99]] [[97], [98, 59, 113, 61, 34, 120, 44, 121, 34], [99]] _ (HV.out.alloc _) (strs_lit _ _ _) (by decide) (by decide)).mono ?_
  rintro e w5 ⟨rfl, n5, hw5⟩
  have HB5 : Hid (Below w3.heap.size w3 w5) := hid (by rw [hw5]; exact below_two (below_two HB4.out ((Below.refl _ _).alloc (Nat.le_refl _) _)) (below_drewN _ _))
  have hq : ([[97], [98, 59, 113, 61, 34, 120, 44, 121, 34], [99]] == ([[97], [98, 59, 113, 61, 34, 120, 44, 121, 34], [99]] : List (List UInt8))) = true := by decide
  rw [hq]
  clear hq HB4 HV hw5
  go_wp2_with fail
  refine (aw_t1 _).mono ?_
  rintro e w6 ⟨rfl, rfl⟩
  go_wp2_with fail
  refine (aw_t2 _).mono ?_
  rintro e w7 ⟨rfl, rfl⟩
  go_wp2_with fail
  refine (aw_v1 _).mono ?_
  rintro e w8 ⟨rfl, rfl⟩
  go_wp2_with fail
  refine (aw_v2 _).mono ?_
  rintro e w9 ⟨rfl, rfl⟩
  go_wp2_with fail
  refine (aw_lo _).mono ?_
  rintro e w10 ⟨rfl, hb10⟩
  have HB10 := hid (below_two HB5.out hb10)
  clear hb10 HB5
  go_wp2_with fail
  refine (aw_tr _).mono ?_
  rintro e w11 ⟨rfl, rfl⟩
  go_wp2_with fail
  refine (aw_de _ (tab_below HT.out HB10.out)).mono ?_
  rintro e w12 ⟨rfl, hb12⟩
  have HB12 := hid (below_two HB10.out hb12)
  clear hb12 HB10
  go_wp2_with fail
  refine (aw_sa _).mono ?_
  rintro e w13 ⟨rfl, hb13⟩
  have HB13 := hid (below_two HB12.out hb13)
  clear hb13 HB12
  go_wp2
  go_ret
  exact ⟨rfl, HB13.out⟩

end Go.Proofs.YtgnbcoklmflpfaaDoor
