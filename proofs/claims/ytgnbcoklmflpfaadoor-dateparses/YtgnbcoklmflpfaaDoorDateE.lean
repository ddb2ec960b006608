/-
  Package date: Parse, by its contract.
-/
import Derived.Test.YtgnbcoklmflpfaaDoorDateD
namespace Go.Proofs.YtgnbcoklmflpfaaDoor
open Go.RowKit

theorem rday_bd (l : List UInt8) (h : l.length = 11) : -1000001 ≤ Dt.rday l ∧ Dt.rday l ≤ 4001000 := by
  have a := Dt.nmb_bd ((l.drop 7).take 4)
  have b := Dt.nmb_bd (l.take 2)
  rw [show ((l.drop 7).take 4).length = 4 by simp [h]] at a
  rw [show (l.take 2).length = 2 by simp [h]] at b
  obtain ⟨c0, c1⟩ := Dt.mth_bd ((l.drop 3).take 3)
  have d := Dt.dYz_bd (Dt.nmb ((l.drop 7).take 4)) a.1 (by omega)
  have e := Dt.dM_bd (Dt.mth ((l.drop 3).take 3)) (Dt.nmb ((l.drop 7).take 4)) c0 (by omega)
  unfold Dt.rday
  omega
theorem rclock_bd (l : List UInt8) (h : l.length = 8) : 0 ≤ Dt.rclock l ∧ Dt.rclock l ≤ 400000 := by
  have a := Dt.nmb_bd (l.take 2)
  have b := Dt.nmb_bd ((l.drop 3).take 2)
  have c := Dt.nmb_bd ((l.drop 6).take 2)
  rw [show (l.take 2).length = 2 by simp [h]] at a
  rw [show ((l.drop 3).take 2).length = 2 by simp [h]] at b
  rw [show ((l.drop 6).take 2).length = 2 by simp [h]] at c
  unfold Dt.rclock
  omega

set_option maxHeartbeats 1000000 in
/-- Parse of 29 bytes: it reads a second, and looks whether that one is written so. -/
theorem parse_29 (s : ByteArray) (hl : s.size = 29) (n : Int) (hn : n = Dt.rsec s.data.toList) (v : List UInt8) (f : Int) (r : Int × Int)
    (hf : Hid (∀ w, Lib.TabIs Tryd.prog w "internal/strconv.uint64pow10" .u64 Lib.pow10Tab → Calls Tryd.prog 14 #[.int .i64 n] w fun e w' => e = .returned (.tuple #[.string ⟨v.toArray⟩, .int .i64 f]) ∧ Below w.heap.size w w'))
    (hr : (f = 0 ∧ v = s.data.toList ∧ r = (n, 0)) ∨ ((f = 0 ∧ v ≠ s.data.toList ∨ f = 5) ∧ r = (0, 20)))
    (w : World) (htab : Lib.TabIs Tryd.prog w "internal/strconv.uint64pow10" .u64 Lib.pow10Tab) :
    Calls Tryd.prog 17 #[.string s] w fun e w' => e = .returned (.tuple #[.int .i64 r.1, .int .i64 r.2]) ∧ Below w.heap.size w w' := by
  have HT := hid' htab
  clear htab
  obtain ⟨A, hA⟩ : ∃ A, Dt.rday (s.extract 5 16).data.toList = A := ⟨_, rfl⟩
  obtain ⟨B, hB⟩ : ∃ B, Dt.rclock (s.extract 17 25).data.toList = B := ⟨_, rfl⟩
  have b1 : -1000001 ≤ A ∧ A ≤ 4001000 := by
    rw [← hA]; exact rday_bd _ (by rw [← Lib.size_eq]; simp [hl])
  have b2 : 0 ≤ B ∧ B ≤ 400000 := by
    rw [← hB]; exact rclock_bd _ (by rw [← Lib.size_eq]; simp [hl])
  have hab : A * 86400 + B = n := by
    rw [hn, ← hA, ← hB, cut_list, cut_list]; rfl
  obtain ⟨b10, b11⟩ := b1
  obtain ⟨b20, b21⟩ := b2
  have HA := hid' hA
  have HB := hid' hB
  have hw : IntKind.i64.wrap (IntKind.i64.wrap (A * 86400) + B) = n := by
    rw [wrap_id' (A * 86400) (by omega) (by omega), wrap_id' _ (by omega) (by omega)]; exact hab
  have s1 : (s.extract 5 16).size = 11 := by simp [hl]
  have s2 : (s.extract 17 25).size = 8 := by simp [hl]
  have hS : Below w.heap.size w w := Below.refl _ _
  have HN := hid' hn
  have HAB := hid' hab
  clear hA hB hn hab
  rcases hr with ⟨rfl, hv, rfl⟩ | ⟨⟨rfl, hv⟩ | rfl, rfl⟩
  · have hve : (v == s.toList) = true := by rw [hv, Lib.toList_data]; simp
    clear hv
    go_enter Tryd.func17, Tryd.ntmps17
    go_wp2
    go_region_held3 (fun W => Below w.heap.size w W) (first | assumption | exact below_two (by assumption) (by assumption) | exact Below.drew (by assumption))
      (first
      | (go_at_call 34; refine (readDay_any (s.extract 5 16) s1 _).mono ?_; rintro e wa ⟨rfl, hba⟩; rw [HA.out])
      | (go_at_call 35; refine (readClock_any (s.extract 17 25) s2 _).mono ?_; rintro e wb ⟨rfl, hbb⟩; rw [HB.out]))
    go_wp2_with fail
    refine (hf.out _ (tab_below HT.out (by assumption))).mono ?_
    rintro e w3 ⟨rfl, hb3⟩
    go_wp2
    go_ret2
    exact ⟨rfl, below_two (by assumption) hb3⟩
  · have hve : (v == s.toList) = false := by rw [Lib.toList_data]; simpa using hv
    clear hv
    go_enter Tryd.func17, Tryd.ntmps17
    go_wp2
    go_region_held3 (fun W => Below w.heap.size w W) (first | assumption | exact below_two (by assumption) (by assumption) | exact Below.drew (by assumption))
      (first
      | (go_at_call 34; refine (readDay_any (s.extract 5 16) s1 _).mono ?_; rintro e wa ⟨rfl, hba⟩; rw [HA.out])
      | (go_at_call 35; refine (readClock_any (s.extract 17 25) s2 _).mono ?_; rintro e wb ⟨rfl, hbb⟩; rw [HB.out]))
    go_wp2_with fail
    refine (hf.out _ (tab_below HT.out (by assumption))).mono ?_
    rintro e w3 ⟨rfl, hb3⟩
    go_wp2
    go_ret2
    exact ⟨rfl, below_two (by assumption) hb3⟩
  · clear HN
    go_enter Tryd.func17, Tryd.ntmps17
    go_wp2
    go_region_held3 (fun W => Below w.heap.size w W) (first | assumption | exact below_two (by assumption) (by assumption) | exact Below.drew (by assumption))
      (first
      | (go_at_call 34; refine (readDay_any (s.extract 5 16) s1 _).mono ?_; rintro e wa ⟨rfl, hba⟩; rw [HA.out])
      | (go_at_call 35; refine (readClock_any (s.extract 17 25) s2 _).mono ?_; rintro e wb ⟨rfl, hbb⟩; rw [HB.out]))
    go_wp2_with fail
    refine (hf.out _ (tab_below HT.out (by assumption))).mono ?_
    rintro e w3 ⟨rfl, hb3⟩
    go_wp2
    go_ret2
    exact ⟨rfl, below_two (by assumption) hb3⟩

theorem parse_yes (n : Int) (l : List UInt8) (h : Dt.Dated n l) (w : World) (htab : Lib.TabIs Tryd.prog w "internal/strconv.uint64pow10" .u64 Lib.pow10Tab) :
    Calls Tryd.prog 17 #[.string ⟨l.toArray⟩] w fun e w' => e = .returned (.tuple #[.int .i64 n, .int .i64 0]) ∧ Below w.heap.size w w' :=
  parse_29 ⟨l.toArray⟩ (by rw [Lib.size_eq]; exact h.len) n h.rsec.symm l 0 (n, 0) (hid' fun w ht => format_any n l h w ht) (Or.inl ⟨rfl, rfl, rfl⟩) w htab

set_option maxHeartbeats 400000 in
theorem parse_short (s : ByteArray) (hl : s.size ≠ 29) (w : World) :
    Calls Tryd.prog 17 #[.string s] w fun e w' => e = .returned (.tuple #[.int .i64 0, .int .i64 20]) ∧ Below w.heap.size w w' := by
  have h : ((s.size : Int) == 29) = false := beq_eq_false_iff_ne.2 (by omega)
  go_enter Tryd.func17, Tryd.ntmps17
  go_wp2
  go_ret2
  exact ⟨rfl, Below.refl _ _⟩

theorem parse_no (s : ByteArray) (h : ∀ n, ¬ Dt.Dated n s.data.toList) (w : World) (htab : Lib.TabIs Tryd.prog w "internal/strconv.uint64pow10" .u64 Lib.pow10Tab) :
    Calls Tryd.prog 17 #[.string s] w fun e w' => e = .returned (.tuple #[.int .i64 0, .int .i64 20]) ∧ Below w.heap.size w w' := by
  by_cases hl : s.size = 29
  · by_cases hr : 0 ≤ Dt.rsec s.data.toList ∧ Dt.rsec s.data.toList ≤ 253402300799
    · obtain ⟨v, hv⟩ := Dt.dated_ex _ hr.1 hr.2
      refine parse_29 s hl _ rfl v 0 (0, 20) (hid' fun w ht => format_any _ v hv w ht) (Or.inr ⟨Or.inl ⟨rfl, ?_⟩, rfl⟩) w htab
      intro e; rw [e] at hv; exact h _ hv
    · exact parse_29 s hl _ rfl [] 5 (0, 20) (hid' fun w _ => (format_none _ (by omega) w).mono fun e w' ⟨a, b⟩ => ⟨a, by rw [b]; exact Below.refl _ _⟩) (Or.inr ⟨Or.inr rfl, rfl⟩) w htab
  · exact parse_short s hl w

end Go.Proofs.YtgnbcoklmflpfaaDoor
