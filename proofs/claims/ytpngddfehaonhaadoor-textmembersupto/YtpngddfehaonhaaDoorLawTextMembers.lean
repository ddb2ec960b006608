/-
  The law TextMembers, by its contract: it returns true for every text that is not too long for the slices of its members.
-/
import Derived.Test.YtpngddfehaonhaaDoorAwake
import Derived.Test.YtpngddfehaonhaaDoorOwn
import Derived.Test.YtpngddfehaonhaaDoorPureMem
namespace Go.Proofs.YtpngddfehaonhaaDoor
open Go.RowKit

/-- Is there a byte 22? -/
def quo (l : List UInt8) : Bool := l.contains 34
theorem quo_snoc (l : List UInt8) (c : UInt8) : quo (l ++ [c]) = (quo l || c == 34) := by
  unfold quo; rw [List.contains_eq_any_beq, List.contains_eq_any_beq, List.any_append]; simp [BEq.comm]
theorem keep_snoc (l : List UInt8) (c : UInt8) : Tx.keep (l ++ [c]) = if Tx.keepB c then Tx.keep l ++ [c] else Tx.keep l := by
  rw [Tx.keep_append]; unfold Tx.keep; rw [List.filter_cons, List.filter_nil]; split <;> simp
theorem keepB_yes (c : UInt8) (h1 : ((c.toNat : Int) != 44) = true) (h2 : ((c.toNat : Int) != 32) = true) (h3 : ((c.toNat : Int) != 9) = true) : Tx.keepB c = true := by
  rw [bne_iff_ne] at h1 h2 h3
  unfold Tx.keepB Tx.blkB Tx.blkC
  simp only [Bool.and_eq_true, bne_iff_ne, Bool.not_eq_true', Bool.or_eq_false_iff, beq_eq_false_iff_ne]
  exact ⟨fun e => h1 (by rw [e]; rfl), h2, h3⟩
theorem keepB_no1 (c : UInt8) (h : ((c.toNat : Int) != 44) = false) : Tx.keepB c = false := by
  rw [bne_eq_false_iff_eq] at h
  have : c = 44 := by apply UInt8.toNat_inj.1; show c.toNat = 44; omega
  subst this; rfl
theorem keepB_no2 (c : UInt8) (h : ((c.toNat : Int) != 32) = false) : Tx.keepB c = false := by
  rw [bne_eq_false_iff_eq] at h
  have : c = 32 := by apply UInt8.toNat_inj.1; show c.toNat = 32; omega
  subst this; rfl
theorem keepB_no3 (c : UInt8) (h : ((c.toNat : Int) != 9) = false) : Tx.keepB c = false := by
  rw [bne_eq_false_iff_eq] at h
  have : c = 9 := by apply UInt8.toNat_inj.1; show c.toNat = 9; omega
  subst this; rfl
theorem keep_le (l : List UInt8) : (Tx.keep l).length ≤ l.length := List.length_filter_le ..
theorem byteCells_snoc (l : List UInt8) (c : UInt8) : byteCells (l ++ [c]) = byteCells l ++ [.int .u8 (c.toNat : Int)] := by unfold byteCells; rw [List.map_append]; rfl

theorem mems_le (r : List UInt8) : ∀ (cur : List UInt8) (q e : Bool), (Tx.mems cur q e r).length ≤ r.length + 1 := by
  have ha : ∀ p : List UInt8, (Tx.addm p).length ≤ 1 := fun p => by unfold Tx.addm; split <;> simp
  induction r with
  | nil => intro cur q e; exact ha cur
  | cons c r ih =>
    intro cur q e
    rw [Tx.mems, List.length_cons]
    repeat' split
    · have := ih (cur ++ [c]) q false; omega
    · have := ih (cur ++ [c]) (!q) false; omega
    · have := ih (cur ++ [c]) q true; omega
    · have h1 := ih [] q false
      have h2 := ha cur
      rw [List.length_append]; omega
    · have := ih (cur ++ [c]) q false; omega
theorem list_le (l : List UInt8) : (Tx.list l).length ≤ l.length + 1 := mems_le l [] false false
theorem q_form (c : UInt8) : Value.bool ((c.toNat : Int) == 34) = .bool (false || c == 34) := by
  congr 1
  rw [Bool.false_or, Bool.eq_iff_iff, beq_iff_eq, beq_iff_eq]
  constructor
  · intro h; apply UInt8.toNat_inj.1; show c.toNat = 34; omega
  · intro h; rw [h]; rfl
theorem new_one (w : World) (u : Value) (t : TypeId) : ∀ (j : Nat) (x : Value), [u][j]? = some x → (w.alloc (.cells #[u] t)).cell? ((⟨w.heap.size, 0, none⟩ : Addr).add j) = some x := by
  intro j x hj
  match j, hj with
  | 0, hj => simp at hj; subst hj; simp [Addr.add]
theorem one_cell (n : Int) : ∀ u ∈ [Value.int .u8 n], u.oneCell' = true := by
  intro u hu; simp at hu; subst hu; rfl

set_option maxRecDepth 20000 in
set_option maxHeartbeats 4000000 in
theorem textMembers_any (s : ByteArray) (w : World) (hs : s.size + 2 ≤ 8796093022208) (htab : Lib.TabIs Tryd.prog w "internal/strconv.uint64pow10" .u64 Lib.pow10Tab) :
    Calls Tryd.prog 8 #[.string s] w fun e w' => e = .returned (.bool true) ∧ Below w.heap.size w w' := by
  have HT := hid htab
  clear htab
  obtain ⟨i0, hi, hz0, hz1, hz2⟩ := info_parts Tryd.info5
  go_enter Tryd.func8, Tryd.ntmps8
  go_wp2_with fail
  refine (list_any s _ hs).mono ?_
  rintro e w1 ⟨lv, rfl, hown1, hb1⟩
  have HV := hid (strs_own hown1)
  have HB1 := hid hb1
  clear hown1 hb1
  go_wp2
  go_loopw [4, 5, 6] (fun q v i wr => ∃ k : Nat, k ≤ s.size ∧ i = .int .i64 k ∧ q = .bool (quo (s.data.toList.take k)) ∧ wr.ownsRow w1.heap.size 5 1 v (Tx.keep (s.data.toList.take k)).length (byteCells (Tx.keep (s.data.toList.take k))) ∧ Below w1.heap.size w1 wr) (fun _ _ i _ => s.size - (intOf i).toNat)
  case atStart => exact ⟨0, Nat.zero_le _, rfl, rfl, World.ownsRow_nil _ _ _ _, Below.refl _ _⟩
  case round =>
    obtain ⟨k, hk, rfl, rfl, hown, hbel⟩ := hrel
    have hsz := hbel.size
    have HB := hid hbel
    clear hbel
    have hkl : (Tx.keep (s.data.toList.take k)).length ≤ k := Nat.le_trans (keep_le _) (List.length_take_le _ _)
    by_cases hlt : k < s.size
    · have HTS := hid (Tx.take_snoc s k hlt)
      obtain ⟨ks, hks⟩ : ∃ ks, ks = Tx.keep (s.data.toList.take k) := ⟨_, rfl⟩
      rw [← hks] at hown hkl
      have HK := hid hks
      obtain ⟨qq, hqq⟩ : ∃ qq, qq = quo (s.data.toList.take k) := ⟨_, rfl⟩
      rw [← hqq]
      have HQ : Hid (quo (s.data.toList.take (k + 1)) = (qq || s[k] == 34)) := hid (by rw [HTS.out, quo_snoc, ← hqq])
      clear hks hqq
      by_cases c44 : ((s[k].toNat : Int) != 44) = true
      · by_cases c32 : ((s[k].toNat : Int) != 32) = true
        · by_cases c9 : ((s[k].toNat : Int) != 9) = true
          · have HKN : Hid (Tx.keep (s.data.toList.take (k + 1)) = ks ++ [s[k]]) := hid (by rw [HTS.out, keep_snoc, if_pos (keepB_yes _ c44 c32 c9), ← HK.out])
            cases qq
            all_goals
              go_wp2_with (at_builtin; refine wpList_append_own _ rfl _ _ 30 rfl w1.heap.size 5 i0 (.int .u8 0) 1 1 Tryd.underlying30 hi hz0 hz1 hz2 rfl (by decide) _ _ _ rfl (hown.alloc _) ⟨_, 0, none⟩ 1 1 [.int .u8 (s[k].toNat : Int)] rfl rfl (new_one _ _ _) (one_cell _) (by unfold maxLen; omega) (by omega) (by simp; omega) ?_; intro v' w3 hown' hgrow _; have HO := hid hown'; have HG := hid hgrow; clear hown' hgrow)
              go_roundw
              case rel =>
                refine ⟨k + 1, by omega, by go_num, ?_, ?_, (HB.out.alloc hsz _).grown HG.out (by simp; omega) (fun k hk => (hown.lt k hk).1)⟩
                · rw [HQ.out]; first | exact q_form _ | rfl
                · rw [HKN.out, List.length_append, byteCells_snoc]; exact HO.out
              case measure => simp [intOf]; omega
          · replace c9 : ((s[k].toNat : Int) != 9) = false := by simpa using c9
            have HKN : Hid (Tx.keep (s.data.toList.take (k + 1)) = ks) := hid (by rw [HTS.out, keep_snoc, if_neg (by rw [keepB_no3 _ c9]; simp), ← HK.out])
            cases qq
            all_goals
              go_wp2
              go_roundw
              case rel => exact ⟨k + 1, by omega, by go_num, by rw [HQ.out]; first | exact q_form _ | rfl, by rw [HKN.out]; exact hown, HB.out⟩
              case measure => simp [intOf]; omega
        · replace c32 : ((s[k].toNat : Int) != 32) = false := by simpa using c32
          have HKN : Hid (Tx.keep (s.data.toList.take (k + 1)) = ks) := hid (by rw [HTS.out, keep_snoc, if_neg (by rw [keepB_no2 _ c32]; simp), ← HK.out])
          cases qq
          all_goals
            go_wp2
            go_roundw
            case rel => exact ⟨k + 1, by omega, by go_num, by rw [HQ.out]; first | exact q_form _ | rfl, by rw [HKN.out]; exact hown, HB.out⟩
            case measure => simp [intOf]; omega
      · replace c44 : ((s[k].toNat : Int) != 44) = false := by simpa using c44
        have HKN : Hid (Tx.keep (s.data.toList.take (k + 1)) = ks) := hid (by rw [HTS.out, keep_snoc, if_neg (by rw [keepB_no1 _ c44]; simp), ← HK.out])
        cases qq
        all_goals
          go_wp2
          go_roundw
          case rel => exact ⟨k + 1, by omega, by go_num, by rw [HQ.out]; first | exact q_form _ | rfl, by rw [HKN.out]; exact hown, HB.out⟩
          case measure => simp [intOf]; omega
    · obtain ⟨all, hall⟩ : ∃ all, all = Tx.keep s.data.toList := ⟨_, rfl⟩
      obtain ⟨qq, hqq⟩ : ∃ qq, qq = quo s.data.toList := ⟨_, rfl⟩
      rw [List.take_of_length_le (by rw [← Lib.size_eq]; omega)] at hown ⊢
      rw [← hall] at hown
      rw [← hqq]
      have HALL := hid hall
      have HQ := hid hqq
      have HOA := hid hown
      clear hall hqq hown hkl
      obtain ⟨ms, hms⟩ : ∃ ms, ms = Tx.list s.data.toList := ⟨_, rfl⟩
      have hmv := HV.out
      rw [← hms] at hmv
      have HMS := hid hms
      have hml : ms.length ≤ s.size + 1 := by rw [hms]; have := list_le s.data.toList; rw [← Lib.size_eq] at this; exact this
      have hfl : ms.flatten.length ≤ s.size := by rw [hms]; have := Tx.flat_list s.data.toList; rw [← Lib.size_eq] at this; exact this
      have hgood : ∀ m ∈ ms, m ≠ [] ∧ Tx.trim m = m := by rw [hms]; exact Tx.list_good _
      have hcomma : qq = false → ∀ m ∈ ms, ∀ x ∈ m, x ≠ 44 := by
        intro hq; rw [hms]; refine Tx.list_comma _ fun x hx e => ?_
        subst e
        have := HQ.out; rw [hq] at this; unfold quo at this
        simp [hx] at this
      have HGOOD := hid hgood
      have HCOMMA := hid hcomma
      clear hms HV hgood hcomma
      obtain ⟨B2, hB2⟩ : ∃ B2, B2 = wr.heap.size := ⟨_, rfl⟩
      have HB2 := hid hB2
      clear hB2
      by_cases hpos : 0 < ms.length
      · obtain ⟨b, o, cap, rfl, hc⟩ := hmv.head hpos
        have HC : Hid (∀ (j : Nat) (hj : j < ms.length), b < B2 ∧ wr.cell? ⟨b, o + j, none⟩ = some (.string ⟨ms[j].toArray⟩)) := hid (fun j hj => by
          have hlt := World.block_lt_of_cell? w1 _ (hc j hj)
          have := HB.out.size
          have := HB2.out
          exact ⟨by simp at hlt; omega, (HB.out.cell hlt).trans (hc j hj)⟩)
        clear hc hmv
        go_wp2
        go_loopw [7, 8] (fun v i w' => ∃ k : Nat, k ≤ ms.length ∧ i = .int .i64 k ∧ w'.ownsRow B2 5 1 v (Tx.keep (ms.take k).flatten).length (byteCells (Tx.keep (ms.take k).flatten)) ∧ Below B2 wr w') (fun _ i _ => ms.length - (intOf i).toNat)
        case atStart => exact ⟨0, Nat.zero_le _, rfl, World.ownsRow_nil _ _ _ _, Below.refl _ _⟩
        case round =>
          obtain ⟨i, hil, rfl, hown, hbel⟩ := hrel
          have hsz2 : B2 ≤ wr.heap.size := by rw [HB2.out]; exact hbel.size
          by_cases hlt2 : i < ms.length
          · obtain ⟨hbB, hcell⟩ := HC.out i hlt2
            replace hcell := (hbel.cell (p := ⟨b, o + i, none⟩) hbB).trans hcell
            obtain ⟨m, hm⟩ : ∃ m, m = ms[i] := ⟨_, rfl⟩
            have hmm : m ∈ ms := by rw [hm]; exact List.getElem_mem _
            have HFL := hid (Tx.flat_at ms i hlt2)
            rw [← hm] at hcell HFL
            obtain ⟨hne, htr⟩ := HGOOD.out m hmm
            obtain ⟨M, hM⟩ : ∃ M : ByteArray, M = ⟨m.toArray⟩ := ⟨_, rfl⟩
            rw [← hM] at hcell
            have hMd : M.data.toList = m := by rw [hM]
            have hMs : M.size = m.length := by rw [Lib.size_eq, hMd]
            have hMl : M.size ≤ s.size := by rw [hMs]; have := Tx.flat_at_le ms i hlt2; rw [← hm] at this; omega
            have hMe : M.toList.isEmpty = false := by rw [Lib.toList_data, hMd]; simpa using hne
            have hMeq : (M.toList == M.toList) = true := by simp
            have HTRIM : Hid (∀ w, Calls Tryd.prog 18 #[.string M] w fun e w' => e = .returned (.string M) ∧ w' = w) := hid (fun w => by
              have := trim_any M w (by unfold maxLen; omega)
              rw [hMd, htr, ← hM] at this; exact this)
            have HMD := hid hMd
            have HMM := hid hmm
            have HBEL := hid hbel
            clear hm hmm hne htr hM hMd hMs hbel
            go_wp2
            go_quiet ((go_at_call 18; exact Calls.quiet_of_same (HTRIM.out _)))
            go_wp2
            obtain ⟨base, hbase⟩ : ∃ base, base = (ms.take i).flatten := ⟨_, rfl⟩
            have hbl : base.length + m.length ≤ s.size := by
              have := Tx.flat_take_le ms (i + 1)
              rw [HFL.out, ← hbase, List.length_append] at this; omega
            rw [← hbase] at hown HFL
            clear hbase
            have hmM : m.length = M.size := by rw [Lib.size_eq, HMD.out]
            go_loopw [7, 9] (fun v jv w' => ∃ j : Nat, j ≤ M.size ∧ jv = .int .i64 j ∧ w'.ownsRow B2 5 1 v (Tx.keep (base ++ m.take j)).length (byteCells (Tx.keep (base ++ m.take j))) ∧ Below B2 wr w') (fun _ jv _ => M.size - (intOf jv).toNat)
            case atStart => exact ⟨0, Nat.zero_le _, rfl, by rw [List.take_zero, List.append_nil]; exact own_below hown (below_drewN _ _), (below_drewN _ _).mono hsz2⟩
            case round =>
              obtain ⟨j, hjl, rfl, hown, hb3⟩ := hrel
              have hsz3 : B2 ≤ wr.heap.size := Nat.le_trans hsz2 hb3.size
              have hkl : (Tx.keep (base ++ m.take j)).length ≤ s.size := by
                have h1 := keep_le (base ++ m.take j)
                rw [List.length_append] at h1
                have h2 := List.length_take_le j m
                have h3 := List.length_take_le' j m
                omega
              replace hcell := (hb3.cell (p := ⟨b, o + i, none⟩) hbB).trans hcell
              have HB3 := hid hb3
              clear hb3 hbl
              by_cases hlj : j < M.size
              · have HTS : Hid (base ++ m.take (j + 1) = (base ++ m.take j) ++ [M[j]]) := hid (by
                  have := Tx.take_snoc M j hlj
                  rw [HMD.out] at this
                  rw [this, List.append_assoc])
                have HIN : Hid (M[j] ∈ m) := hid (by rw [← HMD.out, show M[j] = M.data.toList[j]'(by rw [← Lib.size_eq]; exact hlj) from rfl]; exact List.getElem_mem _)
                obtain ⟨ks, hks⟩ : ∃ ks, ks = Tx.keep (base ++ m.take j) := ⟨_, rfl⟩
                rw [← hks] at hown hkl
                have HK := hid hks
                clear hks hmM
                cases qq
                · have c44e : ((M[j].toNat : Int) == 44) = false := by
                    rw [beq_eq_false_iff_ne]; intro e
                    exact HCOMMA.out rfl m HMM.out M[j] HIN.out (by apply UInt8.toNat_inj.1; show M[j].toNat = 44; omega)
                  have c44 : ((M[j].toNat : Int) != 44) = true := by rw [bne, c44e]; rfl
                  by_cases c32 : ((M[j].toNat : Int) != 32) = true
                  · by_cases c9 : ((M[j].toNat : Int) != 9) = true
                    · have HKN : Hid (Tx.keep (base ++ m.take (j + 1)) = ks ++ [M[j]]) := hid (by rw [HTS.out, keep_snoc, if_pos (keepB_yes _ c44 c32 c9), ← HK.out])
                      go_wp2_with (at_builtin; refine wpList_append_own _ rfl _ _ 30 rfl B2 5 i0 (.int .u8 0) 1 1 Tryd.underlying30 hi hz0 hz1 hz2 rfl (by decide) _ _ _ rfl (hown.alloc _) ⟨_, 0, none⟩ 1 1 [.int .u8 (M[j].toNat : Int)] rfl rfl (new_one _ _ _) (one_cell _) (by unfold maxLen; omega) (by omega) (by simp; omega) ?_; intro v' w3 hown' hgrow _; have HO := hid hown'; have HG := hid hgrow; clear hown' hgrow)
                      go_roundw
                      case rel =>
                        refine ⟨j + 1, by omega, by go_num, ?_, (HB3.out.alloc hsz3 _).grown HG.out (by simp; omega) (fun k hk => (hown.lt k hk).1)⟩
                        rw [HKN.out, List.length_append, byteCells_snoc]; exact HO.out
                      case measure => simp [intOf]; omega
                    · replace c9 : ((M[j].toNat : Int) != 9) = false := by simpa using c9
                      have HKN : Hid (Tx.keep (base ++ m.take (j + 1)) = ks) := hid (by rw [HTS.out, keep_snoc, if_neg (by rw [keepB_no3 _ c9]; simp), ← HK.out])
                      go_wp2
                      go_roundw
                      case rel => exact ⟨j + 1, by omega, by go_num, by rw [HKN.out]; exact hown, HB3.out⟩
                      case measure => simp [intOf]; omega
                  · replace c32 : ((M[j].toNat : Int) != 32) = false := by simpa using c32
                    have HKN : Hid (Tx.keep (base ++ m.take (j + 1)) = ks) := hid (by rw [HTS.out, keep_snoc, if_neg (by rw [keepB_no2 _ c32]; simp), ← HK.out])
                    go_wp2
                    go_roundw
                    case rel => exact ⟨j + 1, by omega, by go_num, by rw [HKN.out]; exact hown, HB3.out⟩
                    case measure => simp [intOf]; omega
                · by_cases c44 : ((M[j].toNat : Int) != 44) = true
                  · by_cases c32 : ((M[j].toNat : Int) != 32) = true
                    · by_cases c9 : ((M[j].toNat : Int) != 9) = true
                      · have HKN : Hid (Tx.keep (base ++ m.take (j + 1)) = ks ++ [M[j]]) := hid (by rw [HTS.out, keep_snoc, if_pos (keepB_yes _ c44 c32 c9), ← HK.out])
                        go_wp2_with (at_builtin; refine wpList_append_own _ rfl _ _ 30 rfl B2 5 i0 (.int .u8 0) 1 1 Tryd.underlying30 hi hz0 hz1 hz2 rfl (by decide) _ _ _ rfl (hown.alloc _) ⟨_, 0, none⟩ 1 1 [.int .u8 (M[j].toNat : Int)] rfl rfl (new_one _ _ _) (one_cell _) (by unfold maxLen; omega) (by omega) (by simp; omega) ?_; intro v' w3 hown' hgrow _; have HO := hid hown'; have HG := hid hgrow; clear hown' hgrow)
                        go_roundw
                        case rel =>
                          refine ⟨j + 1, by omega, by go_num, ?_, (HB3.out.alloc hsz3 _).grown HG.out (by simp; omega) (fun k hk => (hown.lt k hk).1)⟩
                          rw [HKN.out, List.length_append, byteCells_snoc]; exact HO.out
                        case measure => simp [intOf]; omega
                      · replace c9 : ((M[j].toNat : Int) != 9) = false := by simpa using c9
                        have HKN : Hid (Tx.keep (base ++ m.take (j + 1)) = ks) := hid (by rw [HTS.out, keep_snoc, if_neg (by rw [keepB_no3 _ c9]; simp), ← HK.out])
                        go_wp2
                        go_roundw
                        case rel => exact ⟨j + 1, by omega, by go_num, by rw [HKN.out]; exact hown, HB3.out⟩
                        case measure => simp [intOf]; omega
                    · replace c32 : ((M[j].toNat : Int) != 32) = false := by simpa using c32
                      have HKN : Hid (Tx.keep (base ++ m.take (j + 1)) = ks) := hid (by rw [HTS.out, keep_snoc, if_neg (by rw [keepB_no2 _ c32]; simp), ← HK.out])
                      go_wp2
                      go_roundw
                      case rel => exact ⟨j + 1, by omega, by go_num, by rw [HKN.out]; exact hown, HB3.out⟩
                      case measure => simp [intOf]; omega
                  · replace c44 : ((M[j].toNat : Int) != 44) = false := by simpa using c44
                    have HKN : Hid (Tx.keep (base ++ m.take (j + 1)) = ks) := hid (by rw [HTS.out, keep_snoc, if_neg (by rw [keepB_no1 _ c44]; simp), ← HK.out])
                    go_wp2
                    go_roundw
                    case rel => exact ⟨j + 1, by omega, by go_num, by rw [HKN.out]; exact hown, HB3.out⟩
                    case measure => simp [intOf]; omega
              · have HKN : Hid (Tx.keep (base ++ m.take j) = Tx.keep (ms.take (i + 1)).flatten) := hid (by rw [HFL.out, List.take_of_length_le (by omega)])
                rw [HKN.out] at hown
                go_wp2
                go_roundw
                case rel => exact ⟨i + 1, by omega, by go_num, hown, HBEL.out.trans HB3.out⟩
                case measure => simp [intOf]; omega
          · have HEQ : Hid (Tx.keep (ms.take i).flatten = all) := hid (by
              rw [List.take_of_length_le (by omega), HMS.out, Tx.keep_list, HALL.out])
            rw [HEQ.out] at hown
            have hb2 := HB2.out
            rw [hb2] at hbel
            have HOW := hid hown
            have HBEL := hid hbel
            have HW := hid (below_two (below_two HB1.out HB.out) hbel)
            clear hown hbel hb2
            have heq : (all == all) = true := by simp
            go_wp2_with fail
            refine (awake_any _ (tab_below HT.out HW.out)).mono ?_
            rintro e w5 ⟨rfl, hb5⟩
            have hall := own_string (own_below (own_below HOA.out HBEL.out) hb5)
            have hgot := own_string (own_below HOW.out hb5)
            have HW5 := hid (below_two HW.out hb5)
            clear hb5
            go_wp2
            go_ret
            exact ⟨rfl, HW5.out⟩
      · have hm0 : ms = [] := List.eq_nil_of_length_eq_zero (by omega)
        have HA : Hid (all = []) := hid (by rw [HALL.out, ← Tx.keep_list, ← HMS.out, hm0]; rfl)
        subst hm0
        obtain ⟨a, cap, rfl, _⟩ := hmv
        rw [HA.out] at HOA
        have HW := hid (below_two HB1.out HB.out)
        clear HGOOD HCOMMA hpos hml hfl HMS
        go_wp2
        go_loopw [7, 8] (fun v i w' => v = .slice none 0 0 ∧ i = .int .i64 0 ∧ w' = wr) (fun _ _ _ => 0)
        case atStart => exact ⟨rfl, rfl, rfl⟩
        case round =>
          obtain ⟨rfl, rfl, rfl⟩ := hrel
          go_wp2_with fail
          refine (awake_any _ (tab_below HT.out HW.out)).mono ?_
          rintro e w5 ⟨rfl, hb5⟩
          have hall := own_string (own_below HOA.out hb5)
          have hgot := nil_string w5
          have HW5 := hid (below_two HW.out hb5)
          clear hb5
          go_wp2
          go_ret
          exact ⟨rfl, HW5.out⟩

end Go.Proofs.YtpngddfehaonhaaDoor
