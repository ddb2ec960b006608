/-
  The document's List, by its contract.
-/
import Derived.Test.YtekpjbhhbklboaaDoorList
namespace Go.Proofs.YtekpjbhhbklboaaDoor
open Go.RowKit

/-- What the loop keeps: up to the text's end the pieces so far, behind it all of them. -/
def ListRelR (s : ByteArray) (ms : List (List UInt8)) (sn k : Nat) (q : Bool) : Prop :=
  (k ≤ s.size ∧ Tx.ListRel s.data.toList ms sn k q) ∨ (k = s.size + 1 ∧ Tx.list s.data.toList = ms)

theorem rTrim_ext (s : ByteArray) (sn k : Nat) (t : List UInt8) (h : (s.extract sn k).size ≤ maxLen) (ht : t = Tx.trim (s.extract sn k).data.toList) (w : World) :
    Calls Tryd.prog 29 #[.string (s.extract sn k)] w fun e w' => e = .returned (.string ⟨t.toArray⟩) ∧ w' = w := by
  subst ht; exact rTrim_any _ w h

set_option maxHeartbeats 4000000 in
theorem rList_any (s : ByteArray) (w : World) (hs : s.size + 2 ≤ 8796093022208) :
    Calls Tryd.prog 28 #[.string s] w fun e w' => ∃ v, e = .returned v ∧ w'.ownsRow w.heap.size 9 1 v (Tx.list s.data.toList).length (strCells (Tx.list s.data.toList)) ∧ Below w.heap.size w w' := by
  obtain ⟨i0, hi, hz0, hz1, hz2⟩ := info_parts Tryd.info9
  go_enter Tryd.func28, Tryd.ntmps28
  go_wp2
  go_loopw [3, 4, 5, 6] (fun m st q i wr => ∃ (k sn : Nat) (qv : Bool) (ms : List (List UInt8)), i = .int .i64 k ∧ st = .int .i64 sn ∧ q = .bool qv ∧ wr.ownsRow w.heap.size 9 1 m ms.length (strCells ms) ∧ Below w.heap.size w wr ∧ ListRelR s ms sn k qv) (fun _ _ _ i _ => s.size + 2 - (intOf i).toNat)
  case atStart => exact ⟨0, 0, false, [], rfl, rfl, rfl, World.ownsRow_nil _ _ _ _, Below.refl _ _, .inl ⟨Nat.zero_le _, Tx.ListRel.start _⟩⟩
  case round =>
    obtain ⟨k, sn, qv, ms, rfl, rfl, rfl, hown, hbel, hlr⟩ := hrel
    rcases hlr with ⟨hk, hlr⟩ | ⟨rfl, hdone⟩
    · have hsk := hlr.stk
      have hle : sn ≤ s.size := by have := hlr.le; rw [← Lib.size_eq] at this; exact this
      have hmany := hlr.many
      have hsz := hbel.size
      have HL := hid hlr
      have HB := hid hbel
      clear hlr hbel
      by_cases hlt : k < s.size
      · have hl : k < s.data.toList.length := by rw [← Lib.size_eq]; exact hlt
        have HC : Hid (s.data.toList[k] = s[k]) := hid rfl
        have hke : ((k : Int) == (s.size : Int)) = false := by rw [beq_eq_false_iff_ne]; omega
        by_cases c34 : ((s[k].toNat : Int) == 34) = true
        · have c44 : ((s[k].toNat : Int) == 44) = false := by rw [beq_iff_eq] at c34; rw [c34]; rfl
          have c92 : ((s[k].toNat : Int) == 92) = false := by rw [beq_iff_eq] at c34; rw [c34]; rfl
          have HN : Hid (Tx.ListRel s.data.toList ms sn (k + 1) (!qv)) := HL.out.quote hl (by rw [HC.out]; exact u8_eq c34 (by decide))
          go_wp2
          go_roundw
          case rel => exact ⟨k + 1, sn, !qv, ms, by go_num, rfl, rfl, hown, HB.out, .inl ⟨by omega, HN.out⟩⟩
          case measure => simp [intOf]; omega
        · replace c34 : ((s[k].toNat : Int) == 34) = false := by simpa using c34
          by_cases c44 : ((s[k].toNat : Int) == 44) = true
          · have c92 : ((s[k].toNat : Int) == 92) = false := by rw [beq_iff_eq] at c44; rw [c44]; rfl
            cases qv
            · have HN : Hid (Tx.ListRel s.data.toList (ms ++ Tx.addm (s.extract sn k).data.toList) (k + 1) (k + 1) false) := by
                rw [Lib.extract_data]
                exact HL.out.comma hl (by rw [HC.out]; exact u8_eq c44 (by decide))
              have hes := ext_size s sn k
              have hesm : (s.extract sn k).size ≤ maxLen := by unfold maxLen; omega
              obtain ⟨t, ht⟩ : ∃ t, t = Tx.trim (s.extract sn k).data.toList := ⟨_, rfl⟩
              have hcall := rTrim_ext s sn k t hesm ht
              by_cases he : 0 < t.length
              · have HA : Hid (Tx.addm (s.extract sn k).data.toList = [t]) := hid (by
                  unfold Tx.addm; rw [← ht, if_neg (by rw [List.isEmpty_iff]; intro e; rw [e] at he; simp at he)])
                clear ht hes hesm
                have HCL := hid hcall
                clear hcall
                go_wp2_with (first
                  | (go_at_call 29; refine (HCL.out _).mono ?_; rintro e w' ⟨rfl, rfl⟩)
                  | (at_builtin; refine wpList_append_own _ rfl _ _ 51 rfl w.heap.size 9 i0 (.string ByteArray.empty) 1 16 Tryd.underlying51 hi hz0 hz1 hz2 rfl (by decide) _ _ _ rfl (hown.alloc _) ⟨_, 0, none⟩ 1 1 [.string ⟨t.toArray⟩] rfl rfl ?a1 ?a2 ?a3 ?a4 ?a5 ?_))
                case a1 =>
                  intro j u hj
                  match j, hj with
                  | 0, hj => simp at hj; subst hj; simp [Addr.add]
                case a2 => intro u hu; simp at hu; subst hu; rfl
                case a3 => unfold maxLen; omega
                case a4 => omega
                case a5 => simp; omega
                · intro v' w1 hown' hgrow _
                  have HO : Hid (w1.ownsRow w.heap.size 9 1 v' (ms ++ Tx.addm (s.extract sn k).data.toList).length (strCells (ms ++ Tx.addm (s.extract sn k).data.toList))) := hid (by
                    rw [HA.out, List.length_append, strCells, List.map_append]; exact hown')
                  have HG := hid ((HB.out.alloc hsz _).grown hgrow (by simp; omega) (fun k hk => (hown.lt k hk).1))
                  clear hgrow hown'
                  go_wp2
                  go_roundw
                  case rel => exact ⟨k + 1, k + 1, false, _, by go_num, by go_num, rfl, HO.out, HG.out, .inl ⟨by omega, HN.out⟩⟩
                  case measure => simp [intOf] <;> omega
              · have HA : Hid (ms ++ Tx.addm (s.extract sn k).data.toList = ms) := hid (by
                  unfold Tx.addm; rw [← ht, if_pos (by rw [List.isEmpty_iff]; exact List.eq_nil_of_length_eq_zero (by omega)), List.append_nil])
                have HO : Hid (wr.ownsRow w.heap.size 9 1 _ (ms ++ Tx.addm (s.extract sn k).data.toList).length (strCells (ms ++ Tx.addm (s.extract sn k).data.toList))) := hid (by rw [HA.out]; exact hown)
                clear ht hes hesm
                have HCL := hid hcall
                clear hcall
                go_wp2_with (go_at_call 29; refine (HCL.out _).mono ?_; rintro e w' ⟨rfl, rfl⟩)
                go_roundw
                case rel => exact ⟨k + 1, k + 1, false, _, by go_num, by go_num, rfl, HO.out, HB.out, .inl ⟨by omega, HN.out⟩⟩
                case measure => simp [intOf] <;> omega
            · have HN : Hid (Tx.ListRel s.data.toList ms sn (k + 1) true) := HL.out.plain hl (by rw [HC.out]; exact u8_ne c34 (by decide)) (by rw [HC.out]; simpa using u8_ne c92 (by decide)) rfl
              go_wp2
              go_roundw
              case rel => exact ⟨k + 1, sn, true, ms, by go_num, rfl, rfl, hown, HB.out, .inl ⟨by omega, HN.out⟩⟩
              case measure => simp [intOf]; omega
          · replace c44 : ((s[k].toNat : Int) == 44) = false := by simpa using c44
            by_cases c92 : ((s[k].toNat : Int) == 92) = true
            · cases qv
              · have HN : Hid (Tx.ListRel s.data.toList ms sn (k + 1) false) := HL.out.plain hl (by rw [HC.out]; exact u8_ne c34 (by decide)) rfl (by rw [HC.out]; simpa using u8_ne c44 (by decide))
                go_wp2
                go_roundw
                case rel => exact ⟨k + 1, sn, false, ms, by go_num, rfl, rfl, hown, HB.out, .inl ⟨by omega, HN.out⟩⟩
                case measure => simp [intOf]; omega
              · by_cases hk1 : k + 1 < s.size
                · have hk1' : (k : Int) + 1 < (s.size : Int) := by omega
                  have HN : Hid (Tx.ListRel s.data.toList ms sn (k + 2) true) := HL.out.slash hl (by rw [HC.out]; exact u8_eq c92 (by decide))
                  go_wp2
                  go_roundw
                  case rel => exact ⟨k + 2, sn, true, ms, by go_num, rfl, rfl, hown, HB.out, .inl ⟨by omega, HN.out⟩⟩
                  case measure => simp [intOf]; omega
                · have hk1' : decide ((k : Int) + 1 < (s.size : Int)) = false := decide_eq_false (by omega)
                  have HN : Hid (Tx.ListRel s.data.toList ms sn (k + 1) true) := HL.out.slashLast hl (by rw [← Lib.size_eq]; omega) (by rw [HC.out]; exact u8_eq c92 (by decide))
                  go_wp2
                  go_roundw
                  case rel => exact ⟨k + 1, sn, true, ms, by go_num, rfl, rfl, hown, HB.out, .inl ⟨by omega, HN.out⟩⟩
                  case measure => simp [intOf]; omega
            · replace c92 : ((s[k].toNat : Int) == 92) = false := by simpa using c92
              have HN : Hid (Tx.ListRel s.data.toList ms sn (k + 1) qv) := HL.out.plain hl (by rw [HC.out]; exact u8_ne c34 (by decide)) (by rw [HC.out]; simpa using fun _ => u8_ne c92 (by decide)) (by rw [HC.out]; simpa using fun _ => u8_ne c44 (by decide))
              go_wp2
              go_roundw
              case rel => exact ⟨k + 1, sn, qv, ms, by go_num, rfl, rfl, hown, HB.out, .inl ⟨by omega, HN.out⟩⟩
              case measure => simp [intOf]; omega
      · obtain rfl : k = s.size := by omega
        have hke : ((s.size : Int) == (s.size : Int)) = true := by simp
        have HN : Hid (Tx.list s.data.toList = ms ++ Tx.addm (s.extract sn s.size).data.toList) := by
          rw [Lib.extract_data, List.take_of_length_le (by rw [List.length_drop, ← Lib.size_eq]; omega)]
          exact HL.out.stop (by rw [← Lib.size_eq]; omega)
        have hes := ext_size s sn s.size
        have hesm : (s.extract sn s.size).size ≤ maxLen := by unfold maxLen; omega
        obtain ⟨t, ht⟩ : ∃ t, t = Tx.trim (s.extract sn s.size).data.toList := ⟨_, rfl⟩
        have hcall := rTrim_ext s sn s.size t hesm ht
        by_cases he : 0 < t.length
        · have HA : Hid (Tx.addm (s.extract sn s.size).data.toList = [t]) := hid (by
            unfold Tx.addm; rw [← ht, if_neg (by rw [List.isEmpty_iff]; intro e; rw [e] at he; simp at he)])
          clear ht hes hesm
          have HCL := hid hcall
          clear hcall
          go_wp2_with (first
            | (go_at_call 29; refine (HCL.out _).mono ?_; rintro e w' ⟨rfl, rfl⟩)
            | (at_builtin; refine wpList_append_own _ rfl _ _ 51 rfl w.heap.size 9 i0 (.string ByteArray.empty) 1 16 Tryd.underlying51 hi hz0 hz1 hz2 rfl (by decide) _ _ _ rfl (hown.alloc _) ⟨_, 0, none⟩ 1 1 [.string ⟨t.toArray⟩] rfl rfl ?b1 ?b2 ?b3 ?b4 ?b5 ?_))
          case b1 =>
            intro j u hj
            match j, hj with
            | 0, hj => simp at hj; subst hj; simp [Addr.add]
          case b2 => intro u hu; simp at hu; subst hu; rfl
          case b3 => unfold maxLen; omega
          case b4 => omega
          case b5 => simp; omega
          · intro v' w1 hown' hgrow _
            have HO : Hid (w1.ownsRow w.heap.size 9 1 v' (ms ++ Tx.addm (s.extract sn s.size).data.toList).length (strCells (ms ++ Tx.addm (s.extract sn s.size).data.toList))) := hid (by
              rw [HA.out, List.length_append, strCells, List.map_append]; exact hown')
            have HG := hid ((HB.out.alloc hsz _).grown hgrow (by simp; omega) (fun k hk => (hown.lt k hk).1))
            clear hgrow hown'
            go_wp2
            go_roundw
            case rel => exact ⟨s.size + 1, s.size + 1, qv, _, by go_num, by go_num, rfl, HO.out, HG.out, .inr ⟨rfl, HN.out⟩⟩
            case measure => simp [intOf] <;> omega
        · have HA : Hid (ms ++ Tx.addm (s.extract sn s.size).data.toList = ms) := hid (by
            unfold Tx.addm; rw [← ht, if_pos (by rw [List.isEmpty_iff]; exact List.eq_nil_of_length_eq_zero (by omega)), List.append_nil])
          have HO : Hid (wr.ownsRow w.heap.size 9 1 _ (ms ++ Tx.addm (s.extract sn s.size).data.toList).length (strCells (ms ++ Tx.addm (s.extract sn s.size).data.toList))) := hid (by rw [HA.out]; exact hown)
          clear ht hes hesm
          have HCL := hid hcall
          clear hcall
          go_wp2_with (go_at_call 29; refine (HCL.out _).mono ?_; rintro e w' ⟨rfl, rfl⟩)
          go_roundw
          case rel => exact ⟨s.size + 1, s.size + 1, qv, _, by go_num, by go_num, rfl, HO.out, HB.out, .inr ⟨rfl, HN.out⟩⟩
          case measure => simp [intOf] <;> omega
    · have HB := hid hbel
      have HD := hid hdone
      clear hbel hdone
      go_wp2
      go_ret
      exact ⟨_, rfl, by rw [HD.out]; exact hown, HB.out⟩

end Go.Proofs.YtekpjbhhbklboaaDoor
