/-
  The document's Path, Begins: by their contracts.
-/
import Derived.Test.YtnggablpkgbpaaaDoorDkP
import Derived.Test.YtnggablpkgbpaaaDoorHuffM
import Derived.Lib.Strings
namespace Go.Proofs.YtnggablpkgbpaaaDoor
open Go.RowKit

theorem du8_eq {c : UInt8} {n : Nat} (h : ((c.toNat : Int) == (n : Int)) = true) (hn : n < 256) : c = UInt8.ofNat n := by
  rw [beq_iff_eq] at h
  apply UInt8.toNat_inj.1
  rw [UInt8.toNat_ofNat', Nat.mod_eq_of_lt hn]; omega
theorem du8_ne {c : UInt8} {n : Nat} (h : ((c.toNat : Int) == (n : Int)) = false) (hn : n < 256) : c ≠ UInt8.ofNat n := by
  rw [beq_eq_false_iff_ne] at h
  intro e; apply h; rw [e, UInt8.toNat_ofNat', Nat.mod_eq_of_lt hn]
theorem dret_bool {a b : Bool} (h : a = b) : Ending.returned (.bool a) = .returned (.bool b) := by rw [h]
theorem path_long (L : List UInt8) (h : 255 < L.length) : Dk.path L = false := by
  cases L with
  | nil => rfl
  | cons c r => simp only [Dk.path]; rw [decide_eq_false (by simp at h; omega)]; rfl
theorem path_short (L : List UInt8) (h : L.length < 2) : Dk.path L = false := by
  match L, h with
  | [], _ => rfl
  | [c], _ => simp [Dk.path, Dk.pOk, Dk.good]
theorem take_one (L : List UInt8) (f k : Nat) (c : UInt8) (hf : f ≤ k) (hc : L[k]? = some c) : (L.drop f).take (k + 1 - f) = (L.drop f).take (k - f) ++ [c] := by
  rw [show k + 1 - f = (k - f) + 1 by omega, List.take_add_one, List.getElem?_drop, show f + (k - f) = k by omega, hc]
  rfl
theorem drop_one (L : List UInt8) (k : Nat) (c : UInt8) (hc : L[k]? = some c) : L.drop k = c :: L.drop (k + 1) := by
  obtain ⟨h1, h2⟩ := List.getElem?_eq_some_iff.1 hc
  rw [List.drop_eq_getElem_cons h1, h2]

set_option maxHeartbeats 2000000 in
set_option maxRecDepth 20000 in
theorem rpath (s : ByteArray) (b : Bool) (hb : Dk.path s.data.toList = b) (w : World) (hs : s.size ≤ 9223372036854775807) : Calls Tryd.prog 9 #[.string s] w fun e w' => e = .returned (.bool b) ∧ w' = w := by
  have HB := hid' hb
  clear hb
  have hsz : s.data.toList.length = s.size := by rw [← Lib.size_eq]
  by_cases h1 : 255 < s.size
  · have HF : Hid (b = false) := hid' (by rw [← HB.out]; exact path_long _ (by omega))
    have h1' : (255 : Int) < (s.size : Int) := by omega
    clear hsz
    go_enter Tryd.func9, Tryd.ntmps9
    go_wp2
    go_ret
    exact ⟨by rw [HF.out]; rfl, rfl⟩
  have h1' : ¬ (255 : Int) < (s.size : Int) := by omega
  by_cases h2 : s.size < 2
  · have HF : Hid (b = false) := hid' (by rw [← HB.out]; exact path_short _ (by omega))
    have h2' : (s.size : Int) < 2 := by omega
    clear hsz
    go_enter Tryd.func9, Tryd.ntmps9
    go_wp2
    go_ret
    exact ⟨by rw [HF.out]; rfl, rfl⟩
  have h2' : ¬ (s.size : Int) < 2 := by omega
  have h0 : 0 < s.size := by omega
  obtain ⟨L, hL⟩ : ∃ L, s.data.toList = L := ⟨_, rfl⟩
  have HL := hid' hL
  rw [hL] at hsz HB
  have HSZ := hid' hsz
  have hc0 : L[0]? = some s[0] := by rw [← hL, List.getElem?_eq_getElem (by rw [hL]; omega)]; rfl
  by_cases c0' : ((s[0].toNat : Int) == 47) = false
  · have HF : Hid (b = false) := hid' (by
      rw [← HB.out]
      have := drop_one L 0 _ hc0
      rw [List.drop_zero] at this
      rw [this]
      have hne := du8_ne c0' (by decide)
      have : (s[0] == 47) = false := beq_false_of_ne hne
      simp only [Dk.path, this, Bool.false_and, Bool.and_false])
    clear hsz hL hc0
    go_enter Tryd.func9, Tryd.ntmps9
    go_wp2
    go_ret
    exact ⟨by rw [HF.out]; rfl, rfl⟩
  have c0 : ((s[0].toNat : Int) == 47) = true := by simpa using c0'
  clear c0'
  have HP : Hid (b = Dk.pOk [] (L.drop 1)) := hid' (by
    rw [← HB.out]
    have := drop_one L 0 _ hc0
    rw [List.drop_zero] at this
    have hne := du8_eq c0 (by decide)
    have e47 : (s[0] == 47) = true := by rw [hne]; rfl
    have hlen : (L.drop (0 + 1)).length + 1 ≤ 255 := by rw [List.length_drop]; omega
    rw [this]
    simp only [Dk.path, e47, Bool.true_and, decide_eq_true hlen, List.drop_succ_cons, List.drop_zero])
  clear hsz hL hc0
  go_enter Tryd.func9, Tryd.ntmps9
  go_wp2
  go_loopw [3, 4, 5] (fun s3 s4 _ wr => ∃ f k : Nat, s3 = .int .i64 (f : Int) ∧ s4 = .int .i64 (k : Int) ∧ k ≤ s.size + 1 ∧ f ≤ k ∧ wr = w ∧ Hid ((k ≤ s.size → b = Dk.pOk ((L.drop f).take (k - f)) (L.drop k)) ∧ (k = s.size + 1 → b = true))) (fun _ s4 _ _ => s.size + 1 - (intOf s4).toNat)
  case atStart => exact ⟨1, 1, rfl, rfl, by omega, Nat.le_refl _, rfl, hid' ⟨fun _ => by rw [HP.out]; simp, fun h => by omega⟩⟩
  case round =>
    obtain ⟨f, k, rfl, rfl, hk, hfk, hwr, HR⟩ := hrel
    subst wr
    by_cases hlt : k < s.size
    · have hlt2 : (k : Int) < (s.size : Int) := by omega
      have hle2 : (k : Int) ≤ (s.size : Int) := by omega
      have hck : L[k]? = some s[k] := by rw [← HL.out, List.getElem?_eq_getElem (by rw [← Lib.size_eq]; exact hlt)]; rfl
      have hdr := drop_one L k _ hck
      have HB2 : Hid (b = Dk.pOk ((L.drop f).take (k - f)) (s[k] :: L.drop (k + 1))) := hid' (by rw [← hdr]; exact HR.out.1 (by omega))
      have HTK : Hid ((L.drop f).take (k + 1 - f) = (L.drop f).take (k - f) ++ [s[k]]) := hid' (take_one L f k _ hfk hck)
      clear hck hdr HR
      by_cases ck : ((s[k].toNat : Int) == 47) = true
      · have HK : Hid (s[k] = 47) := hid' (du8_eq ck (by decide))
        obtain ⟨p, hp⟩ : ∃ p, s.extract f k = p := ⟨_, rfl⟩
        have HPL : Hid (p.toList = (L.drop f).take (k - f)) := hid' (by rw [← hp, Lib.toList_data, Lib.extract_data, HL.out])
        have HB3 : Hid (b = (Dk.good p.toList && Dk.pOk [] (L.drop (k + 1)))) := hid' (by rw [HB2.out, HPL.out, Dk.pOk, if_pos HK.out])
        clear HB2 HK
        by_cases g1 : (p.toList == []) = true
        · have HF : Hid (b = false) := hid' (by rw [HB3.out]; simp only [Dk.good, g1]; rfl)
          go_wp2
          go_ret
          exact ⟨by rw [HF.out]; rfl, rfl⟩
        have g1' : (p.toList == []) = false := by simpa using g1
        by_cases g2 : (p.toList == [46]) = true
        · have HF : Hid (b = false) := hid' (by rw [HB3.out]; simp only [Dk.good, g2]; simp)
          clear g1
          go_wp2
          go_ret
          exact ⟨by rw [HF.out]; rfl, rfl⟩
        have g2' : (p.toList == [46]) = false := by simpa using g2
        by_cases g3 : (p.toList == [46, 46]) = true
        · have HF : Hid (b = false) := hid' (by rw [HB3.out]; simp only [Dk.good, g3]; simp)
          clear g1 g2
          go_wp2
          go_ret
          exact ⟨by rw [HF.out]; rfl, rfl⟩
        have g3' : (p.toList == [46, 46]) = false := by simpa using g3
        have HN : Hid (b = Dk.pOk ((L.drop (k + 1)).take (k + 1 - (k + 1))) (L.drop (k + 1))) := hid' (by
          rw [HB3.out]
          have : Dk.good p.toList = true := by unfold Dk.good; rw [g1', g2', g3']; rfl
          rw [this]; simp)
        clear g1 g2 g3
        go_wp2
        go_roundw
        case rel => exact ⟨k + 1, k + 1, by go_num, by go_num, by omega, Nat.le_refl _, by first | rfl | trivial, hid' ⟨fun _ => HN.out, fun h => by omega⟩⟩
        case measure => simp [intOf]; omega
      · have ck' : ((s[k].toNat : Int) == 47) = false := by simpa using ck
        have HK : Hid (¬ s[k] = 47) := hid' (du8_ne ck' (by decide))
        have HB3 : Hid (b = ((decide (32 ≤ s[k].toNat) && decide (s[k].toNat ≤ 126)) && Dk.pOk ((L.drop f).take (k - f) ++ [s[k]]) (L.drop (k + 1)))) := hid' (by rw [HB2.out, Dk.pOk, if_neg HK.out])
        clear HB2 HK ck
        by_cases d1 : s[k].toNat < 32
        · have HF : Hid (b = false) := hid' (by rw [HB3.out, decide_eq_false (by omega)]; rfl)
          have d1' : (s[k].toNat : Int) < 32 := by omega
          go_wp2
          go_ret
          exact ⟨by rw [HF.out]; rfl, rfl⟩
        have d1' : ¬ (s[k].toNat : Int) < 32 := by omega
        by_cases d2 : 126 < s[k].toNat
        · have HF : Hid (b = false) := hid' (by rw [HB3.out, decide_eq_false (show ¬ s[k].toNat ≤ 126 by omega)]; simp)
          have d2' : (126 : Int) < (s[k].toNat : Int) := by omega
          go_wp2
          go_ret
          exact ⟨by rw [HF.out]; rfl, rfl⟩
        have d2' : ¬ (126 : Int) < (s[k].toNat : Int) := by omega
        have HN : Hid (b = Dk.pOk ((L.drop f).take (k + 1 - f)) (L.drop (k + 1))) := hid' (by
          rw [HB3.out, HTK.out, decide_eq_true (by omega), decide_eq_true (by omega)]; rfl)
        go_wp2
        go_roundw
        case rel => exact ⟨f, k + 1, rfl, by go_num, by omega, by omega, by first | rfl | trivial, hid' ⟨fun _ => HN.out, fun h => by omega⟩⟩
        case measure => simp [intOf]; omega
    · by_cases hke : k = s.size
      · have hlt2 : ¬ (k : Int) < (s.size : Int) := by omega
        have hle2 : (k : Int) ≤ (s.size : Int) := by omega
        obtain ⟨p, hp⟩ : ∃ p, s.extract f k = p := ⟨_, rfl⟩
        have HPL : Hid (p.toList = (L.drop f).take (k - f)) := hid' (by rw [← hp, Lib.toList_data, Lib.extract_data, HL.out])
        have HB3 : Hid (b = Dk.good p.toList) := hid' (by
          rw [HR.out.1 (by omega), HPL.out, List.drop_of_length_le (i := k) (by rw [HSZ.out]; omega)]; rfl)
        have HKE := hid' hke
        have hks : k ≤ s.size := by omega
        clear hke HR hlt
        by_cases g1 : (p.toList == []) = true
        · have HF : Hid (b = false) := hid' (by rw [HB3.out]; simp only [Dk.good, g1]; rfl)
          go_wp2
          go_ret
          exact ⟨by rw [HF.out]; rfl, rfl⟩
        have g1' : (p.toList == []) = false := by simpa using g1
        by_cases g2 : (p.toList == [46]) = true
        · have HF : Hid (b = false) := hid' (by rw [HB3.out]; simp only [Dk.good, g2]; simp)
          clear g1
          go_wp2
          go_ret
          exact ⟨by rw [HF.out]; rfl, rfl⟩
        have g2' : (p.toList == [46]) = false := by simpa using g2
        by_cases g3 : (p.toList == [46, 46]) = true
        · have HF : Hid (b = false) := hid' (by rw [HB3.out]; simp only [Dk.good, g3]; simp)
          clear g1 g2
          go_wp2
          go_ret
          exact ⟨by rw [HF.out]; rfl, rfl⟩
        have g3' : (p.toList == [46, 46]) = false := by simpa using g3
        have HN : Hid (b = true) := hid' (by rw [HB3.out]; unfold Dk.good; rw [g1', g2', g3']; rfl)
        clear g1 g2 g3
        go_wp2
        go_roundw
        case rel => exact ⟨k + 1, k + 1, by go_num, by go_num, by have := HKE.out; omega, Nat.le_refl _, by first | rfl | trivial, hid' ⟨fun h => by have := HKE.out; omega, fun _ => HN.out⟩⟩
        case measure => simp [intOf]; omega
      · have hle2 : ¬ (k : Int) ≤ (s.size : Int) := by omega
        have HN : Hid (b = true) := hid' (HR.out.2 (by omega))
        clear hke hlt HR
        go_wp2
        go_ret
        exact ⟨by rw [HN.out]; rfl, rfl⟩

theorem rbegins (s h : ByteArray) (b : Bool) (hb : h.data.toList.isPrefixOf s.data.toList = b) (w : World) : Calls Tryd.prog 35 #[.string s, .string h] w fun e w' => e = .returned (.bool b) ∧ w' = w := by
  by_cases hl : h.size ≤ s.size
  · have hl2 : (h.size : Int) ≤ (s.size : Int) := by omega
    obtain ⟨p, hp⟩ : ∃ p, s.extract 0 h.size = p := ⟨_, rfl⟩
    have HE : Hid ((p.toList == h.toList) = b) := hid' (by
      rw [← hb, ← hp, Lib.toList_data, Lib.toList_data, Lib.extract_data, List.drop_zero, Nat.sub_zero, Lib.size_eq]
      rw [Bool.eq_iff_iff, List.isPrefixOf_iff_prefix, List.prefix_iff_eq_take, beq_iff_eq]
      exact eq_comm)
    have he := HE.out
    clear hb HE
    go_enter Tryd.func35, Tryd.ntmps35
    go_wp2
    go_ret
    exact ⟨rfl, rfl⟩
  · have hl2 : ¬ (h.size : Int) ≤ (s.size : Int) := by omega
    have HF : Hid (b = false) := hid' (by
      rw [← hb]
      cases hq : h.data.toList.isPrefixOf s.data.toList
      · rfl
      · have := (List.isPrefixOf_iff_prefix.1 hq).length_le
        rw [← Lib.size_eq, ← Lib.size_eq] at this
        omega)
    clear hb hl
    go_enter Tryd.func35, Tryd.ntmps35
    go_wp2
    go_ret
    exact ⟨by rw [HF.out]; rfl, rfl⟩

end Go.Proofs.YtnggablpkgbpaaaDoor
