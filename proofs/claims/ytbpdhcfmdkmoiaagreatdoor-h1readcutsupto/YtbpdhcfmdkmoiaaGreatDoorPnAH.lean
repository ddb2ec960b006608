/-
  isTokenByte, Token and the document's Token, each by its contract.
  Trim, Value and the document's Trim, Value, each by its contract.
  Rows of bytes in memory: what a block's first cells hold, as a list; what a store does to it.
  Lower, Same and the document's Lower, Same, each by its contract.
  The document's in, Bound, pseudo, find: by their contracts.
  The document's Strip, goes, decimal: by their contracts.
-/
import Derived.Test.YtbpdhcfmdkmoiaaGreatDoorShelfN
import Derived.Test.YtbpdhcfmdkmoiaaGreatDoorPnAA
import Derived.Test.YtbpdhcfmdkmoiaaGreatDoorPnAG
import Derived.Laws.IdiomStrings
import Derived.Deep.QuietTactic
import Derived.BigQuiet
import Derived.Maps.AppendAt
namespace Go.Proofs.YtbpdhcfmdkmoiaaGreatDoor
open Go.RowKit

def ixC (c : Int) : Int := Lib.indexByte [33, 35, 36, 37, 38, 39, 42, 43, 45, 46, 94, 95, 96, 124, 126] c.toNat.toUInt8
theorem ix_fin : ∀ n : Fin 256, decide (0 ≤ ixC (n.val : Int)) = Tx.markC (n.val : Int) := by decide +kernel
theorem ix_mark (c : Int) (h0 : 0 ≤ c) (h1 : c ≤ 255) : decide (0 ≤ ixC c) = Tx.markC c := by
  obtain ⟨n, rfl⟩ := Int.eq_ofNat_of_zero_le h0
  exact ix_fin ⟨n, by omega⟩
theorem indexByte_c (c : Int) (w : World) : Calls Tryz.prog 51 #[.string ⟨#[33, 35, 36, 37, 38, 39, 42, 43, 45, 46, 94, 95, 96, 124, 126]⟩, .int .u8 c] w fun e w' => e = .returned (.int .i64 (ixC c)) ∧ w' = w :=
  Tryz.strings_IndexByte _ c w

set_option maxHeartbeats 400000 in
theorem isTokenByte_any (c : Int) (h0 : 0 ≤ c) (h1 : c ≤ 255) (w : World) : Calls Tryz.prog 43 #[.int .u8 c] w fun e w' => e = .returned (.bool (Tx.tokC c)) ∧ w' = w := by
  have hm := ix_mark c h0 h1
  by_cases hl : Tx.letC c = true
  · go_enter Tryz.func43, Tryz.ntmps43
    go_wp2_with (first | (go_at_call 49; refine (isLetter_any _ _).mono ?_; rintro e w' ⟨rfl, rfl⟩))
    go_ret
    exact ⟨ret_bool (by simp [Tx.tokC, hl]), rfl⟩
  replace hl : Tx.letC c = false := by simpa using hl
  by_cases hd : Tx.digC c = true
  · go_enter Tryz.func43, Tryz.ntmps43
    go_wp2_with (first | (go_at_call 49; refine (isLetter_any _ _).mono ?_; rintro e w' ⟨rfl, rfl⟩) | (go_at_call 50; refine (isDigit_any _ _).mono ?_; rintro e w' ⟨rfl, rfl⟩))
    go_ret
    exact ⟨ret_bool (by simp [Tx.tokC, hd]), rfl⟩
  replace hd : Tx.digC c = false := by simpa using hd
  have hfin : Tx.tokC c = decide (0 ≤ ixC c) := by rw [hm]; simp [Tx.tokC, hl, hd]
  have HF : Hid (Tx.tokC c = decide (0 ≤ ixC c)) := hfin
  clear hfin hm
  go_enter Tryz.func43, Tryz.ntmps43
  go_wp2_with (first | (go_at_call 49; refine (isLetter_any _ _).mono ?_; rintro e w' ⟨rfl, rfl⟩) | (go_at_call 50; refine (isDigit_any _ _).mono ?_; rintro e w' ⟨rfl, rfl⟩) | (go_at_call 51; refine (indexByte_c _ _).mono ?_; rintro e w' ⟨rfl, rfl⟩))
  all_goals go_ret
  all_goals exact ⟨ret_bool (by rw [HF.out]), rfl⟩

set_option maxHeartbeats 400000 in
theorem token_any (s : ByteArray) (w : World) (hs : s.size ≤ maxLen) :
    Calls Tryz.prog 35 #[.string s] w fun e w' => e = .returned (.bool (Tx.isTok s.data.toList)) ∧ w' = w := by
  unfold maxLen at hs
  go_enter Tryz.func35, Tryz.ntmps35
  go_wp2
  go_loop [3] (fun i => ∃ k : Nat, k ≤ s.size ∧ i = .int .i64 k ∧ Tx.allC Tx.tokC (s.data.toList.take k) = true) (fun i => s.size - (intOf i).toNat)
  case atStart => exact ⟨0, Nat.zero_le _, rfl, rfl⟩
  case round =>
    obtain ⟨k, hk, rfl, hall⟩ := hrel
    by_cases hlt : k < s.size
    · have hb : s[k].toNat ≤ 255 := by have := s[k].toNat_lt; omega
      have HS : Hid (Tx.allC Tx.tokC (s.data.toList.take (k + 1)) = (Tx.allC Tx.tokC (s.data.toList.take k) && Tx.tokC (s[k].toNat : Int))) := Tx.allC_snoc Tx.tokC s k hlt
      have HA : Hid (Tx.allC Tx.tokC (s.data.toList.take k) = true) := hall
      clear hall
      by_cases ht : Tx.tokC (s[k].toNat : Int) = true
      · go_wp2_with (go_at_call 43; refine (isTokenByte_any _ (by omega) (by omega) _).mono ?_; rintro e w' ⟨rfl, rfl⟩)
        go_round
        case rel => exact ⟨k + 1, by omega, by go_num, by rw [HS.out, HA.out, ht]; rfl⟩
        case measure => simp [intOf]; omega
      · replace ht : Tx.tokC (s[k].toNat : Int) = false := by simpa using ht
        have HF : Hid (Tx.isTok s.data.toList = false) := Tx.isTok_no s k hlt ht
        go_wp2_with (go_at_call 43; refine (isTokenByte_any _ (by omega) (by omega) _).mono ?_; rintro e w' ⟨rfl, rfl⟩)
        go_ret
        exact ⟨ret_bool (by rw [HF.out]), rfl⟩
    · have HF : Hid (Tx.isTok s.data.toList = !s.data.toList.isEmpty) := Tx.isTok_all s k (by omega) hall
      clear hall
      go_wp2
      all_goals go_ret
      all_goals exact ⟨ret_bool (by rw [HF.out, Lib.toList_data]), rfl⟩

end Go.Proofs.YtbpdhcfmdkmoiaaGreatDoor

namespace Go.Proofs.YtbpdhcfmdkmoiaaGreatDoor
open Go.RowKit

theorem ret_str {a b : ByteArray} (h : a = b) : Ending.returned (.string a) = .returned (.string b) := by rw [h]

set_option maxHeartbeats 1000000 in
theorem trim_any (s : ByteArray) (w : World) (hs : s.size ≤ maxLen) :
    Calls Tryz.prog 85 #[.string s] w fun e w' => e = .returned (.string ⟨(Tx.trim s.data.toList).toArray⟩) ∧ w' = w := by
  unfold maxLen at hs
  go_enter Tryz.func85, Tryz.ntmps85
  go_wp2
  go_loop [3] (fun i => ∃ k : Nat, k ≤ s.size ∧ i = .int .i64 k ∧ ∀ x ∈ s.data.toList.take k, Tx.blkB x = true) (fun i => s.size - (intOf i).toNat)
  case atStart => exact ⟨0, Nat.zero_le _, rfl, fun x hx => by simp at hx⟩
  case round =>
    obtain ⟨k, hk, rfl, hall⟩ := hrel
    have HA : Hid (∀ x ∈ s.data.toList.take k, Tx.blkB x = true) := hall
    clear hall
    by_cases hlt : ∃ h : k < s.size, Tx.blkC (s[k].toNat : Int) = true
    · obtain ⟨hlt, ht⟩ := hlt
      have HS : Hid (∀ x ∈ s.data.toList.take (k + 1), Tx.blkB x = true) := Tx.blk_snoc s k hlt HA.out ht
      go_wp2_with (go_at_call 105; refine (isBlank_any _ _).mono ?_; rintro e w' ⟨rfl, rfl⟩)
      go_round
      case rel => exact ⟨k + 1, by omega, by go_num, HS.out⟩
      case measure => simp [intOf]; omega
    · have H1 : Hid (∀ x, s.data.toList[k]? = some x → Tx.blkB x = false) := by
        intro x hx
        by_cases h : k < s.size
        · rw [Tx.get_byte s k h, Option.some.injEq] at hx; subst hx
          have : ¬ Tx.blkC (s[k].toNat : Int) = true := fun hb => hlt ⟨h, hb⟩
          simpa [Tx.blkB] using this
        · rw [List.getElem?_eq_none (by rw [← Lib.size_eq]; omega)] at hx; cases hx
      have H0 : ∀ h : k < s.size, Tx.blkC (s[k].toNat : Int) = false := fun h => by
        have := H1.out s[k] (Tx.get_byte s k h); exact this
      clear hlt
      by_cases hlt : k < s.size
      · have ht := H0 hlt
        clear H0
        go_wp2_with (go_at_call 105; refine (isBlank_any _ _).mono ?_; rintro e w' ⟨rfl, rfl⟩)
        go_loop [4] (fun j => ∃ m : Nat, k ≤ m ∧ m ≤ s.size ∧ j = .int .i64 m ∧ ∀ x ∈ s.data.toList.drop m, Tx.blkB x = true) (fun j => (intOf j).toNat)
        case atStart => exact ⟨s.size, hk, Nat.le_refl _, rfl, Tx.drop_all s⟩
        case round =>
          obtain ⟨m, hkm, hms, rfl, hall⟩ := hrel
          have HM : Hid (∀ x ∈ s.data.toList.drop m, Tx.blkB x = true) := hall
          clear hall
          by_cases hlt2 : k < m
          · obtain ⟨m, rfl⟩ : ∃ m', m = m' + 1 := ⟨m - 1, by omega⟩
            have hm1 : m < s.size := by omega
            by_cases ht2 : Tx.blkC (s[m].toNat : Int) = true
            · have HS : Hid (∀ x ∈ s.data.toList.drop m, Tx.blkB x = true) := Tx.blk_pre s m hm1 HM.out ht2
              go_wp2_with (go_at_call 105; refine (isBlank_any _ _).mono ?_; rintro e w' ⟨rfl, rfl⟩)
              go_round
              case rel => exact ⟨m, by omega, by omega, by go_num, HS.out⟩
              case measure => simp [intOf]
            · replace ht2 : Tx.blkC (s[m].toNat : Int) = false := by simpa using ht2
              have HF : Hid (s.extract k (m + 1) = ⟨(Tx.trim s.data.toList).toArray⟩) := Tx.trim_cut s k (m + 1) (by omega) hms HA.out HM.out H1.out (fun x _ hx => by
                rw [Nat.add_sub_cancel, Tx.get_byte s m hm1, Option.some.injEq] at hx; subst hx; exact ht2)
              go_wp2_with (go_at_call 105; refine (isBlank_any _ _).mono ?_; rintro e w' ⟨rfl, rfl⟩)
              go_ret
              exact ⟨ret_str (by exact HF.out), rfl⟩
          · have HF : Hid (s.extract k m = ⟨(Tx.trim s.data.toList).toArray⟩) := Tx.trim_cut s k m (by omega) hms HA.out HM.out H1.out (fun x h _ => absurd h hlt2)
            go_wp2
            go_ret
            exact ⟨ret_str (by exact HF.out), rfl⟩
      · clear H0
        obtain rfl : k = s.size := by omega
        go_wp2
        go_loop [4] (fun j => j = .int .i64 s.size) (fun _ => 0)
        case atStart => rfl
        case round =>
          obtain rfl := hrel
          have HF : Hid (ByteArray.empty = ⟨(Tx.trim s.data.toList).toArray⟩) := (show ByteArray.empty = s.extract s.size s.size by simp).trans <| Tx.trim_cut s s.size s.size (Nat.le_refl _) (Nat.le_refl _) HA.out (Tx.drop_all s) H1.out (fun x h _ => absurd h (Nat.lt_irrefl _))
          go_wp2
          go_ret
          exact ⟨ret_str (by exact HF.out), rfl⟩

set_option maxHeartbeats 1000000 in
theorem value_any (s : ByteArray) (w : World) (hs : s.size ≤ maxLen) :
    Calls Tryz.prog 86 #[.string s] w fun e w' => e = .returned (.bool (Tx.isVal s.data.toList)) ∧ w' = w := by
  unfold maxLen at hs
  go_enter Tryz.func86, Tryz.ntmps86
  go_wp2
  go_loop [3] (fun i => ∃ k : Nat, k ≤ s.size ∧ i = .int .i64 k ∧ Tx.allC Tx.valC (s.data.toList.take k) = true) (fun i => s.size - (intOf i).toNat)
  case atStart => exact ⟨0, Nat.zero_le _, rfl, rfl⟩
  case round =>
    obtain ⟨k, hk, rfl, hall⟩ := hrel
    by_cases hlt : k < s.size
    · have HS : Hid (Tx.allC Tx.valC (s.data.toList.take (k + 1)) = (Tx.allC Tx.valC (s.data.toList.take k) && Tx.valC (s[k].toNat : Int))) := Tx.allC_snoc Tx.valC s k hlt
      have HA : Hid (Tx.allC Tx.valC (s.data.toList.take k) = true) := hall
      clear hall
      by_cases ht : Tx.valC (s[k].toNat : Int) = true
      · go_wp2_with (go_at_call 106; refine (isValueByte_any _ _).mono ?_; rintro e w' ⟨rfl, rfl⟩)
        go_round
        case rel => exact ⟨k + 1, by omega, by go_num, by rw [HS.out, HA.out, ht]; rfl⟩
        case measure => simp [intOf]; omega
      · replace ht : Tx.valC (s[k].toNat : Int) = false := by simpa using ht
        have HF : Hid (Tx.isVal s.data.toList = false) := Tx.isVal_no s k hlt ht
        go_wp2_with (go_at_call 106; refine (isValueByte_any _ _).mono ?_; rintro e w' ⟨rfl, rfl⟩)
        go_ret
        exact ⟨ret_bool (by rw [HF.out]), rfl⟩
    · have HF : Hid (Tx.isVal s.data.toList = decide ((Tx.trim s.data.toList).length = s.size)) := Tx.isVal_trim s k (by omega) hall
      clear hall
      go_wp2_with (go_at_call 85; refine (trim_any _ _ hs).mono ?_; rintro e w' ⟨rfl, rfl⟩)
      all_goals go_ret
      all_goals exact ⟨ret_bool (by rw [HF.out, Bool.eq_iff_iff, beq_iff_eq, decide_eq_true_eq]; omega), rfl⟩

end Go.Proofs.YtbpdhcfmdkmoiaaGreatDoor

namespace Go.Proofs.YtbpdhcfmdkmoiaaGreatDoor
namespace Tx

/-- Block b's first cells hold the bytes l, and may be written. -/
def Row (w : World) (b : Nat) (l : List UInt8) : Prop := ∀ j (hj : j < l.length), w.cell? ⟨b, j, none⟩ = some (.int .u8 (l[j].toNat : Int)) ∧ w.frozen? ⟨b, j, none⟩ = false

theorem Row.set {w : World} {b : Nat} {l : List UInt8} (h : Row w b l) (k : Nat) (c : UInt8) (v : Int) (hv : v = (c.toNat : Int)) : Row (w.setCell ⟨b, k, none⟩ (.int .u8 v)) b (l.set k c) := by
  subst hv
  intro j hj
  rw [List.length_set] at hj
  refine ⟨?_, by rw [World.frozen?_setCell]; exact (h j hj).2⟩
  by_cases e : k = j
  · subst e
    rw [World.cell?_setCell_same w _ _ (h k hj).1, List.getElem_set_self]
  · rw [World.cell?_setCell_other w _ _ _ (by intro h; exact e (by cases h; rfl)), List.getElem_set_ne e]
    exact (h j hj).1

/-- What '[]byte(s)' lays. -/
theorem Row.conv (w : World) (s : ByteArray) (e : TypeId) (cap : Nat) : Row ((w.alloc (.cells (bytesRow s cap) e ((bytesRow s cap).size, (bytesRow s cap).size + 1))).drew) w.heap.size s.data.toList := by
  intro j hj
  have hj' : j < s.data.size := by simpa using hj
  refine ⟨?_, ?_⟩
  · show (w.alloc _).cell? _ = _
    rw [World.cell?_alloc_mark, bytesRow_at s cap j hj']
    rfl
  · show (w.alloc _).frozen? _ = _
    rw [World.frozen?_alloc_mark]
    have : s.data.size ≤ (bytesRow s cap).size := by unfold bytesRow; simp
    simp; omega

/-- 'string(b)'. -/
theorem Row.back {P : Program} {w : World} {b : Nat} {l : List UInt8} (h : Row w b l) (src dst e : TypeId) (n cap : Nat) (hn : l.length = n) (hs : P.underlying src = some (.slice e)) (he : P.underlying e = some (.int .u8)) (hd : P.underlying dst = some .string) :
    (convert src dst (.slice (some ⟨b, 0, none⟩) n cap)).run P w = .ok (.string ⟨l.toArray⟩) w := by
  subst hn
  exact run_convert_bytes_back w src dst e ⟨b, 0, none⟩ cap l hs he hd fun j hj => by
    have : (⟨b, 0, none⟩ : Addr).add j = ⟨b, j, none⟩ := by unfold Addr.add; split <;> simp_all
    rw [this]; exact (h j hj).1

/-- The first k bytes small, the others as they were. -/
def lowTo (l : List UInt8) (k : Nat) : List UInt8 := lower (l.take k) ++ l.drop k
theorem lowTo_zero (l : List UInt8) : lowTo l 0 = l := by simp [lowTo, lower]
theorem lowTo_length (l : List UInt8) (k : Nat) : (lowTo l k).length = l.length := by simp [lowTo, lower]; omega
theorem lowTo_all (l : List UInt8) (k : Nat) (h : l.length ≤ k) : lowTo l k = lower l := by
  simp [lowTo, List.take_of_length_le h, List.drop_eq_nil_of_le h]
theorem lowTo_at (l : List UInt8) (k : Nat) (h : k < l.length) (h' : k < (lowTo l k).length) : (lowTo l k)[k] = l[k] := by
  have e : (lowTo l k)[k]? = l[k]? := by
    unfold lowTo
    rw [List.getElem?_append_right (by simp [lower]; omega)]
    simp [lower, Nat.min_eq_left (Nat.le_of_lt h)]
  rw [List.getElem?_eq_getElem h', List.getElem?_eq_getElem h, Option.some.injEq] at e
  exact e
theorem lowTo_step (l : List UInt8) (k : Nat) (h : k < l.length) : lowTo l (k + 1) = (lowTo l k).set k (lowC l[k]) := by
  unfold lowTo
  rw [List.set_append_right _ _ (by simp [lower]; omega), List.take_succ_eq_append_getElem h, lower, List.map_append, List.append_assoc]
  congr 1
  have e : k - (lower (l.take k)).length = 0 := by simp [lower]; omega
  rw [e, List.drop_eq_getElem_cons h]
  rfl
theorem lowTo_stay (l : List UInt8) (k : Nat) (h : k < l.length) (hc : ¬ (65 ≤ l[k].toNat ∧ l[k].toNat ≤ 90)) : lowTo l (k + 1) = lowTo l k := by
  rw [lowTo_step l k h, lowC_no _ hc]
  refine List.ext_getElem (by simp) fun j h1 h2 => ?_
  rw [List.getElem_set]
  split
  · subst_vars; exact (lowTo_at l _ h _).symm
  · rfl

end Tx
end Go.Proofs.YtbpdhcfmdkmoiaaGreatDoor

namespace Go.Proofs.YtbpdhcfmdkmoiaaGreatDoor
open Go.RowKit

theorem ret_str' {a b : ByteArray} (h : a = b) : Ending.returned (.string a) = .returned (.string b) := by rw [h]

set_option maxHeartbeats 1000000 in
theorem lower_any (s : ByteArray) (w : World) (hs : s.size ≤ maxLen) :
    Calls Tryz.prog 88 #[.string s] w fun e w' => e = .returned (.string ⟨(Tx.lower s.data.toList).toArray⟩) ∧ Below w.heap.size w w' := by
  unfold maxLen at hs
  have hconv := run_bytes_of_string (P := Tryz.prog) w 9 58 5 s Tryz.underlying9 Tryz.underlying58 Tryz.underlying5
  go_enter Tryz.func88, Tryz.ntmps88
  go_wp2
  clear hconv
  go_loopw [10] (fun i wr => ∃ k : Nat, k ≤ s.size ∧ i = .int .i64 k ∧ Tx.Row wr w.heap.size (Tx.lowTo s.data.toList k) ∧ Below w.heap.size w wr) (fun i _ => s.size - (intOf i).toNat)
  case atStart => exact ⟨0, Nat.zero_le _, rfl, by rw [Tx.lowTo_zero]; exact Tx.Row.conv w s _ _, ((Below.refl _ _).alloc (Nat.le_refl _) _).drew⟩
  case round =>
    obtain ⟨k, hk, rfl, hrow, hbel⟩ := hrel
    by_cases hlt : k < s.size
    · have hl : k < s.data.toList.length := by rw [← Lib.size_eq]; exact hlt
      have hat := hrow k (by rw [Tx.lowTo_length]; exact hl)
      rw [Tx.lowTo_at _ k hl] at hat
      obtain ⟨hcell, hfr⟩ := hat
      replace hcell : wr.cell? ⟨w.heap.size, k, none⟩ = some (.int .u8 (s[k].toNat : Int)) := hcell
      have HR : Hid (Tx.Row wr w.heap.size (Tx.lowTo s.data.toList k)) := hrow
      have HB : Hid (Below w.heap.size w wr) := hbel
      clear hrow hbel
      by_cases hc : (65 : Int) ≤ (s[k].toNat : Int) ∧ (s[k].toNat : Int) ≤ 90
      · obtain ⟨hc1, hc2⟩ := hc
        go_wp2
        go_roundw
        case rel =>
          refine ⟨k + 1, by omega, by go_num, ?_, HB.out.setCell (Nat.le_refl _) _⟩
          rw [Tx.lowTo_step _ k hl]
          exact HR.out.set k _ _ (by rw [show s.data.toList[k] = s[k] from rfl, Tx.lowC_up _ (by omega) (by omega)]; omega)
        case measure => simp [intOf]; omega
      · by_cases hc1 : (65 : Int) ≤ (s[k].toNat : Int)
        all_goals
          go_wp2
          go_roundw
          case rel => exact ⟨k + 1, by omega, by go_num, by rw [Tx.lowTo_stay _ k hl (by rw [show s.data.toList[k] = s[k] from rfl]; omega)]; exact HR.out, HB.out⟩
          case measure => simp [intOf]; omega
    · have hback := hrow.back (P := Tryz.prog) 58 9 5 s.size (grownCap w s.size 0 5) (by rw [Tx.lowTo_length, Lib.size_eq]) Tryz.underlying58 Tryz.underlying5 Tryz.underlying9
      have HF : Hid (Tx.lowTo s.data.toList k = Tx.lower s.data.toList) := Tx.lowTo_all _ k (by rw [← Lib.size_eq]; omega)
      have HB : Hid (Below w.heap.size w wr) := hbel
      clear hrow hbel
      go_wp2
      go_ret
      exact ⟨ret_str' (by rw [HF.out]), HB.out⟩

end Go.Proofs.YtbpdhcfmdkmoiaaGreatDoor

namespace Go.Proofs.YtbpdhcfmdkmoiaaGreatDoor
open Go.RowKit

theorem ba_list (l : List UInt8) : (⟨l.toArray⟩ : ByteArray).toList = l := by rw [Lib.toList_data]

end Go.Proofs.YtbpdhcfmdkmoiaaGreatDoor

namespace Go.Proofs.YtbpdhcfmdkmoiaaGreatDoor
open Go.RowKit

theorem minfo_parts {P : Program} {t : TypeId} {z : Option Value} {s b : Nat} (h : (P.info? t).map (fun i => (i.zero, i.size, i.bytes)) = some (z, s, b)) : ∃ i, P.info? t = some i ∧ i.zero = z ∧ i.size = s ∧ i.bytes = b := by
  cases hq : P.info? t with
  | none => simp [hq] at h
  | some i => simp [hq] at h; exact ⟨i, rfl, h.1, h.2.1, h.2.2⟩
theorem infoF14 : (Tryz.prog.info? 52).map (fun i => (i.zero, i.size, i.bytes)) = some (some (.agg #[.string ⟨#[]⟩, .string ⟨#[]⟩]), 2, 32) := by kernel_rfl
theorem own_shape {w : World} {B : Nat} {e : TypeId} {s : Nat} {v : Value} {n : Nat} {xs : List Value} (h : w.ownsRow B e s v n xs) : ∃ ao cap, v = .slice ao n cap := by
  rcases h.2 with ⟨h1, rfl⟩ | ⟨g, cap, cur, h1, _⟩
  · exact ⟨none, 0, h1⟩
  · exact ⟨_, cap, h1⟩
theorem two_new (w : World) (T : TypeId) (x0 x1 : Value) : ∀ j v, [x0, x1][j]? = some v → (w.alloc (.cells #[x0, x1] T)).cell? ((⟨w.heap.size, 0, none⟩ : Addr).add j) = some v := by
  intro j v h
  rw [Addr.add_mid, Nat.zero_add]
  have hA : Ar (w.alloc (.cells #[x0, x1] T)) w.heap.size T #[x0, x1] := heap_alloc_last w _
  exact hA.cell j v (by simpa using h)

theorem drop1 (L : List UInt8) (k : Nat) (c : UInt8) (hc : L[k]? = some c) : L.drop k = c :: L.drop (k + 1) := by
  obtain ⟨h1, h2⟩ := List.getElem?_eq_some_iff.1 hc
  rw [List.drop_eq_getElem_cons h1, h2]

end Go.Proofs.YtbpdhcfmdkmoiaaGreatDoor
