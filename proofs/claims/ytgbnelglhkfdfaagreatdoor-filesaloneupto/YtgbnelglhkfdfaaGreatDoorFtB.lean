/-
  The functions on one byte, each by its contract.
  isTokenByte, Token and the document's Token, each by its contract.
  Trim, Value and the document's Trim, Value, each by its contract.
  Rows of bytes in memory: what a block's first cells hold, as a list; what a store does to it.
  Lower, Same and the document's Lower, Same, each by its contract.
  The document's Lower, by its contract.
  The document's in, Bound, pseudo, find: by their contracts.
  The document's Strip, goes, decimal: by their contracts.
  A region that draws its order, whose operations only read, and whose callees only make memory: walked once, in the order of the text. What is of no program.
  A region that draws its order, walked once in the order of the text, where operations are passed by: what is of no program.
  The document's decimal, plain: by their contracts.
  The document's plain: by its contract.
  Numbers that texts write: plain functions and lemmas, with no program in sight.
  Messages on lists: walks, lengths, trailers, targets. What is of no program.
  The document's Length: by its contract, out of Number's.
  The document's walk over a header list: by its contract.
  The document's Trailers, Same, SameRequest: by their contracts.
  The document's SameRequest, of requests that are the same: by its contract.
  The document's SameResponse, of responses that are the same: by its contract.
-/
import Derived.Test.YtgbnelglhkfdfaaGreatDoorProg
import Derived.Test.YtgbnelglhkfdfaaGreatDoorFtA
import Derived.WalkKit
import Derived.WalkSpells
import Derived.Test.YtgbnelglhkfdfaaGreatDoorShelf
import Derived.Laws.IdiomStrings
import Derived.Deep.QuietTactic
import Derived.BigQuiet
import Derived.Maps.AppendAt
import Derived.Shelf.SlSortCmp.QuietGrown
import Derived.Deep.CutRange
import Derived.Laws.StructEq
namespace Go.Proofs.YtgbnelglhkfdfaaGreatDoor
open Go.RowKit

theorem ret_bool {a b : Bool} (h : a = b) : Ending.returned (.bool a) = .returned (.bool b) := by rw [h]
theorem ret_int {k : IntKind} {a b : Int} (h : a = b) : Ending.returned (.int k a) = .returned (.int k b) := by rw [h]

set_option maxHeartbeats 400000 in
theorem isDigit_any (c : Int) (w : World) : Calls Tryz.prog 189 #[.int .u8 c] w fun e w' => e = .returned (.bool (Tx.digC c)) ∧ w' = w := by
  go_enter Tryz.func189, Tryz.ntmps189
  go_wp2
  all_goals go_ret
  all_goals exact ⟨ret_bool (by rw [Bool.eq_iff_iff]; simp [Tx.digC]; omega), rfl⟩

set_option maxHeartbeats 400000 in
theorem isBlank_any (c : Int) (w : World) : Calls Tryz.prog 138 #[.int .u8 c] w fun e w' => e = .returned (.bool (Tx.blkC c)) ∧ w' = w := by
  go_enter Tryz.func138, Tryz.ntmps138
  go_wp2
  all_goals go_ret
  all_goals exact ⟨ret_bool (by rw [Bool.eq_iff_iff]; simp [Tx.blkC]; try omega), rfl⟩

set_option maxHeartbeats 1000000 in
theorem digit_any (c : Int) (h0 : 0 ≤ c) (h1 : c ≤ 255) (w : World) : Calls Tryz.prog 178 #[.int .u8 c] w fun e w' => e = .returned (.int .i64 (Tx.dgt c)) ∧ w' = w := by
  go_enter Tryz.func178, Tryz.ntmps178
  go_wp2
  all_goals go_ret
  all_goals exact ⟨ret_int (by simp [Tx.dgt, Tx.digC]; repeat' split; all_goals omega), rfl⟩

end Go.Proofs.YtgbnelglhkfdfaaGreatDoor

namespace Go.Proofs.YtgbnelglhkfdfaaGreatDoor
open Go.RowKit

def ixC (c : Int) : Int := Lib.indexByte [33, 35, 36, 37, 38, 39, 42, 43, 45, 46, 94, 95, 96, 124, 126] c.toNat.toUInt8
theorem ix_fin : ∀ n : Fin 256, decide (0 ≤ ixC (n.val : Int)) = Tx.markC (n.val : Int) := by decide +kernel
theorem ix_mark (c : Int) (h0 : 0 ≤ c) (h1 : c ≤ 255) : decide (0 ≤ ixC c) = Tx.markC c := by
  obtain ⟨n, rfl⟩ := Int.eq_ofNat_of_zero_le h0
  exact ix_fin ⟨n, by omega⟩
theorem indexByte_c (c : Int) (w : World) : Calls Tryz.prog 194 #[.string ⟨#[33, 35, 36, 37, 38, 39, 42, 43, 45, 46, 94, 95, 96, 124, 126]⟩, .int .u8 c] w fun e w' => e = .returned (.int .i64 (ixC c)) ∧ w' = w :=
  Tryz.strings_IndexByte _ c w

end Go.Proofs.YtgbnelglhkfdfaaGreatDoor

namespace Go.Proofs.YtgbnelglhkfdfaaGreatDoor
open Go.RowKit

theorem ret_str {a b : ByteArray} (h : a = b) : Ending.returned (.string a) = .returned (.string b) := by rw [h]

set_option maxHeartbeats 1000000 in
theorem trim_any (s : ByteArray) (w : World) (hs : s.size ≤ maxLen) :
    Calls Tryz.prog 98 #[.string s] w fun e w' => e = .returned (.string ⟨(Tx.trim s.data.toList).toArray⟩) ∧ w' = w := by
  unfold maxLen at hs
  go_enter Tryz.func98, Tryz.ntmps98
  go_wp2
  go_loop [3] (fun i => ∃ k : Nat, k ≤ s.size ∧ i = .int .i64 k ∧ ∀ x ∈ s.data.toList.take k, Tx.blkB x = true) (fun i => s.size - (intOf i).toNat)
  case atStart => exact ⟨0, Nat.zero_le _, rfl, fun x hx => by simp at hx⟩
  case round =>
    obtain ⟨k, hk, rfl, hall⟩ := hrel
    have HA : Hid (∀ x ∈ s.data.toList.take k, Tx.blkB x = true) := hall
    clear hall
    by_cases hlt : ∃ h : k < s.size, Tx.blkC (s[k].toNat : Int) = true
    · obtain ⟨hlt, ht⟩ := hlt
      have HS : Hid (∀ x ∈ s.data.toList.take (k + 1), Tx.blkB x = true) := Tx.blk_snoc s k hlt HA.out ht
      go_wp2_with (go_at_call 138; refine (isBlank_any _ _).mono ?_; rintro e w' ⟨rfl, rfl⟩)
      go_round
      case rel => exact ⟨k + 1, by omega, by go_num, HS.out⟩
      case measure => simp [intOf]; omega
    · have H1 : Hid (∀ x, s.data.toList[k]? = some x → Tx.blkB x = false) := by
        intro x hx
        by_cases h : k < s.size
        · rw [Tx.get_byte s k h, Option.some.injEq] at hx; subst hx
          have : ¬ Tx.blkC (s[k].toNat : Int) = true := fun hb => hlt ⟨h, hb⟩
          simpa [Tx.blkB] using this
        · rw [List.getElem?_eq_none (by rw [← Lib.size_eq]; omega)] at hx; cases hx
      have H0 : ∀ h : k < s.size, Tx.blkC (s[k].toNat : Int) = false := fun h => by
        have := H1.out s[k] (Tx.get_byte s k h); exact this
      clear hlt
      by_cases hlt : k < s.size
      · have ht := H0 hlt
        clear H0
        go_wp2_with (go_at_call 138; refine (isBlank_any _ _).mono ?_; rintro e w' ⟨rfl, rfl⟩)
        go_loop [4] (fun j => ∃ m : Nat, k ≤ m ∧ m ≤ s.size ∧ j = .int .i64 m ∧ ∀ x ∈ s.data.toList.drop m, Tx.blkB x = true) (fun j => (intOf j).toNat)
        case atStart => exact ⟨s.size, hk, Nat.le_refl _, rfl, Tx.drop_all s⟩
        case round =>
          obtain ⟨m, hkm, hms, rfl, hall⟩ := hrel
          have HM : Hid (∀ x ∈ s.data.toList.drop m, Tx.blkB x = true) := hall
          clear hall
          by_cases hlt2 : k < m
          · obtain ⟨m, rfl⟩ : ∃ m', m = m' + 1 := ⟨m - 1, by omega⟩
            have hm1 : m < s.size := by omega
            by_cases ht2 : Tx.blkC (s[m].toNat : Int) = true
            · have HS : Hid (∀ x ∈ s.data.toList.drop m, Tx.blkB x = true) := Tx.blk_pre s m hm1 HM.out ht2
              go_wp2_with (go_at_call 138; refine (isBlank_any _ _).mono ?_; rintro e w' ⟨rfl, rfl⟩)
              go_round
              case rel => exact ⟨m, by omega, by omega, by go_num, HS.out⟩
              case measure => simp [intOf]
            · replace ht2 : Tx.blkC (s[m].toNat : Int) = false := by simpa using ht2
              have HF : Hid (s.extract k (m + 1) = ⟨(Tx.trim s.data.toList).toArray⟩) := Tx.trim_cut s k (m + 1) (by omega) hms HA.out HM.out H1.out (fun x _ hx => by
                rw [Nat.add_sub_cancel, Tx.get_byte s m hm1, Option.some.injEq] at hx; subst hx; exact ht2)
              go_wp2_with (go_at_call 138; refine (isBlank_any _ _).mono ?_; rintro e w' ⟨rfl, rfl⟩)
              go_ret
              exact ⟨ret_str (by exact HF.out), rfl⟩
          · have HF : Hid (s.extract k m = ⟨(Tx.trim s.data.toList).toArray⟩) := Tx.trim_cut s k m (by omega) hms HA.out HM.out H1.out (fun x h _ => absurd h hlt2)
            go_wp2
            go_ret
            exact ⟨ret_str (by exact HF.out), rfl⟩
      · clear H0
        obtain rfl : k = s.size := by omega
        go_wp2
        go_loop [4] (fun j => j = .int .i64 s.size) (fun _ => 0)
        case atStart => rfl
        case round =>
          obtain rfl := hrel
          have HF : Hid (ByteArray.empty = ⟨(Tx.trim s.data.toList).toArray⟩) := (show ByteArray.empty = s.extract s.size s.size by simp).trans <| Tx.trim_cut s s.size s.size (Nat.le_refl _) (Nat.le_refl _) HA.out (Tx.drop_all s) H1.out (fun x h _ => absurd h (Nat.lt_irrefl _))
          go_wp2
          go_ret
          exact ⟨ret_str (by exact HF.out), rfl⟩

end Go.Proofs.YtgbnelglhkfdfaaGreatDoor

namespace Go.Proofs.YtgbnelglhkfdfaaGreatDoor
namespace Tx

/-- Block b's first cells hold the bytes l, and may be written. -/
def Row (w : World) (b : Nat) (l : List UInt8) : Prop := ∀ j (hj : j < l.length), w.cell? ⟨b, j, none⟩ = some (.int .u8 (l[j].toNat : Int)) ∧ w.frozen? ⟨b, j, none⟩ = false

theorem Row.set {w : World} {b : Nat} {l : List UInt8} (h : Row w b l) (k : Nat) (c : UInt8) (v : Int) (hv : v = (c.toNat : Int)) : Row (w.setCell ⟨b, k, none⟩ (.int .u8 v)) b (l.set k c) := by
  subst hv
  intro j hj
  rw [List.length_set] at hj
  refine ⟨?_, by rw [World.frozen?_setCell]; exact (h j hj).2⟩
  by_cases e : k = j
  · subst e
    rw [World.cell?_setCell_same w _ _ (h k hj).1, List.getElem_set_self]
  · rw [World.cell?_setCell_other w _ _ _ (by intro h; exact e (by cases h; rfl)), List.getElem_set_ne e]
    exact (h j hj).1

/-- What '[]byte(s)' lays. -/
theorem Row.conv (w : World) (s : ByteArray) (e : TypeId) (cap : Nat) : Row ((w.alloc (.cells (bytesRow s cap) e ((bytesRow s cap).size, (bytesRow s cap).size + 1))).drew) w.heap.size s.data.toList := by
  intro j hj
  have hj' : j < s.data.size := by simpa using hj
  refine ⟨?_, ?_⟩
  · show (w.alloc _).cell? _ = _
    rw [World.cell?_alloc_mark, bytesRow_at s cap j hj']
    rfl
  · show (w.alloc _).frozen? _ = _
    rw [World.frozen?_alloc_mark]
    have : s.data.size ≤ (bytesRow s cap).size := by unfold bytesRow; simp
    simp; omega

/-- 'string(b)'. -/
theorem Row.back {P : Program} {w : World} {b : Nat} {l : List UInt8} (h : Row w b l) (src dst e : TypeId) (n cap : Nat) (hn : l.length = n) (hs : P.underlying src = some (.slice e)) (he : P.underlying e = some (.int .u8)) (hd : P.underlying dst = some .string) :
    (convert src dst (.slice (some ⟨b, 0, none⟩) n cap)).run P w = .ok (.string ⟨l.toArray⟩) w := by
  subst hn
  exact run_convert_bytes_back w src dst e ⟨b, 0, none⟩ cap l hs he hd fun j hj => by
    have : (⟨b, 0, none⟩ : Addr).add j = ⟨b, j, none⟩ := by unfold Addr.add; split <;> simp_all
    rw [this]; exact (h j hj).1

/-- The first k bytes small, the others as they were. -/
def lowTo (l : List UInt8) (k : Nat) : List UInt8 := lower (l.take k) ++ l.drop k
theorem lowTo_zero (l : List UInt8) : lowTo l 0 = l := by simp [lowTo, lower]
theorem lowTo_length (l : List UInt8) (k : Nat) : (lowTo l k).length = l.length := by simp [lowTo, lower]; omega
theorem lowTo_all (l : List UInt8) (k : Nat) (h : l.length ≤ k) : lowTo l k = lower l := by
  simp [lowTo, List.take_of_length_le h, List.drop_eq_nil_of_le h]
theorem lowTo_at (l : List UInt8) (k : Nat) (h : k < l.length) (h' : k < (lowTo l k).length) : (lowTo l k)[k] = l[k] := by
  have e : (lowTo l k)[k]? = l[k]? := by
    unfold lowTo
    rw [List.getElem?_append_right (by simp [lower]; omega)]
    simp [lower, Nat.min_eq_left (Nat.le_of_lt h)]
  rw [List.getElem?_eq_getElem h', List.getElem?_eq_getElem h, Option.some.injEq] at e
  exact e
theorem lowTo_step (l : List UInt8) (k : Nat) (h : k < l.length) : lowTo l (k + 1) = (lowTo l k).set k (lowC l[k]) := by
  unfold lowTo
  rw [List.set_append_right _ _ (by simp [lower]; omega), List.take_succ_eq_append_getElem h, lower, List.map_append, List.append_assoc]
  congr 1
  have e : k - (lower (l.take k)).length = 0 := by simp [lower]; omega
  rw [e, List.drop_eq_getElem_cons h]
  rfl
theorem lowTo_stay (l : List UInt8) (k : Nat) (h : k < l.length) (hc : ¬ (65 ≤ l[k].toNat ∧ l[k].toNat ≤ 90)) : lowTo l (k + 1) = lowTo l k := by
  rw [lowTo_step l k h, lowC_no _ hc]
  refine List.ext_getElem (by simp) fun j h1 h2 => ?_
  rw [List.getElem_set]
  split
  · subst_vars; exact (lowTo_at l _ h _).symm
  · rfl

end Tx
end Go.Proofs.YtgbnelglhkfdfaaGreatDoor

namespace Go.Proofs.YtgbnelglhkfdfaaGreatDoor
open Go.RowKit

theorem ret_str' {a b : ByteArray} (h : a = b) : Ending.returned (.string a) = .returned (.string b) := by rw [h]

end Go.Proofs.YtgbnelglhkfdfaaGreatDoor

namespace Go.Proofs.YtgbnelglhkfdfaaGreatDoor
open Go.RowKit

end Go.Proofs.YtgbnelglhkfdfaaGreatDoor

namespace Go.Proofs.YtgbnelglhkfdfaaGreatDoor
open Go.RowKit

def sC (l : List (List UInt8)) : List Value := l.map fun t => .string ⟨t.toArray⟩
theorem ba_list (l : List UInt8) : (⟨l.toArray⟩ : ByteArray).toList = l := by rw [Lib.toList_data]
theorem mret_bool {a b : Bool} (h : a = b) : Ending.returned (.bool a) = .returned (.bool b) := by rw [h]
theorem has_drop {l : List (List UInt8)} {i : Nat} {t : List UInt8} (h : l[i]? = some t) (x : List UInt8) : (l.drop i).contains x = (t == x || (l.drop (i + 1)).contains x) := by
  obtain ⟨h1, h2⟩ := List.getElem?_eq_some_iff.1 h
  rw [List.drop_eq_getElem_cons h1, h2, List.contains_cons, show (x == t) = (t == x) from Bool.eq_iff_iff.2 (by rw [beq_iff_eq, beq_iff_eq]; exact eq_comm)]

theorem psd_yes {x : ByteArray} (h : 0 < x.size) : Ms.psd x = (((x[0].toNat : Int)) == 58) := by
  have h1 : (Ms.tx x).head? = some x[0] := by
    unfold Ms.tx
    rw [List.head?_eq_getElem?, List.getElem?_eq_getElem (by rw [← Lib.size_eq]; exact h)]
    rfl
  unfold Ms.psd
  rw [h1, Bool.eq_iff_iff, beq_iff_eq, beq_iff_eq]
  constructor
  · intro e; injection e with e; rw [e]; rfl
  · intro e
    congr 1
    apply UInt8.toNat_inj.1
    have : (58 : UInt8).toNat = 58 := rfl
    omega
theorem psd_no {x : ByteArray} (h : ¬ 0 < x.size) : Ms.psd x = false := by
  have : Ms.tx x = [] := List.eq_nil_of_length_eq_zero (by unfold Ms.tx; rw [← Lib.size_eq]; omega)
  unfold Ms.psd
  rw [this]
  rfl

theorem fnd_drop {l : List Fd} {i : Nat} {f : Fd} (h : l[i]? = some f) (x : List UInt8) : Ms.fnd x (l.drop i) = if f.n.toList == x then some f.v else Ms.fnd x (l.drop (i + 1)) := by
  obtain ⟨h1, h2⟩ := List.getElem?_eq_some_iff.1 h
  rw [List.drop_eq_getElem_cons h1, h2, Ms.fnd, Ms.tx, Lib.toList_data]
def fndV (o : Option ByteArray) : Value := .tuple #[.string (o.getD ⟨#[]⟩), .bool o.isSome]

end Go.Proofs.YtgbnelglhkfdfaaGreatDoor

namespace Go.Proofs.YtgbnelglhkfdfaaGreatDoor
open Go.RowKit

theorem minfo_parts {P : Program} {t : TypeId} {z : Option Value} {s b : Nat} (h : (P.info? t).map (fun i => (i.zero, i.size, i.bytes)) = some (z, s, b)) : ∃ i, P.info? t = some i ∧ i.zero = z ∧ i.size = s ∧ i.bytes = b := by
  cases hq : P.info? t with
  | none => simp [hq] at h
  | some i => simp [hq] at h; exact ⟨i, rfl, h.1, h.2.1, h.2.2⟩
theorem infoF14 : (Tryz.prog.info? 42).map (fun i => (i.zero, i.size, i.bytes)) = some (some (.agg #[.string ⟨#[]⟩, .string ⟨#[]⟩]), 2, 32) := by kernel_rfl
theorem own_shape {w : World} {B : Nat} {e : TypeId} {s : Nat} {v : Value} {n : Nat} {xs : List Value} (h : w.ownsRow B e s v n xs) : ∃ ao cap, v = .slice ao n cap := by
  rcases h.2 with ⟨h1, rfl⟩ | ⟨g, cap, cur, h1, _⟩
  · exact ⟨none, 0, h1⟩
  · exact ⟨_, cap, h1⟩
theorem two_new (w : World) (T : TypeId) (x0 x1 : Value) : ∀ j v, [x0, x1][j]? = some v → (w.alloc (.cells #[x0, x1] T)).cell? ((⟨w.heap.size, 0, none⟩ : Addr).add j) = some v := by
  intro j v h
  rw [Addr.add_mid, Nat.zero_add]
  have hA : Ar (w.alloc (.cells #[x0, x1] T)) w.heap.size T #[x0, x1] := heap_alloc_last w _
  exact hA.cell j v (by simpa using h)

theorem drop1 (L : List UInt8) (k : Nat) (c : UInt8) (hc : L[k]? = some c) : L.drop k = c :: L.drop (k + 1) := by
  obtain ⟨h1, h2⟩ := List.getElem?_eq_some_iff.1 hc
  rw [List.drop_eq_getElem_cons h1, h2]
theorem u8_is {c : UInt8} {n : Nat} (hn : n < 256) : (c == UInt8.ofNat n) = ((c.toNat : Int) == (n : Int)) := by
  rw [Bool.eq_iff_iff, beq_iff_eq, beq_iff_eq]
  constructor
  · rintro rfl; rw [UInt8.toNat_ofNat', Nat.mod_eq_of_lt hn]
  · intro h
    apply UInt8.toNat_inj.1
    rw [UInt8.toNat_ofNat', Nat.mod_eq_of_lt hn]; omega
theorem head_at {x : ByteArray} (h : 0 < x.size) (n : Nat) (hn : n < 256) : ((Ms.tx x).head? == some (UInt8.ofNat n)) = ((x[0].toNat : Int) == (n : Int)) := by
  have h1 : (Ms.tx x).head? = some x[0] := by
    unfold Ms.tx
    rw [List.head?_eq_getElem?, List.getElem?_eq_getElem (by rw [← Lib.size_eq]; exact h)]
    rfl
  rw [h1, ← u8_is hn]
  rfl

end Go.Proofs.YtgbnelglhkfdfaaGreatDoor

namespace Go.Proofs.YtgbnelglhkfdfaaGreatDoor
open Go.RowKit

/-- A world behind w in which all that lay in w is as it was. -/
structure BW (w : World) where
  W : World
  h : Below w.heap.size w W
theorem wp_region_below {P : Program} {id : Nat} {Q : Exit → Act → World → Prop} {a : Act} {w : World} {l : List Oper} (hm : P.follows .mixedOrders = true) (hB : Region.lexB .any l.toArray = true)
    (h : wpQuiet P l.toArray (fun w' => ∃ p : BW w, w' = p.W) (fun a' => ∀ w', (∃ p : BW w, w' = p.W) → Q .normal a' w') l a) : (Code.region id l.toArray true).wp P Q a w :=
  wp_region_quiet (C := fun w' => ∃ p : BW w, w' = p.W) hm hB ⟨⟨_, (Below.refl _ _).drew⟩, rfl⟩ (by simpa using h)
theorem Calls.below_of {P : Program} {f : FuncId} {args : Array Value} {w : World} {p : BW w} {v : Value}
    (h : Calls P f args p.W fun e w' => e = .returned v ∧ Below p.W.heap.size p.W w') : Calls P f args p.W fun e w'' => e = .returned v ∧ ∃ p : BW w, w'' = p.W :=
  h.mono fun _ w' ⟨he, hb⟩ => ⟨he, ⟨w', below_two p.h hb⟩, rfl⟩
theorem Calls.below_same {P : Program} {f : FuncId} {args : Array Value} {w : World} {p : BW w} {v : Value}
    (h : Calls P f args p.W fun e w' => e = .returned v ∧ w' = p.W) : Calls P f args p.W fun e w'' => e = .returned v ∧ ∃ p : BW w, w'' = p.W :=
  h.mono fun _ _ ⟨he, hb⟩ => ⟨he, p, hb⟩
theorem BW.cell {w : World} {a : Addr} {v : Value} (hb : a.block < w.heap.size) (h : w.cell? a = some v) (p : BW w) : p.W.cell? a = some v := (p.h.cell hb).trans h

end Go.Proofs.YtgbnelglhkfdfaaGreatDoor

namespace Go.Proofs.YtgbnelglhkfdfaaGreatDoor
open Go.RowKit

/-- What is left of the walk, shut: else the elaborator runs on through the operations that are passed by. -/
structure QS (P : Program) (ops : Array Oper) (C : World → Prop) (Q : Act → Prop) (l : List Oper) (a : Act) : Prop where
  out : wpQuiet P ops C Q l a
theorem QS.nil {P : Program} {ops : Array Oper} {C : World → Prop} {Q : Act → Prop} {a : Act} (h : Q a) : QS P ops C Q [] a := ⟨wpQuiet_nil h⟩
theorem QS.step {P : Program} {ops : Array Oper} {C : World → Prop} {Q : Act → Prop} {a : Act} {o : Oper} {rest : List Oper}
    (h : ∀ K : Act → Prop, (∀ a, QS P ops C Q rest a → K a) → if Region.wanted o (yielded ops a.tmps) then o.quiet P a C K else K (a.put o.dst undef)) : QS P ops C Q (o :: rest) a :=
  ⟨wpQuiet_step (fun K hK => h K (fun a hq => hK a hq.out))⟩
theorem wp_region_below_s {P : Program} {id : Nat} {Q : Exit → Act → World → Prop} {a : Act} {w : World} {l : List Oper} (hm : P.follows .mixedOrders = true) (hB : Region.lexB .any l.toArray = true)
    (h : QS P l.toArray (fun w' => ∃ p : BW w, w' = p.W) (fun a' => ∀ w', (∃ p : BW w, w' = p.W) → Q .normal a' w') l a) : (Code.region id l.toArray true).wp P Q a w :=
  wp_region_below hm hB h.out

end Go.Proofs.YtgbnelglhkfdfaaGreatDoor

namespace Go.Proofs.YtgbnelglhkfdfaaGreatDoor
open Go.RowKit

theorem dec_empty {x : ByteArray} (h : (x.toList == []) = true) : Ms.dec x = false := by
  unfold Ms.dec
  rw [show (Ms.tx x == []) = true by rw [Ms.tx, ← Lib.toList_data]; exact h]
  rfl

end Go.Proofs.YtgbnelglhkfdfaaGreatDoor

namespace Go.Proofs.YtgbnelglhkfdfaaGreatDoor
open Go.RowKit

end Go.Proofs.YtgbnelglhkfdfaaGreatDoor

namespace Go.Proofs.YtgbnelglhkfdfaaGreatDoor
namespace Tx

/-- The greatest number. -/
def top : Int := 9223372036854775807
theorem top_eq : top = 9223372036854775807 := rfl
/-- The number that digits of base b write. -/
def numv (b : Int) (l : List UInt8) : Int := l.foldl (fun n c => n * b + dgt (c.toNat : Int)) 0
def digs (b : Int) (l : List UInt8) : Bool := allC (fun c => decide (dgt c < b)) l
theorem numv_snoc (b : Int) (l : List UInt8) (c : UInt8) : numv b (l ++ [c]) = numv b l * b + dgt (c.toNat : Int) := by
  unfold numv; rw [List.foldl_append]; rfl
theorem numv_nonneg (b : Int) (hb : 0 ≤ b) (l : List UInt8) : 0 ≤ numv b l := by
  unfold numv
  suffices h : ∀ n : Int, 0 ≤ n → 0 ≤ l.foldl (fun n c => n * b + dgt (c.toNat : Int)) n from h 0 (Int.le_refl _)
  induction l with
  | nil => intro n hn; exact hn
  | cons c l ih => intro n hn; exact ih _ (Int.add_nonneg (Int.mul_nonneg hn hb) (dgt_bd _).1)

/-- P1.5: the number and the error's number. -/
def num (b : Int) (l : List UInt8) : Int × Int := if l.isEmpty || !digs b l then (0, 10) else if top < numv b l then (0, 5) else (numv b l, 0)

/-- What the loop of read keeps. -/
structure NumRel (b : Int) (l : List UInt8) (n : Int) (o : Bool) : Prop where
  digs : digs b l = true
  lo : 0 ≤ n
  hi : n ≤ top
  no : o = false → n = numv b l
  yes : o = true → top < numv b l
theorem NumRel.start (b : Int) : NumRel b [] 0 false := ⟨rfl, Int.le_refl _, by decide, fun _ => rfl, fun h => (by cases h)⟩
theorem digs_snoc (b : Int) (l : List UInt8) (c : UInt8) (h : digs b l = true) (hc : dgt (c.toNat : Int) < b) : digs b (l ++ [c]) = true := by
  unfold digs allC at *; rw [List.all_append, h]; simp [hc]
theorem NumRel.over {b : Int} {l : List UInt8} {n : Int} (h : NumRel b l n true) (hb : 1 ≤ b) (c : UInt8) (hc : dgt (c.toNat : Int) < b) : NumRel b (l ++ [c]) n true :=
  have hy : top < numv b (l ++ [c]) := by
    rw [numv_snoc]
    have h1 := h.yes rfl
    have h2 := (dgt_bd (c.toNat : Int)).1
    have h3 := numv_nonneg b (by omega) l
    have h4 : numv b l * 1 ≤ numv b l * b := Int.mul_le_mul_of_nonneg_left hb h3
    omega
  ⟨digs_snoc b l c h.digs hc, h.lo, h.hi, fun e => (by cases e), fun _ => hy⟩
theorem NumRel.goes {b : Int} {l : List UInt8} {n : Int} (h : NumRel b l n false) (c : UInt8) (hc : dgt (c.toNat : Int) < b) (hn : top < n * b + dgt (c.toNat : Int)) : NumRel b (l ++ [c]) n true :=
  ⟨digs_snoc b l c h.digs hc, h.lo, h.hi, fun e => (by cases e), fun _ => by rw [numv_snoc, ← h.no rfl]; exact hn⟩
theorem NumRel.step {b : Int} {l : List UInt8} {n : Int} (h : NumRel b l n false) (hb : 0 ≤ b) (c : UInt8) (hc : dgt (c.toNat : Int) < b) (hn : n * b + dgt (c.toNat : Int) ≤ top) : NumRel b (l ++ [c]) (n * b + dgt (c.toNat : Int)) false :=
  ⟨digs_snoc b l c h.digs hc, Int.add_nonneg (Int.mul_nonneg h.lo hb) (dgt_bd _).1, hn, fun _ => by rw [numv_snoc, ← h.no rfl], fun e => (by cases e)⟩
theorem num_bad (b : Int) (s : ByteArray) (k : Nat) (h : k < s.size) (hc : ¬ dgt (s[k].toNat : Int) < b) : num b s.data.toList = (0, 10) := by
  unfold num digs
  rw [allC_no _ s k h (by simpa using hc)]; simp
theorem num_empty (b : Int) (l : List UInt8) (h : l.isEmpty = true) : num b l = (0, 10) := by unfold num; rw [h]; simp
theorem num_over (b : Int) (s : ByteArray) (k : Nat) (h : s.size ≤ k) (he : s.data.toList.isEmpty = false) (n : Int) (hr : NumRel b (s.data.toList.take k) n true) : num b s.data.toList = (0, 5) := by
  rw [List.take_of_length_le (by rw [← Lib.size_eq]; exact h)] at hr
  unfold num
  rw [he, hr.digs, if_neg (by decide), if_pos (hr.yes rfl)]
theorem num_ok (b : Int) (s : ByteArray) (k : Nat) (h : s.size ≤ k) (he : s.data.toList.isEmpty = false) (n : Int) (hr : NumRel b (s.data.toList.take k) n false) : num b s.data.toList = (n, 0) := by
  rw [List.take_of_length_le (by rw [← Lib.size_eq]; exact h)] at hr
  have e := hr.no rfl
  have hi := hr.hi
  subst e
  unfold num
  rw [he, hr.digs, if_neg (by decide), if_neg (by omega)]

end Tx
end Go.Proofs.YtgbnelglhkfdfaaGreatDoor

namespace Go.Proofs.YtgbnelglhkfdfaaGreatDoor
namespace Ms
/-- The value that the length's fields say, ahead of it the one that was said; none: they are refused. -/
def lenGo : Option ByteArray → List Fd → Option (Option ByteArray)
  | cur, [] => some cur
  | cur, f :: r => if lo f.n == sLen then (if dec f.v && (match cur with | some v => f.v.toList == v.toList | none => true) then lenGo (some f.v) r else none) else lenGo cur r
def lenV : Option (Option ByteArray) → Value
  | none => .tuple #[.int .i64 0, .bool false, .int .i64 142]
  | some none => .tuple #[.int .i64 0, .bool false, .int .i64 0]
  | some (some v) => .tuple #[.int .i64 (Tx.num 10 v.data.toList).1, .bool true, .int .i64 0]
theorem len_drop {l : List Fd} {i : Nat} {f : Fd} (h : l[i]? = some f) (cur : Option ByteArray) : lenGo cur (l.drop i) = if lo f.n == sLen then (if dec f.v && (match cur with | some v => f.v.toList == v.toList | none => true) then lenGo (some f.v) (l.drop (i + 1)) else none) else lenGo cur (l.drop (i + 1)) := by
  obtain ⟨h1, h2⟩ := List.getElem?_eq_some_iff.1 h
  rw [List.drop_eq_getElem_cons h1, h2]
  cases cur <;> rfl
def opt (has : Bool) (v : ByteArray) : Option ByteArray := if has then some v else none
def bad1 (ahead : List Fd) (bh : Bool) (f : Fd) : Bool := bh || (fnd f.n.toList ahead).isSome || !pss.contains f.n.toList
def bad2 (ahead : List Fd) (f : Fd) : Bool := !plain f || (f.n.toList == [116, 101] && !(f.v.toList == [116, 114, 97, 105, 108, 101, 114, 115])) || (f.n.toList == [104, 111, 115, 116] && (fnd f.n.toList ahead).isSome)
/-- What is wrong with a header list from here on. -/
def walk (ahead : List Fd) (bh : Bool) : List Fd → Int
  | [] => 0
  | f :: r => if psd f.n then (if bad1 ahead bh f then 140 else walk (ahead ++ [f]) bh r) else if bad2 ahead f then 141 else walk (ahead ++ [f]) true r
theorem walk_drop {l : List Fd} {i : Nat} {f : Fd} (h : l[i]? = some f) (bh : Bool) : walk (l.take i) bh (l.drop i) = if psd f.n then (if bad1 (l.take i) bh f then 140 else walk (l.take (i + 1)) bh (l.drop (i + 1))) else if bad2 (l.take i) f then 141 else walk (l.take (i + 1)) true (l.drop (i + 1)) := by
  obtain ⟨h1, h2⟩ := List.getElem?_eq_some_iff.1 h
  rw [List.drop_eq_getElem_cons h1, h2, walk, List.take_add_one, h]
  rfl
/-- What is wrong with trailers. -/
def trail : List Fd → Int
  | [] => 0
  | f :: r => if psd f.n then 140 else if !plain f || noTr.contains f.n.toList then 143 else trail r
theorem trail_drop {l : List Fd} {i : Nat} {f : Fd} (h : l[i]? = some f) : trail (l.drop i) = if psd f.n then 140 else if !plain f || noTr.contains f.n.toList then 143 else trail (l.drop (i + 1)) := by
  obtain ⟨h1, h2⟩ := List.getElem?_eq_some_iff.1 h
  rw [List.drop_eq_getElem_cons h1, h2, trail]
def beg (x h : ByteArray) : Bool := decide (h.size ≤ x.size) && ((x.extract 0 h.size).toList == h.toList)
def bHttp : ByteArray := ⟨#[104, 116, 116, 112]⟩
def bHttps : ByteArray := ⟨#[104, 116, 116, 112, 115]⟩
def bHttp3 : ByteArray := ⟨#[104, 116, 116, 112, 58, 47, 47]⟩
def bHttps3 : ByteArray := ⟨#[104, 116, 116, 112, 115, 58, 47, 47]⟩
def goOn (c : UInt8) : Bool := !(c == 47) && !(c == 63)
/-- Where an authority ends. -/
def stop (L : List UInt8) : Nat := (L.takeWhile goOn).length
theorem stop_le (L : List UInt8) : stop L ≤ L.length := (List.takeWhile_sublist _).length_le
theorem stop_lt {L : List UInt8} {i : Nat} {c : UInt8} (hi : i < stop L) (hc : L[i]? = some c) : goOn c = true := by
  induction L generalizing i with
  | nil => simp at hc
  | cons a r ih =>
    unfold stop at hi
    rw [List.takeWhile_cons] at hi
    split at hi
    · rename_i ha
      cases i with
      | zero => simp at hc; subst hc; exact ha
      | succ i => exact ih (i := i) (by simp at hi; exact hi) (by simpa using hc)
    · simp at hi
theorem stop_at {L : List UInt8} {c : UInt8} (hc : L[stop L]? = some c) : goOn c = false := by
  induction L with
  | nil => simp at hc
  | cons a r ih =>
    unfold stop at hc
    rw [List.takeWhile_cons] at hc
    split at hc
    · exact ih (by simpa [stop] using hc)
    · rename_i ha
      simp at hc
      subst hc
      simpa using ha
def head47 (p : ByteArray) : ByteArray := if decide (0 < p.size) && ((tx p).head? == some 47) then p else ⟨#[47]⟩ ++ p
end Ms
end Go.Proofs.YtgbnelglhkfdfaaGreatDoor

namespace Go.Proofs.YtgbnelglhkfdfaaGreatDoor
open Go.RowKit

end Go.Proofs.YtgbnelglhkfdfaaGreatDoor

namespace Go.Proofs.YtgbnelglhkfdfaaGreatDoor
open Go.RowKit

end Go.Proofs.YtgbnelglhkfdfaaGreatDoor

namespace Go.Proofs.YtgbnelglhkfdfaaGreatDoor
open Go.RowKit

theorem noStandF14 : Tryz.prog.stoodInHeld 42 = false := by kernel_rfl
theorem noGuardF14 : Tryz.prog.eqGuardType Tryz.prog.depth 42 = false := by kernel_rfl
theorem fieldsOfF14 : Tryz.prog.underlying 42 = some (.struct (Tryz.prog.fieldsOf 42)) := by kernel_rfl
set_option maxRecDepth 20000 in
theorem neq_f14 (f : Fd) (w : World) : (binOp .neq 42 (.agg #[.string f.n, .string f.v]) (.agg #[.string f.n, .string f.v])).run Tryz.prog w = .ok (.bool false) w := by
  rw [run_neq_struct, show (10000 : Nat) = 9999 + 1 by rfl, run_equalIn_agg w 9999 42 _ _ fieldsOfF14 noStandF14]
  simp only [Program.fieldsOf, Tryz.underlying42]
  go_simp

set_option maxHeartbeats 2000000 in
set_option maxRecDepth 20000 in
theorem rsame14 (va vb : Value) (l : List Fd) (w : World) (h1 : FW w va l) (h2 : FW w vb l) (hl : l.length ≤ 140737488355328) :
    Calls Tryz.prog 21 #[va, vb] w fun e w' => e = .returned (.bool true) ∧ ∃ m, w' = w.drewN m := by
  obtain ⟨ao, ca, hv⟩ := h1.shape
  subst hv
  obtain ⟨bo, cb, hv⟩ := h2.shape
  subst hv
  obtain ⟨n, hn⟩ : ∃ n, l.length = n := ⟨_, rfl⟩
  rw [hn] at h1 h2 hl ⊢
  have H1 := hid' h1
  have H2 := hid' h2
  have HN := hid' hn
  have hee : ((n : Int) == (n : Int)) = true := beq_self_eq_true _
  have hgd := noGuardF14
  clear h1 h2 hn
  go_enter Tryz.func21, Tryz.ntmps21
  go_wp2
  go_loopw [5] (fun s5 wr => ∃ i q : Nat, s5 = .int .i64 (i : Int) ∧ i ≤ n ∧ wr = w.drewN q) (fun s5 _ => n - (intOf s5).toNat)
  case atStart => exact ⟨0, 0, rfl, Nat.zero_le _, rfl⟩
  case round =>
    obtain ⟨i, q, rfl, hi, hwr⟩ := hrel
    subst hwr
    by_cases hlt : i < n
    · have hlt2 : (i : Int) < (n : Int) := by omega
      obtain ⟨p, hp⟩ : ∃ p, l[i]? = some p := ⟨_, List.getElem?_eq_getElem (by rw [HN.out]; exact hlt)⟩
      obtain ⟨a, hao, x0, x1⟩ := H1.out.two i p hp
      obtain ⟨a2, hbo, y0, y1⟩ := H2.out.two i p hp
      subst hao hbo
      have hne : ∀ W, (binOp .neq 42 (.agg #[.string p.n, .string p.v]) (.agg #[.string p.n, .string p.v])).run Tryz.prog W = .ok (.bool false) W := fun W => neq_f14 p W
      have HLT := hid' hlt
      clear hp hlt
      go_wp2
      go_quiet (fail)
      go_wp2
      go_roundw
      case rel => exact ⟨i + 1, _, by go_num, by have := HLT.out; omega, by first | rfl | simp⟩
      case measure => have := HLT.out; simp [intOf]; omega
    · have hlt2 : ¬ (i : Int) < (n : Int) := by omega
      clear hlt
      go_wp2
      go_ret
      exact ⟨rfl, _, rfl⟩

end Go.Proofs.YtgbnelglhkfdfaaGreatDoor

namespace Go.Proofs.YtgbnelglhkfdfaaGreatDoor
open Go.RowKit

/-- A request's cells. -/
def rqC (m s a p : ByteArray) (fv : Value) (b : ByteArray) (tv : Value) : Array Value := #[.string m, .string s, .string a, .string p, fv, .string b, tv]
theorem below_dn (w : World) (n : Nat) : Below w.heap.size w (w.drewN n) := ⟨rfl, rfl, rfl, Nat.le_refl _, fun _ _ => rfl⟩

end Go.Proofs.YtgbnelglhkfdfaaGreatDoor

namespace Go.Proofs.YtgbnelglhkfdfaaGreatDoor
open Go.RowKit

/-- A response's cells. -/
def rpC (s : Int) (fv : Value) (b : ByteArray) (tv : Value) : Array Value := #[.int .i64 s, fv, .string b, tv]

set_option maxHeartbeats 4000000 in
set_option maxRecDepth 20000 in
theorem rsameRes19 (s : Int) (b : ByteArray) (fv fv' tv tv' : Value) (l t : List Fd) (w : World) (h1 : FW w fv l) (h2 : FW w fv' l) (h3 : FW w tv t) (h4 : FW w tv' t) (hl : l.length ≤ 140737488355328) (ht : t.length ≤ 140737488355328) :
    Calls Tryz.prog 8 #[.agg (rpC s fv b tv), .agg (rpC s fv' b tv')] w fun e w' => e = .returned (.bool true) ∧ Below w.heap.size w w' := by
  have H1 := hid' h1
  have H2 := hid' h2
  have H3 := hid' h3
  have H4 := hid' h4
  have e1 : (s == s) = true := beq_self_eq_true _
  have e5 : (b.toList == b.toList) = true := beq_self_eq_true _
  clear h1 h2 h3 h4
  unfold rpC
  go_enter Tryz.func8, Tryz.ntmps8
  go_wp2_with (refine wpl_box 24 _ rfl rfl (rpC s fv b tv) (by kernel_rfl) ?_)
  intro xb w1 hg1 ha1 hb1
  have HX1 := hid' ha1
  have HB1 := hid' hb1
  clear hg1 ha1 hb1
  go_wp2_with (refine wpl_box 24 _ rfl rfl (rpC s fv' b tv') (by kernel_rfl) ?_)
  intro yb w2 hg2 ha2 hb2
  have HX2 := hid' (HX1.out.keep hb2)
  have HY2 := hid' ha2
  have HB2 := hid' (below_two HB1.out hb2)
  clear hg2 ha2 hb2 HX1 HB1
  have x0 : w2.cell? ⟨xb, 0, none⟩ = some (.int .i64 s) := HX2.out.cell 0 _ rfl
  have x1 : w2.cell? ⟨xb, 1, none⟩ = some (fv) := HX2.out.cell 1 _ rfl
  have x2 : w2.cell? ⟨xb, 2, none⟩ = some (.string b) := HX2.out.cell 2 _ rfl
  have x3 : w2.cell? ⟨xb, 3, none⟩ = some (tv) := HX2.out.cell 3 _ rfl
  have y0 : w2.cell? ⟨yb, 0, none⟩ = some (.int .i64 s) := HY2.out.cell 0 _ rfl
  have y1 : w2.cell? ⟨yb, 1, none⟩ = some (fv') := HY2.out.cell 1 _ rfl
  have y2 : w2.cell? ⟨yb, 2, none⟩ = some (.string b) := HY2.out.cell 2 _ rfl
  have y3 : w2.cell? ⟨yb, 3, none⟩ = some (tv') := HY2.out.cell 3 _ rfl
  go_wp2_with fail
  refine (rsame14 fv fv' l w2 (H1.out.keep HB2.out) (H2.out.keep HB2.out) hl).mono ?_
  rintro e w3 ⟨rfl, n3, hn3⟩
  subst hn3
  go_wp2_with fail
  refine (rsame14 tv tv' t _ ((H3.out.keep HB2.out).keep (below_dn _ _)) ((H4.out.keep HB2.out).keep (below_dn _ _)) ht).mono ?_
  rintro e w4 ⟨rfl, n4, hn4⟩
  subst hn4
  go_wp2
  go_ret
  exact ⟨rfl, below_two HB2.out (below_dn _ _)⟩

end Go.Proofs.YtgbnelglhkfdfaaGreatDoor
