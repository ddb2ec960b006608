/-
  Slices of bytes that a call builds by append: as texts.
  The document's digit and undo: by their contracts.
  The code's digit, read, escapable and bare: by their contracts.
  The code's undo: by its contract.
  The document's undo: by its contract.
  The document's Escape: by its contract.
  WriteByte of a builder beside a row that it has nothing of, and the code's Escape: by their contracts.
-/
import Derived.Test.YtgbnelglhkfdfaaGreatDoorFtC
import Derived.Test.YtgbnelglhkfdfaaGreatDoorFtJ
import Derived.Test.YtgbnelglhkfdfaaGreatDoorFtA
import Derived.Deep.CutRange
import Derived.Laws.Cover1
import Derived.Laws.OwnMore
import Derived.Great.BuildSlice
import Derived.Deep.QuietTactic
import Derived.BigQuiet
import Derived.Maps.AppendAt
import Derived.Test.YtgbnelglhkfdfaaGreatDoorFtG
import Derived.Deep.RegionLaw
import Derived.RegionTactic
import Derived.Lib.ConvBytes
namespace Go.Proofs.YtgbnelglhkfdfaaGreatDoor
open Go.RowKit

theorem Tryz.info5 : (Tryz.prog.info? 5).map (fun i => (i.zero, i.size, i.bytes)) = some (some (.int .u8 0), 1, 1) := by kernel_rfl
/-- The cells of a text's bytes. -/
def byteCells (l : List UInt8) : List Value := l.map fun c => .int .u8 (c.toNat : Int)
theorem nil_string (w : World) : (convert 73 9 (.slice none 0 0)).run Tryz.prog w = .ok (.string ⟨#[]⟩) w := by kernel_rfl
/-- 'string(b)' of a slice that the call has built. -/
theorem own_string {w : World} {B : Nat} {v : Value} {l : List UInt8} (h : w.ownsRow B 5 1 v l.length (byteCells l)) : (convert 73 9 v).run Tryz.prog w = .ok (.string ⟨l.toArray⟩) w := by
  rcases h.2 with ⟨rfl, hn⟩ | ⟨g, cap, cur, rfl, _⟩
  · obtain rfl := List.eq_nil_of_length_eq_zero hn
    exact nil_string w
  · refine run_convert_bytes_back w _ _ 5 ⟨g, 0, none⟩ cap l Tryz.underlying73 Tryz.underlying5 Tryz.underlying9 fun j hj => ?_
    exact h.cells (g := g) rfl j _ (by rw [byteCells, List.getElem?_map, List.getElem?_eq_getElem hj]; rfl)
theorem own_string' {w : World} {B k : Nat} {v : Value} {l : List UInt8} (h : w.ownsRow B 5 1 v k (byteCells l)) (hk : l.length = k) : (convert 73 9 v).run Tryz.prog w = .ok (.string ⟨l.toArray⟩) w := by
  subst hk; exact own_string h
theorem str_cat (a b : List UInt8) : (⟨a.toArray⟩ : ByteArray) ++ ⟨b.toArray⟩ = ⟨(a ++ b).toArray⟩ := by
  apply ByteArray.ext; simp
theorem size_l' (l : List UInt8) : (⟨l.toArray⟩ : ByteArray).size = l.length := by simp [ByteArray.size]

theorem own_below {w w' : World} {B e n : Nat} {v : Value} {xs : List Value} (h : w.ownsRow B e 1 v n xs) (hb : Below w.heap.size w w') : w'.ownsRow B e 1 v n xs :=
  h.kept (row := none) ⟨hb.os, hb.tape, hb.output, hb.size, fun k hk _ => hb.block k hk⟩ (by cases hv : v.ownBlock <;> simp)

end Go.Proofs.YtgbnelglhkfdfaaGreatDoor

namespace Go.Proofs.YtgbnelglhkfdfaaGreatDoor
open Go.RowKit

theorem bl_alloc17 (w : World) (x : Obj) : Below w.heap.size w (w.alloc x) := (Below.refl _ _).alloc (Nat.le_refl _) _
theorem minfo17 {P : Program} {t : TypeId} {z : Option Value} {s b : Nat} (h : (P.info? t).map (fun i => (i.zero, i.size, i.bytes)) = some (z, s, b)) : ∃ i, P.info? t = some i ∧ i.zero = z ∧ i.size = s ∧ i.bytes = b := by
  cases hq : P.info? t with
  | none => simp [hq] at h
  | some i => simp [hq] at h; exact ⟨i, rfl, h.1, h.2.1, h.2.2⟩
theorem infoB17 : (Tryz.prog.info? 5).map (fun i => (i.zero, i.size, i.bytes)) = some (some (.int .u8 0), 1, 1) := by kernel_rfl
theorem infoS17 : (Tryz.prog.info? 9).map (fun i => (i.zero, i.size, i.bytes)) = some (some (.string ⟨#[]⟩), 1, 16) := by kernel_rfl
theorem own_shape17 {w : World} {B : Nat} {e : TypeId} {s : Nat} {v : Value} {n : Nat} {xs : List Value} (h : w.ownsRow B e s v n xs) : ∃ ao cap, v = .slice ao n cap := by
  rcases h.2 with ⟨h1, rfl⟩ | ⟨g, cap, cur, h1, _⟩
  · exact ⟨none, 0, h1⟩
  · exact ⟨_, cap, h1⟩
theorem own_kp17 {w w' : World} {B : Nat} {e : TypeId} {s : Nat} {v : Value} {n : Nat} {xs : List Value} (h : w.ownsRow B e s v n xs) (hb : Below w.heap.size w w') : w'.ownsRow B e s v n xs := own_same h (fun j hj => hb.block j (own_lt h j hj))
theorem one_cell17 (w : World) (T : TypeId) (x0 : Value) : ∀ j v, [x0][j]? = some v → (w.alloc (.cells #[x0] T)).cell? ((⟨w.heap.size, 0, none⟩ : Addr).add j) = some v := by
  intro j v h
  rw [Addr.add_mid, Nat.zero_add]
  have hA : Ar (w.alloc (.cells #[x0] T)) w.heap.size T #[x0] := heap_alloc_last w _
  exact hA.cell j v (by simpa using h)
theorem ext_td17 (s : ByteArray) (a b : Nat) : s.extract a b = ⟨((s.data.toList.drop a).take (b - a)).toArray⟩ := by
  apply ByteArray.ext
  rw [ByteArray.data_extract]
  apply Array.toList_inj.1
  simp [Array.toList_extract, List.extract_eq_take_drop]

theorem bc_snoc17 (l : List UInt8) (c : UInt8) : byteCells l ++ [.int .u8 (c.toNat : Int)] = byteCells (l ++ [c]) := by
  unfold byteCells
  rw [List.map_append]; rfl

namespace Pt
theorem drop_c {l : T8} {k : Nat} {c : UInt8} (hc : l[k]? = some c) : l.drop k = c :: l.drop (k + 1) := by
  obtain ⟨h1, h2⟩ := List.getElem?_eq_some_iff.1 hc
  rw [List.drop_eq_getElem_cons h1, h2]
theorem hx_bd (c : UInt8) : -1 ≤ hx c ∧ hx c ≤ 15 := by
  refine ⟨?_, hx_le c⟩
  unfold hx Tx.dgr Tx.digC
  simp only [Bool.and_eq_true, decide_eq_true_eq]
  repeat' split
  all_goals omega
end Pt

end Go.Proofs.YtgbnelglhkfdfaaGreatDoor

namespace Go.Proofs.YtgbnelglhkfdfaaGreatDoor
open Go.RowKit

namespace Pt
/-- What a byte counts, and nought where it counts nothing. -/
def dv (c : UInt8) : Int := if 0 ≤ hx c then hx c else 0
theorem dv_bd (c : UInt8) : 0 ≤ dv c ∧ dv c ≤ 15 := by
  have := hx_bd c
  unfold dv
  split <;> omega
theorem or16 (a b : Int) (ha0 : 0 ≤ a) (ha : a ≤ 15) (hb0 : 0 ≤ b) (hb : b ≤ 15) : Go.bits .or .u8 (a * 16) b = 16 * a + b := by
  obtain ⟨x, rfl⟩ : ∃ x : Nat, a = (x : Int) := ⟨a.toNat, by omega⟩
  obtain ⟨y, rfl⟩ : ∃ y : Nat, b = (y : Int) := ⟨b.toNat, by omega⟩
  have key : ∀ x : Fin 16, ∀ y : Fin 16, Go.bits .or .u8 ((x.val : Int) * 16) (y.val : Int) = 16 * (x.val : Int) + (y.val : Int) := by decide +kernel
  exact key ⟨x, by omega⟩ ⟨y, by omega⟩
end Pt

namespace Pt
/-- bare, of a number. -/
def plI (x : Int) : Bool := (decide (97 ≤ x) && decide (x ≤ 122)) || (decide (65 ≤ x) && decide (x ≤ 90)) || (decide (48 ≤ x) && decide (x ≤ 57)) || x == 45 || x == 46 || x == 95 || x == 126 || x == 47
theorem plI_is (c : UInt8) : plain c = plI (c.toNat : Int) := by
  have key : ∀ c : Fin 256, plain (UInt8.ofNat c.val) = plI ((UInt8.ofNat c.val).toNat : Int) := by decide +kernel
  have := key ⟨c.toNat, c.toNat_lt⟩
  simpa using this
end Pt

set_option maxHeartbeats 4000000 in
theorem cbare17 (c : UInt8) (w : World) : Calls Tryz.prog 67 #[.int .u8 (c.toNat : Int)] w fun e w' => e = .returned (.bool (Pt.plain c)) ∧ w' = w := by
  have HE := hid' (Pt.plI_is c)
  obtain ⟨x, hx⟩ : ∃ x : Int, (c.toNat : Int) = x := ⟨_, rfl⟩
  have hx0 : 0 ≤ x := by omega
  have hx1 : x < 256 := by have := c.toNat_lt; omega
  rw [hx] at HE ⊢
  clear hx
  by_cases a0 : 97 ≤ x
  · by_cases b0 : x ≤ 122
    · have HR : Hid (Pt.plain c = true) := hid' (by rw [HE.out]; unfold Pt.plI; rw [decide_eq_true a0, decide_eq_true b0]; rfl)
      go_enter Tryz.func67, Tryz.ntmps67
      go_wp2
      go_ret
      exact ⟨by rw [HR.out]; rfl, rfl⟩
    · by_cases a1 : 65 ≤ x
      · by_cases b1 : x ≤ 90
        · have HR : Hid (Pt.plain c = true) := hid' (by rw [HE.out]; unfold Pt.plI; rw [decide_eq_true a0, decide_eq_false b0, decide_eq_true a1, decide_eq_true b1]; rfl)
          go_enter Tryz.func67, Tryz.ntmps67
          go_wp2
          go_ret
          exact ⟨by rw [HR.out]; rfl, rfl⟩
        · by_cases a2 : 48 ≤ x
          · by_cases b2 : x ≤ 57
            · have HR : Hid (Pt.plain c = true) := hid' (by rw [HE.out]; unfold Pt.plI; rw [decide_eq_true a0, decide_eq_false b0, decide_eq_true a1, decide_eq_false b1, decide_eq_true a2, decide_eq_true b2]; rfl)
              go_enter Tryz.func67, Tryz.ntmps67
              go_wp2
              go_ret
              exact ⟨by rw [HR.out]; rfl, rfl⟩
            · cases e0 : (x == 45)
              · cases e1 : (x == 46)
                · cases e2 : (x == 95)
                  · cases e3 : (x == 126)
                    · cases e4 : (x == 47)
                      · have HR : Hid (Pt.plain c = false) := hid' (by rw [HE.out]; unfold Pt.plI; rw [decide_eq_true a0, decide_eq_false b0, decide_eq_true a1, decide_eq_false b1, decide_eq_true a2, decide_eq_false b2, e0, e1, e2, e3, e4]; rfl)
                        go_enter Tryz.func67, Tryz.ntmps67
                        go_wp2
                        go_ret
                        exact ⟨by rw [HR.out]; rfl, rfl⟩
                      · have HR : Hid (Pt.plain c = true) := hid' (by rw [HE.out]; unfold Pt.plI; rw [decide_eq_true a0, decide_eq_false b0, decide_eq_true a1, decide_eq_false b1, decide_eq_true a2, decide_eq_false b2, e0, e1, e2, e3, e4]; rfl)
                        go_enter Tryz.func67, Tryz.ntmps67
                        go_wp2
                        go_ret
                        exact ⟨by rw [HR.out]; rfl, rfl⟩
                    · have HR : Hid (Pt.plain c = true) := hid' (by rw [HE.out]; unfold Pt.plI; rw [decide_eq_true a0, decide_eq_false b0, decide_eq_true a1, decide_eq_false b1, decide_eq_true a2, decide_eq_false b2, e0, e1, e2, e3]; rfl)
                      go_enter Tryz.func67, Tryz.ntmps67
                      go_wp2
                      go_ret
                      exact ⟨by rw [HR.out]; rfl, rfl⟩
                  · have HR : Hid (Pt.plain c = true) := hid' (by rw [HE.out]; unfold Pt.plI; rw [decide_eq_true a0, decide_eq_false b0, decide_eq_true a1, decide_eq_false b1, decide_eq_true a2, decide_eq_false b2, e0, e1, e2]; rfl)
                    go_enter Tryz.func67, Tryz.ntmps67
                    go_wp2
                    go_ret
                    exact ⟨by rw [HR.out]; rfl, rfl⟩
                · have HR : Hid (Pt.plain c = true) := hid' (by rw [HE.out]; unfold Pt.plI; rw [decide_eq_true a0, decide_eq_false b0, decide_eq_true a1, decide_eq_false b1, decide_eq_true a2, decide_eq_false b2, e0, e1]; rfl)
                  go_enter Tryz.func67, Tryz.ntmps67
                  go_wp2
                  go_ret
                  exact ⟨by rw [HR.out]; rfl, rfl⟩
              · have HR : Hid (Pt.plain c = true) := hid' (by rw [HE.out]; unfold Pt.plI; rw [decide_eq_true a0, decide_eq_false b0, decide_eq_true a1, decide_eq_false b1, decide_eq_true a2, decide_eq_false b2, e0]; rfl)
                go_enter Tryz.func67, Tryz.ntmps67
                go_wp2
                go_ret
                exact ⟨by rw [HR.out]; rfl, rfl⟩
          · cases e0 : (x == 45)
            · cases e1 : (x == 46)
              · cases e2 : (x == 95)
                · cases e3 : (x == 126)
                  · cases e4 : (x == 47)
                    · have HR : Hid (Pt.plain c = false) := hid' (by rw [HE.out]; unfold Pt.plI; rw [decide_eq_true a0, decide_eq_false b0, decide_eq_true a1, decide_eq_false b1, decide_eq_false a2, e0, e1, e2, e3, e4]; rfl)
                      go_enter Tryz.func67, Tryz.ntmps67
                      go_wp2
                      go_ret
                      exact ⟨by rw [HR.out]; rfl, rfl⟩
                    · have HR : Hid (Pt.plain c = true) := hid' (by rw [HE.out]; unfold Pt.plI; rw [decide_eq_true a0, decide_eq_false b0, decide_eq_true a1, decide_eq_false b1, decide_eq_false a2, e0, e1, e2, e3, e4]; rfl)
                      go_enter Tryz.func67, Tryz.ntmps67
                      go_wp2
                      go_ret
                      exact ⟨by rw [HR.out]; rfl, rfl⟩
                  · have HR : Hid (Pt.plain c = true) := hid' (by rw [HE.out]; unfold Pt.plI; rw [decide_eq_true a0, decide_eq_false b0, decide_eq_true a1, decide_eq_false b1, decide_eq_false a2, e0, e1, e2, e3]; rfl)
                    go_enter Tryz.func67, Tryz.ntmps67
                    go_wp2
                    go_ret
                    exact ⟨by rw [HR.out]; rfl, rfl⟩
                · have HR : Hid (Pt.plain c = true) := hid' (by rw [HE.out]; unfold Pt.plI; rw [decide_eq_true a0, decide_eq_false b0, decide_eq_true a1, decide_eq_false b1, decide_eq_false a2, e0, e1, e2]; rfl)
                  go_enter Tryz.func67, Tryz.ntmps67
                  go_wp2
                  go_ret
                  exact ⟨by rw [HR.out]; rfl, rfl⟩
              · have HR : Hid (Pt.plain c = true) := hid' (by rw [HE.out]; unfold Pt.plI; rw [decide_eq_true a0, decide_eq_false b0, decide_eq_true a1, decide_eq_false b1, decide_eq_false a2, e0, e1]; rfl)
                go_enter Tryz.func67, Tryz.ntmps67
                go_wp2
                go_ret
                exact ⟨by rw [HR.out]; rfl, rfl⟩
            · have HR : Hid (Pt.plain c = true) := hid' (by rw [HE.out]; unfold Pt.plI; rw [decide_eq_true a0, decide_eq_false b0, decide_eq_true a1, decide_eq_false b1, decide_eq_false a2, e0]; rfl)
              go_enter Tryz.func67, Tryz.ntmps67
              go_wp2
              go_ret
              exact ⟨by rw [HR.out]; rfl, rfl⟩
      · by_cases a2 : 48 ≤ x
        · by_cases b2 : x ≤ 57
          · have HR : Hid (Pt.plain c = true) := hid' (by rw [HE.out]; unfold Pt.plI; rw [decide_eq_true a0, decide_eq_false b0, decide_eq_false a1, decide_eq_true a2, decide_eq_true b2]; rfl)
            go_enter Tryz.func67, Tryz.ntmps67
            go_wp2
            go_ret
            exact ⟨by rw [HR.out]; rfl, rfl⟩
          · cases e0 : (x == 45)
            · cases e1 : (x == 46)
              · cases e2 : (x == 95)
                · cases e3 : (x == 126)
                  · cases e4 : (x == 47)
                    · have HR : Hid (Pt.plain c = false) := hid' (by rw [HE.out]; unfold Pt.plI; rw [decide_eq_true a0, decide_eq_false b0, decide_eq_false a1, decide_eq_true a2, decide_eq_false b2, e0, e1, e2, e3, e4]; rfl)
                      go_enter Tryz.func67, Tryz.ntmps67
                      go_wp2
                      go_ret
                      exact ⟨by rw [HR.out]; rfl, rfl⟩
                    · have HR : Hid (Pt.plain c = true) := hid' (by rw [HE.out]; unfold Pt.plI; rw [decide_eq_true a0, decide_eq_false b0, decide_eq_false a1, decide_eq_true a2, decide_eq_false b2, e0, e1, e2, e3, e4]; rfl)
                      go_enter Tryz.func67, Tryz.ntmps67
                      go_wp2
                      go_ret
                      exact ⟨by rw [HR.out]; rfl, rfl⟩
                  · have HR : Hid (Pt.plain c = true) := hid' (by rw [HE.out]; unfold Pt.plI; rw [decide_eq_true a0, decide_eq_false b0, decide_eq_false a1, decide_eq_true a2, decide_eq_false b2, e0, e1, e2, e3]; rfl)
                    go_enter Tryz.func67, Tryz.ntmps67
                    go_wp2
                    go_ret
                    exact ⟨by rw [HR.out]; rfl, rfl⟩
                · have HR : Hid (Pt.plain c = true) := hid' (by rw [HE.out]; unfold Pt.plI; rw [decide_eq_true a0, decide_eq_false b0, decide_eq_false a1, decide_eq_true a2, decide_eq_false b2, e0, e1, e2]; rfl)
                  go_enter Tryz.func67, Tryz.ntmps67
                  go_wp2
                  go_ret
                  exact ⟨by rw [HR.out]; rfl, rfl⟩
              · have HR : Hid (Pt.plain c = true) := hid' (by rw [HE.out]; unfold Pt.plI; rw [decide_eq_true a0, decide_eq_false b0, decide_eq_false a1, decide_eq_true a2, decide_eq_false b2, e0, e1]; rfl)
                go_enter Tryz.func67, Tryz.ntmps67
                go_wp2
                go_ret
                exact ⟨by rw [HR.out]; rfl, rfl⟩
            · have HR : Hid (Pt.plain c = true) := hid' (by rw [HE.out]; unfold Pt.plI; rw [decide_eq_true a0, decide_eq_false b0, decide_eq_false a1, decide_eq_true a2, decide_eq_false b2, e0]; rfl)
              go_enter Tryz.func67, Tryz.ntmps67
              go_wp2
              go_ret
              exact ⟨by rw [HR.out]; rfl, rfl⟩
        · cases e0 : (x == 45)
          · cases e1 : (x == 46)
            · cases e2 : (x == 95)
              · cases e3 : (x == 126)
                · cases e4 : (x == 47)
                  · have HR : Hid (Pt.plain c = false) := hid' (by rw [HE.out]; unfold Pt.plI; rw [decide_eq_true a0, decide_eq_false b0, decide_eq_false a1, decide_eq_false a2, e0, e1, e2, e3, e4]; rfl)
                    go_enter Tryz.func67, Tryz.ntmps67
                    go_wp2
                    go_ret
                    exact ⟨by rw [HR.out]; rfl, rfl⟩
                  · have HR : Hid (Pt.plain c = true) := hid' (by rw [HE.out]; unfold Pt.plI; rw [decide_eq_true a0, decide_eq_false b0, decide_eq_false a1, decide_eq_false a2, e0, e1, e2, e3, e4]; rfl)
                    go_enter Tryz.func67, Tryz.ntmps67
                    go_wp2
                    go_ret
                    exact ⟨by rw [HR.out]; rfl, rfl⟩
                · have HR : Hid (Pt.plain c = true) := hid' (by rw [HE.out]; unfold Pt.plI; rw [decide_eq_true a0, decide_eq_false b0, decide_eq_false a1, decide_eq_false a2, e0, e1, e2, e3]; rfl)
                  go_enter Tryz.func67, Tryz.ntmps67
                  go_wp2
                  go_ret
                  exact ⟨by rw [HR.out]; rfl, rfl⟩
              · have HR : Hid (Pt.plain c = true) := hid' (by rw [HE.out]; unfold Pt.plI; rw [decide_eq_true a0, decide_eq_false b0, decide_eq_false a1, decide_eq_false a2, e0, e1, e2]; rfl)
                go_enter Tryz.func67, Tryz.ntmps67
                go_wp2
                go_ret
                exact ⟨by rw [HR.out]; rfl, rfl⟩
            · have HR : Hid (Pt.plain c = true) := hid' (by rw [HE.out]; unfold Pt.plI; rw [decide_eq_true a0, decide_eq_false b0, decide_eq_false a1, decide_eq_false a2, e0, e1]; rfl)
              go_enter Tryz.func67, Tryz.ntmps67
              go_wp2
              go_ret
              exact ⟨by rw [HR.out]; rfl, rfl⟩
          · have HR : Hid (Pt.plain c = true) := hid' (by rw [HE.out]; unfold Pt.plI; rw [decide_eq_true a0, decide_eq_false b0, decide_eq_false a1, decide_eq_false a2, e0]; rfl)
            go_enter Tryz.func67, Tryz.ntmps67
            go_wp2
            go_ret
            exact ⟨by rw [HR.out]; rfl, rfl⟩
  · by_cases a1 : 65 ≤ x
    · by_cases b1 : x ≤ 90
      · have HR : Hid (Pt.plain c = true) := hid' (by rw [HE.out]; unfold Pt.plI; rw [decide_eq_false a0, decide_eq_true a1, decide_eq_true b1]; rfl)
        go_enter Tryz.func67, Tryz.ntmps67
        go_wp2
        go_ret
        exact ⟨by rw [HR.out]; rfl, rfl⟩
      · by_cases a2 : 48 ≤ x
        · by_cases b2 : x ≤ 57
          · have HR : Hid (Pt.plain c = true) := hid' (by rw [HE.out]; unfold Pt.plI; rw [decide_eq_false a0, decide_eq_true a1, decide_eq_false b1, decide_eq_true a2, decide_eq_true b2]; rfl)
            go_enter Tryz.func67, Tryz.ntmps67
            go_wp2
            go_ret
            exact ⟨by rw [HR.out]; rfl, rfl⟩
          · cases e0 : (x == 45)
            · cases e1 : (x == 46)
              · cases e2 : (x == 95)
                · cases e3 : (x == 126)
                  · cases e4 : (x == 47)
                    · have HR : Hid (Pt.plain c = false) := hid' (by rw [HE.out]; unfold Pt.plI; rw [decide_eq_false a0, decide_eq_true a1, decide_eq_false b1, decide_eq_true a2, decide_eq_false b2, e0, e1, e2, e3, e4]; rfl)
                      go_enter Tryz.func67, Tryz.ntmps67
                      go_wp2
                      go_ret
                      exact ⟨by rw [HR.out]; rfl, rfl⟩
                    · have HR : Hid (Pt.plain c = true) := hid' (by rw [HE.out]; unfold Pt.plI; rw [decide_eq_false a0, decide_eq_true a1, decide_eq_false b1, decide_eq_true a2, decide_eq_false b2, e0, e1, e2, e3, e4]; rfl)
                      go_enter Tryz.func67, Tryz.ntmps67
                      go_wp2
                      go_ret
                      exact ⟨by rw [HR.out]; rfl, rfl⟩
                  · have HR : Hid (Pt.plain c = true) := hid' (by rw [HE.out]; unfold Pt.plI; rw [decide_eq_false a0, decide_eq_true a1, decide_eq_false b1, decide_eq_true a2, decide_eq_false b2, e0, e1, e2, e3]; rfl)
                    go_enter Tryz.func67, Tryz.ntmps67
                    go_wp2
                    go_ret
                    exact ⟨by rw [HR.out]; rfl, rfl⟩
                · have HR : Hid (Pt.plain c = true) := hid' (by rw [HE.out]; unfold Pt.plI; rw [decide_eq_false a0, decide_eq_true a1, decide_eq_false b1, decide_eq_true a2, decide_eq_false b2, e0, e1, e2]; rfl)
                  go_enter Tryz.func67, Tryz.ntmps67
                  go_wp2
                  go_ret
                  exact ⟨by rw [HR.out]; rfl, rfl⟩
              · have HR : Hid (Pt.plain c = true) := hid' (by rw [HE.out]; unfold Pt.plI; rw [decide_eq_false a0, decide_eq_true a1, decide_eq_false b1, decide_eq_true a2, decide_eq_false b2, e0, e1]; rfl)
                go_enter Tryz.func67, Tryz.ntmps67
                go_wp2
                go_ret
                exact ⟨by rw [HR.out]; rfl, rfl⟩
            · have HR : Hid (Pt.plain c = true) := hid' (by rw [HE.out]; unfold Pt.plI; rw [decide_eq_false a0, decide_eq_true a1, decide_eq_false b1, decide_eq_true a2, decide_eq_false b2, e0]; rfl)
              go_enter Tryz.func67, Tryz.ntmps67
              go_wp2
              go_ret
              exact ⟨by rw [HR.out]; rfl, rfl⟩
        · cases e0 : (x == 45)
          · cases e1 : (x == 46)
            · cases e2 : (x == 95)
              · cases e3 : (x == 126)
                · cases e4 : (x == 47)
                  · have HR : Hid (Pt.plain c = false) := hid' (by rw [HE.out]; unfold Pt.plI; rw [decide_eq_false a0, decide_eq_true a1, decide_eq_false b1, decide_eq_false a2, e0, e1, e2, e3, e4]; rfl)
                    go_enter Tryz.func67, Tryz.ntmps67
                    go_wp2
                    go_ret
                    exact ⟨by rw [HR.out]; rfl, rfl⟩
                  · have HR : Hid (Pt.plain c = true) := hid' (by rw [HE.out]; unfold Pt.plI; rw [decide_eq_false a0, decide_eq_true a1, decide_eq_false b1, decide_eq_false a2, e0, e1, e2, e3, e4]; rfl)
                    go_enter Tryz.func67, Tryz.ntmps67
                    go_wp2
                    go_ret
                    exact ⟨by rw [HR.out]; rfl, rfl⟩
                · have HR : Hid (Pt.plain c = true) := hid' (by rw [HE.out]; unfold Pt.plI; rw [decide_eq_false a0, decide_eq_true a1, decide_eq_false b1, decide_eq_false a2, e0, e1, e2, e3]; rfl)
                  go_enter Tryz.func67, Tryz.ntmps67
                  go_wp2
                  go_ret
                  exact ⟨by rw [HR.out]; rfl, rfl⟩
              · have HR : Hid (Pt.plain c = true) := hid' (by rw [HE.out]; unfold Pt.plI; rw [decide_eq_false a0, decide_eq_true a1, decide_eq_false b1, decide_eq_false a2, e0, e1, e2]; rfl)
                go_enter Tryz.func67, Tryz.ntmps67
                go_wp2
                go_ret
                exact ⟨by rw [HR.out]; rfl, rfl⟩
            · have HR : Hid (Pt.plain c = true) := hid' (by rw [HE.out]; unfold Pt.plI; rw [decide_eq_false a0, decide_eq_true a1, decide_eq_false b1, decide_eq_false a2, e0, e1]; rfl)
              go_enter Tryz.func67, Tryz.ntmps67
              go_wp2
              go_ret
              exact ⟨by rw [HR.out]; rfl, rfl⟩
          · have HR : Hid (Pt.plain c = true) := hid' (by rw [HE.out]; unfold Pt.plI; rw [decide_eq_false a0, decide_eq_true a1, decide_eq_false b1, decide_eq_false a2, e0]; rfl)
            go_enter Tryz.func67, Tryz.ntmps67
            go_wp2
            go_ret
            exact ⟨by rw [HR.out]; rfl, rfl⟩
    · by_cases a2 : 48 ≤ x
      · by_cases b2 : x ≤ 57
        · have HR : Hid (Pt.plain c = true) := hid' (by rw [HE.out]; unfold Pt.plI; rw [decide_eq_false a0, decide_eq_false a1, decide_eq_true a2, decide_eq_true b2]; rfl)
          go_enter Tryz.func67, Tryz.ntmps67
          go_wp2
          go_ret
          exact ⟨by rw [HR.out]; rfl, rfl⟩
        · cases e0 : (x == 45)
          · cases e1 : (x == 46)
            · cases e2 : (x == 95)
              · cases e3 : (x == 126)
                · cases e4 : (x == 47)
                  · have HR : Hid (Pt.plain c = false) := hid' (by rw [HE.out]; unfold Pt.plI; rw [decide_eq_false a0, decide_eq_false a1, decide_eq_true a2, decide_eq_false b2, e0, e1, e2, e3, e4]; rfl)
                    go_enter Tryz.func67, Tryz.ntmps67
                    go_wp2
                    go_ret
                    exact ⟨by rw [HR.out]; rfl, rfl⟩
                  · have HR : Hid (Pt.plain c = true) := hid' (by rw [HE.out]; unfold Pt.plI; rw [decide_eq_false a0, decide_eq_false a1, decide_eq_true a2, decide_eq_false b2, e0, e1, e2, e3, e4]; rfl)
                    go_enter Tryz.func67, Tryz.ntmps67
                    go_wp2
                    go_ret
                    exact ⟨by rw [HR.out]; rfl, rfl⟩
                · have HR : Hid (Pt.plain c = true) := hid' (by rw [HE.out]; unfold Pt.plI; rw [decide_eq_false a0, decide_eq_false a1, decide_eq_true a2, decide_eq_false b2, e0, e1, e2, e3]; rfl)
                  go_enter Tryz.func67, Tryz.ntmps67
                  go_wp2
                  go_ret
                  exact ⟨by rw [HR.out]; rfl, rfl⟩
              · have HR : Hid (Pt.plain c = true) := hid' (by rw [HE.out]; unfold Pt.plI; rw [decide_eq_false a0, decide_eq_false a1, decide_eq_true a2, decide_eq_false b2, e0, e1, e2]; rfl)
                go_enter Tryz.func67, Tryz.ntmps67
                go_wp2
                go_ret
                exact ⟨by rw [HR.out]; rfl, rfl⟩
            · have HR : Hid (Pt.plain c = true) := hid' (by rw [HE.out]; unfold Pt.plI; rw [decide_eq_false a0, decide_eq_false a1, decide_eq_true a2, decide_eq_false b2, e0, e1]; rfl)
              go_enter Tryz.func67, Tryz.ntmps67
              go_wp2
              go_ret
              exact ⟨by rw [HR.out]; rfl, rfl⟩
          · have HR : Hid (Pt.plain c = true) := hid' (by rw [HE.out]; unfold Pt.plI; rw [decide_eq_false a0, decide_eq_false a1, decide_eq_true a2, decide_eq_false b2, e0]; rfl)
            go_enter Tryz.func67, Tryz.ntmps67
            go_wp2
            go_ret
            exact ⟨by rw [HR.out]; rfl, rfl⟩
      · cases e0 : (x == 45)
        · cases e1 : (x == 46)
          · cases e2 : (x == 95)
            · cases e3 : (x == 126)
              · cases e4 : (x == 47)
                · have HR : Hid (Pt.plain c = false) := hid' (by rw [HE.out]; unfold Pt.plI; rw [decide_eq_false a0, decide_eq_false a1, decide_eq_false a2, e0, e1, e2, e3, e4]; rfl)
                  go_enter Tryz.func67, Tryz.ntmps67
                  go_wp2
                  go_ret
                  exact ⟨by rw [HR.out]; rfl, rfl⟩
                · have HR : Hid (Pt.plain c = true) := hid' (by rw [HE.out]; unfold Pt.plI; rw [decide_eq_false a0, decide_eq_false a1, decide_eq_false a2, e0, e1, e2, e3, e4]; rfl)
                  go_enter Tryz.func67, Tryz.ntmps67
                  go_wp2
                  go_ret
                  exact ⟨by rw [HR.out]; rfl, rfl⟩
              · have HR : Hid (Pt.plain c = true) := hid' (by rw [HE.out]; unfold Pt.plI; rw [decide_eq_false a0, decide_eq_false a1, decide_eq_false a2, e0, e1, e2, e3]; rfl)
                go_enter Tryz.func67, Tryz.ntmps67
                go_wp2
                go_ret
                exact ⟨by rw [HR.out]; rfl, rfl⟩
            · have HR : Hid (Pt.plain c = true) := hid' (by rw [HE.out]; unfold Pt.plI; rw [decide_eq_false a0, decide_eq_false a1, decide_eq_false a2, e0, e1, e2]; rfl)
              go_enter Tryz.func67, Tryz.ntmps67
              go_wp2
              go_ret
              exact ⟨by rw [HR.out]; rfl, rfl⟩
          · have HR : Hid (Pt.plain c = true) := hid' (by rw [HE.out]; unfold Pt.plI; rw [decide_eq_false a0, decide_eq_false a1, decide_eq_false a2, e0, e1]; rfl)
            go_enter Tryz.func67, Tryz.ntmps67
            go_wp2
            go_ret
            exact ⟨by rw [HR.out]; rfl, rfl⟩
        · have HR : Hid (Pt.plain c = true) := hid' (by rw [HE.out]; unfold Pt.plI; rw [decide_eq_false a0, decide_eq_false a1, decide_eq_false a2, e0]; rfl)
          go_enter Tryz.func67, Tryz.ntmps67
          go_wp2
          go_ret
          exact ⟨by rw [HR.out]; rfl, rfl⟩

end Go.Proofs.YtgbnelglhkfdfaaGreatDoor

namespace Go.Proofs.YtgbnelglhkfdfaaGreatDoor
open Go.RowKit

theorem zeroBd17 : (Tryz.prog.info? 106).map (fun i => i.zero) = some (some (.agg #[.pointer none, .slice none 0 0])) := by kernel_rfl
theorem string17 (B b : Nat) (l : List UInt8) (w : World) (h : Bld w B b l) (hBw : B ≤ w.heap.size) :
    Calls Tryz.prog 69 #[.pointer (some ⟨b, 0, none⟩)] w fun e w' => e = .returned (.string ⟨l.toArray⟩) ∧ Below B w w' := by
  refine (Tryz.Builder_String_any_k B b l w (Lib.IsBuilderF.of h) hBw).mono ?_
  rintro e w' ⟨rfl, _, hb, ho⟩
  exact ⟨rfl, hb⟩
def uV17 : Option (List UInt8) → Value
  | some t => .tuple #[.string ⟨t.toArray⟩, .int .i64 0]
  | none => .tuple #[.string ⟨#[]⟩, .int .i64 170]
namespace Pt
theorem ok_is (a b : UInt8) (d : UInt8) (hd : (d.toNat : Int) = 16 * dv a + dv b) (ha : 0 ≤ hx a) (hb : 0 ≤ hx b) : byt a b = (d.toNat : Int) ∧ UInt8.ofNat (byt a b).toNat = d := by
  have e : byt a b = (d.toNat : Int) := by
    rw [hd]; unfold byt dv; rw [if_pos ha, if_pos hb]
  refine ⟨e, ?_⟩
  rw [e]
  simp
end Pt

end Go.Proofs.YtgbnelglhkfdfaaGreatDoor

namespace Go.Proofs.YtgbnelglhkfdfaaGreatDoor
open Go.RowKit

def udV17 : Option (List UInt8) → Value
  | some t => .tuple #[.string ⟨t.toArray⟩, .bool true]
  | none => .tuple #[.string ⟨#[]⟩, .bool false]

end Go.Proofs.YtgbnelglhkfdfaaGreatDoor

namespace Go.Proofs.YtgbnelglhkfdfaaGreatDoor
open Go.RowKit

theorem step_app17 {P : Program} {w : World} {ops : Array Oper} {o : Oper} {a : Act} {K : Act → World → Prop} {Q : Exit → Act → World → Prop} {E : Prop} (hgd : o.guard = none) (s x : Operand) (t : TypeId)
    (ho : o.op = .call { callee := .builtin .append, args := #[s, x], argTypes := #[t, t] })
    (base : Nat) (e : TypeId) (i : TypeInfo) (z : Value) (size bytes : Nat) (ht : P.underlying t = some (.slice e)) (hi : P.info? e = some i) (hz : i.zero = some z)
    (hsize : i.size = size) (hby : i.bytes = bytes) (hzs : z.cells.size = size) (hsz : 0 < size)
    (v : Value) (n : Nat) (xs : List Value) (hs : a.eval s = v) (hown : w.ownsRow base e size v n xs)
    (ad : Addr) (m c : Nat) (news : List Value) (hx : a.eval x = .slice (some ad) m c) (hl : news.length = m * size) (hnews : ∀ j u, news[j]? = some u → w.cell? (ad.add j) = some u) (h1 : ∀ u ∈ news, u.oneCell' = true)
    (h63 : n + m ≤ maxLen) (hbytes : (n + m) * bytes ≤ 140737488355328) (hbase : base ≤ w.heap.size)
    (h : ∀ v' w', w'.ownsRow base e size v' (n + m) (xs ++ news) → w.grownBy w' v.ownBlock → (v'.ownBlock = v.ownBlock ∨ v'.ownBlock = some w.heap.size) → K (a.put o.dst v') w') :
    if Region.wanted o (yielded ops a.tmps) = true then Oper.wp P o a w K Q else E := by
  have hw : Region.wanted o (yielded ops a.tmps) = true := by simp [Region.wanted, hgd]
  rw [if_pos hw]
  obtain ⟨v', w', hr, h2, h3, _, h5⟩ := run_append_own_at (P := P) w base t o.type e i z size bytes ht hi hz hsize hby hzs hsz v n xs hown ad m c news hl hnews h1 h63 hbytes hbase
  unfold Oper.wp execOp
  simp only [ho, resolve, invoke, builtin, Sem.run_bind, Sem.run_pure, Result.andThen_ok, List.map_toArray, List.map_cons, List.map_nil, hs, hx, hr]
  exact h v' w' h2 h3 h5
def hexB17 : ByteArray := ⟨#[48, 49, 50, 51, 52, 53, 54, 55, 56, 57, 65, 66, 67, 68, 69, 70]⟩
theorem hexB_at17 (n : Nat) (h : n < 16) (hs : n < hexB17.size) : hexB17[n] = Pt.hd16 n := by
  have : ∀ n : Fin 16, hexB17[n.val]'(by have := n.2; show n.val < 16; omega) = Pt.hd16 n.val := by decide
  exact this ⟨n, h⟩
namespace Pt
theorem plain_cases (x : Int) (c : UInt8) (h : (c.toNat : Int) = x) : plain c = (((((((((decide (97 ≤ x) && decide (x ≤ 122)) || (decide (65 ≤ x) && decide (x ≤ 90))) || (decide (48 ≤ x) && decide (x ≤ 57))) || (x == 45)) || (x == 46)) || (x == 95)) || (x == 126)) || (x == 47))) := by
  subst h
  have e : ∀ k : UInt8, (c == k) = ((c.toNat : Int) == (k.toNat : Int)) := fun k => by
    rw [Bool.eq_iff_iff, beq_iff_eq, beq_iff_eq]
    exact ⟨fun h => by rw [h], fun h => UInt8.toNat_inj.1 (by omega)⟩
  have d : ∀ a b : Nat, decide (a ≤ b) = decide ((a : Int) ≤ (b : Int)) := fun a b => decide_eq_decide.2 (by omega)
  unfold plain
  rw [e 45, e 46, e 95, e 126, e 47, d 97 c.toNat, d c.toNat 122, d 65 c.toNat, d c.toNat 90, d 48 c.toNat, d c.toNat 57]
  rfl
end Pt

end Go.Proofs.YtgbnelglhkfdfaaGreatDoor

namespace Go.Proofs.YtgbnelglhkfdfaaGreatDoor
open Go.RowKit

/-- A builder in block b that has nothing of block g. -/
def BA17 (p : Value) (w : World) (B b g : Nat) (bs : List Value) : Prop := B ≤ b ∧ ∃ v, w.heap[b]? = some (.cells #[p, v] 106 (0, 0)) ∧ w.ownsRow B 5 1 v bs.length bs ∧ v.ownBlock ≠ some b ∧ v.ownBlock ≠ some g ∧ b ≠ g ∧ g < w.heap.size
def BG17 (w : World) (B b g : Nat) (l : List UInt8) : Prop := BA17 (.pointer none) w B b g (Lib.byteCells l) ∨ BA17 (.pointer (some ⟨b, 0, none⟩)) w B b g (Lib.byteCells l)
theorem BA17.at {p : Value} {w : World} {B b g : Nat} {bs : List Value} (h : BA17 p w B b g bs) : Lib.BuilderAt 106 5 B b p bs w := by
  obtain ⟨h1, v, h2, h3, h4, _⟩ := h
  exact ⟨h1, v, h2, h3, h4⟩
theorem BG17.bld {w : World} {B b g : Nat} {l : List UInt8} (h : BG17 w B b g l) : Bld w B b l := by
  rcases h with h | h
  · exact .inl h.at
  · exact .inr h.at
theorem setc17 {w : World} {b : Nat} {p v q : Value} (h : w.heap[b]? = some (.cells #[p, v] 106 (0, 0))) : (w.setCell ⟨b, 0, none⟩ q).heap[b]? = some (.cells #[q, v] 106 (0, 0)) := by
  simp [World.setCell, Array.getElem?_modify, h]

theorem copyCheck17 (B b g : Nat) (l : List UInt8) (w : World) (h : BG17 w B b g l) :
    Calls Tryz.prog 95 #[.pointer (some ⟨b, 0, none⟩)] w fun e w' => e = .returned (.tuple #[]) ∧ (BA17 (.pointer (some ⟨b, 0, none⟩)) w' B b g (Lib.byteCells l) ∧ Below B w w' ∧ w'.heap[g]? = w.heap[g]?) := by
  rcases h with h | h
  · refine (copyCheck_fresh b w h.at.cell0 h.at.shape h.at.frozen0).mono ?_
    rintro e w' ⟨rfl, rfl⟩
    obtain ⟨hB, v, hbk, hown, hne, hng, hbg, hg⟩ := h
    refine ⟨rfl, ⟨hB, v, setc17 hbk, own_same hown (fun j hj => (upd_setCell w b 0 _).block j (fun e => hne (by rw [← e]; exact hj))), hne, hng, hbg, by simpa [World.setCell] using hg⟩, (Below.refl B w).setCell (p := ⟨b, 0, none⟩) hB _, (upd_setCell w b 0 _).block g (fun e => hbg e.symm)⟩
  · refine (copyCheck_used b w h.at.cell0).mono ?_
    rintro e w' ⟨rfl, rfl⟩
    exact ⟨rfl, h, Below.refl B _, rfl⟩

set_option maxHeartbeats 2000000 in
set_option maxRecDepth 100000 in
theorem writeByte17 (B b g : Nat) (l : List UInt8) (x : UInt8) (c : Int) (hc : c = (x.toNat : Int)) (w : World) (h : BG17 w B b g l) (hlen : l.length + 1 ≤ 140737488355328) (hBw : B ≤ w.heap.size) :
    Calls Tryz.prog 68 #[.pointer (some ⟨b, 0, none⟩), .int .u8 c] w fun e w' => e = .returned .nilIface ∧ (BG17 w' B b g (l ++ [x]) ∧ Below B w w' ∧ w'.heap[g]? = w.heap[g]?) := by
  obtain ⟨i0, hi, hz0, hz1, hz2⟩ := info_parts infoByte
  have HX : Hid (Lib.byteCells (l ++ [x]) = Lib.byteCells l ++ [.int .u8 c]) := hid' (by rw [hc]; simp [Lib.byteCells])
  have hbl : (Lib.byteCells l).length = l.length := Lib.byteCells_length l
  clear hc
  go_enter Tryz.func68, Tryz.ntmps68
  go_wp2_with fail
  refine (copyCheck17 B b g l _ h).mono ?_
  rintro e w1 ⟨rfl, h1, hb1, hg1⟩
  obtain ⟨hB, v, hbk, hown, hne, hng, hbg, hg⟩ := h1
  rw [hbl] at hown
  have HG1 := hid' hg1
  have HNG := hid' hng
  have HBG := hid' hbg
  clear hg1 hng hbg hbl
  have c0 : w1.cell? ⟨b, 0, none⟩ = some (.pointer (some ⟨b, 0, none⟩)) := by rw [Lib.cell_of_heap hbk]; rfl
  have c1 : w1.cell? ⟨b, 1, none⟩ = some v := by rw [Lib.cell_of_heap hbk]; rfl
  go_wp2_with (at_builtin; refine wpList_append_own_at _ rfl _ _ 73 rfl B 5 i0 (.int .u8 0) 1 1 Tryz.underlying73 hi hz0 hz1 hz2 rfl (by decide) _ _ _ rfl (hown.alloc _) ⟨w1.heap.size, 0, none⟩ 1 1 [.int .u8 c] rfl rfl ?c1 ?c2 ?c3 ?c4 ?c5 ?_)
  case c1 => exact one_cell17 _ _ _
  case c2 => intro u hu; simp at hu; subst hu; rfl
  case c3 => unfold maxLen; omega
  case c4 => omega
  case c5 => have := hb1.size; simp; omega
  intro v' w2 hown' hgrow _ hob
  have hlt : b < w1.heap.size := (Array.getElem?_eq_some_iff.1 hbk).1
  have hb2 : w2.heap[b]? = some (.cells #[.pointer (some ⟨b, 0, none⟩), v] 106 (0, 0)) := by
    rw [hgrow.block b (by simp; omega) (fun e => hne e.symm), Lib.alloc_old w1 _ b hlt]
    exact hbk
  have HG2 : Hid (w2.heap[g]? = w.heap[g]?) := hid' (by
    rw [hgrow.block g (by simp; omega) (fun e => HNG.out e.symm), Lib.alloc_old w1 _ g hg]
    exact HG1.out)
  have HOB : Hid (v'.ownBlock ≠ some b ∧ v'.ownBlock ≠ some g) := hid' (by
    rcases hob with e | e
    · rw [e]; exact ⟨hne, HNG.out⟩
    · rw [e]
      constructor
      · simp; omega
      · simp; omega)
  have d1 : w2.cell? ⟨b, 1, none⟩ = some v := by rw [Lib.cell_of_heap hb2]; rfl
  have f1 : w2.frozen? ⟨b, 1, none⟩ = false := Lib.frozen_of_heap hb2 1
  have hg2 : g < w2.heap.size := by have := hgrow.size; simp at this; omega
  obtain ⟨g', cap, rfl⟩ : ∃ g cap, v' = .slice (some ⟨g, 0, none⟩) (l.length + 1) cap := by
    rcases hown'.2 with ⟨_, h0⟩ | ⟨g, cap, cur, hv, _⟩
    · omega
    · exact ⟨g, cap, hv⟩
  clear hob
  go_wp2
  go_ret
  refine ⟨rfl, .inr ⟨hB, _, ?_, ?_, HOB.out.1, HOB.out.2, HBG.out, by simpa [World.setCell] using hg2⟩, ?_, ?_⟩
  · simp [World.setCell, Array.getElem?_modify, hb2]
  · rw [HX.out, List.length_append, Lib.byteCells_length]
    exact own_same hown' (fun j hj => (upd_setCell w2 b 1 _).block j (fun e => HOB.out.1 (by rw [← e]; exact hj)))
  · exact ((hb1.alloc (by have := hb1.size; omega) _).grown hgrow (by have := hb1.size; simp; omega) (fun k hk => (hown.lt k hk).1)).setCell (p := ⟨b, 1, none⟩) hB _
  · rw [(upd_setCell w2 b 1 _).block g (fun e => HBG.out e.symm)]
    exact HG2.out

section
variable {ops : Array Oper} {rest : List Oper} {o : Oper} {a : Act} {w : World} {Q : Exit → Act → World → Prop}
theorem wpl_tobytes17 (x : Operand) (ho : o.op = .convert 9 73 x) (hgd : o.guard = none) (s : ByteArray) (hx : a.eval x = .string s)
    (h : ∀ b cap w', w.heap.size ≤ b → b < w'.heap.size → (∀ j (hj : j < s.size), w'.cell? ⟨b, j, none⟩ = some (.int .u8 (s[j].toNat : Int))) → Below w.heap.size w w' → wpList Tryz.prog ops Q rest (a.put o.dst (.slice (some ⟨b, 0, none⟩) s.size cap)) w') :
    wpList Tryz.prog ops Q (o :: rest) a w := by
  refine wpList_plain hgd fun _ hK => ?_
  have hr := Lib.run_convert_string_bytes (P := Tryz.prog) w 9 73 5 s Tryz.underlying9 Tryz.underlying73 Tryz.underlying5
  unfold Oper.wp execOp
  simp only [ho, hx, Sem.run_bind, Sem.run_pure, hr, Result.andThen_ok]
  refine hK _ _ (h w.heap.size _ _ (Nat.le_refl _) (by rw [Lib.bytesWorld_size]; omega) ?_ ?_)
  · intro j hj
    rw [Lib.bytesWorld_cell w 5 s j hj]
    have : s.data.toList.getD j 0 = s[j] := by
      rw [List.getD_eq_getElem?_getD, Tx.get_byte s j hj]
      rfl
    rw [this]
  · exact ⟨rfl, rfl, rfl, by rw [Lib.bytesWorld_size]; omega, fun k hk => Lib.bytesWorld_at_old w _ _ k hk⟩
end

theorem cell_same17 {w w' : World} {g j : Nat} (h : w'.heap[g]? = w.heap[g]?) : w'.cell? ⟨g, j, none⟩ = w.cell? ⟨g, j, none⟩ := by
  unfold World.cell?
  rw [h]
namespace Pt
theorem esc_take {l : T8} {k : Nat} {c : UInt8} (h : l[k]? = some c) : esc (l.take (k + 1)) = esc (l.take k) ++ esc1 c := by
  unfold esc
  rw [List.take_add_one, h]
  simp
theorem esc1_len (c : UInt8) : (esc1 c).length ≤ 3 := by
  unfold esc1; split <;> simp
theorem escX_len (l : T8) : (esc l).length ≤ 3 * l.length := by
  unfold esc
  induction l with
  | nil => simp
  | cons c r ih =>
    rw [List.flatMap_cons, List.length_append, List.length_cons]
    have := esc1_len c
    omega
end Pt

set_option maxHeartbeats 4000000 in
set_option maxRecDepth 20000 in
theorem xesc17 (s : ByteArray) (l : List UInt8) (hl : s.data.toList = l) (w : World) (hs : s.size ≤ 4194304) :
    Calls Tryz.prog 42 #[.string s] w fun e w' => e = .returned (.string ⟨(Pt.esc l).toArray⟩) ∧ Below w.heap.size w w' := by
  have HSZ : Hid (s.size = l.length) := hid' (by rw [Lib.size_eq, hl])
  have HGB : Hid (∀ k (h : k < s.size), l[k]? = some s[k]) := hid' (fun k h => by rw [← hl]; exact Tx.get_byte s k h)
  clear hl
  obtain ⟨hb, hhb⟩ : ∃ hb, hexB17 = hb := ⟨_, rfl⟩
  have HHB : Hid (hb = hexB17) := hid' hhb.symm
  have HHL : Hid ((⟨#[48, 49, 50, 51, 52, 53, 54, 55, 56, 57, 65, 66, 67, 68, 69, 70]⟩ : ByteArray) = hb) := hid' hhb
  have HBS : Hid (hb.size = 16) := hid' (by rw [← hhb]; rfl)
  clear hhb
  go_enter Tryz.func42, Tryz.ntmps42
  go_wp2_with (refine wpl_alloc 106 rfl rfl _ zeroBd17 ?_)
  intro b w1 hb1 ha1 hl1
  go_wp2_with (refine wpl_tobytes17 _ rfl rfl s (by kernel_rfl) ?_)
  intro g gc w2 hg1 hg2 hgc hl2
  have hbg : b ≠ g := by have := ha1.lt; omega
  have HS1 : Hid (BG17 w2 w.heap.size b g [] ∧ Below w.heap.size w w2) := hid' ⟨.inl ⟨hb1, .slice none 0 0, by rw [hl2.block b ha1.lt]; exact ha1, World.ownsRow_nil _ _ _ _, by simp [Value.ownBlock], by simp [Value.ownBlock], hbg, hg2⟩, below_two hl1 hl2⟩
  have HGC := hid' hgc
  clear hb1 ha1 hl1 hg1 hg2 hgc hl2 hbg
  go_wp2
  go_loopw [9] (fun s9 wr => ∃ k : Nat, s9 = .int .i64 (k : Int) ∧ k ≤ s.size ∧ Hid (BG17 wr w.heap.size b g (Pt.esc (l.take k))) ∧ Hid (wr.heap[g]? = w2.heap[g]?) ∧ Hid (Below w.heap.size w wr)) (fun s9 _ => s.size - (intOf s9).toNat)
  case atStart => exact ⟨0, rfl, Nat.zero_le _, hid' HS1.out.1, hid' rfl, hid' HS1.out.2⟩
  case round =>
    obtain ⟨k, rfl, hk, HO, HG, HB⟩ := hrel
    by_cases hlt : k < s.size
    · have hlt2 : (k : Int) < (s.size : Int) := by omega
      have y0 : wr.cell? ⟨g, k, none⟩ = some (.int .u8 (s[k].toNat : Int)) := (cell_same17 HG.out).trans (HGC.out k hlt)
      have HET := hid' (Pt.esc_take (HGB.out k hlt))
      have HEL : Hid ((Pt.esc (l.take k)).length ≤ 3 * 4194304) := hid' (by
        have h1 := Pt.escX_len (l.take k)
        have h2 : (l.take k).length ≤ k := by rw [List.length_take]; omega
        omega)
      generalize Pt.esc (l.take k) = Z at *
      have HBA := hid' (fun W => cbare17 s[k] W)
      obtain ⟨c, hc⟩ : ∃ c, s[k] = c := ⟨_, rfl⟩
      rw [hc] at y0 HET HBA
      have c256 := c.toNat_lt
      clear hc
      cases hp : Pt.plain c
      · rw [hp] at HBA
        have HE1 : Hid (Pt.esc1 c = [37, Pt.hd16 (c.toNat / 16), Pt.hd16 (c.toNat % 16)]) := hid' (by unfold Pt.esc1; rw [hp]; rfl)
        have HW1 := hid' (fun W (h : BG17 W w.heap.size b g Z) (hW : w.heap.size ≤ W.heap.size) => writeByte17 w.heap.size b g Z 37 37 rfl W h (by have := HEL.out; omega) hW)
        obtain ⟨q, hq⟩ : ∃ q : Nat, c.toNat / 16 = q := ⟨_, rfl⟩
        obtain ⟨r, hr⟩ : ∃ r : Nat, c.toNat % 16 = r := ⟨_, rfl⟩
        rw [hq, hr] at HE1
        have hq16 : q < 16 := by omega
        have hr16 : r < 16 := by omega
        go_wp2_with fail
        refine (HBA.out _).mono ?_
        rintro e w3 ⟨rfl, hw⟩
        subst w3
        go_wp2_with fail
        refine (HW1.out _ HO.out HB.out.size).mono ?_
        rintro e w3 ⟨rfl, h1, h2, h3⟩
        have HO3 := hid' h1
        have HB3 := hid' (HB.out.trans h2)
        have HG3 := hid' (h3.trans HG.out)
        clear h1 h2 h3
        go_wp2_with fail
        refine (writeByte17 w.heap.size b g (Z ++ [37]) (Pt.hd16 q) _ (congrArg (fun x : UInt8 => (x.toNat : Int)) (hexB_at17 q hq16 (by show q < 16; omega))) _ HO3.out (by have := HEL.out; rw [List.length_append]; simp; omega) HB3.out.size).mono ?_
        rintro e w4 ⟨rfl, h1, h2, h3⟩
        have HO4 := hid' h1
        have HB4 := hid' (HB3.out.trans h2)
        have HG4 := hid' (h3.trans HG3.out)
        clear h1 h2 h3
        go_wp2_with fail
        refine (writeByte17 w.heap.size b g (Z ++ [37] ++ [Pt.hd16 q]) (Pt.hd16 r) _ (congrArg (fun x : UInt8 => (x.toNat : Int)) (hexB_at17 r hr16 (by show r < 16; omega))) _ HO4.out (by have := HEL.out; rw [List.length_append, List.length_append]; simp; omega) HB4.out.size).mono ?_
        rintro e w5 ⟨rfl, h1, h2, h3⟩
        have HO5 := hid' h1
        have HB5 := hid' (HB4.out.trans h2)
        have HG5 := hid' (h3.trans HG4.out)
        clear h1 h2 h3
        go_wp2
        go_roundw
        case rel => exact ⟨k + 1, by go_num, by omega, hid' (by rw [HET.out, HE1.out]; have := HO5.out; simpa using this), HG5, HB5⟩
        case measure => simp [intOf]; omega
      · rw [hp] at HBA
        have HE1 : Hid (Pt.esc1 c = [c]) := hid' (by unfold Pt.esc1; rw [hp]; rfl)
        have HW1 := hid' (fun W (h : BG17 W w.heap.size b g Z) (hW : w.heap.size ≤ W.heap.size) => writeByte17 w.heap.size b g Z c _ rfl W h (by have := HEL.out; omega) hW)
        go_wp2_with fail
        refine (HBA.out _).mono ?_
        rintro e w3 ⟨rfl, hw⟩
        subst w3
        go_wp2_with fail
        refine (HW1.out _ HO.out HB.out.size).mono ?_
        rintro e w3 ⟨rfl, h1, h2, h3⟩
        have HO3 := hid' h1
        have HB3 := hid' (HB.out.trans h2)
        have HG3 := hid' (h3.trans HG.out)
        clear h1 h2 h3
        go_wp2
        go_roundw
        case rel => exact ⟨k + 1, by go_num, by omega, hid' (by rw [HET.out, HE1.out]; exact HO3.out), HG3, HB3⟩
        case measure => simp [intOf]; omega
    · have hlt2 : ¬ (k : Int) < (s.size : Int) := by omega
      have HE : Hid (l.take k = l) := hid' (List.take_of_length_le (by have := HSZ.out; omega))
      rw [HE.out] at HO
      have HST := hid' (string17 w.heap.size b (Pt.esc l) wr HO.out.bld HB.out.size)
      clear hlt
      go_wp2_with fail
      refine HST.out.mono ?_
      rintro e w3 ⟨rfl, h2⟩
      have HB2 := hid' (HB.out.trans h2)
      clear h2
      go_wp2
      go_ret
      exact ⟨rfl, HB2.out⟩

end Go.Proofs.YtgbnelglhkfdfaaGreatDoor
