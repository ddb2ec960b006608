/-
  Same, Decimal, SameTexts, addMember and List, each by its contract.
-/
import Derived.Test.YtdbldompjhienaaDoorTrims
import Derived.Test.YtdbldompjhienaaDoorLowers
import Derived.Test.YtdbldompjhienaaDoorPureList
import Derived.Test.YtdbldompjhienaaDoorShelf
import Derived.Deep.QuietTactic
import Derived.BigQuiet
import Derived.Lib.LaidTab
import Derived.Sort.Grow
namespace Go.Proofs.YtdbldompjhienaaDoor
open Go.RowKit

theorem tab_below {P : Program} {w w' : World} {name : String} {k : IntKind} {zs : List Int} (h : Lib.TabIs P w name k zs) (hb : Below w.heap.size w w') : Lib.TabIs P w' name k zs := by
  unfold Lib.TabIs World.var? at *
  cases hg : P.globalNamed name with
  | none => simp [hg] at h
  | some g =>
    simp only [hg, Option.bind_some] at h ⊢
    have hlt : g < w.heap.size := by
      rcases Nat.lt_or_ge g w.heap.size with h' | h'
      · exact h'
      · simp [Array.getElem?_eq_none h'] at h
    rw [hb.block g hlt]
    exact h
theorem hid {p : Prop} (h : p) : Hid p := h
theorem below_two {a b c : World} (h : Below a.heap.size a b) (k : Below b.heap.size b c) : Below a.heap.size a c := h.trans (k.mono h.size)
theorem below_drewN (w : World) (n : Nat) : Below w.heap.size w (w.drewN n) := ⟨rfl, rfl, rfl, Nat.le_refl _, fun _ _ => rfl⟩
theorem below_grow (w : World) (os : Array Obj) : Below w.heap.size w (Sort.grow w os) :=
  ⟨rfl, rfl, rfl, by simp [Sort.grow], fun k hk => by simp [Sort.grow, Array.getElem?_append_left hk]⟩

set_option maxHeartbeats 400000 in
theorem decimal_any (n : Int) (h0 : -9223372036854775808 ≤ n) (h1 : n ≤ 9223372036854775807) (w : World) (htab : Lib.TabIs Tryd.prog w "internal/strconv.uint64pow10" .u64 Lib.pow10Tab) :
    Calls Tryd.prog 29 #[.int .i64 n] w fun e w' => e = .returned (.string ⟨(Lib.itoa n).toArray⟩) ∧ Below w.heap.size w w' := by
  go_enter Tryd.func29, Tryd.ntmps29
  go_wp2_with fail
  refine (Tryd.strconv_Itoa n h0 h1 _ htab).mono ?_
  rintro e w1 ⟨rfl, k, os, hw⟩
  have hb : Below w.heap.size w w1 := by rw [hw]; exact below_two (below_drewN w k) (below_grow _ _)
  clear hw
  go_wp2
  go_ret
  exact ⟨rfl, hb⟩

/-- A slice of strings: the value v reads as the texts l in the world w. -/
def Strs (w : World) (v : Value) (l : List (List UInt8)) : Prop :=
  ∃ a cap, v = .slice a l.length cap ∧ ∀ j (hj : j < l.length), ∃ b o, a = some ⟨b, o, none⟩ ∧ w.cell? ⟨b, o + j, none⟩ = some (.string ⟨l[j].toArray⟩)
theorem Strs.head {w : World} {v : Value} {l : List (List UInt8)} (h : Strs w v l) (hl : 0 < l.length) : ∃ b o cap, v = .slice (some ⟨b, o, none⟩) l.length cap ∧ ∀ j (hj : j < l.length), w.cell? ⟨b, o + j, none⟩ = some (.string ⟨l[j].toArray⟩) := by
  obtain ⟨a, cap, rfl, hc⟩ := h
  obtain ⟨b, o, rfl, _⟩ := hc 0 hl
  refine ⟨b, o, cap, rfl, fun j hj => ?_⟩
  obtain ⟨b', o', e, h'⟩ := hc j hj
  cases e
  exact h'

theorem Tryd.info9 : (Tryd.prog.info? 9).map (fun i => (i.zero, i.size, i.bytes)) = some (some (.string ByteArray.empty), 1, 16) := by kernel_rfl
/-- The cells of texts. -/
def strCells (l : List (List UInt8)) : List Value := l.map fun m => .string ⟨m.toArray⟩

set_option maxHeartbeats 1000000 in
theorem addMember_any (B : Nat) (v : Value) (ms : List (List UInt8)) (p : ByteArray) (w : World) (hp : p.size ≤ maxLen) (hown : w.ownsRow B 9 1 v ms.length (strCells ms)) (hB : B ≤ w.heap.size) (hm : ms.length + 1 ≤ 8796093022208) :
    Calls Tryd.prog 35 #[v, .string p] w fun e w' => ∃ v', e = .returned v' ∧ w'.ownsRow B 9 1 v' (ms ++ Tx.addm p.data.toList).length (strCells (ms ++ Tx.addm p.data.toList)) ∧ Below B w w' := by
  obtain ⟨i0, hi, hz0, hz1, hz2⟩ := info_parts Tryd.info9
  by_cases he : (Tx.trim p.data.toList).isEmpty = true
  · go_enter Tryd.func35, Tryd.ntmps35
    go_wp2_with (go_at_call 45; refine (trim_any _ _ hp).mono ?_; rintro e w' ⟨rfl, rfl⟩)
    go_ret
    refine ⟨v, rfl, ?_, Below.refl _ _⟩
    rw [show Tx.addm p.data.toList = [] from by unfold Tx.addm; rw [if_pos he], List.append_nil]
    exact hown
  · replace he : (Tx.trim p.data.toList).isEmpty = false := by simpa using he
    go_enter Tryd.func35, Tryd.ntmps35
    go_wp2_with (first
      | (go_at_call 45; refine (trim_any _ _ hp).mono ?_; rintro e w' ⟨rfl, rfl⟩)
      | (at_builtin; refine wpList_append_own _ rfl _ _ 45 rfl B 9 i0 (.string ByteArray.empty) 1 16 Tryd.underlying45 hi hz0 hz1 hz2 rfl (by decide) _ _ _ rfl (hown.alloc _) ⟨_, 0, none⟩ 1 1 [.string ⟨(Tx.trim p.data.toList).toArray⟩] rfl rfl ?c1 ?c2 ?c3 ?c4 ?c5 ?_))
    case c1 =>
      intro j u hj
      match j, hj with
      | 0, hj => simp at hj; subst hj; simp [Addr.add]
    case c2 => intro u hu; simp at hu; subst hu; rfl
    case c3 => unfold maxLen; omega
    case c4 => omega
    case c5 => simp; omega
    · intro v' w1 hown' hgrow _
      have HG := hid hgrow
      have HO := hid hown'
      clear hgrow hown'
      go_wp2
      go_ret
      refine ⟨v', rfl, ?_, ?_⟩
      · rw [show Tx.addm p.data.toList = [Tx.trim p.data.toList] from by unfold Tx.addm; rw [if_neg (by simp [he])]]
        have := HO.out
        rw [List.length_append, strCells, List.map_append]
        exact this
      · exact ((Below.refl _ _).alloc hB _).grown HG.out (by simp; omega) (fun k hk => (hown.lt k hk).1)

end Go.Proofs.YtdbldompjhienaaDoor
