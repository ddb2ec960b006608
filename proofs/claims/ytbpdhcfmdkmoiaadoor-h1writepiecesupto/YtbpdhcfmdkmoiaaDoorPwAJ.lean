/-
  Same, Decimal, SameTexts, addMember and List, each by its contract.
-/
import Derived.Test.YtbpdhcfmdkmoiaaDoorShelfW
import Derived.Deep.QuietTactic
import Derived.BigQuiet
import Derived.Lib.LaidTab
import Derived.Sort.Grow
import Derived.Test.YtbpdhcfmdkmoiaaDoorPwAA
import Derived.Test.YtbpdhcfmdkmoiaaDoorPwAB
import Derived.Test.YtbpdhcfmdkmoiaaDoorPwAD
namespace Go.Proofs.YtbpdhcfmdkmoiaaDoor
open Go.RowKit

theorem tab_below {P : Program} {w w' : World} {name : String} {k : IntKind} {zs : List Int} (h : Lib.TabIs P w name k zs) (hb : Below w.heap.size w w') : Lib.TabIs P w' name k zs := by
  unfold Lib.TabIs World.var? at *
  cases hg : P.globalNamed name with
  | none => simp [hg] at h
  | some g =>
    simp only [hg, Option.bind_some] at h ⊢
    have hlt : g < w.heap.size := by
      rcases Nat.lt_or_ge g w.heap.size with h' | h'
      · exact h'
      · simp [Array.getElem?_eq_none h'] at h
    rw [hb.block g hlt]
    exact h
theorem below_drewN (w : World) (n : Nat) : Below w.heap.size w (w.drewN n) := ⟨rfl, rfl, rfl, Nat.le_refl _, fun _ _ => rfl⟩
theorem below_grow (w : World) (os : Array Obj) : Below w.heap.size w (Sort.grow w os) :=
  ⟨rfl, rfl, rfl, by simp [Sort.grow], fun k hk => by simp [Sort.grow, Array.getElem?_append_left hk]⟩

set_option maxHeartbeats 400000 in
theorem decimal_any (n : Int) (h0 : -9223372036854775808 ≤ n) (h1 : n ≤ 9223372036854775807) (w : World) (htab : Lib.TabIs Tryd.prog w "internal/strconv.uint64pow10" .u64 Lib.pow10Tab) :
    Calls Tryd.prog 53 #[.int .i64 n] w fun e w' => e = .returned (.string ⟨(Lib.itoa n).toArray⟩) ∧ Below w.heap.size w w' := by
  go_enter Tryd.func53, Tryd.ntmps53
  go_wp2_with fail
  refine (Tryd.strconv_Itoa n h0 h1 _ htab).mono ?_
  rintro e w1 ⟨rfl, k, os, hw⟩
  have hb : Below w.heap.size w w1 := by rw [hw]; exact below_two (below_drewN w k) (below_grow _ _)
  clear hw
  go_wp2
  go_ret
  exact ⟨rfl, hb⟩

/-- A slice of strings: the value v reads as the texts l in the world w. -/
def Strs (w : World) (v : Value) (l : List (List UInt8)) : Prop :=
  ∃ a cap, v = .slice a l.length cap ∧ ∀ j (hj : j < l.length), ∃ b o, a = some ⟨b, o, none⟩ ∧ w.cell? ⟨b, o + j, none⟩ = some (.string ⟨l[j].toArray⟩)
theorem Strs.head {w : World} {v : Value} {l : List (List UInt8)} (h : Strs w v l) (hl : 0 < l.length) : ∃ b o cap, v = .slice (some ⟨b, o, none⟩) l.length cap ∧ ∀ j (hj : j < l.length), w.cell? ⟨b, o + j, none⟩ = some (.string ⟨l[j].toArray⟩) := by
  obtain ⟨a, cap, rfl, hc⟩ := h
  obtain ⟨b, o, rfl, _⟩ := hc 0 hl
  refine ⟨b, o, cap, rfl, fun j hj => ?_⟩
  obtain ⟨b', o', e, h'⟩ := hc j hj
  cases e
  exact h'

set_option maxHeartbeats 1000000 in
theorem sameTexts_any (v1 v2 : Value) (l1 l2 : List (List UInt8)) (w : World) (h1 : Strs w v1 l1) (h2 : Strs w v2 l2) (hm : l1.length ≤ maxLen) (hm2 : l2.length ≤ maxLen) :
    Calls Tryd.prog 10 #[v1, v2] w fun e w' => e = .returned (.bool (l1 == l2)) ∧ ∃ n, w' = w.drewN n := by
  unfold maxLen at hm hm2
  by_cases hlen : l1.length = l2.length
  · by_cases hpos : 0 < l1.length
    · obtain ⟨b1, o1, c1, rfl, hc1⟩ := h1.head hpos
      obtain ⟨b2, o2, c2, rfl, hc2⟩ := h2.head (by omega)
      clear h1 h2
      rw [← hlen]
      have HL := hid hlen
      have HC1 := hid hc1
      have HC2 := hid hc2
      obtain ⟨n, hn⟩ : ∃ n, n = l1.length := ⟨_, rfl⟩
      have HN := hid hn
      rw [← hn] at hm hpos ⊢
      clear hlen hc1 hc2 hn hm2
      go_enter Tryd.func10, Tryd.ntmps10
      go_wp2
      go_loopw [5] (fun i wr => ∃ k : Nat, k ≤ n ∧ i = .int .i64 k ∧ l1.take k = l2.take k ∧ ∃ nq, wr = w.drewN nq) (fun i _ => n - (intOf i).toNat)
      case atStart => exact ⟨0, Nat.zero_le _, rfl, rfl, 0, rfl⟩
      case round =>
        obtain ⟨k, hk, rfl, heq, nq, rfl⟩ := hrel
        have HE := hid heq
        clear heq
        by_cases hlt : k < n
        · have hk1 : k < l1.length := by rw [← HN.out]; exact hlt
          have hk2 : k < l2.length := by rw [← HL.out]; exact hk1
          obtain ⟨x, hx⟩ : ∃ x, x = l1[k] := ⟨_, rfl⟩
          obtain ⟨y, hy⟩ : ∃ y, y = l2[k] := ⟨_, rfl⟩
          have cx := HC1.out k hk1
          have cy := HC2.out k hk2
          rw [← hx] at cx
          rw [← hy] at cy
          have HX := hid hx
          have HY := hid hy
          clear hx hy
          by_cases hxy : x = y
          · subst hxy
            have hb : (x == x) = true := by simp
            have HT : Hid (l1.take (k + 1) = l2.take (k + 1)) := by
              rw [List.take_succ_eq_append_getElem hk1, List.take_succ_eq_append_getElem hk2, HE.out, ← HX.out, ← HY.out]; exact rfl
            go_wp2
            go_quiet (fail)
            go_wp2
            go_roundw
            case rel => exact ⟨k + 1, by omega, by go_num, HT.out, _, rfl⟩
            case measure => simp [intOf]; omega
          · have hb : (x == y) = false := by simpa using hxy
            have HF : Hid ((l1 == l2) = false) := hid (by
              rw [beq_eq_false_iff_ne]; intro e; apply hxy; rw [HX.out, HY.out]; simp only [e])
            clear hxy
            go_wp2
            go_quiet (fail)
            go_wp2
            go_ret
            exact ⟨ret_bool HF.out.symm, _, by first | rfl | rw [World.drewN_drewN]⟩
        · have HF : Hid ((l1 == l2) = true) := hid (by
            have e := HE.out
            have hn := HN.out
            have hl := HL.out
            rw [List.take_of_length_le (by omega), List.take_of_length_le (by omega)] at e
            rw [e]; simp)
          go_wp2
          go_ret
          exact ⟨ret_bool HF.out.symm, _, rfl⟩
    · have e1 : l1 = [] := List.eq_nil_of_length_eq_zero (by omega)
      have e2 : l2 = [] := List.eq_nil_of_length_eq_zero (by omega)
      subst e1 e2
      obtain ⟨a1, c1, rfl, _⟩ := h1
      obtain ⟨a2, c2, rfl, _⟩ := h2
      clear hlen hpos hm hm2
      go_enter Tryd.func10, Tryd.ntmps10
      go_wp2
      go_loopw [5] (fun i wr => i = .int .i64 0 ∧ wr = w) (fun _ _ => 0)
      case atStart => exact ⟨rfl, rfl⟩
      case round =>
        obtain ⟨rfl, rfl⟩ := hrel
        go_wp2
        go_ret
        exact ⟨rfl, 0, rfl⟩
  · have hb : (((l1.length : Nat) : Int) != ((l2.length : Nat) : Int)) = true := by rw [bne_iff_ne]; omega
    have HF : Hid ((l1 == l2) = false) := hid (by
      rw [beq_eq_false_iff_ne]; intro e; exact hlen (by rw [e]))
    obtain ⟨a1, c1, rfl, _⟩ := h1
    obtain ⟨a2, c2, rfl, _⟩ := h2
    clear hlen
    go_enter Tryd.func10, Tryd.ntmps10
    go_wp2
    go_ret
    exact ⟨ret_bool HF.out.symm, 0, rfl⟩

/-- The cells of texts. -/
def strCells (l : List (List UInt8)) : List Value := l.map fun m => .string ⟨m.toArray⟩

end Go.Proofs.YtbpdhcfmdkmoiaaDoor
