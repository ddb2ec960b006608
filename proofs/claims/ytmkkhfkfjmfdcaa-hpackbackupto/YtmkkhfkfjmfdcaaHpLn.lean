/-
  Fields that came in; the laws' own weight and lent of them: by their contracts.
-/
import Derived.Test.YtmkkhfkfjmfdcaaHpWt
import Derived.Laws.AppendOwnNone
namespace Go.Proofs.Ytmkkhfkfjmfdcaa
open Go.RowKit

/-- Fields in memory, wherever. -/
def FS (w : World) (v : Value) (l : List (List UInt8 × List UInt8)) : Prop :=
  (v = .slice none 0 0 ∧ l = []) ∨ ∃ a cap, v = .slice (some a) l.length cap ∧ ∀ j u, (Tb.cells l)[j]? = some u → (a.add j).block < w.heap.size ∧ w.cell? (a.add j) = some u
theorem FS.below {B : Nat} {w w' : World} {v : Value} {l : List (List UInt8 × List UInt8)} (h : FS w v l) (hb : Below B w w') (hB : w.heap.size ≤ B) : FS w' v l := by
  rcases h with h | ⟨a, cap, hv, hc⟩
  · exact .inl h
  · exact .inr ⟨a, cap, hv, fun j u hj => ⟨Nat.lt_of_lt_of_le (hc j u hj).1 hb.size, (hb.cell (Nat.lt_of_lt_of_le (hc j u hj).1 hB)).trans (hc j u hj).2⟩⟩
theorem FS.shape {w : World} {v : Value} {l : List (List UInt8 × List UInt8)} (h : FS w v l) : ∃ ao cap, v = .slice ao l.length cap := by
  rcases h with ⟨h, rfl⟩ | ⟨a, cap, h, _⟩
  · exact ⟨none, 0, h⟩
  · exact ⟨some a, cap, h⟩
theorem FS.two {w : World} {ao : Option Addr} {n cap : Nat} {l : List (List UInt8 × List UInt8)} (h : FS w (.slice ao n cap) l) (i : Nat) (f : List UInt8 × List UInt8) (hf : l[i]? = some f) : ∃ a, ao = some a ∧ w.cell? (a.add (i * 2)) = some (.string ⟨f.1.toArray⟩) ∧ w.cell? ⟨(a.add (i * 2)).block, (a.add (i * 2)).off + 1, none⟩ = some (.string ⟨f.2.toArray⟩) := by
  rcases h with ⟨_, rfl⟩ | ⟨a, cap', hv, hc⟩
  · simp at hf
  · injection hv with h1 _ _
    obtain ⟨e0, e1⟩ := Tb.cells_at _ _ _ hf
    refine ⟨a, h1, (hc _ _ e0).2, ?_⟩
    have := (hc _ _ e1).2
    rw [← Addr.add_add] at this
    simpa [Addr.add] using this

set_option maxHeartbeats 1000000 in
set_option maxRecDepth 20000 in
theorem wsumF_any (ao : Option Addr) (cap : Nat) (l : List (List UInt8 × List UInt8)) (w : World) (h : FS w (.slice ao l.length cap) l) (S : Nat) (hS : Tb.size l = S) (hb : S ≤ 35184372088832) :
    Calls Try.prog 17 #[.slice ao l.length cap] w fun e w' => e = .returned (.int .i64 (S : Int)) ∧ Below w.heap.size w w' := by
  obtain ⟨n, hn⟩ : ∃ n, l.length = n := ⟨_, rfl⟩
  have hnb : n ≤ 35184372088832 := by have := Tb.size_len l; omega
  rw [hn] at h ⊢
  have H := hid' h
  have HN := hid' hn
  have HS := hid' hS
  clear h hn hS
  go_enter Try.func17, Try.ntmps17
  go_wp2
  go_loopw [3, 4] (fun s3 s4 wr => ∃ i k : Nat, s4 = .int .i64 (i : Int) ∧ s3 = .int .i64 (k : Int) ∧ i ≤ n ∧ k ≤ S ∧ Hid (k = Tb.size (l.take i)) ∧ Hid (Below w.heap.size w wr)) (fun _ s4 _ => n - (intOf s4).toNat)
  case atStart => exact ⟨0, 0, rfl, rfl, Nat.zero_le _, Nat.zero_le _, hid' rfl, hid' (Below.refl _ _)⟩
  case round =>
    obtain ⟨i, k, rfl, rfl, hin, hks, HK, HB⟩ := hrel
    by_cases hlt : i < n
    · have hlt2 : decide ((i : Int) < (n : Int)) = true := decide_eq_true (by omega)
      have hlt3 : decide (i < n) = true := decide_eq_true hlt
      have hltI : (i : Int) < (n : Int) := by omega
      have hi1 : i < l.length := by have := HN.out; omega
      obtain ⟨x, hx⟩ : ∃ x, l[i]? = some x := ⟨_, List.getElem?_eq_getElem hi1⟩
      obtain ⟨xn, xv⟩ := x
      obtain ⟨a, rfl, a0, a1⟩ := (H.out.below HB.out (Nat.le_refl _)).two i (xn, xv) hx
      simp only at a0 a1
      obtain ⟨m, hm⟩ : ∃ m, Tb.wt (xn, xv) = m := ⟨_, rfl⟩
      have hst : Tb.size (l.take (i + 1)) = k + m := by rw [Tb.size_take l i (xn, xv) hx, HK.out, hm]
      have hle : k + m ≤ S := by rw [← hst, ← HS.out]; exact Tb.size_take_le l _
      have HM := hid' hm
      have HST := hid' hst
      have HLT := hid' hlt
      clear hx hlt hi1 hm hst
      go_wp2_with fail
      refine (weight_at xn xv m HM.out (by omega) _).mono ?_
      rintro e w1 ⟨rfl, rfl⟩
      have HB1 : Hid (Below w.heap.size w (wr.alloc (.cells #[.string ⟨xn.toArray⟩, .string ⟨xv.toArray⟩] 55))) := hid' (HB.out.alloc HB.out.size _)
      go_wp2
      go_roundw
      case rel => exact ⟨i + 1, k + m, by go_num, by go_num, by have := HLT.out; omega, hle, hid' HST.out.symm, HB1⟩
      case measure => have := HLT.out; simp [intOf]; omega
    · have hlt2 : decide ((i : Int) < (n : Int)) = false := decide_eq_false (by omega)
      have hlt3 : decide (i < n) = false := decide_eq_false hlt
      have HE : Hid (k = S) := hid' (by rw [HK.out, ← HS.out, List.take_of_length_le (by have := HN.out; omega)])
      clear hlt
      go_wp2
      go_ret
      exact ⟨ret_int (by rw [HE.out]), HB.out⟩

end Go.Proofs.Ytmkkhfkfjmfdcaa
