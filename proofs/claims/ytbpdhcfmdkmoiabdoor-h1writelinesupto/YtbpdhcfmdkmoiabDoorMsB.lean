/-
  The document's in, Bound, pseudo, find: by their contracts.
-/
import Derived.Test.YtbpdhcfmdkmoiabDoorMsA
import Derived.Test.YtbpdhcfmdkmoiabDoorToks
import Derived.Test.YtbpdhcfmdkmoiabDoorLowD
namespace Go.Proofs.YtbpdhcfmdkmoiabDoor
open Go.RowKit

def sC (l : List (List UInt8)) : List Value := l.map fun t => .string ⟨t.toArray⟩
theorem ba_list (l : List UInt8) : (⟨l.toArray⟩ : ByteArray).toList = l := by rw [Lib.toList_data]
theorem mret_bool {a b : Bool} (h : a = b) : Ending.returned (.bool a) = .returned (.bool b) := by rw [h]
theorem has_drop {l : List (List UInt8)} {i : Nat} {t : List UInt8} (h : l[i]? = some t) (x : List UInt8) : (l.drop i).contains x = (t == x || (l.drop (i + 1)).contains x) := by
  obtain ⟨h1, h2⟩ := List.getElem?_eq_some_iff.1 h
  rw [List.drop_eq_getElem_cons h1, h2, List.contains_cons, show (x == t) = (t == x) from Bool.eq_iff_iff.2 (by rw [beq_iff_eq, beq_iff_eq]; exact eq_comm)]

set_option maxHeartbeats 1000000 in
theorem rin14 (blk n : Nat) (l : List (List UInt8)) (hn : l.length = n) (x : ByteArray) (r : Bool) (hr : l.contains x.toList = r) (w : World) (h : Ar w blk 9 (sC l).toArray) (hl : n ≤ 1000) :
    Calls Tryd.prog 38 #[.slice (some ⟨blk, 0, none⟩) n n, .string x] w fun e w' => e = .returned (.bool r) ∧ w' = w := by
  have H := hid' h
  have HN := hid' hn
  have HR := hid' hr
  clear h hn hr
  go_enter Tryd.func38, Tryd.ntmps38
  go_wp2
  go_loopw [5] (fun s5 wr => ∃ i : Nat, s5 = .int .i64 (i : Int) ∧ i ≤ n ∧ wr = w ∧ Hid ((l.drop i).contains x.toList = r)) (fun s5 _ => n - (intOf s5).toNat)
  case atStart => exact ⟨0, rfl, Nat.zero_le _, rfl, HR⟩
  case round =>
    obtain ⟨i, rfl, hi, hwr, HI⟩ := hrel
    subst wr
    by_cases hlt : i < n
    · have hlt2 : (i : Int) < (n : Int) := by omega
      obtain ⟨t, ht⟩ : ∃ t, l[i]? = some t := ⟨_, List.getElem?_eq_getElem (by rw [HN.out]; exact hlt)⟩
      have c0 : w.cell? ⟨blk, i, none⟩ = some (.string ⟨t.toArray⟩) := H.out.cell i _ (by simp [sC, ht])
      have hd := has_drop ht x.toList
      obtain ⟨y, hy⟩ : ∃ y : ByteArray, (⟨t.toArray⟩ : ByteArray) = y := ⟨_, rfl⟩
      rw [hy] at c0
      have hyt : y.toList = t := by rw [← hy]; exact ba_list t
      rw [← hyt, HI.out] at hd
      have HD := hid' hd
      clear ht hd hy hyt
      cases eb : (y.toList == x.toList)
      · have HE : Hid ((l.drop (i + 1)).contains x.toList = r) := hid' (by rw [HD.out, eb]; rfl)
        go_wp2
        go_roundw
        case rel => exact ⟨i + 1, by go_num, by omega, by first | rfl | trivial, HE⟩
        case measure => simp [intOf]; omega
      · have HE : Hid (r = true) := hid' (by rw [HD.out, eb]; rfl)
        go_wp2
        go_ret
        exact ⟨by rw [HE.out]; rfl, rfl⟩
    · obtain rfl : i = n := by omega
      have hlt2 : ¬ (i : Int) < (i : Int) := by omega
      have HE : Hid (r = false) := hid' (by rw [← HI.out, List.drop_of_length_le (by rw [HN.out]; exact Nat.le_refl _)]; rfl)
      clear hlt
      go_wp2
      go_ret
      exact ⟨by rw [HE.out]; rfl, rfl⟩

set_option maxHeartbeats 1000000 in
set_option maxRecDepth 20000 in
theorem rbnd14 (x : ByteArray) (r : Bool) (hr : Ms.bnd x = r) (w : World) (hx : x.size ≤ 140737488355328) :
    Calls Tryd.prog 27 #[.string x] w fun e w' => e = .returned (.bool r) ∧ Below w.heap.size w w' := by
  have HR := hid' hr
  clear hr
  go_enter Tryd.func27, Tryd.ntmps27
  go_wp2_with fail
  have HA : Hid (Ar (w.alloc (.cells (sC Ms.conns).toArray 9)) w.heap.size 9 (sC Ms.conns).toArray) := hid' (heap_alloc_last w _)
  have HB0 : Hid (Below w.heap.size w (w.alloc (.cells (sC Ms.conns).toArray 9))) := hid' ((Below.refl _ _).alloc (Nat.le_refl _) _)
  change Calls _ _ _ (w.alloc (.cells (sC Ms.conns).toArray 9)) _
  obtain ⟨bk, hbk⟩ : ∃ bk, w.heap.size = bk := ⟨_, rfl⟩
  rw [hbk] at HA ⊢
  generalize w.alloc (.cells (sC Ms.conns).toArray 9) = w0 at *
  refine (rLower_any x _ (by unfold maxLen; omega)).mono ?_
  rintro e w1 ⟨rfl, hb1⟩
  have HA1 := hid' (HA.out.keep hb1)
  have HB1 := hid' (below_two HB0.out hb1)
  obtain ⟨y, hy⟩ : ∃ y : ByteArray, (⟨(Tx.lower x.data.toList).toArray⟩ : ByteArray) = y := ⟨_, rfl⟩
  have HY : Hid (Ms.conns.contains y.toList = r) := hid' (by rw [← HR.out, ← hy, ba_list]; rfl)
  rw [hy]
  clear hb1 hy hbk HA HB0
  go_wp2_with fail
  refine (rin14 bk 5 Ms.conns rfl y r HY.out w1 HA1.out (by omega)).mono ?_
  rintro e w2 ⟨rfl, hw2⟩
  subst w2
  go_wp2
  go_ret
  exact ⟨rfl, HB1.out⟩

theorem psd_yes {x : ByteArray} (h : 0 < x.size) : Ms.psd x = (((x[0].toNat : Int)) == 58) := by
  have h1 : (Ms.tx x).head? = some x[0] := by
    unfold Ms.tx
    rw [List.head?_eq_getElem?, List.getElem?_eq_getElem (by rw [← Lib.size_eq]; exact h)]
    rfl
  unfold Ms.psd
  rw [h1, Bool.eq_iff_iff, beq_iff_eq, beq_iff_eq]
  constructor
  · intro e; injection e with e; rw [e]; rfl
  · intro e
    congr 1
    apply UInt8.toNat_inj.1
    have : (58 : UInt8).toNat = 58 := rfl
    omega
theorem psd_no {x : ByteArray} (h : ¬ 0 < x.size) : Ms.psd x = false := by
  have : Ms.tx x = [] := List.eq_nil_of_length_eq_zero (by unfold Ms.tx; rw [← Lib.size_eq]; omega)
  unfold Ms.psd
  rw [this]
  rfl

theorem fnd_drop {l : List Fd} {i : Nat} {f : Fd} (h : l[i]? = some f) (x : List UInt8) : Ms.fnd x (l.drop i) = if f.n.toList == x then some f.v else Ms.fnd x (l.drop (i + 1)) := by
  obtain ⟨h1, h2⟩ := List.getElem?_eq_some_iff.1 h
  rw [List.drop_eq_getElem_cons h1, h2, Ms.fnd, Ms.tx, Lib.toList_data]
def fndV (o : Option ByteArray) : Value := .tuple #[.string (o.getD ⟨#[]⟩), .bool o.isSome]

end Go.Proofs.YtbpdhcfmdkmoiabDoor
