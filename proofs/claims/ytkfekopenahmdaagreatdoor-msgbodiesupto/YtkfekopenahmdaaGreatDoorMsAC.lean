/-
  Fields in memory; the document's Size, in, pseudo: by their contracts.
  The document's in, Bound, pseudo, find: by their contracts.
  The document's Strip, goes, decimal: by their contracts.
-/
import Derived.Test.YtkfekopenahmdaaGreatDoorMsPl
import Derived.Test.YtkfekopenahmdaaGreatDoorProg
import Derived.WalkKit
import Derived.Test.YtkfekopenahmdaaGreatDoorLf
import Derived.Laws.Cover1
import Derived.Laws.OwnMore
import Derived.Great.BuildSlice
import Derived.Deep.QuietTactic
import Derived.Test.YtkfekopenahmdaaGreatDoorToks
import Derived.Test.YtkfekopenahmdaaGreatDoorLowD
import Derived.Maps.AppendAt
namespace Go.Proofs.YtkfekopenahmdaaGreatDoor
open Go.RowKit

theorem wrp (x : Int) (h0 : 0 ≤ x) (h1 : x ≤ 9223372036854775807) : IntKind.i64.wrap x = x := by rw [IntKind.wrap_i64]; omega
def fV (f : Fd) : List Value := [.string f.n, .string f.v]
def fC (l : List Fd) : List Value := l.flatMap fV
theorem fC_append (l m : List Fd) : fC (l ++ m) = fC l ++ fC m := by simp [fC]
theorem fC_length (l : List Fd) : (fC l).length = l.length * 2 := by
  induction l with
  | nil => rfl
  | cons a r ih => simp only [fC, List.flatMap_cons, List.length_append, List.length_cons] at *; simp [fV] at *; omega
theorem f_at (l : List Fd) (i : Nat) (p : Fd) (h : l[i]? = some p) : ∀ j, j < 2 → (fC l)[i * 2 + j]? = (fV p)[j]? := by
  induction l generalizing i with
  | nil => simp at h
  | cons a r ih =>
    intro j hj
    rw [show fC (a :: r) = fV a ++ fC r from rfl]
    cases i with
    | zero => simp at h; subst h; rw [List.getElem?_append_left (by simp [fV]; omega)]; congr 1; omega
    | succ i =>
      rw [List.getElem?_append_right (by simp [fV]; omega), show (i + 1) * 2 + j - (fV a).length = i * 2 + j by simp [fV]; omega]
      exact ih i (by simpa using h) j hj
/-- Fields that can be read, wherever they lie. -/
def FW (w : World) (v : Value) (l : List Fd) : Prop :=
  (v = .slice none 0 0 ∧ l = []) ∨ ∃ a cap, v = .slice (some a) l.length cap ∧ l.length ≤ cap ∧ ∀ j u, (fC l)[j]? = some u → (a.add j).block < w.heap.size ∧ w.cell? (a.add j) = some u
theorem FW.keep {w w' : World} {v : Value} {l : List Fd} (h : FW w v l) (hb : Below w.heap.size w w') : FW w' v l := by
  rcases h with h | ⟨a, cap, hv, hcp, hc⟩
  · exact .inl h
  · exact .inr ⟨a, cap, hv, hcp, fun j u hj => ⟨Nat.lt_of_lt_of_le (hc j u hj).1 hb.size, (hb.cell (hc j u hj).1).trans (hc j u hj).2⟩⟩
theorem FW.below {B : Nat} {w w' : World} {v : Value} {l : List Fd} (h : FW w v l) (hb : Below B w w') (hB : w.heap.size ≤ B) : FW w' v l := h.keep (hb.mono hB)
theorem FW.shape {w : World} {v : Value} {l : List Fd} (h : FW w v l) : ∃ ao cap, v = .slice ao l.length cap := by
  rcases h with ⟨h, rfl⟩ | ⟨a, cap, h, _⟩
  · exact ⟨none, 0, h⟩
  · exact ⟨some a, cap, h⟩
theorem FW.two {w : World} {ao : Option Addr} {n cap : Nat} {l : List Fd} (h : FW w (.slice ao n cap) l) (i : Nat) (p : Fd) (hp : l[i]? = some p) : ∃ a, ao = some a ∧ w.cell? (a.add (i * 2)) = some (.string p.n) ∧ w.cell? ⟨(a.add (i * 2)).block, (a.add (i * 2)).off + 1, none⟩ = some (.string p.v) := by
  rcases h with ⟨_, rfl⟩ | ⟨a, cap', hv, hcp, hc⟩
  · simp at hp
  · injection hv with h1 _ _
    have key : ∀ j u, j < 2 → (fV p)[j]? = some u → w.cell? (a.add (i * 2 + j)) = some u := fun j u hj hu => (hc _ _ ((f_at l i p hp j hj).trans hu)).2
    have k0 := key 0 _ (by omega) rfl
    have k1 := key 1 _ (by omega) rfl
    rw [← Addr.add_add] at k0 k1
    refine ⟨a, h1, ?_, ?_⟩
    · simpa [Addr.add] using k0
    · simpa [Addr.add] using k1
theorem FW.cap {w : World} {a : Addr} {n cap : Nat} {l : List Fd} (h : FW w (.slice (some a) n cap) l) : l.length ≤ cap := by
  rcases h with ⟨h, _⟩ | ⟨a', cap', hv, hcp, _⟩
  · cases h
  · injection hv with _ _ h3
    rw [h3]; exact hcp
theorem fC_take (l : List Fd) (i : Nat) : fC (l.take i) = (fC l).take (i * 2) := by
  induction l generalizing i with
  | nil => simp [fC]
  | cons a r ih =>
    cases i with
    | zero => simp [fC]
    | succ i =>
      have : (i + 1) * 2 = (fV a).length + i * 2 := by simp [fV]; omega
      rw [List.take_succ_cons, show fC (a :: r.take i) = fV a ++ fC (r.take i) from rfl, show fC (a :: r) = fV a ++ fC r from rfl, ih, this, List.take_append, List.take_of_length_le (l := fV a) (by omega), Nat.add_sub_cancel_left]
theorem FW.take {w : World} {a : Addr} {n cap : Nat} {l : List Fd} (h : FW w (.slice (some a) n cap) l) {k : Nat} (hk : k ≤ l.length) : FW w (.slice (some a) k cap) (l.take k) := by
  rcases h with ⟨h, _⟩ | ⟨a', cap', hv, hcp, hc⟩
  · cases h
  · injection hv with h1 _ h3
    injection h1 with h1
    subst h1 h3
    refine .inr ⟨a, cap, by rw [List.length_take, Nat.min_eq_left hk], by rw [List.length_take]; omega, fun j u hj => hc j u ?_⟩
    rw [fC_take, List.getElem?_take] at hj
    split at hj
    · exact hj
    · cases hj
theorem FW.of_own {w : World} {B : Nat} {e : TypeId} {v : Value} {l : List Fd} (h : w.ownsRow B e 2 v l.length (fC l)) : FW w v l := by
  rcases h.2 with ⟨hv, hn⟩ | ⟨g, cap, cur, hv, _, h3, h4, _⟩
  · exact .inl ⟨hv, List.eq_nil_of_length_eq_zero hn⟩
  · refine .inr ⟨⟨g, 0, none⟩, cap, hv, h4, fun j u hj => ⟨?_, ?_⟩⟩
    · have := (Array.getElem?_eq_some_iff.1 h3).1
      unfold Addr.add
      split <;> exact this
    · exact h.cells (g := g) (by rw [hv]; rfl) j u hj

end Go.Proofs.YtkfekopenahmdaaGreatDoor

namespace Go.Proofs.YtkfekopenahmdaaGreatDoor
open Go.RowKit

def sC (l : List (List UInt8)) : List Value := l.map fun t => .string ⟨t.toArray⟩
theorem ba_list (l : List UInt8) : (⟨l.toArray⟩ : ByteArray).toList = l := by rw [Lib.toList_data]
theorem mret_bool {a b : Bool} (h : a = b) : Ending.returned (.bool a) = .returned (.bool b) := by rw [h]
theorem has_drop {l : List (List UInt8)} {i : Nat} {t : List UInt8} (h : l[i]? = some t) (x : List UInt8) : (l.drop i).contains x = (t == x || (l.drop (i + 1)).contains x) := by
  obtain ⟨h1, h2⟩ := List.getElem?_eq_some_iff.1 h
  rw [List.drop_eq_getElem_cons h1, h2, List.contains_cons, show (x == t) = (t == x) from Bool.eq_iff_iff.2 (by rw [beq_iff_eq, beq_iff_eq]; exact eq_comm)]

set_option maxHeartbeats 1000000 in
theorem rin14 (blk n : Nat) (l : List (List UInt8)) (hn : l.length = n) (x : ByteArray) (r : Bool) (hr : l.contains x.toList = r) (w : World) (h : Ar w blk 9 (sC l).toArray) (hl : n ≤ 1000) :
    Calls Tryz.prog 35 #[.slice (some ⟨blk, 0, none⟩) n n, .string x] w fun e w' => e = .returned (.bool r) ∧ w' = w := by
  have H := hid' h
  have HN := hid' hn
  have HR := hid' hr
  clear h hn hr
  go_enter Tryz.func35, Tryz.ntmps35
  go_wp2
  go_loopw [5] (fun s5 wr => ∃ i : Nat, s5 = .int .i64 (i : Int) ∧ i ≤ n ∧ wr = w ∧ Hid ((l.drop i).contains x.toList = r)) (fun s5 _ => n - (intOf s5).toNat)
  case atStart => exact ⟨0, rfl, Nat.zero_le _, rfl, HR⟩
  case round =>
    obtain ⟨i, rfl, hi, hwr, HI⟩ := hrel
    subst wr
    by_cases hlt : i < n
    · have hlt2 : (i : Int) < (n : Int) := by omega
      obtain ⟨t, ht⟩ : ∃ t, l[i]? = some t := ⟨_, List.getElem?_eq_getElem (by rw [HN.out]; exact hlt)⟩
      have c0 : w.cell? ⟨blk, i, none⟩ = some (.string ⟨t.toArray⟩) := H.out.cell i _ (by simp [sC, ht])
      have hd := has_drop ht x.toList
      obtain ⟨y, hy⟩ : ∃ y : ByteArray, (⟨t.toArray⟩ : ByteArray) = y := ⟨_, rfl⟩
      rw [hy] at c0
      have hyt : y.toList = t := by rw [← hy]; exact ba_list t
      rw [← hyt, HI.out] at hd
      have HD := hid' hd
      clear ht hd hy hyt
      cases eb : (y.toList == x.toList)
      · have HE : Hid ((l.drop (i + 1)).contains x.toList = r) := hid' (by rw [HD.out, eb]; rfl)
        go_wp2
        go_roundw
        case rel => exact ⟨i + 1, by go_num, by omega, by first | rfl | trivial, HE⟩
        case measure => simp [intOf]; omega
      · have HE : Hid (r = true) := hid' (by rw [HD.out, eb]; rfl)
        go_wp2
        go_ret
        exact ⟨by rw [HE.out]; rfl, rfl⟩
    · obtain rfl : i = n := by omega
      have hlt2 : ¬ (i : Int) < (i : Int) := by omega
      have HE : Hid (r = false) := hid' (by rw [← HI.out, List.drop_of_length_le (by rw [HN.out]; exact Nat.le_refl _)]; rfl)
      clear hlt
      go_wp2
      go_ret
      exact ⟨by rw [HE.out]; rfl, rfl⟩

set_option maxHeartbeats 1000000 in
set_option maxRecDepth 20000 in
theorem rbnd14 (x : ByteArray) (r : Bool) (hr : Ms.bnd x = r) (w : World) (hx : x.size ≤ 140737488355328) :
    Calls Tryz.prog 34 #[.string x] w fun e w' => e = .returned (.bool r) ∧ Below w.heap.size w w' := by
  have HR := hid' hr
  clear hr
  go_enter Tryz.func34, Tryz.ntmps34
  go_wp2_with fail
  have HA : Hid (Ar (w.alloc (.cells (sC Ms.conns).toArray 9)) w.heap.size 9 (sC Ms.conns).toArray) := hid' (heap_alloc_last w _)
  have HB0 : Hid (Below w.heap.size w (w.alloc (.cells (sC Ms.conns).toArray 9))) := hid' ((Below.refl _ _).alloc (Nat.le_refl _) _)
  change Calls _ _ _ (w.alloc (.cells (sC Ms.conns).toArray 9)) _
  obtain ⟨bk, hbk⟩ : ∃ bk, w.heap.size = bk := ⟨_, rfl⟩
  rw [hbk] at HA ⊢
  generalize w.alloc (.cells (sC Ms.conns).toArray 9) = w0 at *
  refine (rLower_any x _ (by unfold maxLen; omega)).mono ?_
  rintro e w1 ⟨rfl, hb1⟩
  have HA1 := hid' (HA.out.keep hb1)
  have HB1 := hid' (below_two HB0.out hb1)
  obtain ⟨y, hy⟩ : ∃ y : ByteArray, (⟨(Tx.lower x.data.toList).toArray⟩ : ByteArray) = y := ⟨_, rfl⟩
  have HY : Hid (Ms.conns.contains y.toList = r) := hid' (by rw [← HR.out, ← hy, ba_list]; rfl)
  rw [hy]
  clear hb1 hy hbk HA HB0
  go_wp2_with fail
  refine (rin14 bk 5 Ms.conns rfl y r HY.out w1 HA1.out (by omega)).mono ?_
  rintro e w2 ⟨rfl, hw2⟩
  subst w2
  go_wp2
  go_ret
  exact ⟨rfl, HB1.out⟩

theorem psd_yes {x : ByteArray} (h : 0 < x.size) : Ms.psd x = (((x[0].toNat : Int)) == 58) := by
  have h1 : (Ms.tx x).head? = some x[0] := by
    unfold Ms.tx
    rw [List.head?_eq_getElem?, List.getElem?_eq_getElem (by rw [← Lib.size_eq]; exact h)]
    rfl
  unfold Ms.psd
  rw [h1, Bool.eq_iff_iff, beq_iff_eq, beq_iff_eq]
  constructor
  · intro e; injection e with e; rw [e]; rfl
  · intro e
    congr 1
    apply UInt8.toNat_inj.1
    have : (58 : UInt8).toNat = 58 := rfl
    omega
theorem psd_no {x : ByteArray} (h : ¬ 0 < x.size) : Ms.psd x = false := by
  have : Ms.tx x = [] := List.eq_nil_of_length_eq_zero (by unfold Ms.tx; rw [← Lib.size_eq]; omega)
  unfold Ms.psd
  rw [this]
  rfl

theorem fnd_drop {l : List Fd} {i : Nat} {f : Fd} (h : l[i]? = some f) (x : List UInt8) : Ms.fnd x (l.drop i) = if f.n.toList == x then some f.v else Ms.fnd x (l.drop (i + 1)) := by
  obtain ⟨h1, h2⟩ := List.getElem?_eq_some_iff.1 h
  rw [List.drop_eq_getElem_cons h1, h2, Ms.fnd, Ms.tx, Lib.toList_data]
def fndV (o : Option ByteArray) : Value := .tuple #[.string (o.getD ⟨#[]⟩), .bool o.isSome]

end Go.Proofs.YtkfekopenahmdaaGreatDoor

namespace Go.Proofs.YtkfekopenahmdaaGreatDoor
open Go.RowKit

theorem minfo_parts {P : Program} {t : TypeId} {z : Option Value} {s b : Nat} (h : (P.info? t).map (fun i => (i.zero, i.size, i.bytes)) = some (z, s, b)) : ∃ i, P.info? t = some i ∧ i.zero = z ∧ i.size = s ∧ i.bytes = b := by
  cases hq : P.info? t with
  | none => simp [hq] at h
  | some i => simp [hq] at h; exact ⟨i, rfl, h.1, h.2.1, h.2.2⟩
theorem infoF14 : (Tryz.prog.info? 42).map (fun i => (i.zero, i.size, i.bytes)) = some (some (.agg #[.string ⟨#[]⟩, .string ⟨#[]⟩]), 2, 32) := by kernel_rfl
theorem own_shape {w : World} {B : Nat} {e : TypeId} {s : Nat} {v : Value} {n : Nat} {xs : List Value} (h : w.ownsRow B e s v n xs) : ∃ ao cap, v = .slice ao n cap := by
  rcases h.2 with ⟨h1, rfl⟩ | ⟨g, cap, cur, h1, _⟩
  · exact ⟨none, 0, h1⟩
  · exact ⟨_, cap, h1⟩
theorem two_new (w : World) (T : TypeId) (x0 x1 : Value) : ∀ j v, [x0, x1][j]? = some v → (w.alloc (.cells #[x0, x1] T)).cell? ((⟨w.heap.size, 0, none⟩ : Addr).add j) = some v := by
  intro j v h
  rw [Addr.add_mid, Nat.zero_add]
  have hA : Ar (w.alloc (.cells #[x0, x1] T)) w.heap.size T #[x0, x1] := heap_alloc_last w _
  exact hA.cell j v (by simpa using h)

theorem drop1 (L : List UInt8) (k : Nat) (c : UInt8) (hc : L[k]? = some c) : L.drop k = c :: L.drop (k + 1) := by
  obtain ⟨h1, h2⟩ := List.getElem?_eq_some_iff.1 hc
  rw [List.drop_eq_getElem_cons h1, h2]
theorem u8_is {c : UInt8} {n : Nat} (hn : n < 256) : (c == UInt8.ofNat n) = ((c.toNat : Int) == (n : Int)) := by
  rw [Bool.eq_iff_iff, beq_iff_eq, beq_iff_eq]
  constructor
  · rintro rfl; rw [UInt8.toNat_ofNat', Nat.mod_eq_of_lt hn]
  · intro h
    apply UInt8.toNat_inj.1
    rw [UInt8.toNat_ofNat', Nat.mod_eq_of_lt hn]; omega
theorem head_at {x : ByteArray} (h : 0 < x.size) (n : Nat) (hn : n < 256) : ((Ms.tx x).head? == some (UInt8.ofNat n)) = ((x[0].toNat : Int) == (n : Int)) := by
  have h1 : (Ms.tx x).head? = some x[0] := by
    unfold Ms.tx
    rw [List.head?_eq_getElem?, List.getElem?_eq_getElem (by rw [← Lib.size_eq]; exact h)]
    rfl
  rw [h1, ← u8_is hn]
  rfl

set_option maxHeartbeats 2000000 in
theorem rgoes14 (m p : ByteArray) (r : Bool) (hr : Ms.goes m p = r) (w : World) (hp : p.size ≤ 140737488355328) :
    Calls Tryz.prog 57 #[.string m, .string p] w fun e w' => e = .returned (.bool r) ∧ w' = w := by
  unfold Ms.goes at hr
  have e1 : (Ms.tx p == [42]) = (p.toList == [42]) := by rw [Ms.tx, Lib.toList_data]
  rw [e1] at hr
  cases s1 : (p.toList == [42])
  · rw [s1] at hr
    simp only [Bool.false_eq_true, if_false] at hr
    by_cases h0 : 0 < p.size
    · have s2 : (p.toList == []) = false := by
        apply beq_false_of_ne
        intro e
        rw [Lib.toList_data] at e
        have h9 : p.data.toList.length = 0 := by rw [e]; rfl
        rw [← Lib.size_eq] at h9
        omega
      rw [show (some 47 : Option UInt8) = some (UInt8.ofNat 47) from rfl, head_at h0 47 (by decide)] at hr
      cases s3 : ((p[0].toNat : Int) == ((47 : Nat) : Int))
      · rw [s3] at hr
        have HF : Hid (r = false) := hid' (by rw [← hr]; rfl)
        have s4 : ((p[0].toNat : Int) == 47) = false := s3
        clear hr s3
        go_enter Tryz.func57, Tryz.ntmps57
        go_wp2
        go_ret
        exact ⟨by rw [HF.out]; rfl, rfl⟩
      · rw [s3, Bool.true_and] at hr
        have s4 : ((p[0].toNat : Int) == 47) = true := s3
        obtain ⟨L, hL⟩ : ∃ L, Ms.tx p = L := ⟨_, rfl⟩
        have HL := hid' hL
        have HSZ : Hid (L.length = p.size) := hid' (by rw [← hL, Ms.tx, ← Lib.size_eq])
        rw [hL] at hr
        have HR := hid' hr
        clear hr s3 hL e1
        go_enter Tryz.func57, Tryz.ntmps57
        go_wp2
        go_loopw [5] (fun s5 wr => ∃ k : Nat, s5 = .int .i64 (k : Int) ∧ k ≤ p.size ∧ wr = w ∧ Hid (r = (L.drop k).all Ms.okc)) (fun s5 _ => p.size - (intOf s5).toNat)
        case atStart => exact ⟨0, rfl, Nat.zero_le _, rfl, hid' HR.out.symm⟩
        case round =>
          obtain ⟨k, rfl, hk, hwr, HK⟩ := hrel
          subst wr
          by_cases hlt : k < p.size
          · have hlt2 : (k : Int) < (p.size : Int) := by omega
            have hck : L[k]? = some p[k] := by rw [← HL.out, Ms.tx, List.getElem?_eq_getElem (by rw [← Lib.size_eq]; exact hlt)]; rfl
            have HB2 : Hid (r = (Ms.okc p[k] && (L.drop (k + 1)).all Ms.okc)) := hid' (by rw [HK.out, drop1 L k _ hck, List.all_cons])
            clear hck HK
            by_cases d1 : p[k].toNat < 33
            · have HF : Hid (r = false) := hid' (by rw [HB2.out]; unfold Ms.okc; rw [decide_eq_false (by omega)]; rfl)
              have d1' : (p[k].toNat : Int) < 33 := by omega
              go_wp2
              go_ret
              exact ⟨by rw [HF.out]; rfl, rfl⟩
            have d1' : ¬ (p[k].toNat : Int) < 33 := by omega
            by_cases d2 : 126 < p[k].toNat
            · have HF : Hid (r = false) := hid' (by rw [HB2.out]; unfold Ms.okc; rw [decide_eq_false (show ¬ p[k].toNat ≤ 126 by omega)]; simp)
              have d2' : (126 : Int) < (p[k].toNat : Int) := by omega
              clear d1
              go_wp2
              go_ret
              exact ⟨by rw [HF.out]; rfl, rfl⟩
            have d2' : ¬ (126 : Int) < (p[k].toNat : Int) := by omega
            have h35 : (p[k] == 35) = ((p[k].toNat : Int) == 35) := u8_is (n := 35) (by decide)
            cases d3 : ((p[k].toNat : Int) == 35)
            · have HN : Hid (r = (L.drop (k + 1)).all Ms.okc) := hid' (by rw [HB2.out]; unfold Ms.okc; rw [decide_eq_true (show 33 ≤ p[k].toNat by omega), decide_eq_true (show p[k].toNat ≤ 126 by omega), h35, d3]; rfl)
              clear d1 d2 h35
              go_wp2
              go_roundw
              case rel => exact ⟨k + 1, by go_num, by omega, by first | rfl | trivial, HN⟩
              case measure => simp [intOf]; omega
            · have HF : Hid (r = false) := hid' (by rw [HB2.out]; unfold Ms.okc; rw [h35, d3]; simp)
              clear d1 d2 h35
              go_wp2
              go_ret
              exact ⟨by rw [HF.out]; rfl, rfl⟩
          · obtain rfl : k = p.size := by omega
            have hlt2 : ¬ (p.size : Int) < (p.size : Int) := by omega
            have HF : Hid (r = true) := hid' (by rw [HK.out, List.drop_of_length_le (by rw [HSZ.out]; exact Nat.le_refl _)]; rfl)
            go_wp2
            go_ret
            exact ⟨by rw [HF.out]; rfl, rfl⟩
    · have h9 : p.data.toList = [] := List.eq_nil_of_length_eq_zero (by rw [← Lib.size_eq]; omega)
      have s2 : (p.toList == []) = true := by rw [Lib.toList_data, h9]; rfl
      have HF : Hid (r = false) := hid' (by rw [← hr, Ms.tx, h9]; rfl)
      clear hr h9
      go_enter Tryz.func57, Tryz.ntmps57
      go_wp2
      go_ret
      exact ⟨by rw [HF.out]; rfl, rfl⟩
  · rw [s1] at hr
    simp only [if_true] at hr
    have HF : Hid ((m.toList == [79, 80, 84, 73, 79, 78, 83]) = r) := hid' (by rw [← hr, Ms.tx, Lib.toList_data]; rfl)
    clear hr e1
    go_enter Tryz.func57, Tryz.ntmps57
    go_wp2
    go_ret
    exact ⟨by rw [← HF.out]; rfl, rfl⟩

end Go.Proofs.YtkfekopenahmdaaGreatDoor
