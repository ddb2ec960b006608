/-
  The document's Lower, by its contract.
  The document's in, Bound, pseudo, find: by their contracts.
  The document's Strip, goes, decimal: by their contracts.
-/
import Derived.Deep.QuietTactic
import Derived.BigQuiet
import Derived.Test.YthhpejgpfaikaaaGreatDoorPnAH
import Derived.Test.YthhpejgpfaikaaaGreatDoorPnAJ
import Derived.Test.YthhpejgpfaikaaaGreatDoorPnAI
import Derived.Maps.AppendAt
namespace Go.Proofs.YthhpejgpfaikaaaGreatDoor
open Go.RowKit

set_option maxHeartbeats 1000000 in
theorem rLower_any (s : ByteArray) (w : World) (hs : s.size ≤ maxLen) :
    Calls Tryz.prog 36 #[.string s] w fun e w' => e = .returned (.string ⟨(Tx.lower s.data.toList).toArray⟩) ∧ Below w.heap.size w w' := by
  unfold maxLen at hs
  have hconv := run_bytes_of_string (P := Tryz.prog) w 9 67 5 s Tryz.underlying9 Tryz.underlying67 Tryz.underlying5
  go_enter Tryz.func36, Tryz.ntmps36
  go_wp2
  clear hconv
  go_loopw [4] (fun i wr => ∃ k : Nat, k ≤ s.size ∧ i = .int .i64 k ∧ Tx.Row wr w.heap.size (Tx.lowTo s.data.toList k) ∧ Below w.heap.size w wr) (fun i _ => s.size - (intOf i).toNat)
  case atStart => exact ⟨0, Nat.zero_le _, rfl, by rw [Tx.lowTo_zero]; exact Tx.Row.conv w s _ _, ((Below.refl _ _).alloc (Nat.le_refl _) _).drew⟩
  case round =>
    obtain ⟨k, hk, rfl, hrow, hbel⟩ := hrel
    by_cases hlt : k < s.size
    · have hl : k < s.data.toList.length := by rw [← Lib.size_eq]; exact hlt
      have hat := hrow k (by rw [Tx.lowTo_length]; exact hl)
      rw [Tx.lowTo_at _ k hl] at hat
      obtain ⟨hcell, hfr⟩ := hat
      replace hcell : wr.cell? ⟨w.heap.size, k, none⟩ = some (.int .u8 (s[k].toNat : Int)) := hcell
      have HR : Hid (Tx.Row wr w.heap.size (Tx.lowTo s.data.toList k)) := hrow
      have HB : Hid (Below w.heap.size w wr) := hbel
      clear hrow hbel
      by_cases hc : (65 : Int) ≤ (s[k].toNat : Int) ∧ (s[k].toNat : Int) ≤ 90
      · obtain ⟨hc1, hc2⟩ := hc
        go_wp2
        go_roundw
        case rel =>
          refine ⟨k + 1, by omega, by go_num, ?_, HB.out.setCell (Nat.le_refl _) _⟩
          rw [Tx.lowTo_step _ k hl]
          exact HR.out.set k _ _ (by rw [show s.data.toList[k] = s[k] from rfl, Tx.lowC_up _ (by omega) (by omega)]; omega)
        case measure => simp [intOf]; omega
      · by_cases hc1 : (65 : Int) ≤ (s[k].toNat : Int)
        all_goals
          go_wp2
          go_roundw
          case rel => exact ⟨k + 1, by omega, by go_num, by rw [Tx.lowTo_stay _ k hl (by rw [show s.data.toList[k] = s[k] from rfl]; omega)]; exact HR.out, HB.out⟩
          case measure => simp [intOf]; omega
    · have hback := hrow.back (P := Tryz.prog) 67 9 5 s.size (grownCap w s.size 0 5) (by rw [Tx.lowTo_length, Lib.size_eq]) Tryz.underlying67 Tryz.underlying5 Tryz.underlying9
      have HF : Hid (Tx.lowTo s.data.toList k = Tx.lower s.data.toList) := Tx.lowTo_all _ k (by rw [← Lib.size_eq]; omega)
      have HB : Hid (Below w.heap.size w wr) := hbel
      clear hrow hbel
      go_wp2
      go_ret
      exact ⟨ret_str' (by rw [HF.out]), HB.out⟩

end Go.Proofs.YthhpejgpfaikaaaGreatDoor

namespace Go.Proofs.YthhpejgpfaikaaaGreatDoor
open Go.RowKit

def sC (l : List (List UInt8)) : List Value := l.map fun t => .string ⟨t.toArray⟩
theorem ba_list (l : List UInt8) : (⟨l.toArray⟩ : ByteArray).toList = l := by rw [Lib.toList_data]
theorem mret_bool {a b : Bool} (h : a = b) : Ending.returned (.bool a) = .returned (.bool b) := by rw [h]
theorem has_drop {l : List (List UInt8)} {i : Nat} {t : List UInt8} (h : l[i]? = some t) (x : List UInt8) : (l.drop i).contains x = (t == x || (l.drop (i + 1)).contains x) := by
  obtain ⟨h1, h2⟩ := List.getElem?_eq_some_iff.1 h
  rw [List.drop_eq_getElem_cons h1, h2, List.contains_cons, show (x == t) = (t == x) from Bool.eq_iff_iff.2 (by rw [beq_iff_eq, beq_iff_eq]; exact eq_comm)]

set_option maxHeartbeats 1000000 in
theorem rin14 (blk n : Nat) (l : List (List UInt8)) (hn : l.length = n) (x : ByteArray) (r : Bool) (hr : l.contains x.toList = r) (w : World) (h : Ar w blk 9 (sC l).toArray) (hl : n ≤ 1000) :
    Calls Tryz.prog 74 #[.slice (some ⟨blk, 0, none⟩) n n, .string x] w fun e w' => e = .returned (.bool r) ∧ w' = w := by
  have H := hid' h
  have HN := hid' hn
  have HR := hid' hr
  clear h hn hr
  go_enter Tryz.func74, Tryz.ntmps74
  go_wp2
  go_loopw [5] (fun s5 wr => ∃ i : Nat, s5 = .int .i64 (i : Int) ∧ i ≤ n ∧ wr = w ∧ Hid ((l.drop i).contains x.toList = r)) (fun s5 _ => n - (intOf s5).toNat)
  case atStart => exact ⟨0, rfl, Nat.zero_le _, rfl, HR⟩
  case round =>
    obtain ⟨i, rfl, hi, hwr, HI⟩ := hrel
    subst wr
    by_cases hlt : i < n
    · have hlt2 : (i : Int) < (n : Int) := by omega
      obtain ⟨t, ht⟩ : ∃ t, l[i]? = some t := ⟨_, List.getElem?_eq_getElem (by rw [HN.out]; exact hlt)⟩
      have c0 : w.cell? ⟨blk, i, none⟩ = some (.string ⟨t.toArray⟩) := H.out.cell i _ (by simp [sC, ht])
      have hd := has_drop ht x.toList
      obtain ⟨y, hy⟩ : ∃ y : ByteArray, (⟨t.toArray⟩ : ByteArray) = y := ⟨_, rfl⟩
      rw [hy] at c0
      have hyt : y.toList = t := by rw [← hy]; exact ba_list t
      rw [← hyt, HI.out] at hd
      have HD := hid' hd
      clear ht hd hy hyt
      cases eb : (y.toList == x.toList)
      · have HE : Hid ((l.drop (i + 1)).contains x.toList = r) := hid' (by rw [HD.out, eb]; rfl)
        go_wp2
        go_roundw
        case rel => exact ⟨i + 1, by go_num, by omega, by first | rfl | trivial, HE⟩
        case measure => simp [intOf]; omega
      · have HE : Hid (r = true) := hid' (by rw [HD.out, eb]; rfl)
        go_wp2
        go_ret
        exact ⟨by rw [HE.out]; rfl, rfl⟩
    · obtain rfl : i = n := by omega
      have hlt2 : ¬ (i : Int) < (i : Int) := by omega
      have HE : Hid (r = false) := hid' (by rw [← HI.out, List.drop_of_length_le (by rw [HN.out]; exact Nat.le_refl _)]; rfl)
      clear hlt
      go_wp2
      go_ret
      exact ⟨by rw [HE.out]; rfl, rfl⟩

set_option maxHeartbeats 1000000 in
set_option maxRecDepth 20000 in
theorem rbnd14 (x : ByteArray) (r : Bool) (hr : Ms.bnd x = r) (w : World) (hx : x.size ≤ 140737488355328) :
    Calls Tryz.prog 93 #[.string x] w fun e w' => e = .returned (.bool r) ∧ Below w.heap.size w w' := by
  have HR := hid' hr
  clear hr
  go_enter Tryz.func93, Tryz.ntmps93
  go_wp2_with fail
  have HA : Hid (Ar (w.alloc (.cells (sC Ms.conns).toArray 9)) w.heap.size 9 (sC Ms.conns).toArray) := hid' (heap_alloc_last w _)
  have HB0 : Hid (Below w.heap.size w (w.alloc (.cells (sC Ms.conns).toArray 9))) := hid' ((Below.refl _ _).alloc (Nat.le_refl _) _)
  change Calls _ _ _ (w.alloc (.cells (sC Ms.conns).toArray 9)) _
  obtain ⟨bk, hbk⟩ : ∃ bk, w.heap.size = bk := ⟨_, rfl⟩
  rw [hbk] at HA ⊢
  generalize w.alloc (.cells (sC Ms.conns).toArray 9) = w0 at *
  refine (rLower_any x _ (by unfold maxLen; omega)).mono ?_
  rintro e w1 ⟨rfl, hb1⟩
  have HA1 := hid' (HA.out.keep hb1)
  have HB1 := hid' (below_two HB0.out hb1)
  obtain ⟨y, hy⟩ : ∃ y : ByteArray, (⟨(Tx.lower x.data.toList).toArray⟩ : ByteArray) = y := ⟨_, rfl⟩
  have HY : Hid (Ms.conns.contains y.toList = r) := hid' (by rw [← HR.out, ← hy, ba_list]; rfl)
  rw [hy]
  clear hb1 hy hbk HA HB0
  go_wp2_with fail
  refine (rin14 bk 5 Ms.conns rfl y r HY.out w1 HA1.out (by omega)).mono ?_
  rintro e w2 ⟨rfl, hw2⟩
  subst w2
  go_wp2
  go_ret
  exact ⟨rfl, HB1.out⟩

theorem psd_yes {x : ByteArray} (h : 0 < x.size) : Ms.psd x = (((x[0].toNat : Int)) == 58) := by
  have h1 : (Ms.tx x).head? = some x[0] := by
    unfold Ms.tx
    rw [List.head?_eq_getElem?, List.getElem?_eq_getElem (by rw [← Lib.size_eq]; exact h)]
    rfl
  unfold Ms.psd
  rw [h1, Bool.eq_iff_iff, beq_iff_eq, beq_iff_eq]
  constructor
  · intro e; injection e with e; rw [e]; rfl
  · intro e
    congr 1
    apply UInt8.toNat_inj.1
    have : (58 : UInt8).toNat = 58 := rfl
    omega
theorem psd_no {x : ByteArray} (h : ¬ 0 < x.size) : Ms.psd x = false := by
  have : Ms.tx x = [] := List.eq_nil_of_length_eq_zero (by unfold Ms.tx; rw [← Lib.size_eq]; omega)
  unfold Ms.psd
  rw [this]
  rfl

set_option maxHeartbeats 1000000 in
theorem rpsd14 (x : ByteArray) (r : Bool) (hr : Ms.psd x = r) (w : World) (hx : x.size ≤ 140737488355328) :
    Calls Tryz.prog 72 #[.string x] w fun e w' => e = .returned (.bool r) ∧ w' = w := by
  by_cases h : 0 < x.size
  · have h2 : (0 : Int) < (x.size : Int) := by omega
    rw [psd_yes h] at hr
    go_enter Tryz.func72, Tryz.ntmps72
    go_wp2
    go_ret
    exact ⟨rfl, rfl⟩
  · have h2 : ¬ (0 : Int) < (x.size : Int) := by omega
    rw [psd_no h] at hr
    subst hr
    go_enter Tryz.func72, Tryz.ntmps72
    go_wp2
    go_ret
    exact ⟨rfl, rfl⟩

theorem fnd_drop {l : List Fd} {i : Nat} {f : Fd} (h : l[i]? = some f) (x : List UInt8) : Ms.fnd x (l.drop i) = if f.n.toList == x then some f.v else Ms.fnd x (l.drop (i + 1)) := by
  obtain ⟨h1, h2⟩ := List.getElem?_eq_some_iff.1 h
  rw [List.drop_eq_getElem_cons h1, h2, Ms.fnd, Ms.tx, Lib.toList_data]
def fndV (o : Option ByteArray) : Value := .tuple #[.string (o.getD ⟨#[]⟩), .bool o.isSome]

end Go.Proofs.YthhpejgpfaikaaaGreatDoor

namespace Go.Proofs.YthhpejgpfaikaaaGreatDoor
open Go.RowKit

theorem minfo_parts {P : Program} {t : TypeId} {z : Option Value} {s b : Nat} (h : (P.info? t).map (fun i => (i.zero, i.size, i.bytes)) = some (z, s, b)) : ∃ i, P.info? t = some i ∧ i.zero = z ∧ i.size = s ∧ i.bytes = b := by
  cases hq : P.info? t with
  | none => simp [hq] at h
  | some i => simp [hq] at h; exact ⟨i, rfl, h.1, h.2.1, h.2.2⟩
theorem infoF14 : (Tryz.prog.info? 47).map (fun i => (i.zero, i.size, i.bytes)) = some (some (.agg #[.string ⟨#[]⟩, .string ⟨#[]⟩]), 2, 32) := by kernel_rfl
theorem own_shape {w : World} {B : Nat} {e : TypeId} {s : Nat} {v : Value} {n : Nat} {xs : List Value} (h : w.ownsRow B e s v n xs) : ∃ ao cap, v = .slice ao n cap := by
  rcases h.2 with ⟨h1, rfl⟩ | ⟨g, cap, cur, h1, _⟩
  · exact ⟨none, 0, h1⟩
  · exact ⟨_, cap, h1⟩
theorem two_new (w : World) (T : TypeId) (x0 x1 : Value) : ∀ j v, [x0, x1][j]? = some v → (w.alloc (.cells #[x0, x1] T)).cell? ((⟨w.heap.size, 0, none⟩ : Addr).add j) = some v := by
  intro j v h
  rw [Addr.add_mid, Nat.zero_add]
  have hA : Ar (w.alloc (.cells #[x0, x1] T)) w.heap.size T #[x0, x1] := heap_alloc_last w _
  exact hA.cell j v (by simpa using h)

theorem drop1 (L : List UInt8) (k : Nat) (c : UInt8) (hc : L[k]? = some c) : L.drop k = c :: L.drop (k + 1) := by
  obtain ⟨h1, h2⟩ := List.getElem?_eq_some_iff.1 hc
  rw [List.drop_eq_getElem_cons h1, h2]
theorem u8_is {c : UInt8} {n : Nat} (hn : n < 256) : (c == UInt8.ofNat n) = ((c.toNat : Int) == (n : Int)) := by
  rw [Bool.eq_iff_iff, beq_iff_eq, beq_iff_eq]
  constructor
  · rintro rfl; rw [UInt8.toNat_ofNat', Nat.mod_eq_of_lt hn]
  · intro h
    apply UInt8.toNat_inj.1
    rw [UInt8.toNat_ofNat', Nat.mod_eq_of_lt hn]; omega
theorem head_at {x : ByteArray} (h : 0 < x.size) (n : Nat) (hn : n < 256) : ((Ms.tx x).head? == some (UInt8.ofNat n)) = ((x[0].toNat : Int) == (n : Int)) := by
  have h1 : (Ms.tx x).head? = some x[0] := by
    unfold Ms.tx
    rw [List.head?_eq_getElem?, List.getElem?_eq_getElem (by rw [← Lib.size_eq]; exact h)]
    rfl
  rw [h1, ← u8_is hn]
  rfl

set_option maxHeartbeats 2000000 in
theorem rgoes14 (m p : ByteArray) (r : Bool) (hr : Ms.goes m p = r) (w : World) (hp : p.size ≤ 140737488355328) :
    Calls Tryz.prog 116 #[.string m, .string p] w fun e w' => e = .returned (.bool r) ∧ w' = w := by
  unfold Ms.goes at hr
  have e1 : (Ms.tx p == [42]) = (p.toList == [42]) := by rw [Ms.tx, Lib.toList_data]
  rw [e1] at hr
  cases s1 : (p.toList == [42])
  · rw [s1] at hr
    simp only [Bool.false_eq_true, if_false] at hr
    by_cases h0 : 0 < p.size
    · have s2 : (p.toList == []) = false := by
        apply beq_false_of_ne
        intro e
        rw [Lib.toList_data] at e
        have h9 : p.data.toList.length = 0 := by rw [e]; rfl
        rw [← Lib.size_eq] at h9
        omega
      rw [show (some 47 : Option UInt8) = some (UInt8.ofNat 47) from rfl, head_at h0 47 (by decide)] at hr
      cases s3 : ((p[0].toNat : Int) == ((47 : Nat) : Int))
      · rw [s3] at hr
        have HF : Hid (r = false) := hid' (by rw [← hr]; rfl)
        have s4 : ((p[0].toNat : Int) == 47) = false := s3
        clear hr s3
        go_enter Tryz.func116, Tryz.ntmps116
        go_wp2
        go_ret
        exact ⟨by rw [HF.out]; rfl, rfl⟩
      · rw [s3, Bool.true_and] at hr
        have s4 : ((p[0].toNat : Int) == 47) = true := s3
        obtain ⟨L, hL⟩ : ∃ L, Ms.tx p = L := ⟨_, rfl⟩
        have HL := hid' hL
        have HSZ : Hid (L.length = p.size) := hid' (by rw [← hL, Ms.tx, ← Lib.size_eq])
        rw [hL] at hr
        have HR := hid' hr
        clear hr s3 hL e1
        go_enter Tryz.func116, Tryz.ntmps116
        go_wp2
        go_loopw [5] (fun s5 wr => ∃ k : Nat, s5 = .int .i64 (k : Int) ∧ k ≤ p.size ∧ wr = w ∧ Hid (r = (L.drop k).all Ms.okc)) (fun s5 _ => p.size - (intOf s5).toNat)
        case atStart => exact ⟨0, rfl, Nat.zero_le _, rfl, hid' HR.out.symm⟩
        case round =>
          obtain ⟨k, rfl, hk, hwr, HK⟩ := hrel
          subst wr
          by_cases hlt : k < p.size
          · have hlt2 : (k : Int) < (p.size : Int) := by omega
            have hck : L[k]? = some p[k] := by rw [← HL.out, Ms.tx, List.getElem?_eq_getElem (by rw [← Lib.size_eq]; exact hlt)]; rfl
            have HB2 : Hid (r = (Ms.okc p[k] && (L.drop (k + 1)).all Ms.okc)) := hid' (by rw [HK.out, drop1 L k _ hck, List.all_cons])
            clear hck HK
            by_cases d1 : p[k].toNat < 33
            · have HF : Hid (r = false) := hid' (by rw [HB2.out]; unfold Ms.okc; rw [decide_eq_false (by omega)]; rfl)
              have d1' : (p[k].toNat : Int) < 33 := by omega
              go_wp2
              go_ret
              exact ⟨by rw [HF.out]; rfl, rfl⟩
            have d1' : ¬ (p[k].toNat : Int) < 33 := by omega
            by_cases d2 : 126 < p[k].toNat
            · have HF : Hid (r = false) := hid' (by rw [HB2.out]; unfold Ms.okc; rw [decide_eq_false (show ¬ p[k].toNat ≤ 126 by omega)]; simp)
              have d2' : (126 : Int) < (p[k].toNat : Int) := by omega
              clear d1
              go_wp2
              go_ret
              exact ⟨by rw [HF.out]; rfl, rfl⟩
            have d2' : ¬ (126 : Int) < (p[k].toNat : Int) := by omega
            have h35 : (p[k] == 35) = ((p[k].toNat : Int) == 35) := u8_is (n := 35) (by decide)
            cases d3 : ((p[k].toNat : Int) == 35)
            · have HN : Hid (r = (L.drop (k + 1)).all Ms.okc) := hid' (by rw [HB2.out]; unfold Ms.okc; rw [decide_eq_true (show 33 ≤ p[k].toNat by omega), decide_eq_true (show p[k].toNat ≤ 126 by omega), h35, d3]; rfl)
              clear d1 d2 h35
              go_wp2
              go_roundw
              case rel => exact ⟨k + 1, by go_num, by omega, by first | rfl | trivial, HN⟩
              case measure => simp [intOf]; omega
            · have HF : Hid (r = false) := hid' (by rw [HB2.out]; unfold Ms.okc; rw [h35, d3]; simp)
              clear d1 d2 h35
              go_wp2
              go_ret
              exact ⟨by rw [HF.out]; rfl, rfl⟩
          · obtain rfl : k = p.size := by omega
            have hlt2 : ¬ (p.size : Int) < (p.size : Int) := by omega
            have HF : Hid (r = true) := hid' (by rw [HK.out, List.drop_of_length_le (by rw [HSZ.out]; exact Nat.le_refl _)]; rfl)
            go_wp2
            go_ret
            exact ⟨by rw [HF.out]; rfl, rfl⟩
    · have h9 : p.data.toList = [] := List.eq_nil_of_length_eq_zero (by rw [← Lib.size_eq]; omega)
      have s2 : (p.toList == []) = true := by rw [Lib.toList_data, h9]; rfl
      have HF : Hid (r = false) := hid' (by rw [← hr, Ms.tx, h9]; rfl)
      clear hr h9
      go_enter Tryz.func116, Tryz.ntmps116
      go_wp2
      go_ret
      exact ⟨by rw [HF.out]; rfl, rfl⟩
  · rw [s1] at hr
    simp only [if_true] at hr
    have HF : Hid ((m.toList == [79, 80, 84, 73, 79, 78, 83]) = r) := hid' (by rw [← hr, Ms.tx, Lib.toList_data]; rfl)
    clear hr e1
    go_enter Tryz.func116, Tryz.ntmps116
    go_wp2
    go_ret
    exact ⟨by rw [← HF.out]; rfl, rfl⟩

end Go.Proofs.YthhpejgpfaikaaaGreatDoor
