/-
  The document's Lower, by its contract.
  The document's in, Bound, pseudo, find: by their contracts.
  The document's Strip, goes, decimal: by their contracts.
-/
import Derived.Deep.QuietTactic
import Derived.BigQuiet
import Derived.Test.YtbpdhcfmdkmoiaaDoorPwAA
import Derived.Test.YtbpdhcfmdkmoiaaDoorPwAD
import Derived.Test.YtbpdhcfmdkmoiaaDoorPwAC
import Derived.Maps.AppendAt
namespace Go.Proofs.YtbpdhcfmdkmoiaaDoor
open Go.RowKit

set_option maxHeartbeats 1000000 in
theorem rLower_any (s : ByteArray) (w : World) (hs : s.size ≤ maxLen) :
    Calls Tryd.prog 40 #[.string s] w fun e w' => e = .returned (.string ⟨(Tx.lower s.data.toList).toArray⟩) ∧ Below w.heap.size w w' := by
  unfold maxLen at hs
  have hconv := run_bytes_of_string (P := Tryd.prog) w 9 72 5 s Tryd.underlying9 Tryd.underlying72 Tryd.underlying5
  go_enter Tryd.func40, Tryd.ntmps40
  go_wp2
  clear hconv
  go_loopw [4] (fun i wr => ∃ k : Nat, k ≤ s.size ∧ i = .int .i64 k ∧ Tx.Row wr w.heap.size (Tx.lowTo s.data.toList k) ∧ Below w.heap.size w wr) (fun i _ => s.size - (intOf i).toNat)
  case atStart => exact ⟨0, Nat.zero_le _, rfl, by rw [Tx.lowTo_zero]; exact Tx.Row.conv w s _ _, ((Below.refl _ _).alloc (Nat.le_refl _) _).drew⟩
  case round =>
    obtain ⟨k, hk, rfl, hrow, hbel⟩ := hrel
    by_cases hlt : k < s.size
    · have hl : k < s.data.toList.length := by rw [← Lib.size_eq]; exact hlt
      have hat := hrow k (by rw [Tx.lowTo_length]; exact hl)
      rw [Tx.lowTo_at _ k hl] at hat
      obtain ⟨hcell, hfr⟩ := hat
      replace hcell : wr.cell? ⟨w.heap.size, k, none⟩ = some (.int .u8 (s[k].toNat : Int)) := hcell
      have HR : Hid (Tx.Row wr w.heap.size (Tx.lowTo s.data.toList k)) := hrow
      have HB : Hid (Below w.heap.size w wr) := hbel
      clear hrow hbel
      by_cases hc : (65 : Int) ≤ (s[k].toNat : Int) ∧ (s[k].toNat : Int) ≤ 90
      · obtain ⟨hc1, hc2⟩ := hc
        go_wp2
        go_roundw
        case rel =>
          refine ⟨k + 1, by omega, by go_num, ?_, HB.out.setCell (Nat.le_refl _) _⟩
          rw [Tx.lowTo_step _ k hl]
          exact HR.out.set k _ _ (by rw [show s.data.toList[k] = s[k] from rfl, Tx.lowC_up _ (by omega) (by omega)]; omega)
        case measure => simp [intOf]; omega
      · by_cases hc1 : (65 : Int) ≤ (s[k].toNat : Int)
        all_goals
          go_wp2
          go_roundw
          case rel => exact ⟨k + 1, by omega, by go_num, by rw [Tx.lowTo_stay _ k hl (by rw [show s.data.toList[k] = s[k] from rfl]; omega)]; exact HR.out, HB.out⟩
          case measure => simp [intOf]; omega
    · have hback := hrow.back (P := Tryd.prog) 72 9 5 s.size (grownCap w s.size 0 5) (by rw [Tx.lowTo_length, Lib.size_eq]) Tryd.underlying72 Tryd.underlying5 Tryd.underlying9
      have HF : Hid (Tx.lowTo s.data.toList k = Tx.lower s.data.toList) := Tx.lowTo_all _ k (by rw [← Lib.size_eq]; omega)
      have HB : Hid (Below w.heap.size w wr) := hbel
      clear hrow hbel
      go_wp2
      go_ret
      exact ⟨ret_str' (by rw [HF.out]), HB.out⟩

end Go.Proofs.YtbpdhcfmdkmoiaaDoor

namespace Go.Proofs.YtbpdhcfmdkmoiaaDoor
open Go.RowKit

def sC (l : List (List UInt8)) : List Value := l.map fun t => .string ⟨t.toArray⟩
theorem ba_list (l : List UInt8) : (⟨l.toArray⟩ : ByteArray).toList = l := by rw [Lib.toList_data]
theorem has_drop {l : List (List UInt8)} {i : Nat} {t : List UInt8} (h : l[i]? = some t) (x : List UInt8) : (l.drop i).contains x = (t == x || (l.drop (i + 1)).contains x) := by
  obtain ⟨h1, h2⟩ := List.getElem?_eq_some_iff.1 h
  rw [List.drop_eq_getElem_cons h1, h2, List.contains_cons, show (x == t) = (t == x) from Bool.eq_iff_iff.2 (by rw [beq_iff_eq, beq_iff_eq]; exact eq_comm)]

set_option maxHeartbeats 1000000 in
theorem rin14 (blk n : Nat) (l : List (List UInt8)) (hn : l.length = n) (x : ByteArray) (r : Bool) (hr : l.contains x.toList = r) (w : World) (h : Ar w blk 9 (sC l).toArray) (hl : n ≤ 1000) :
    Calls Tryd.prog 77 #[.slice (some ⟨blk, 0, none⟩) n n, .string x] w fun e w' => e = .returned (.bool r) ∧ w' = w := by
  have H := hid' h
  have HN := hid' hn
  have HR := hid' hr
  clear h hn hr
  go_enter Tryd.func77, Tryd.ntmps77
  go_wp2
  go_loopw [5] (fun s5 wr => ∃ i : Nat, s5 = .int .i64 (i : Int) ∧ i ≤ n ∧ wr = w ∧ Hid ((l.drop i).contains x.toList = r)) (fun s5 _ => n - (intOf s5).toNat)
  case atStart => exact ⟨0, rfl, Nat.zero_le _, rfl, HR⟩
  case round =>
    obtain ⟨i, rfl, hi, hwr, HI⟩ := hrel
    subst wr
    by_cases hlt : i < n
    · have hlt2 : (i : Int) < (n : Int) := by omega
      obtain ⟨t, ht⟩ : ∃ t, l[i]? = some t := ⟨_, List.getElem?_eq_getElem (by rw [HN.out]; exact hlt)⟩
      have c0 : w.cell? ⟨blk, i, none⟩ = some (.string ⟨t.toArray⟩) := H.out.cell i _ (by simp [sC, ht])
      have hd := has_drop ht x.toList
      obtain ⟨y, hy⟩ : ∃ y : ByteArray, (⟨t.toArray⟩ : ByteArray) = y := ⟨_, rfl⟩
      rw [hy] at c0
      have hyt : y.toList = t := by rw [← hy]; exact ba_list t
      rw [← hyt, HI.out] at hd
      have HD := hid' hd
      clear ht hd hy hyt
      cases eb : (y.toList == x.toList)
      · have HE : Hid ((l.drop (i + 1)).contains x.toList = r) := hid' (by rw [HD.out, eb]; rfl)
        go_wp2
        go_roundw
        case rel => exact ⟨i + 1, by go_num, by omega, by first | rfl | trivial, HE⟩
        case measure => simp [intOf]; omega
      · have HE : Hid (r = true) := hid' (by rw [HD.out, eb]; rfl)
        go_wp2
        go_ret
        exact ⟨by rw [HE.out]; rfl, rfl⟩
    · obtain rfl : i = n := by omega
      have hlt2 : ¬ (i : Int) < (i : Int) := by omega
      have HE : Hid (r = false) := hid' (by rw [← HI.out, List.drop_of_length_le (by rw [HN.out]; exact Nat.le_refl _)]; rfl)
      clear hlt
      go_wp2
      go_ret
      exact ⟨by rw [HE.out]; rfl, rfl⟩

set_option maxHeartbeats 1000000 in
set_option maxRecDepth 20000 in
theorem rbnd14 (x : ByteArray) (r : Bool) (hr : Ms.bnd x = r) (w : World) (hx : x.size ≤ 140737488355328) :
    Calls Tryd.prog 59 #[.string x] w fun e w' => e = .returned (.bool r) ∧ Below w.heap.size w w' := by
  have HR := hid' hr
  clear hr
  go_enter Tryd.func59, Tryd.ntmps59
  go_wp2_with fail
  have HA : Hid (Ar (w.alloc (.cells (sC Ms.conns).toArray 9)) w.heap.size 9 (sC Ms.conns).toArray) := hid' (heap_alloc_last w _)
  have HB0 : Hid (Below w.heap.size w (w.alloc (.cells (sC Ms.conns).toArray 9))) := hid' ((Below.refl _ _).alloc (Nat.le_refl _) _)
  change Calls _ _ _ (w.alloc (.cells (sC Ms.conns).toArray 9)) _
  obtain ⟨bk, hbk⟩ : ∃ bk, w.heap.size = bk := ⟨_, rfl⟩
  rw [hbk] at HA ⊢
  generalize w.alloc (.cells (sC Ms.conns).toArray 9) = w0 at *
  refine (rLower_any x _ (by unfold maxLen; omega)).mono ?_
  rintro e w1 ⟨rfl, hb1⟩
  have HA1 := hid' (HA.out.keep hb1)
  have HB1 := hid' (below_two HB0.out hb1)
  obtain ⟨y, hy⟩ : ∃ y : ByteArray, (⟨(Tx.lower x.data.toList).toArray⟩ : ByteArray) = y := ⟨_, rfl⟩
  have HY : Hid (Ms.conns.contains y.toList = r) := hid' (by rw [← HR.out, ← hy, ba_list]; rfl)
  rw [hy]
  clear hb1 hy hbk HA HB0
  go_wp2_with fail
  refine (rin14 bk 5 Ms.conns rfl y r HY.out w1 HA1.out (by omega)).mono ?_
  rintro e w2 ⟨rfl, hw2⟩
  subst w2
  go_wp2
  go_ret
  exact ⟨rfl, HB1.out⟩

end Go.Proofs.YtbpdhcfmdkmoiaaDoor

namespace Go.Proofs.YtbpdhcfmdkmoiaaDoor
open Go.RowKit

theorem minfo_parts {P : Program} {t : TypeId} {z : Option Value} {s b : Nat} (h : (P.info? t).map (fun i => (i.zero, i.size, i.bytes)) = some (z, s, b)) : ∃ i, P.info? t = some i ∧ i.zero = z ∧ i.size = s ∧ i.bytes = b := by
  cases hq : P.info? t with
  | none => simp [hq] at h
  | some i => simp [hq] at h; exact ⟨i, rfl, h.1, h.2.1, h.2.2⟩
theorem infoF14 : (Tryd.prog.info? 45).map (fun i => (i.zero, i.size, i.bytes)) = some (some (.agg #[.string ⟨#[]⟩, .string ⟨#[]⟩]), 2, 32) := by kernel_rfl
theorem own_shape {w : World} {B : Nat} {e : TypeId} {s : Nat} {v : Value} {n : Nat} {xs : List Value} (h : w.ownsRow B e s v n xs) : ∃ ao cap, v = .slice ao n cap := by
  rcases h.2 with ⟨h1, rfl⟩ | ⟨g, cap, cur, h1, _⟩
  · exact ⟨none, 0, h1⟩
  · exact ⟨_, cap, h1⟩
theorem two_new (w : World) (T : TypeId) (x0 x1 : Value) : ∀ j v, [x0, x1][j]? = some v → (w.alloc (.cells #[x0, x1] T)).cell? ((⟨w.heap.size, 0, none⟩ : Addr).add j) = some v := by
  intro j v h
  rw [Addr.add_mid, Nat.zero_add]
  have hA : Ar (w.alloc (.cells #[x0, x1] T)) w.heap.size T #[x0, x1] := heap_alloc_last w _
  exact hA.cell j v (by simpa using h)

set_option maxHeartbeats 2000000 in
set_option maxRecDepth 20000 in
theorem rstrip14 (v : Value) (l : List Fd) (w : World) (h : FW w v l) (hl : l.length ≤ 1048576) (hs : ∀ f ∈ l, f.n.size ≤ 140737488355328) :
    Calls Tryd.prog 39 #[v] w fun e w' => (∃ m ro rc, e = .returned (.slice ro m rc) ∧ (Ms.strip l).length = m ∧ w'.ownsRow w.heap.size 45 2 (.slice ro m rc) m (fC (Ms.strip l))) ∧ Below w.heap.size w w' := by
  obtain ⟨i0, hi0, hz0, hz1, hz2⟩ := minfo_parts infoF14
  have HI := hid' hi0
  have HZ0 := hid' hz0
  have HZ1 := hid' hz1
  have HZ2 := hid' hz2
  clear hi0 hz0 hz1 hz2
  obtain ⟨ao, cap, hv⟩ := h.shape
  subst hv
  obtain ⟨n, hn⟩ : ∃ n, l.length = n := ⟨_, rfl⟩
  rw [hn] at h hl ⊢
  have H := hid' h
  have HN := hid' hn
  have HS := hid' hs
  clear h hn hs
  go_enter Tryd.func39, Tryd.ntmps39
  go_wp2
  go_loopw [3, 4] (fun s3 s4 wr => ∃ (k m : Nat) (ro : Option Addr) (rc : Nat), s4 = .int .i64 (k : Int) ∧ s3 = .slice ro m rc ∧ k ≤ n ∧ m ≤ k ∧ Hid ((Ms.strip (l.take k)).length = m) ∧ Hid (wr.ownsRow w.heap.size 45 2 (.slice ro m rc) m (fC (Ms.strip (l.take k)))) ∧ Hid (Below w.heap.size w wr)) (fun _ s4 _ => n - (intOf s4).toNat)
  case atStart => exact ⟨0, 0, none, 0, rfl, rfl, Nat.zero_le _, Nat.zero_le _, hid' rfl, hid' (World.ownsRow_nil _ _ _ _), hid' (Below.refl _ _)⟩
  case round =>
    obtain ⟨k, m, ro, rc, rfl, rfl, hk, hmk, HML, HO, HB⟩ := hrel
    by_cases hlt : k < n
    · have hlt2 : (k : Int) < (n : Int) := by omega
      obtain ⟨p, hp⟩ : ∃ p, l[k]? = some p := ⟨_, List.getElem?_eq_getElem (by rw [HN.out]; exact hlt)⟩
      obtain ⟨a, hao, y0, y1⟩ := (H.out.keep HB.out).two k p hp
      subst hao
      have hrt := Ms.strip_take hp
      obtain ⟨d, hd⟩ : ∃ d, Ms.bnd p.n = d := ⟨_, rfl⟩
      rw [hd] at hrt
      have HD := hid' hd
      have HPS := hid' (HS.out p (List.mem_of_getElem? hp))
      have HPP := hid' hp
      clear hp hd
      go_wp2_with fail
      refine (rbnd14 p.n d HD.out wr HPS.out).mono ?_
      rintro e wq ⟨rfl, hbq⟩
      have HBq := hid' (below_two HB.out hbq)
      have HOq := hid' (own_same HO.out (fun j hj => hbq.block j (own_lt HO.out j hj)))
      clear hbq y0 y1 HO HB
      cases d
      · simp only [Bool.false_eq_true, if_false] at hrt
        have HRT := hid' hrt
        obtain ⟨_, hao, y0, y1⟩ := (H.out.keep HBq.out).two k p HPP.out
        injection hao with hao
        subst hao
        have HA : Hid ((wq.alloc (.cells #[.string p.n, .string p.v] 45)).ownsRow w.heap.size 45 2 (.slice ro m rc) m (fC (Ms.strip (l.take k)))) := hid' (HOq.out.alloc _)
        clear hrt
        go_wp2_with (at_builtin; refine wpList_append_own_at _ rfl _ _ 22 rfl w.heap.size 45 i0 (.agg #[.string ⟨#[]⟩, .string ⟨#[]⟩]) 2 32 Tryd.underlying22 HI.out HZ0.out HZ1.out HZ2.out rfl (by decide) (.slice ro m rc) m (fC (Ms.strip (l.take k))) rfl HA.out ⟨wq.heap.size, 0, none⟩ 1 1 [.string p.n, .string p.v] rfl rfl (two_new _ _ _ _) (by simp [Value.oneCell']) (by unfold maxLen; omega) (by omega) (by simp; have := HBq.out.size; omega) ?_; intro v3 w3 hown3 hgrow3 _ _; refine Hid.out ?_)
        refine hid' ?_
        have e : fC (Ms.strip (l.take k)) ++ [Value.string p.n, .string p.v] = fC (Ms.strip (l.take (k + 1))) := by rw [HRT.out, fC_append]; simp [fV, fC]
        rw [e] at hown3
        obtain ⟨v3o, v3c, hv3⟩ := own_shape hown3
        subst hv3
        have HO3 := hid' hown3
        have HB3 : Hid (Below w.heap.size w w3) := hid' ((HBq.out.alloc HBq.out.size _).grown hgrow3 (by simp; have := HBq.out.size; omega) (fun k hk => (HA.out.lt k hk).1))
        clear hown3 hgrow3 e y0 y1
        go_wp2
        go_roundw
        case rel => exact ⟨k + 1, m + 1, v3o, v3c, by go_num, rfl, by omega, by omega, hid' (by rw [HRT.out, List.length_append, HML.out]; rfl), HO3, HB3⟩
        case measure => simp [intOf]; omega
      · simp only [if_true, List.append_nil] at hrt
        have HRT := hid' hrt
        clear hrt
        go_wp2
        go_roundw
        case rel => exact ⟨k + 1, m, ro, rc, by go_num, rfl, by omega, by omega, hid' (by rw [HRT.out]; exact HML.out), hid' (by rw [HRT.out]; exact HOq.out), HBq⟩
        case measure => simp [intOf]; omega
    · obtain rfl : k = n := by omega
      have hlt2 : ¬ (k : Int) < (k : Int) := by omega
      have HT : Hid (l.take k = l) := hid' (List.take_of_length_le (by rw [HN.out]; exact Nat.le_refl _))
      clear hlt
      go_wp2
      go_ret
      refine ⟨⟨m, ro, rc, rfl, ?_, ?_⟩, HB.out⟩
      · have := HML.out; rwa [HT.out] at this
      · have := HO.out; rwa [HT.out] at this

theorem drop1 (L : List UInt8) (k : Nat) (c : UInt8) (hc : L[k]? = some c) : L.drop k = c :: L.drop (k + 1) := by
  obtain ⟨h1, h2⟩ := List.getElem?_eq_some_iff.1 hc
  rw [List.drop_eq_getElem_cons h1, h2]
theorem u8_is {c : UInt8} {n : Nat} (hn : n < 256) : (c == UInt8.ofNat n) = ((c.toNat : Int) == (n : Int)) := by
  rw [Bool.eq_iff_iff, beq_iff_eq, beq_iff_eq]
  constructor
  · rintro rfl; rw [UInt8.toNat_ofNat', Nat.mod_eq_of_lt hn]
  · intro h
    apply UInt8.toNat_inj.1
    rw [UInt8.toNat_ofNat', Nat.mod_eq_of_lt hn]; omega
theorem head_at {x : ByteArray} (h : 0 < x.size) (n : Nat) (hn : n < 256) : ((Ms.tx x).head? == some (UInt8.ofNat n)) = ((x[0].toNat : Int) == (n : Int)) := by
  have h1 : (Ms.tx x).head? = some x[0] := by
    unfold Ms.tx
    rw [List.head?_eq_getElem?, List.getElem?_eq_getElem (by rw [← Lib.size_eq]; exact h)]
    rfl
  rw [h1, ← u8_is hn]
  rfl

end Go.Proofs.YtbpdhcfmdkmoiaaDoor
