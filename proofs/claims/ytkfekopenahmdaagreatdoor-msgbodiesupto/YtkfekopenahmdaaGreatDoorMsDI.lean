/-
  The document's decimal, plain: by their contracts.
  The document's plain: by its contract.
  The document's Length: by its contract, out of Number's.
  The document's walk over a header list: by its contract.
  The document's Trailers, Same, SameRequest: by their contracts.
  The document's SameRequest, of requests that are the same: by its contract.
-/
import Derived.Test.YtkfekopenahmdaaGreatDoorMsAC
import Derived.Test.YtkfekopenahmdaaGreatDoorDkYZ
import Derived.Test.YtkfekopenahmdaaGreatDoorTrims
import Derived.Deep.CutRange
import Derived.Test.YtkfekopenahmdaaGreatDoorMsPl
import Derived.Test.YtkfekopenahmdaaGreatDoorPureNum
import Derived.Laws.StructEq
namespace Go.Proofs.YtkfekopenahmdaaGreatDoor
open Go.RowKit

theorem dec_empty {x : ByteArray} (h : (x.toList == []) = true) : Ms.dec x = false := by
  unfold Ms.dec
  rw [show (Ms.tx x == []) = true by rw [Ms.tx, ← Lib.toList_data]; exact h]
  rfl

set_option maxHeartbeats 2000000 in
theorem rdec14 (p : ByteArray) (r : Bool) (hr : Ms.dec p = r) (w : World) (hp : p.size ≤ 140737488355328) :
    Calls Tryz.prog 58 #[.string p] w fun e w' => e = .returned (.bool r) ∧ w' = w := by
  cases s1 : (p.toList == [])
  · have h0 : 0 < p.size := by
      rcases Nat.eq_zero_or_pos p.size with h | h
      · have h9 : p.data.toList = [] := List.eq_nil_of_length_eq_zero (by rw [← Lib.size_eq]; omega)
        rw [Lib.toList_data, h9] at s1
        simp at s1
      · exact h
    unfold Ms.dec at hr
    rw [show (Ms.tx p == []) = false by rw [Ms.tx, ← Lib.toList_data]; exact s1, show (some 48 : Option UInt8) = some (UInt8.ofNat 48) from rfl, head_at h0 48 (by decide)] at hr
    by_cases h1 : 15 < p.size
    · have h1' : (15 : Int) < (p.size : Int) := by omega
      rw [decide_eq_false (show ¬ p.size ≤ 15 by omega)] at hr
      have HF : Hid (r = false) := hid' (by rw [← hr]; rfl)
      clear hr
      go_enter Tryz.func58, Tryz.ntmps58
      go_wp2
      go_ret
      exact ⟨by rw [HF.out]; rfl, rfl⟩
    have h1' : ¬ (15 : Int) < (p.size : Int) := by omega
    rw [decide_eq_true (show p.size ≤ 15 by omega)] at hr
    have hwalk : (((p[0].toNat : Int) == 48) && decide (1 < p.size)) = false → (p.data.toList.all fun c => decide (48 ≤ c.toNat) && decide (c.toNat ≤ 57)) = r := by
      intro h2
      have h3 : (((p[0].toNat : Int) == ((48 : Nat) : Int)) && decide (1 < p.size)) = false := h2
      rw [← hr, h3]
      rfl
    have HW := hid' hwalk
    clear hwalk
    by_cases h4 : (((p[0].toNat : Int) == 48) && decide (1 < p.size)) = true
    · have HF : Hid (r = false) := hid' (by
        have h3 : (((p[0].toNat : Int) == ((48 : Nat) : Int)) && decide (1 < p.size)) = true := h4
        rw [← hr, h3]; rfl)
      rw [Bool.and_eq_true] at h4
      obtain ⟨s2, h5⟩ := h4
      have h5' : (1 : Int) < (p.size : Int) := by have := of_decide_eq_true h5; omega
      clear hr h5
      go_enter Tryz.func58, Tryz.ntmps58
      go_wp2
      go_ret
      exact ⟨by rw [HF.out]; rfl, rfl⟩
    · have HR := hid' (HW.out (by simpa using h4))
      obtain ⟨L, hL⟩ : ∃ L, p.data.toList = L := ⟨_, rfl⟩
      have HL := hid' hL
      have HSZ : Hid (L.length = p.size) := hid' (by rw [← hL, ← Lib.size_eq])
      rw [hL] at HR
      have h6 : ((p[0].toNat : Int) == 48) = false ∨ (((p[0].toNat : Int) == 48) = true ∧ ¬ (1 : Int) < (p.size : Int)) := by
        cases s2 : ((p[0].toNat : Int) == 48)
        · exact .inl rfl
        · refine .inr ⟨rfl, fun h => h4 ?_⟩
          rw [s2, decide_eq_true (by omega)]
          rfl
      clear hr h4 hL HW
      have key : ∀ (W : World), Calls Tryz.prog 58 #[.string p] W fun e w' => e = .returned (.bool r) ∧ w' = W := by
        intro w
        rcases h6 with s2 | ⟨s2, s3⟩
        all_goals
          go_enter Tryz.func58, Tryz.ntmps58
          go_wp2
          go_loopw [3] (fun s5 wr => ∃ k : Nat, s5 = .int .i64 (k : Int) ∧ k ≤ p.size ∧ wr = w ∧ Hid (r = (L.drop k).all fun c => decide (48 ≤ c.toNat) && decide (c.toNat ≤ 57))) (fun s5 _ => p.size - (intOf s5).toNat)
          case atStart => exact ⟨0, rfl, Nat.zero_le _, rfl, hid' HR.out.symm⟩
          case round =>
            obtain ⟨k, rfl, hk, hwr, HK⟩ := hrel
            subst wr
            by_cases hlt : k < p.size
            · have hlt2 : (k : Int) < (p.size : Int) := by omega
              have hck : L[k]? = some p[k] := by rw [← HL.out, List.getElem?_eq_getElem (by rw [← Lib.size_eq]; exact hlt)]; rfl
              have HB2 : Hid (r = ((decide (48 ≤ p[k].toNat) && decide (p[k].toNat ≤ 57)) && (L.drop (k + 1)).all fun c => decide (48 ≤ c.toNat) && decide (c.toNat ≤ 57))) := hid' (by rw [HK.out, drop1 L k _ hck, List.all_cons])
              clear hck HK
              by_cases d1 : p[k].toNat < 48
              · have HF : Hid (r = false) := hid' (by rw [HB2.out, decide_eq_false (by omega)]; rfl)
                have d1' : (p[k].toNat : Int) < 48 := by omega
                go_wp2
                go_ret
                exact ⟨by rw [HF.out]; rfl, rfl⟩
              have d1' : ¬ (p[k].toNat : Int) < 48 := by omega
              by_cases d2 : 57 < p[k].toNat
              · have HF : Hid (r = false) := hid' (by rw [HB2.out, decide_eq_false (show ¬ p[k].toNat ≤ 57 by omega)]; simp)
                have d2' : (57 : Int) < (p[k].toNat : Int) := by omega
                clear d1
                go_wp2
                go_ret
                exact ⟨by rw [HF.out]; rfl, rfl⟩
              have d2' : ¬ (57 : Int) < (p[k].toNat : Int) := by omega
              have HN : Hid (r = (L.drop (k + 1)).all fun c => decide (48 ≤ c.toNat) && decide (c.toNat ≤ 57)) := hid' (by rw [HB2.out, decide_eq_true (show 48 ≤ p[k].toNat by omega), decide_eq_true (show p[k].toNat ≤ 57 by omega)]; rfl)
              clear d1 d2
              go_wp2
              go_roundw
              case rel => exact ⟨k + 1, by go_num, by omega, by first | rfl | trivial, HN⟩
              case measure => simp [intOf]; omega
            · obtain rfl : k = p.size := by omega
              have hlt2 : ¬ (p.size : Int) < (p.size : Int) := by omega
              have HF : Hid (r = true) := hid' (by rw [HK.out, List.drop_of_length_le (by rw [HSZ.out]; exact Nat.le_refl _)]; rfl)
              go_wp2
              go_ret
              exact ⟨by rw [HF.out]; rfl, rfl⟩
      exact key w
  · have HF : Hid (r = false) := hid' (by rw [← hr]; exact dec_empty s1)
    clear hr
    go_enter Tryz.func58, Tryz.ntmps58
    go_wp2
    go_ret
    exact ⟨by rw [HF.out]; rfl, rfl⟩

end Go.Proofs.YtkfekopenahmdaaGreatDoor

namespace Go.Proofs.YtkfekopenahmdaaGreatDoor
open Go.RowKit

end Go.Proofs.YtkfekopenahmdaaGreatDoor

namespace Go.Proofs.YtkfekopenahmdaaGreatDoor
open Go.RowKit


set_option maxHeartbeats 2000000 in
set_option maxRecDepth 20000 in
theorem rlen14 (NM : ∀ (s : ByteArray) (w : World), s.size ≤ maxLen → Calls Tryz.prog 59 #[.string s] w fun e w' => e = .returned (.tuple #[.int .i64 (Tx.num 10 s.data.toList).1, .int .i64 (Tx.num 10 s.data.toList).2]) ∧ Below w.heap.size w w')
    (v : Value) (l : List Fd) (o : Option (Option ByteArray)) (ho : Ms.lenGo none l = o) (w : World) (h : FW w v l) (hl : l.length ≤ 1048576) (hs : ∀ f ∈ l, f.n.size ≤ 140737488355328 ∧ f.v.size ≤ 140737488355328) :
    Calls Tryz.prog 32 #[v] w fun e w' => e = .returned (Ms.lenV o) ∧ Below w.heap.size w w' := by
  obtain ⟨ao, cap, hv⟩ := h.shape
  subst hv
  obtain ⟨n, hn⟩ : ∃ n, l.length = n := ⟨_, rfl⟩
  rw [hn] at h hl ⊢
  have H := hid' h
  have HN := hid' hn
  have HS := hid' hs
  have HO := hid' ho
  have HNM := hid' NM
  clear h hn hs ho NM
  go_enter Tryz.func32, Tryz.ntmps32
  go_wp2
  go_loopw [5, 6, 7] (fun s5 s6 s7 wr => ∃ (k : Nat) (has : Bool) (val : ByteArray), s7 = .int .i64 (k : Int) ∧ s5 = .bool has ∧ s6 = .string val ∧ k ≤ n ∧ Hid (Ms.lenGo (Ms.opt has val) (l.drop k) = o) ∧ Hid (val.size ≤ 140737488355328) ∧ Hid (Below w.heap.size w wr)) (fun _ _ s7 _ => n - (intOf s7).toNat)
  case atStart => exact ⟨0, false, ⟨#[]⟩, rfl, rfl, rfl, Nat.zero_le _, HO, hid' (by decide), hid' (Below.refl _ _)⟩
  case round =>
    obtain ⟨k, has, val, rfl, rfl, rfl, hk, HI, HVS, HB⟩ := hrel
    by_cases hlt : k < n
    · have hlt2 : (k : Int) < (n : Int) := by omega
      obtain ⟨p, hp⟩ : ∃ p, l[k]? = some p := ⟨_, List.getElem?_eq_getElem (by rw [HN.out]; exact hlt)⟩
      obtain ⟨a, hao, y0, y1⟩ := (H.out.keep HB.out).two k p hp
      subst hao
      have hd := Ms.len_drop hp (Ms.opt has val)
      rw [HI.out] at hd
      have HPP := hid' hp
      have HPS := hid' (HS.out p (List.mem_of_getElem? hp))
      obtain ⟨y, hy⟩ : ∃ y : ByteArray, (⟨(Tx.lower p.n.data.toList).toArray⟩ : ByteArray) = y := ⟨_, rfl⟩
      have hyl : (Ms.lo p.n == Ms.sLen) = (y.toList == [99, 111, 110, 116, 101, 110, 116, 45, 108, 101, 110, 103, 116, 104]) := by rw [← hy, ba_list]; rfl
      rw [hyl] at hd
      clear hp hyl
      go_wp2_with fail
      refine (rLower_any p.n wr (by have := HPS.out.1; unfold maxLen; omega)).mono ?_
      rintro e wq ⟨rfl, hbq⟩
      rw [hy]
      have HBq := hid' (below_two HB.out hbq)
      clear hbq y0 y1 HB hy
      obtain ⟨_, hao, y0, y1⟩ := (H.out.keep HBq.out).two k p HPP.out
      injection hao with hao
      subst hao
      cases c1 : (y.toList == [99, 111, 110, 116, 101, 110, 116, 45, 108, 101, 110, 103, 116, 104])
      · rw [c1] at hd
        simp only [Bool.false_eq_true, if_false] at hd
        have HD := hid' hd
        clear hd
        go_wp2
        go_roundw
        case rel => exact ⟨k + 1, has, val, by go_num, rfl, rfl, by omega, hid' HD.out.symm, HVS, HBq⟩
        case measure => simp [intOf]; omega
      · rw [c1] at hd
        simp only [if_true] at hd
        obtain ⟨d, hdc⟩ : ∃ d, Ms.dec p.v = d := ⟨_, rfl⟩
        have HDC := hid' hdc
        rw [hdc] at hd
        have HD := hid' hd
        clear hd hdc
        go_wp2_with fail
        refine (rdec14 p.v d HDC.out wq HPS.out.2).mono ?_
        rintro e wq' ⟨rfl, hwq⟩
        subst wq'
        cases d
        · have HE : Hid (o = none) := hid' (by rw [HD.out]; rfl)
          go_wp2
          go_ret3
          exact ⟨by rw [HE.out]; rfl, HBq.out⟩
        · cases has
          · have HE : Hid (Ms.lenGo (Ms.opt true p.v) (l.drop (k + 1)) = o) := hid' (by rw [HD.out]; rfl)
            go_wp2
            go_roundw
            case rel => exact ⟨k + 1, true, p.v, by go_num, rfl, rfl, by omega, HE, hid' HPS.out.2, HBq⟩
            case measure => simp [intOf]; omega
          · cases c2 : (p.v.toList == val.toList)
            · have HE : Hid (o = none) := hid' (by rw [HD.out]; simp only [Ms.opt, if_true, c2]; rfl)
              go_wp2
              go_ret3
              exact ⟨by rw [HE.out]; rfl, HBq.out⟩
            · have HE : Hid (Ms.lenGo (Ms.opt true p.v) (l.drop (k + 1)) = o) := hid' (by rw [HD.out]; simp only [Ms.opt, if_true, c2]; rfl)
              go_wp2
              go_roundw
              case rel => exact ⟨k + 1, true, p.v, by go_num, rfl, rfl, by omega, HE, hid' HPS.out.2, HBq⟩
              case measure => simp [intOf]; omega
    · obtain rfl : k = n := by omega
      have hlt2 : ¬ (k : Int) < (k : Int) := by omega
      have HE : Hid (o = some (Ms.opt has val)) := hid' (by rw [← HI.out, List.drop_of_length_le (by rw [HN.out]; exact Nat.le_refl _)]; rfl)
      clear hlt
      cases has
      · go_wp2
        go_ret3
        exact ⟨by rw [HE.out]; rfl, HB.out⟩
      · go_wp2_with fail
        refine (HNM.out val wr (by have := HVS.out; unfold maxLen; omega)).mono ?_
        rintro e wq ⟨rfl, hbq⟩
        have HBq := hid' (below_two HB.out hbq)
        clear hbq
        go_wp2
        go_ret3
        exact ⟨by rw [HE.out]; rfl, HBq.out⟩

end Go.Proofs.YtkfekopenahmdaaGreatDoor

namespace Go.Proofs.YtkfekopenahmdaaGreatDoor
open Go.RowKit

end Go.Proofs.YtkfekopenahmdaaGreatDoor

namespace Go.Proofs.YtkfekopenahmdaaGreatDoor
open Go.RowKit

theorem noStandF14 : Tryz.prog.stoodInHeld 42 = false := by kernel_rfl
theorem noGuardF14 : Tryz.prog.eqGuardType Tryz.prog.depth 42 = false := by kernel_rfl
theorem fieldsOfF14 : Tryz.prog.underlying 42 = some (.struct (Tryz.prog.fieldsOf 42)) := by kernel_rfl
set_option maxRecDepth 20000 in
theorem neq_f14 (f : Fd) (w : World) : (binOp .neq 42 (.agg #[.string f.n, .string f.v]) (.agg #[.string f.n, .string f.v])).run Tryz.prog w = .ok (.bool false) w := by
  rw [run_neq_struct, show (10000 : Nat) = 9999 + 1 by rfl, run_equalIn_agg w 9999 42 _ _ fieldsOfF14 noStandF14]
  simp only [Program.fieldsOf, Tryz.underlying42]
  go_simp

set_option maxHeartbeats 2000000 in
set_option maxRecDepth 20000 in
theorem rsame14 (va vb : Value) (l : List Fd) (w : World) (h1 : FW w va l) (h2 : FW w vb l) (hl : l.length ≤ 140737488355328) :
    Calls Tryz.prog 17 #[va, vb] w fun e w' => e = .returned (.bool true) ∧ ∃ m, w' = w.drewN m := by
  obtain ⟨ao, ca, hv⟩ := h1.shape
  subst hv
  obtain ⟨bo, cb, hv⟩ := h2.shape
  subst hv
  obtain ⟨n, hn⟩ : ∃ n, l.length = n := ⟨_, rfl⟩
  rw [hn] at h1 h2 hl ⊢
  have H1 := hid' h1
  have H2 := hid' h2
  have HN := hid' hn
  have hee : ((n : Int) == (n : Int)) = true := beq_self_eq_true _
  have hgd := noGuardF14
  clear h1 h2 hn
  go_enter Tryz.func17, Tryz.ntmps17
  go_wp2
  go_loopw [5] (fun s5 wr => ∃ i q : Nat, s5 = .int .i64 (i : Int) ∧ i ≤ n ∧ wr = w.drewN q) (fun s5 _ => n - (intOf s5).toNat)
  case atStart => exact ⟨0, 0, rfl, Nat.zero_le _, rfl⟩
  case round =>
    obtain ⟨i, q, rfl, hi, hwr⟩ := hrel
    subst hwr
    by_cases hlt : i < n
    · have hlt2 : (i : Int) < (n : Int) := by omega
      obtain ⟨p, hp⟩ : ∃ p, l[i]? = some p := ⟨_, List.getElem?_eq_getElem (by rw [HN.out]; exact hlt)⟩
      obtain ⟨a, hao, x0, x1⟩ := H1.out.two i p hp
      obtain ⟨a2, hbo, y0, y1⟩ := H2.out.two i p hp
      subst hao hbo
      have hne : ∀ W, (binOp .neq 42 (.agg #[.string p.n, .string p.v]) (.agg #[.string p.n, .string p.v])).run Tryz.prog W = .ok (.bool false) W := fun W => neq_f14 p W
      have HLT := hid' hlt
      clear hp hlt
      go_wp2
      go_quiet (fail)
      go_wp2
      go_roundw
      case rel => exact ⟨i + 1, _, by go_num, by have := HLT.out; omega, by first | rfl | simp⟩
      case measure => have := HLT.out; simp [intOf]; omega
    · have hlt2 : ¬ (i : Int) < (n : Int) := by omega
      clear hlt
      go_wp2
      go_ret
      exact ⟨rfl, _, rfl⟩

end Go.Proofs.YtkfekopenahmdaaGreatDoor

namespace Go.Proofs.YtkfekopenahmdaaGreatDoor
open Go.RowKit

/-- A request's cells. -/
def rqC (m s a p : ByteArray) (fv : Value) (b : ByteArray) (tv : Value) : Array Value := #[.string m, .string s, .string a, .string p, fv, .string b, tv]
theorem below_dn (w : World) (n : Nat) : Below w.heap.size w (w.drewN n) := ⟨rfl, rfl, rfl, Nat.le_refl _, fun _ _ => rfl⟩

set_option maxHeartbeats 4000000 in
set_option maxRecDepth 20000 in
theorem rsameReq14 (m s a p b : ByteArray) (fv fv' tv tv' : Value) (l t : List Fd) (w : World) (h1 : FW w fv l) (h2 : FW w fv' l) (h3 : FW w tv t) (h4 : FW w tv' t) (hl : l.length ≤ 140737488355328) (ht : t.length ≤ 140737488355328) :
    Calls Tryz.prog 8 #[.agg (rqC m s a p fv b tv), .agg (rqC m s a p fv' b tv')] w fun e w' => e = .returned (.bool true) ∧ Below w.heap.size w w' := by
  have H1 := hid' h1
  have H2 := hid' h2
  have H3 := hid' h3
  have H4 := hid' h4
  have e1 : (m.toList == m.toList) = true := beq_self_eq_true _
  have e2 : (s.toList == s.toList) = true := beq_self_eq_true _
  have e3 : (a.toList == a.toList) = true := beq_self_eq_true _
  have e4 : (p.toList == p.toList) = true := beq_self_eq_true _
  have e5 : (b.toList == b.toList) = true := beq_self_eq_true _
  clear h1 h2 h3 h4
  unfold rqC
  go_enter Tryz.func8, Tryz.ntmps8
  go_wp2_with (refine wpl_box 25 _ rfl rfl (rqC m s a p fv b tv) (by kernel_rfl) ?_)
  intro xb w1 hg1 ha1 hb1
  have HX1 := hid' ha1
  have HB1 := hid' hb1
  clear hg1 ha1 hb1
  go_wp2_with (refine wpl_box 25 _ rfl rfl (rqC m s a p fv' b tv') (by kernel_rfl) ?_)
  intro yb w2 hg2 ha2 hb2
  have HX2 := hid' (HX1.out.keep hb2)
  have HY2 := hid' ha2
  have HB2 := hid' (below_two HB1.out hb2)
  clear hg2 ha2 hb2 HX1 HB1
  have x0 : w2.cell? ⟨xb, 0, none⟩ = some (.string m) := HX2.out.cell 0 _ rfl
  have x1 : w2.cell? ⟨xb, 1, none⟩ = some (.string s) := HX2.out.cell 1 _ rfl
  have x2 : w2.cell? ⟨xb, 2, none⟩ = some (.string a) := HX2.out.cell 2 _ rfl
  have x3 : w2.cell? ⟨xb, 3, none⟩ = some (.string p) := HX2.out.cell 3 _ rfl
  have x4 : w2.cell? ⟨xb, 4, none⟩ = some (fv) := HX2.out.cell 4 _ rfl
  have x5 : w2.cell? ⟨xb, 5, none⟩ = some (.string b) := HX2.out.cell 5 _ rfl
  have x6 : w2.cell? ⟨xb, 6, none⟩ = some (tv) := HX2.out.cell 6 _ rfl
  have y0 : w2.cell? ⟨yb, 0, none⟩ = some (.string m) := HY2.out.cell 0 _ rfl
  have y1 : w2.cell? ⟨yb, 1, none⟩ = some (.string s) := HY2.out.cell 1 _ rfl
  have y2 : w2.cell? ⟨yb, 2, none⟩ = some (.string a) := HY2.out.cell 2 _ rfl
  have y3 : w2.cell? ⟨yb, 3, none⟩ = some (.string p) := HY2.out.cell 3 _ rfl
  have y4 : w2.cell? ⟨yb, 4, none⟩ = some (fv') := HY2.out.cell 4 _ rfl
  have y5 : w2.cell? ⟨yb, 5, none⟩ = some (.string b) := HY2.out.cell 5 _ rfl
  have y6 : w2.cell? ⟨yb, 6, none⟩ = some (tv') := HY2.out.cell 6 _ rfl
  go_wp2_with fail
  refine (rsame14 fv fv' l w2 (H1.out.keep HB2.out) (H2.out.keep HB2.out) hl).mono ?_
  rintro e w3 ⟨rfl, n3, hn3⟩
  subst hn3
  go_wp2_with fail
  refine (rsame14 tv tv' t _ ((H3.out.keep HB2.out).keep (below_dn _ _)) ((H4.out.keep HB2.out).keep (below_dn _ _)) ht).mono ?_
  rintro e w4 ⟨rfl, n4, hn4⟩
  subst hn4
  go_wp2
  go_ret
  exact ⟨rfl, below_two HB2.out (below_dn _ _)⟩

end Go.Proofs.YtkfekopenahmdaaGreatDoor
