/-
  The document's in of any row, its named: by their contracts.
-/
import Derived.Test.YtkfekopenahmdaaGreatDoorMdA
import Derived.Test.YtkfekopenahmdaaGreatDoorTrims
import Derived.Test.YtkfekopenahmdaaGreatDoorMcRS
namespace Go.Proofs.YtkfekopenahmdaaGreatDoor
open Go.RowKit

theorem sC_append (a b : List (List UInt8)) : sC (a ++ b) = sC a ++ sC b := by unfold sC; rw [List.map_append]
theorem md_eq {c : UInt8} {n : Nat} (h : ((c.toNat : Int) == (n : Int)) = true) (hn : n < 256) : c = UInt8.ofNat n := by
  have h1 : (c.toNat : Int) = (n : Int) := by simpa using h
  apply UInt8.toNat_inj.1
  rw [UInt8.toNat_ofNat']
  omega
theorem md_drop {α : Type} (l : List α) (k : Nat) (c : α) (h : l[k]? = some c) : l.drop k = c :: l.drop (k + 1) := by
  obtain ⟨h1, h2⟩ := List.getElem?_eq_some_iff.1 h
  rw [List.drop_eq_getElem_cons h1, h2]
theorem md_take {α : Type} (l : List α) (f k : Nat) (c : α) (hf : f ≤ k) (h : l[k]? = some c) : (l.drop f).take (k + 1 - f) = (l.drop f).take (k - f) ++ [c] := by
  have e : k + 1 - f = (k - f) + 1 := by omega
  rw [e, List.take_add_one, List.getElem?_drop, show f + (k - f) = k by omega, h]
  rfl
namespace Ms
def lt (t : T8) : T8 := Tx.lower (Tx.trim t)
end Ms

set_option maxHeartbeats 1000000 in
theorem rinS14 (B : Nat) (vo : Option Addr) (n vc : Nat) (l : List (List UInt8)) (x : ByteArray) (r : Bool) (hr : l.contains x.toList = r) (w : World) (h : w.ownsRow B 9 1 (.slice vo n vc) n (sC l)) (hn : l.length = n) (hl : n ≤ 2199023255552) :
    Calls Tryz.prog 35 #[.slice vo n vc, .string x] w fun e w' => e = .returned (.bool r) ∧ w' = w := by
  have H := hid' h
  have HN := hid' hn
  have HR := hid' hr
  clear h hn hr
  go_enter Tryz.func35, Tryz.ntmps35
  go_wp2
  go_loopw [5] (fun s5 wr => ∃ i : Nat, s5 = .int .i64 (i : Int) ∧ i ≤ n ∧ wr = w ∧ Hid ((l.drop i).contains x.toList = r)) (fun s5 _ => n - (intOf s5).toNat)
  case atStart => exact ⟨0, rfl, Nat.zero_le _, rfl, HR⟩
  case round =>
    obtain ⟨i, rfl, hi, hwr, HI⟩ := hrel
    subst wr
    by_cases hlt : i < n
    · have hlt2 : (i : Int) < (n : Int) := by omega
      obtain ⟨t, ht⟩ : ∃ t, l[i]? = some t := ⟨_, List.getElem?_eq_getElem (by rw [HN.out]; exact hlt)⟩
      obtain ⟨g, hg⟩ : ∃ g, vo = some ⟨g, 0, none⟩ := by
        rcases H.out.2 with ⟨h1, h2⟩ | ⟨g, cap, cur, h1, _⟩
        · omega
        · injection h1 with h1
          exact ⟨g, h1⟩
      subst hg
      have c0 : w.cell? ⟨g, i, none⟩ = some (.string ⟨t.toArray⟩) := by
        have := H.out.cells (g := g) rfl i (.string ⟨t.toArray⟩) (by simp [sC, ht])
        rwa [Addr.add_mid, Nat.zero_add] at this
      have hd := has_drop ht x.toList
      obtain ⟨y, hy⟩ : ∃ y : ByteArray, (⟨t.toArray⟩ : ByteArray) = y := ⟨_, rfl⟩
      rw [hy] at c0
      have hyt : y.toList = t := by rw [← hy]; exact ba_list t
      rw [← hyt, HI.out] at hd
      have HD := hid' hd
      clear ht hd hy hyt
      cases eb : (y.toList == x.toList)
      · have HE : Hid ((l.drop (i + 1)).contains x.toList = r) := hid' (by rw [HD.out, eb]; rfl)
        go_wp2
        go_roundw
        case rel => exact ⟨i + 1, by go_num, by omega, by first | rfl | trivial, HE⟩
        case measure => simp [intOf]; omega
      · have HE : Hid (r = true) := hid' (by rw [HD.out, eb]; rfl)
        go_wp2
        go_ret
        exact ⟨by rw [HE.out]; rfl, rfl⟩
    · obtain rfl : i = n := by omega
      have hlt2 : ¬ (i : Int) < (i : Int) := by omega
      have HE : Hid (r = false) := hid' (by rw [← HI.out, List.drop_of_length_le (by rw [HN.out]; exact Nat.le_refl _)]; rfl)
      clear hlt
      go_wp2
      go_ret
      exact ⟨by rw [HE.out]; rfl, rfl⟩

theorem infoS14 : (Tryz.prog.info? 9).map (fun i => (i.zero, i.size, i.bytes)) = some (some (.string ⟨#[]⟩), 1, 16) := by kernel_rfl
theorem one_new (w : World) (t : ByteArray) : ∀ j u, [Value.string t][j]? = some u → (w.alloc (.cells #[.string t] 9)).cell? ((⟨w.heap.size, 0, none⟩ : Addr).add j) = some u := by
  intro j u hj
  have hA : Ar (w.alloc (.cells #[.string t] 9)) w.heap.size 9 #[.string t] := heap_alloc_last w _
  rw [Addr.add_mid, Nat.zero_add]
  exact hA.cell j u (by simpa using hj)

set_option maxHeartbeats 4000000 in
set_option maxRecDepth 20000 in
theorem rnamed14 (v : Value) (l : List Fd) (w : World) (h : FW w v l) (hl : l.length ≤ 1048576) (hs : ∀ f ∈ l, f.n.size ≤ 1048576 ∧ f.v.size ≤ 1048576) :
    Calls Tryz.prog 33 #[v] w fun e w' => (∃ vo n vc, e = .returned (.slice vo n vc) ∧ (Ms.nms l).length = n ∧ n ≤ 1099512676352 ∧ w'.ownsRow w.heap.size 9 1 (.slice vo n vc) n (sC (Ms.nms l))) ∧ Below w.heap.size w w' := by
  obtain ⟨i0, hi0, hz0, hz1, hz2⟩ := minfo_parts infoS14
  have HI := hid' hi0
  have HZ0 := hid' hz0
  have HZ1 := hid' hz1
  have HZ2 := hid' hz2
  clear hi0 hz0 hz1 hz2
  obtain ⟨ao, cap, hv⟩ := h.shape
  subst hv
  obtain ⟨n, hn⟩ : ∃ n, l.length = n := ⟨_, rfl⟩
  rw [hn] at h hl ⊢
  have H := hid' h
  have HN := hid' hn
  have HS := hid' hs
  clear h hn hs
  go_enter Tryz.func33, Tryz.ntmps33
  go_wp2
  go_loopw [3, 4, 5, 6, 7] (fun s3 s4 _ _ _ wr => ∃ (i c : Nat) (ro : Option Addr) (rc : Nat), s4 = .int .i64 (i : Int) ∧ s3 = .slice ro c rc ∧ i ≤ n ∧ c ≤ i * 1048577 ∧ Hid ((Ms.nms (l.take i)).length = c) ∧ Hid (wr.ownsRow w.heap.size 9 1 (.slice ro c rc) c (sC (Ms.nms (l.take i)))) ∧ Hid (Below w.heap.size w wr)) (fun _ s4 _ _ _ _ => n - (intOf s4).toNat)
  case atStart => exact ⟨0, 0, none, 0, rfl, rfl, Nat.zero_le _, Nat.zero_le _, hid' rfl, hid' (World.ownsRow_nil _ _ _ _), hid' (Below.refl _ _)⟩
  case round =>
    obtain ⟨i, c, ro, rc, rfl, rfl, hi, hc, HML, HO, HB⟩ := hrel
    by_cases hlt : i < n
    · have hlt2 : (i : Int) < (n : Int) := by omega
      obtain ⟨p, hp⟩ : ∃ p, l[i]? = some p := ⟨_, List.getElem?_eq_getElem (by rw [HN.out]; exact hlt)⟩
      obtain ⟨a, hao, y0, y1⟩ := (H.out.keep HB.out).two i p hp
      subst hao
      have HTK := hid' (Ms.nms_take hp)
      have HPS := hid' (HS.out p (List.mem_of_getElem? hp))
      have HPP := hid' hp
      obtain ⟨L, hL⟩ : ∃ L : ByteArray, (⟨(Tx.lower p.n.data.toList).toArray⟩ : ByteArray) = L := ⟨_, rfl⟩
      have HLL : Hid (Ms.lo p.n = L.toList) := hid' (by rw [← hL, ba_list]; rfl)
      clear hp
      go_wp2_with fail
      refine (rLower_any p.n wr (by have := HPS.out.1; unfold maxLen; omega)).mono ?_
      rw [hL]
      rintro e wq ⟨rfl, hbq⟩
      have HBq := hid' (below_two HB.out hbq)
      have HOq := hid' (own_same HO.out (fun j hj => hbq.block j (own_lt HO.out j hj)))
      obtain ⟨_, hao, z0, z1⟩ := (H.out.keep HBq.out).two i p HPP.out
      injection hao with hao
      subst hao
      clear hbq y0 y1 HO HB hL z0
      cases d1 : (L.toList == [99, 111, 110, 110, 101, 99, 116, 105, 111, 110])
      · have HQ : Hid (Ms.nms (l.take (i + 1)) = Ms.nms (l.take i)) := hid' (by rw [HTK.out]; unfold Ms.nmK; rw [HLL.out, show (L.toList == Ms.sConn) = false from d1]; simp)
        go_wp2
        go_roundw
        case rel => exact ⟨i + 1, c, ro, rc, by go_num, rfl, by omega, Nat.le_trans hc (Nat.mul_le_mul_right _ (Nat.le_succ i)), hid' (by rw [HQ.out]; exact HML.out), hid' (by rw [HQ.out]; exact HOq.out), HBq⟩
        case measure => simp [intOf]; omega
      · obtain ⟨V, hV⟩ : ∃ V, p.v.data.toList = V := ⟨_, rfl⟩
        have HV := hid' hV
        have HQ : Hid (Ms.nms (l.take (i + 1)) = Ms.nms (l.take i) ++ (Ms.pcs [] V).map Ms.lt) := hid' (by rw [HTK.out]; unfold Ms.nmK; rw [HLL.out, show (L.toList == Ms.sConn) = true from d1, ← hV]; rfl)
        have HSZ : Hid (V.length = p.v.size) := hid' (by rw [← hV, ← Lib.size_eq])
        have hz := HPS.out.2
        clear hV
        go_wp2
        go_loopw [3, 6, 7] (fun s3 s6 s7 wi => ∃ (f k d : Nat) (uo : Option Addr) (uc : Nat), s3 = .slice uo d uc ∧ s6 = .int .i64 (f : Int) ∧ s7 = .int .i64 (k : Int) ∧ k ≤ p.v.size + 1 ∧ f ≤ k ∧ d ≤ c + k ∧ Hid (∃ D, (Ms.nms (l.take i) ++ D.map Ms.lt).length = d ∧ wi.ownsRow w.heap.size 9 1 (.slice uo d uc) d (sC (Ms.nms (l.take i) ++ D.map Ms.lt)) ∧ (k ≤ p.v.size → Ms.pcs [] V = D ++ Ms.pcs ((V.drop f).take (k - f)) (V.drop k)) ∧ (k = p.v.size + 1 → Ms.pcs [] V = D)) ∧ Hid (Below w.heap.size w wi)) (fun _ _ s7 _ => p.v.size + 1 - (intOf s7).toNat)
        case atStart => exact ⟨0, 0, c, ro, rc, rfl, rfl, rfl, Nat.zero_le _, Nat.le_refl _, Nat.le_refl _, hid' ⟨[], by simpa using HML.out, by simpa using HOq.out, fun _ => rfl, fun h => by omega⟩, HBq⟩
        case round =>
          obtain ⟨f, k, d, uo, uc, rfl, rfl, rfl, hk, hfk, hd, HDD, HBi⟩ := hrel
          obtain ⟨D, hD1, hD2, hD3, hD4⟩ := HDD.out
          have HDL := hid' hD1
          have HD3 := hid' hD3
          have HD4 := hid' hD4
          obtain ⟨xs, hxs⟩ : ∃ xs, sC (Ms.nms (l.take i) ++ D.map Ms.lt) = xs := ⟨_, rfl⟩
          have HXS := hid' hxs
          rw [hxs] at hD2
          have HO := hid' hD2
          clear HDD hD1 hD2 hD3 hD4 hxs
          have hdb : d ≤ 1099512676352 := by
            have h1 : i * 1048577 ≤ 1048575 * 1048577 := Nat.mul_le_mul_right _ (by omega)
            omega
          by_cases hkt : k < p.v.size
          · have hkt2 : (k : Int) < (p.v.size : Int) := by omega
            have hle2 : (k : Int) ≤ (p.v.size : Int) := by omega
            have hck : V[k]? = some p.v[k] := by rw [← HV.out, List.getElem?_eq_getElem (by rw [← Lib.size_eq]; exact hkt)]; rfl
            have HP : Hid (Ms.pcs [] V = D ++ Ms.pcs ((V.drop f).take (k - f)) (p.v[k] :: V.drop (k + 1))) := hid' (by rw [← md_drop V k _ hck]; exact HD3.out (by omega))
            have HTA : Hid ((V.drop f).take (k + 1 - f) = (V.drop f).take (k - f) ++ [p.v[k]]) := hid' (md_take V f k _ hfk hck)
            clear hck HD3 HD4
            by_cases ck : ((p.v[k].toNat : Int) == 44) = true
            · have HK : Hid (p.v[k] = 44) := hid' (md_eq ck (by decide))
              have HP2 : Hid (Ms.pcs [] V = (D ++ [(V.drop f).take (k - f)]) ++ Ms.pcs ((V.drop (k + 1)).take (k + 1 - (k + 1))) (V.drop (k + 1))) := hid' (by rw [HP.out, Ms.pcs, if_pos HK.out]; simp)
              clear HP HTA HK
              obtain ⟨q, hq⟩ : ∃ q, p.v.extract f k = q := ⟨_, rfl⟩
              have HPL : Hid (q.data.toList = (V.drop f).take (k - f)) := hid' (by rw [← hq, Lib.extract_data, HV.out])
              have HQS : Hid (q.size ≤ 1048576) := hid' (by rw [← hq, ByteArray.size_extract]; have := HPS.out.2; omega)
              obtain ⟨y, hy⟩ : ∃ y : ByteArray, (⟨(Tx.trim q.data.toList).toArray⟩ : ByteArray) = y := ⟨_, rfl⟩
              obtain ⟨t, ht⟩ : ∃ t : ByteArray, (⟨(Tx.lower y.data.toList).toArray⟩ : ByteArray) = t := ⟨_, rfl⟩
              have HT : Hid (Value.string t = .string ⟨(Ms.lt ((V.drop f).take (k - f))).toArray⟩) := hid' (by rw [← ht, ← hy, ← HPL.out]; rfl)
              have HYS : Hid (y.size ≤ maxLen) := hid' (by
                have h1 := Tx.trim_le q.data.toList
                have h2 := HQS.out
                rw [Lib.size_eq] at h2 ⊢
                rw [← hy]
                unfold maxLen
                simp only
                omega)
              have hfk2 : (f : Int) ≤ (k : Int) := by omega
              go_wp2_with fail
              refine (rTrim_any q wr (by have := HQS.out; unfold maxLen; omega)).mono ?_
              rw [hy]
              rintro e w5 ⟨rfl, hw5⟩
              subst w5
              go_wp2_with fail
              refine (rLower_any y wr HYS.out).mono ?_
              rw [ht]
              rintro e w5 ⟨rfl, hb5⟩
              have HO5 := hid' (own_same HO.out (fun j hj => hb5.block j (own_lt HO.out j hj)))
              have HB5 := hid' (below_two HBi.out hb5)
              have HA5 : Hid ((w5.alloc (.cells #[.string t] 9)).ownsRow w.heap.size 9 1 (.slice uo d uc) d xs) := hid' (HO5.out.alloc _)
              clear hb5 hq hy ht HO HBi
              go_wp2_with (at_builtin; refine wpList_append_own_at _ rfl _ _ 55 rfl w.heap.size 9 i0 (.string ⟨#[]⟩) 1 16 Tryz.underlying55 HI.out HZ0.out HZ1.out HZ2.out rfl (by decide) (.slice uo d uc) d xs rfl HA5.out ⟨w5.heap.size, 0, none⟩ 1 1 [.string t] rfl rfl (one_new _ _) (by simp [Value.oneCell']) (by unfold maxLen; omega) (by omega) (by simp; have := HB5.out.size; omega) ?_; intro v3 w3 hown3 hgrow3 _ _; refine Hid.out ?_)
              refine hid' ?_
              obtain ⟨v3o, v3c, hv3⟩ := own_shape hown3
              subst hv3
              have HO3 : Hid (w3.ownsRow w.heap.size 9 1 (.slice v3o (d + 1) v3c) (d + 1) (sC (Ms.nms (l.take i) ++ (D ++ [(V.drop f).take (k - f)]).map Ms.lt))) := hid' (by
                rw [List.map_append, ← List.append_assoc, sC_append, HXS.out]
                have := hown3
                rw [HT.out] at this
                exact this)
              have HB3 : Hid (Below w.heap.size w w3) := hid' ((HB5.out.alloc HB5.out.size _).grown hgrow3 (by simp; have := HB5.out.size; omega) (fun k hk => (HA5.out.lt k hk).1))
              have HL3 : Hid ((Ms.nms (l.take i) ++ (D ++ [(V.drop f).take (k - f)]).map Ms.lt).length = d + 1) := hid' (by have := HDL.out; simp only [List.map_append, List.length_append, List.length_map, List.map_cons, List.map_nil, List.length_cons, List.length_nil] at this ⊢; omega)
              clear hown3 hgrow3
              go_wp2
              go_roundw
              case rel => exact ⟨k + 1, k + 1, d + 1, v3o, v3c, rfl, by go_num, by go_num, by omega, Nat.le_refl _, by omega, hid' ⟨D ++ [(V.drop f).take (k - f)], HL3.out, HO3.out, fun _ => HP2.out, fun h => by omega⟩, HB3⟩
              case measure => simp [intOf]; omega
            · have ck' : ((p.v[k].toNat : Int) == 44) = false := by simpa using ck
              have HK : Hid (¬ p.v[k] = 44) := hid' (fun e => by rw [e] at ck'; simp at ck')
              have HP2 : Hid (Ms.pcs [] V = D ++ Ms.pcs ((V.drop f).take (k + 1 - f)) (V.drop (k + 1))) := hid' (by rw [HP.out, HTA.out, Ms.pcs, if_neg HK.out])
              clear HP HTA HK ck
              go_wp2
              go_roundw
              case rel => exact ⟨f, k + 1, d, uo, uc, rfl, rfl, by go_num, by omega, by omega, by omega, hid' ⟨D, HDL.out, by rw [HXS.out]; exact HO.out, fun _ => HP2.out, fun h => by omega⟩, HBi⟩
              case measure => simp [intOf]; omega
          · by_cases hke : k = p.v.size
            · have hkt2 : ¬ (k : Int) < (p.v.size : Int) := by omega
              have hle2 : (k : Int) ≤ (p.v.size : Int) := by omega
              have hkb : ((k : Int) == (p.v.size : Int)) = true := by rw [beq_iff_eq]; omega
              have HP2 : Hid (Ms.pcs [] V = D ++ [(V.drop f).take (k - f)]) := hid' (by rw [HD3.out (by omega), List.drop_of_length_le (i := k) (by rw [HSZ.out]; omega)]; rfl)
              have hks : k ≤ p.v.size := by omega
              have HKE := hid' hke
              clear hke HD3 HD4 hkt
              obtain ⟨q, hq⟩ : ∃ q, p.v.extract f k = q := ⟨_, rfl⟩
              have HPL : Hid (q.data.toList = (V.drop f).take (k - f)) := hid' (by rw [← hq, Lib.extract_data, HV.out])
              have HQS : Hid (q.size ≤ 1048576) := hid' (by rw [← hq, ByteArray.size_extract]; have := HPS.out.2; omega)
              obtain ⟨y, hy⟩ : ∃ y : ByteArray, (⟨(Tx.trim q.data.toList).toArray⟩ : ByteArray) = y := ⟨_, rfl⟩
              obtain ⟨t, ht⟩ : ∃ t : ByteArray, (⟨(Tx.lower y.data.toList).toArray⟩ : ByteArray) = t := ⟨_, rfl⟩
              have HT : Hid (Value.string t = .string ⟨(Ms.lt ((V.drop f).take (k - f))).toArray⟩) := hid' (by rw [← ht, ← hy, ← HPL.out]; rfl)
              have HYS : Hid (y.size ≤ maxLen) := hid' (by
                have h1 := Tx.trim_le q.data.toList
                have h2 := HQS.out
                rw [Lib.size_eq] at h2 ⊢
                rw [← hy]
                unfold maxLen
                simp only
                omega)
              have hfk2 : (f : Int) ≤ (k : Int) := by omega
              go_wp2_with fail
              refine (rTrim_any q wr (by have := HQS.out; unfold maxLen; omega)).mono ?_
              rw [hy]
              rintro e w5 ⟨rfl, hw5⟩
              subst w5
              go_wp2_with fail
              refine (rLower_any y wr HYS.out).mono ?_
              rw [ht]
              rintro e w5 ⟨rfl, hb5⟩
              have HO5 := hid' (own_same HO.out (fun j hj => hb5.block j (own_lt HO.out j hj)))
              have HB5 := hid' (below_two HBi.out hb5)
              have HA5 : Hid ((w5.alloc (.cells #[.string t] 9)).ownsRow w.heap.size 9 1 (.slice uo d uc) d xs) := hid' (HO5.out.alloc _)
              clear hb5 hq hy ht HO HBi
              go_wp2_with (at_builtin; refine wpList_append_own_at _ rfl _ _ 55 rfl w.heap.size 9 i0 (.string ⟨#[]⟩) 1 16 Tryz.underlying55 HI.out HZ0.out HZ1.out HZ2.out rfl (by decide) (.slice uo d uc) d xs rfl HA5.out ⟨w5.heap.size, 0, none⟩ 1 1 [.string t] rfl rfl (one_new _ _) (by simp [Value.oneCell']) (by unfold maxLen; omega) (by omega) (by simp; have := HB5.out.size; omega) ?_; intro v3 w3 hown3 hgrow3 _ _; refine Hid.out ?_)
              refine hid' ?_
              obtain ⟨v3o, v3c, hv3⟩ := own_shape hown3
              subst hv3
              have HO3 : Hid (w3.ownsRow w.heap.size 9 1 (.slice v3o (d + 1) v3c) (d + 1) (sC (Ms.nms (l.take i) ++ (D ++ [(V.drop f).take (k - f)]).map Ms.lt))) := hid' (by
                rw [List.map_append, ← List.append_assoc, sC_append, HXS.out]
                have := hown3
                rw [HT.out] at this
                exact this)
              have HB3 : Hid (Below w.heap.size w w3) := hid' ((HB5.out.alloc HB5.out.size _).grown hgrow3 (by simp; have := HB5.out.size; omega) (fun k hk => (HA5.out.lt k hk).1))
              have HL3 : Hid ((Ms.nms (l.take i) ++ (D ++ [(V.drop f).take (k - f)]).map Ms.lt).length = d + 1) := hid' (by have := HDL.out; simp only [List.map_append, List.length_append, List.length_map, List.map_cons, List.map_nil, List.length_cons, List.length_nil] at this ⊢; omega)
              clear hown3 hgrow3
              go_wp2
              go_roundw
              case rel => exact ⟨k + 1, k + 1, d + 1, v3o, v3c, rfl, by go_num, by go_num, by omega, Nat.le_refl _, by omega, hid' ⟨D ++ [(V.drop f).take (k - f)], HL3.out, HO3.out, fun h => by have := HKE.out; omega, fun _ => HP2.out⟩, HB3⟩
              case measure => simp [intOf]; omega
            · obtain rfl : k = p.v.size + 1 := by omega
              have hle2 : ¬ (((p.v.size + 1 : Nat) : Int) ≤ (p.v.size : Int)) := by omega
              have HP2 : Hid (Ms.pcs [] V = D) := hid' (HD4.out rfl)
              have HQ2 : Hid (Ms.nms (l.take (i + 1)) = Ms.nms (l.take i) ++ D.map Ms.lt) := hid' (by rw [HQ.out, HP2.out])
              clear hkt hke HD3 HD4
              go_wp2
              go_roundw
              case rel => exact ⟨i + 1, d, uo, uc, by go_num, rfl, by omega, Nat.le_trans hd (by rw [Nat.succ_mul]; exact Nat.add_le_add hc (Nat.succ_le_succ hz)), hid' (by rw [HQ2.out]; exact HDL.out), hid' (by rw [HQ2.out, HXS.out]; exact HO.out), HBi⟩
              case measure => simp [intOf]; omega
    · obtain rfl : i = n := by omega
      have hlt2 : ¬ (i : Int) < (i : Int) := by omega
      have HT : Hid (l.take i = l) := hid' (List.take_of_length_le (by rw [HN.out]; exact Nat.le_refl _))
      clear hlt
      go_wp2
      go_ret
      refine ⟨⟨ro, c, rc, rfl, ?_, ?_, ?_⟩, HB.out⟩
      · rw [← HML.out, HT.out]
      · have h1 : i * 1048577 ≤ 1048576 * 1048577 := Nat.mul_le_mul_right _ hl
        omega
      · have := HO.out
        rwa [HT.out] at this

end Go.Proofs.YtkfekopenahmdaaGreatDoor
