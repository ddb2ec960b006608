/-
  The code's namedByConnection: by its contract.
  The code's passedOn: by its contract.
-/
import Derived.Test.YtkfekopenahmdaaDoorMcB
import Derived.Test.YtkfekopenahmdaaDoorMpA
import Derived.Shelf.Strings.Split
import Derived.Test.YtkfekopenahmdaaDoorMcDE
namespace Go.Proofs.YtkfekopenahmdaaDoor
open Go.RowKit
open Go.ChangeMaps (setBlock)

namespace Ms
theorem pcs_app (r : T8) : ∀ (a cur : T8), (∀ c ∈ a, c ≠ 44) → pcs cur (a ++ r) = pcs (cur ++ a) r
  | [], cur, _ => by simp
  | c :: a, cur, h => by
    rw [List.cons_append, pcs, if_neg (h c (by simp)), pcs_app r a (cur ++ [c]) (fun d hd => h d (by simp [hd]))]
    simp
theorem pcs_none (a : T8) (h : ∀ c ∈ a, c ≠ 44) : pcs [] a = [a] := by
  have := pcs_app [] a [] h
  simpa [pcs] using this
theorem splitK_pcs : ∀ (k : Nat) (s : T8), s.count 44 = k → Lib.splitK [44] 0 k s = pcs [] s
  | 0, s, h => by
    rw [Lib.splitK, pcs_none]
    intro c hc e
    subst e
    have := List.count_pos_iff.2 hc
    omega
  | k + 1, s, h => by
    rw [Lib.splitK, Lib.index_one]
    have hge := Lib.indexByte_ge s 44
    by_cases h1 : Lib.indexByte s 44 = -1
    · exfalso
      have h2 := Lib.indexByte_none h1
      have h3 : 0 < s.count 44 := by omega
      obtain ⟨i, hi⟩ := List.getElem?_of_mem (List.count_pos_iff.1 h3)
      exact h2 i hi
    · obtain ⟨o, ho⟩ : ∃ o : Nat, Lib.indexByte s 44 = (o : Int) := ⟨(Lib.indexByte s 44).toNat, by omega⟩
      obtain ⟨h2, h3⟩ := Lib.indexByte_some ho
      obtain ⟨hl, h4⟩ := List.getElem?_eq_some_iff.1 h2
      rw [if_neg (by simpa using h1), ho]
      have e : s = s.take o ++ 44 :: s.drop (o + 1) := by
        conv => lhs; rw [← List.take_append_drop o s, List.drop_eq_getElem_cons hl, h4]
      have h5 : ∀ c ∈ s.take o, c ≠ 44 := by
        intro c hc e
        subst e
        obtain ⟨i, hi⟩ := List.getElem?_of_mem hc
        have hio : i < o := by have := (List.getElem?_eq_some_iff.1 hi).1; rw [List.length_take] at this; omega
        rw [List.getElem?_take, if_pos hio] at hi
        exact h3 i hio hi
      have h6 : (s.drop (o + 1)).count 44 = k := by
        have h7 : (s.take o).count 44 = 0 := List.count_eq_zero.2 (fun hc => h5 44 hc rfl)
        rw [e, List.count_append, h7, List.count_cons] at h
        simp at h
        omega
      have h8 : pcs [] s = s.take o :: pcs [] (s.drop (o + 1)) := by
        conv => lhs; rw [e]
        rw [pcs_app _ _ _ h5, pcs, if_pos rfl]
        simp
      rw [h8]
      simp only [Int.toNat_natCast, Nat.add_zero, List.length_cons, List.length_nil, Nat.zero_add]
      rw [splitK_pcs k _ h6]
theorem pcs_len : ∀ (l cur : T8), ∀ x ∈ pcs cur l, x.length ≤ cur.length + l.length
  | [], cur, x, hx => by simp [pcs] at hx; subst hx; simp
  | c :: r, cur, x, hx => by
    rw [pcs] at hx
    split at hx
    · rcases List.mem_cons.1 hx with rfl | hx
      · simp
      · have := pcs_len r [] x hx
        simp at this ⊢
        omega
    · have := pcs_len r (cur ++ [c]) x hx
      simp at this ⊢
      omega
def nmK (p : Fd) : List T8 := if lo p.n == sConn then nm1 p else []
theorem nms_take {l : List Fd} {k : Nat} {p : Fd} (h : l[k]? = some p) : nms (l.take (k + 1)) = nms (l.take k) ++ nmK p := by
  unfold nms nmK
  rw [List.take_add_one, h, List.filter_append, List.flatMap_append]
  congr 1
  simp only [Option.toList_some, List.filter_cons, List.filter_nil]
  cases (lo p.n == sConn) <;> simp
end Ms
def pk14 (x : ByteArray) : Value := .string x
def ev14 (_ : Unit) : Value := .agg #[]
theorem ky14 : Ky Tryd.prog 9 pk14 .string := ⟨Tryd.underlying9, fun _ => trivial, fun a b h => by unfold pk14 at h; injection h⟩
theorem upd_block14 (w : World) (m : Nat) (o : Obj) : Upd m w (setBlock w m o) :=
  ⟨rfl, rfl, rfl, by simp [setBlock], fun k hk => by simp only [setBlock]; exact Array.getElem?_setIfInBounds_ne (fun e => hk e.symm)⟩
/-- A set of names in memory. -/
def MS (w : World) (b : Nat) (S : List Ms.T8) : Prop := ∃ f n es clock, Mp pk14 ev14 w b f n es clock ∧ ∀ k : ByteArray, (f k).isSome = S.contains k.toList
theorem MS.keep {w w' : World} {b : Nat} {S : List Ms.T8} (h : MS w b S) (hb : Below w.heap.size w w') : MS w' b S := by
  obtain ⟨f, n, es, clock, h1, h2⟩ := h
  exact ⟨f, n, es, clock, h1.other (hb.block b h1.lt), h2⟩
theorem MS.lt {w : World} {b : Nat} {S : List Ms.T8} (h : MS w b S) : b < w.heap.size := by
  obtain ⟨f, n, es, clock, h1, h2⟩ := h
  exact h1.lt
theorem MS.put {w : World} {b : Nat} {S : List Ms.T8} (h : MS w b S) (x : ByteArray) : ∃ w', (Instr.mapUpdate 65 (.map (some b)) (.string x) (.agg #[])).run Tryd.prog w = .ok () w' ∧ MS w' b (S ++ [x.toList]) ∧ Upd b w w' := by
  obtain ⟨f, n, es, clock, h1, h2⟩ := h
  obtain ⟨es', clock', hrun, hmp⟩ := h1.store ky14 Tryd.underlying65 x ()
  refine ⟨_, hrun, ⟨_, _, _, _, hmp, fun k => ?_⟩, upd_block14 w b _⟩
  unfold mput
  rw [Bool.eq_iff_iff]
  by_cases hk : k = x
  · subst hk
    simp
  · rw [if_neg hk, h2 k]
    have : k.toList ≠ x.toList := fun e => hk (by rw [Lib.toList_data, Lib.toList_data] at e; rw [← Lib.mk_data k, ← Lib.mk_data x, e])
    simp [this]
theorem MS.look {w : World} {b : Nat} {S : List Ms.T8} (h : MS w b S) (x : ByteArray) (r : Bool) (hr : S.contains x.toList = r) : (Instr.lookup 65 (.map (some b)) (.string x) true).run Tryd.prog w = .ok (.tuple #[.agg #[], .bool r]) w := by
  obtain ⟨f, n, es, clock, h1, h2⟩ := h
  have h3 := h2 x
  rw [hr] at h3
  have hz : ∀ W : World, (zeroValue 68).run Tryd.prog W = .ok (.agg #[]) W := fun W => by kernel_rfl
  cases hq : f x with
  | none =>
    rw [hq] at h3
    have h4 : r = false := h3.symm
    subst h4
    exact h1.look_no ky14 Tryd.underlying65 hz true hq
  | some u =>
    rw [hq] at h3
    have h4 : r = true := h3.symm
    subst h4
    exact h1.look_yes ky14 Tryd.underlying65 true hq

set_option maxHeartbeats 1000000 in
theorem csplit14 (s : ByteArray) (w : World) (hT : TB w) (hs : s.size ≤ 1048576) : Calls Tryd.prog 55 #[.string s, .string ⟨#[44]⟩] w fun e w' => ∃ ps : List ByteArray, e = .returned (.slice (some ⟨w.heap.size, 0, none⟩) ps.length ps.length) ∧ w' = w.alloc (.cells (ps.map Value.string).toArray 9) ∧ ps.map (·.data.toList) = Ms.pcs [] s.data.toList ∧ ps.length ≤ 1048577 ∧ ∀ p ∈ ps, p.size ≤ 1048576 := by
  obtain ⟨mm, hmm⟩ := hT.2
  have hle := Lib.countB_le ⟨#[44]⟩ (by decide) s.size s (Nat.le_refl _)
  have hlen := Lib.splitB_all ⟨#[44]⟩ (by decide) 0 _ s rfl
  have hd := Lib.splitB_data ⟨#[44]⟩ 0 (Lib.countB s ⟨#[44]⟩) s
  have hcnt : Lib.countB s ⟨#[44]⟩ = s.data.toList.count 44 := Lib.count_one _ _
  rw [Ms.splitK_pcs _ _ hcnt.symm] at hd
  refine (Tryd.strings_Split s ⟨#[44]⟩ mm w (by omega) hmm (by decide)).mono ?_
  rintro e w' ⟨rfl, rfl⟩
  refine ⟨_, by rw [hlen], rfl, hd, by rw [hlen]; omega, fun p hp => ?_⟩
  have h1 : p.data.toList ∈ Ms.pcs [] s.data.toList := by rw [← hd]; exact List.mem_map_of_mem hp
  have h2 := Ms.pcs_len s.data.toList [] _ h1
  rw [Lib.size_eq]
  rw [← Lib.size_eq] at h2
  simp at h2
  rw [Lib.size_eq] at h2
  have := Lib.size_eq s
  omega

set_option maxHeartbeats 4000000 in
set_option maxRecDepth 20000 in
theorem cnamed14 (v : Value) (l : List Fd) (w : World) (h : FW w v l) (hT : TB w) (hl : l.length ≤ 1048576) (hs : ∀ f ∈ l, f.n.size ≤ 1048576 ∧ f.v.size ≤ 1048576) :
    Calls Tryd.prog 40 #[v] w fun e w' => (∃ b, e = .returned (.map (some b)) ∧ w.heap.size ≤ b ∧ MS w' b (Ms.nms l)) ∧ Below w.heap.size w w' := by
  obtain ⟨ao, cap, hv⟩ := h.shape
  subst hv
  obtain ⟨n, hn⟩ : ∃ n, l.length = n := ⟨_, rfl⟩
  rw [hn] at h hl ⊢
  have H := hid' h
  have HN := hid' hn
  have HS := hid' hs
  have HTB := hid' hT
  clear h hn hs hT
  have HM0 : Hid (MS (w.alloc (.map #[] 0)) w.heap.size []) := hid' ⟨_, _, _, _, Mp.made w pk14 ev14, fun _ => rfl⟩
  have HB0 := hid' (bl_alloc w (.map #[] 0))
  have hmk : (Instr.makeMap 65 none).run Tryd.prog w = .ok (.map (some w.heap.size)) (w.alloc (.map #[] 0)) := rfl
  go_enter Tryd.func40, Tryd.ntmps40
  go_wp2
  obtain ⟨mb, hmb⟩ : ∃ mb, w.heap.size = mb := ⟨_, rfl⟩
  have HMB := hid' hmb
  rw [hmb] at HM0 ⊢
  clear hmb
  generalize w.alloc (.map #[] 0) = w0 at *
  go_loopw [11] (fun s11 wr => ∃ (k : Nat), s11 = .int .i64 (k : Int) ∧ k ≤ n ∧ Hid (MS wr mb (Ms.nms (l.take k))) ∧ Hid (Below w.heap.size w wr)) (fun s11 _ => n - (intOf s11).toNat)
  case atStart => exact ⟨0, rfl, Nat.zero_le _, HM0, HB0⟩
  case round =>
    obtain ⟨k, rfl, hk, HM, HB⟩ := hrel
    by_cases hlt : k < n
    · have hlt2 : (k : Int) < (n : Int) := by omega
      obtain ⟨p, hp⟩ : ∃ p, l[k]? = some p := ⟨_, List.getElem?_eq_getElem (by rw [HN.out]; exact hlt)⟩
      obtain ⟨a, hao, y0, y1⟩ := (H.out.keep HB.out).two k p hp
      subst hao
      have HPS := hid' (HS.out p (List.mem_of_getElem? hp))
      have HTK := hid' (Ms.nms_take hp)
      obtain ⟨sm, hsm⟩ : ∃ sm, (Ms.lo p.n == Ms.sConn) = sm := ⟨_, rfl⟩
      have HSM : Hid ((Tx.lower p.n.data.toList == Tx.lower (⟨#[99, 111, 110, 110, 101, 99, 116, 105, 111, 110]⟩ : ByteArray).data.toList) = sm) := hid' hsm
      have HH := hid' hsm
      have HX := hid' (fd_new wr p)
      have HB1 := hid' (below_two HB.out (bl_alloc wr (.cells #[.string p.n, .string p.v] 30)))
      have HM1 := hid' (HM.out.keep (bl_alloc wr (.cells #[.string p.n, .string p.v] 30)))
      clear hp hsm
      go_wp2_with fail
      obtain ⟨xb, hxb⟩ : ∃ xb, wr.heap.size = xb := ⟨_, rfl⟩
      rw [hxb] at HX ⊢
      clear hxb y0 y1 HB HM
      generalize wr.alloc (.cells #[.string p.n, .string p.v] 30) = w1 at *
      refine (csame14 p.n _ sm HSM.out w1 (by have := HPS.out.1; omega) (by decide)).mono ?_
      rintro e w2 ⟨rfl, hb2⟩
      have HB2 := hid' (below_two HB1.out hb2)
      have HX2 := hid' (HX.out.keep hb2)
      have HM2 := hid' (HM1.out.keep hb2)
      have x1 := HX2.out.cell 1 _ rfl
      clear hb2 HB1 HX HM1
      cases sm
      · have HQ : Hid (MS w2 mb (Ms.nms (l.take (k + 1)))) := hid' (by rw [HTK.out]; unfold Ms.nmK; rw [HH.out]; simpa using HM2.out)
        go_wp2
        go_roundw
        case rel => exact ⟨k + 1, by go_num, by omega, HQ, HB2⟩
        case measure => simp [intOf]; omega
      · have HQ : Hid (Ms.nms (l.take (k + 1)) = Ms.nms (l.take k) ++ (Ms.pcs [] (Ms.tx p.v)).map (fun t => Tx.lower (Tx.trim t))) := hid' (by rw [HTK.out]; unfold Ms.nmK; rw [HH.out]; rfl)
        go_wp2_with fail
        refine (csplit14 p.v w2 (HTB.out.keep HB2.out) HPS.out.2).mono ?_
        rintro e w3 ⟨ps, rfl, hw3, hps, hpl, hpz⟩
        obtain ⟨m, hm⟩ : ∃ m, ps.length = m := ⟨_, rfl⟩
        have hb3 : Below w2.heap.size w2 w3 := by rw [hw3]; exact bl_alloc w2 _
        have HB3 := hid' (below_two HB2.out hb3)
        have HA3 : Hid (Ar w3 w2.heap.size 9 (ps.map Value.string).toArray) := hid' (by rw [hw3]; exact heap_alloc_last w2 _)
        have HM3 := hid' (HM2.out.keep hb3)
        obtain ⟨sb, hsb⟩ : ∃ sb, w2.heap.size = sb := ⟨_, rfl⟩
        have HLB : Hid (mb < sb) := hid' (by rw [← hsb]; exact HM2.out.lt)
        rw [hsb] at HA3 ⊢
        rw [hm] at hpl ⊢
        have HPM := hid' hm
        have HPZ := hid' hpz
        have HQ2 : Hid (Ms.nms (l.take (k + 1)) = Ms.nms (l.take k) ++ ps.map (fun q => Tx.lower (Tx.trim q.data.toList))) := hid' (by
          have e1 : Ms.pcs [] (Ms.tx p.v) = ps.map (·.data.toList) := hps.symm
          rw [HQ.out, e1, List.map_map]
          rfl)
        clear hw3 hb3 hsb hm hps hpz x1
        go_wp2
        go_loopw [23] (fun s23 wi => ∃ (j : Nat), s23 = .int .i64 (j : Int) ∧ j ≤ m ∧ Hid (MS wi mb (Ms.nms (l.take k) ++ (ps.take j).map (fun q => Tx.lower (Tx.trim q.data.toList)))) ∧ Hid (Ar wi sb 9 (ps.map Value.string).toArray) ∧ Hid (Below w.heap.size w wi)) (fun s23 _ => m - (intOf s23).toNat)
        case atStart => exact ⟨0, rfl, Nat.zero_le _, hid' (by simpa using HM3.out), HA3, HB3⟩
        case round =>
          obtain ⟨j, rfl, hj, HMi, HAi, HBi⟩ := hrel
          by_cases hjt : j < m
          · have hjt2 : (j : Int) < (m : Int) := by omega
            obtain ⟨q, hq⟩ : ∃ q, ps[j]? = some q := ⟨_, List.getElem?_eq_getElem (by rw [HPM.out]; exact hjt)⟩
            have z0 : wr.cell? ⟨sb, j, none⟩ = some (.string q) := HAi.out.cell j _ (by simp [hq])
            have HQS := hid' (HPZ.out q (List.mem_of_getElem? hq))
            have HTJ : Hid ((ps.take (j + 1)).map (fun q => Tx.lower (Tx.trim q.data.toList)) = (ps.take j).map (fun q => Tx.lower (Tx.trim q.data.toList)) ++ [Tx.lower (Tx.trim q.data.toList)]) := hid' (by rw [List.take_add_one, hq]; simp)
            obtain ⟨y, hy⟩ : ∃ y : ByteArray, (⟨(Tx.trim q.data.toList).toArray⟩ : ByteArray) = y := ⟨_, rfl⟩
            obtain ⟨z, hz⟩ : ∃ z : ByteArray, (⟨(Tx.lower y.data.toList).toArray⟩ : ByteArray) = z := ⟨_, rfl⟩
            have HZ : Hid (z.toList = Tx.lower (Tx.trim q.data.toList)) := hid' (by rw [← hz, ba_list, ← hy])
            have HYS : Hid (y.size ≤ maxLen) := hid' (by
              have h1 := Tx.trim_le q.data.toList
              have h2 := HQS.out
              rw [Lib.size_eq] at h2 ⊢
              rw [← hy]
              unfold maxLen
              simp only
              omega)
            clear hq
            go_wp2_with fail
            refine (trim_any q wr (by have := HQS.out; unfold maxLen; omega)).mono ?_
            rw [hy]
            rintro e w5 ⟨rfl, hw5⟩
            subst w5
            go_wp2_with fail
            refine (lower_any y wr HYS.out).mono ?_
            rw [hz]
            rintro e w5 ⟨rfl, hb5⟩
            have HM5 := hid' (HMi.out.keep hb5)
            have HA5 := hid' (HAi.out.keep hb5)
            have HB5 := hid' (below_two HBi.out hb5)
            clear hb5 z0 hy hz
            obtain ⟨w6, hrun, hm6, hu6⟩ := HM5.out.put z
            have HM6 : Hid (MS w6 mb (Ms.nms (l.take k) ++ (ps.take (j + 1)).map (fun q => Tx.lower (Tx.trim q.data.toList)))) := hid' (by rw [HTJ.out, ← List.append_assoc, ← HZ.out]; exact hm6)
            have HA6 : Hid (Ar w6 sb 9 (ps.map Value.string).toArray) := hid' (by
              have h1 := HA5.out
              unfold Ar at h1 ⊢
              rw [hu6.block sb (by have := HLB.out; omega)]
              exact h1)
            have HB6 : Hid (Below w.heap.size w w6) := hid' (HB5.out.trans (hu6.below (Nat.le_of_eq HMB.out)))
            clear hm6 hu6
            go_wp2
            go_roundw
            case rel => exact ⟨j + 1, by go_num, by omega, HM6, HA6, HB6⟩
            case measure => simp [intOf]; omega
          · obtain rfl : j = m := by omega
            have hjt2 : ¬ (j : Int) < (j : Int) := by omega
            have HMF : Hid (MS wr mb (Ms.nms (l.take (k + 1)))) := hid' (by
              have := HMi.out
              rw [List.take_of_length_le (l := ps) (by rw [HPM.out]; exact Nat.le_refl _)] at this
              rw [HQ2.out]; exact this)
            clear hjt
            go_wp2
            go_roundw
            case rel => exact ⟨k + 1, by go_num, by omega, HMF, HBi⟩
            case measure => simp [intOf]; omega
    · obtain rfl : k = n := by omega
      have hlt2 : ¬ (k : Int) < (k : Int) := by omega
      have HTK : Hid (l.take k = l) := hid' (List.take_of_length_le (by rw [HN.out]; exact Nat.le_refl _))
      clear hlt
      go_wp2
      go_ret
      exact ⟨⟨mb, rfl, Nat.le_of_eq HMB.out, by have := HM.out; rwa [HTK.out] at this⟩, HB.out⟩

end Go.Proofs.YtkfekopenahmdaaDoor

namespace Go.Proofs.YtkfekopenahmdaaDoor
open Go.RowKit

namespace Ms
/-- What is passed on of what is no connection's own. -/
def psB (nm : List T8) (f : Fd) : Bool := !(lo f.n == sHost) && !(lo f.n == sTe) && (!nm.contains (lo f.n) || lo f.n == sLen)
theorem pass_strip (l : List Fd) : pass l = ((strip l).filter (psB (nms l))).map small := by
  unfold pass strip
  rw [List.filter_filter]
  congr 1
  apply List.filter_congr
  intro f _
  unfold passB psB
  cases bnd f.n <;> cases (lo f.n == sHost) <;> cases (lo f.n == sTe) <;> simp
theorem psB_take {l : List Fd} {k : Nat} {p : Fd} (nm : List T8) (h : l[k]? = some p) : ((l.take (k + 1)).filter (psB nm)).map small = ((l.take k).filter (psB nm)).map small ++ (if psB nm p then [small p] else []) := by
  rw [List.take_add_one, h]
  simp only [Option.toList_some, List.filter_append, List.map_append, List.filter_cons, List.filter_nil]
  cases psB nm p <;> rfl
end Ms
theorem own_map {w : World} {B : Nat} {e : TypeId} {s : Nat} {v : Value} {n : Nat} {xs : List Value} {b : Nat} {S : List Ms.T8} (h : w.ownsRow B e s v n xs) (hm : MS w b S) : ∀ k, v.ownBlock = some k → k ≠ b := by
  intro k hk e'
  subst e'
  obtain ⟨_, cs, h3⟩ := own_ty h k hk
  obtain ⟨f, n, es, clock, h1, _⟩ := hm
  rw [h1.hd] at h3
  cases h3
theorem MS.grown {w w' : World} {b : Nat} {S : List Ms.T8} {row : Option Nat} (h : MS w b S) (hg : w.grownBy w' row) (hn : ∀ k, row = some k → k ≠ b) : MS w' b S := by
  obtain ⟨f, n, es, clock, h1, h2⟩ := h
  exact ⟨f, n, es, clock, h1.other (hg.block b h1.lt (fun e => hn b e.symm rfl)), h2⟩

set_option maxHeartbeats 4000000 in
set_option maxRecDepth 20000 in
theorem cpass14 (v : Value) (l : List Fd) (w : World) (h : FW w v l) (hT : TB w) (hl : l.length ≤ 1048576) (hs : ∀ f ∈ l, f.n.size ≤ 1048576 ∧ f.v.size ≤ 1048576) :
    Calls Tryd.prog 26 #[v] w fun e w' => (∃ m ro rc, e = .returned (.slice ro m rc) ∧ (Ms.pass l).length = m ∧ w'.ownsRow w.heap.size 30 2 (.slice ro m rc) m (fC (Ms.pass l))) ∧ Below w.heap.size w w' := by
  obtain ⟨i0, hi0, hz0, hz1, hz2⟩ := minfo_parts infoF14
  have HI := hid' hi0
  have HZ0 := hid' hz0
  have HZ1 := hid' hz1
  have HZ2 := hid' hz2
  clear hi0 hz0 hz1 hz2
  have HS := hid' hs
  have HL := hid' hl
  obtain ⟨nm, hnm⟩ : ∃ nm, Ms.nms l = nm := ⟨_, rfl⟩
  have HNM := hid' hnm
  obtain ⟨ao, cap, hv⟩ := h.shape
  subst hv
  have H := hid' h
  have HNC := hid' (cnamed14 _ l w h hT hl hs)
  rw [hnm] at HNC
  clear h hT hs hnm hl
  go_enter Tryd.func26, Tryd.ntmps26
  go_wp2_with fail
  refine HNC.out.mono ?_
  rintro e w1 ⟨⟨mb, rfl, hmb, hms⟩, hb1⟩
  have HMB := hid' hmb
  have HM1 := hid' hms
  have HB1 := hid' hb1
  clear hmb hms hb1 HNC
  go_wp2_with fail
  refine (cstrip14 _ l w1 (H.out.keep HB1.out) (by have := HL.out; omega) (fun f hf => by have := (HS.out f hf).1; omega)).mono ?_
  rintro e w4 ⟨⟨m, ro, rc, rfl, hm, hown⟩, hb4⟩
  have HM := hid' hm
  have HMBD : Hid (m ≤ 1048576) := hid' (by rw [← hm]; exact Nat.le_trans (Ms.strip_le l) HL.out)
  have HF := hid' hown
  have HB4 := hid' (below_two HB1.out hb4)
  have HM4 := hid' (HM1.out.keep hb4)
  have hmb := HMBD.out
  clear hm hown hb4 HM1 HB1
  go_wp2
  go_loopw [4, 14] (fun s4 s14 wr => ∃ (k c : Nat) (qo : Option Addr) (qc : Nat), s14 = .int .i64 (k : Int) ∧ s4 = .slice qo c qc ∧ k ≤ m ∧ c ≤ k ∧ Hid (((((Ms.strip l).take k).filter (Ms.psB nm)).map Ms.small).length = c) ∧ Hid (wr.ownsRow w.heap.size 30 2 (.slice qo c qc) c (fC ((((Ms.strip l).take k).filter (Ms.psB nm)).map Ms.small))) ∧ Hid (NB (.slice qo c qc) (.slice ro m rc)) ∧ Hid (wr.ownsRow w1.heap.size 30 2 (.slice ro m rc) m (fC (Ms.strip l))) ∧ Hid (MS wr mb nm) ∧ Hid (Below w.heap.size w wr)) (fun _ s14 _ => m - (intOf s14).toNat)
  case atStart => exact ⟨0, 0, none, 0, rfl, rfl, Nat.zero_le _, Nat.le_refl _, hid' rfl, hid' (World.ownsRow_nil _ _ _ _), hid' (fun k hk => by simp [Value.ownBlock] at hk), HF, HM4, HB4⟩
  case round =>
    obtain ⟨k, c, qo, qc, rfl, rfl, hk, hck, HCN, HO, HNR, HFR, HMr, HB⟩ := hrel
    by_cases hlt : k < m
    · have hlt2 : (k : Int) < (m : Int) := by omega
      obtain ⟨p, hp⟩ : ∃ p, (Ms.strip l)[k]? = some p := ⟨_, List.getElem?_eq_getElem (by rw [HM.out]; exact hlt)⟩
      obtain ⟨a, hao, y0, y1⟩ := (FW.of_own (l := Ms.strip l) (by rw [HM.out]; exact HFR.out)).two k p hp
      subst hao
      have HRT := hid' (Ms.psB_take nm hp)
      have HPS := hid' (HS.out p (Ms.strip_mem (List.mem_of_getElem? hp)))
      have hba := bl_alloc wr (.cells #[.string p.n, .string p.v] 30)
      have HX := hid' (fd_new wr p)
      have HB1 := hid' (below_two HB.out hba)
      have HO1 := hid' (HO.out.alloc (.cells #[.string p.n, .string p.v] 30))
      have HF1 := hid' (HFR.out.alloc (.cells #[.string p.n, .string p.v] 30))
      have HM1 := hid' (HMr.out.keep hba)
      clear hp hba
      go_wp2_with fail
      obtain ⟨xb, hxb⟩ : ∃ xb, wr.heap.size = xb := ⟨_, rfl⟩
      have HXB : Hid (w.heap.size ≤ xb ∧ (∀ j, (Value.slice qo c qc).ownBlock = some j → j ≠ xb) ∧ (∀ j, (Value.slice (some a) m rc).ownBlock = some j → j ≠ xb) ∧ mb ≠ xb) := hid' ⟨by rw [← hxb]; exact HB.out.size, fun j hj => by have := own_lt HO.out j hj; omega, fun j hj => by have := own_lt HFR.out j hj; omega, by have := HMr.out.lt; omega⟩
      rw [hxb] at HX ⊢
      clear hxb
      generalize wr.alloc (.cells #[.string p.n, .string p.v] 30) = w2 at *
      clear y0 y1 HB HO HFR HMr
      refine (csmall14 p w2 (by have := HPS.out.1; omega)).mono ?_
      rintro e wq ⟨rfl, hbq⟩
      have HXq := hid' (HX.out.keep hbq)
      have HBq := hid' (below_two HB1.out hbq)
      have HOq := hid' (own_same HO1.out (fun j hj => hbq.block j (own_lt HO1.out j hj)))
      have HFq := hid' (own_same HF1.out (fun j hj => hbq.block j (own_lt HF1.out j hj)))
      have HMq := hid' (HM1.out.keep hbq)
      clear hbq HX HB1 HO1 HF1 HM1
      obtain ⟨q, hq⟩ : ∃ q, Ms.small p = q := ⟨_, rfl⟩
      have HLQ : Hid (Ms.lo p.n = q.n.toList) := hid' (by rw [← hq]; unfold Ms.small; rw [ba_list])
      rw [hq] at HRT ⊢
      clear hq
      go_wp2_with (refine wpl_store 30 _ _ rfl rfl xb #[.string q.n, .string q.v] (by kernel_rfl) (by kernel_rfl) _ _ HXq.out sizeF14 rfl (by simp [Value.oneCell']) ?_)
      intro w5 hA5 hU5
      have HX5 := hid' hA5
      have HB5 : Hid (Below w.heap.size w w5) := hid' (HBq.out.trans (hU5.below HXB.out.1))
      have HO5 := hid' (own_same HOq.out (fun j hj => hU5.block j (HXB.out.2.1 j hj)))
      have HF5 := hid' (own_same HFq.out (fun j hj => hU5.block j (HXB.out.2.2.1 j hj)))
      have HM5 : Hid (MS w5 mb nm) := hid' (by obtain ⟨f, n, es, clock, h1, h2⟩ := HMq.out; exact ⟨f, n, es, clock, h1.other (hU5.block mb HXB.out.2.2.2), h2⟩)
      obtain ⟨isn, hisn⟩ : ∃ isn, nm.contains q.n.toList = isn := ⟨_, rfl⟩
      have hlook := HM5.out.look q.n isn hisn
      have x0 := HX5.out.cell 0 _ rfl
      have x1 := HX5.out.cell 1 _ rfl
      clear hA5 hU5 HXq HBq HOq HFq HMq
      have hb6 := bl_alloc w5 (.cells #[] 68)
      have HX6 := hid' (HX5.out.keep hb6)
      have HB6 := hid' (below_two HB5.out hb6)
      have HO6 := hid' (HO5.out.alloc (.cells #[] 68))
      have HF6 := hid' (HF5.out.alloc (.cells #[] 68))
      have HM6 := hid' (HM5.out.keep hb6)
      clear hb6 HB5 HO5 HF5 HM5
      go_upto_region 8 with fail
      generalize w5.alloc (.cells #[] 68) = w6 at *
      have z0 := HX6.out.cell 0 _ rfl
      have z1 := HX6.out.cell 1 _ rfl
      have HISN := hid' hisn
      clear x0 x1 hlook hisn HX5
      cases isn
      · cases c2 : (q.n.toList == [104, 111, 115, 116])
        rotate_left
        · have d2 : (q.n.toList != [104, 111, 115, 116]) = false := by unfold bne; rw [c2]; rfl
          have HPF : Hid (Ms.psB nm p = false) := hid' (by unfold Ms.psB; rw [HLQ.out]; rw [show (q.n.toList == Ms.sHost) = true from c2]; rfl)
          have HRT2 : Hid (((((Ms.strip l).take (k + 1)).filter (Ms.psB nm)).map Ms.small) = (((Ms.strip l).take k).filter (Ms.psB nm)).map Ms.small) := hid' (by rw [HRT.out, HPF.out]; simp)
          go_wp2
          go_roundw
          case rel => exact ⟨k + 1, c, qo, qc, by go_num, rfl, by omega, by omega, hid' (by rw [HRT2.out]; exact HCN.out), hid' (by rw [HRT2.out]; exact HO6.out), HNR, HF6, HM6, HB6⟩
          case measure => simp [intOf]; omega
        have d2 : (q.n.toList != [104, 111, 115, 116]) = true := by unfold bne; rw [c2]; rfl
        cases c3 : (q.n.toList == [116, 101])
        rotate_left
        · have d3 : (q.n.toList != [116, 101]) = false := by unfold bne; rw [c3]; rfl
          have HPF : Hid (Ms.psB nm p = false) := hid' (by unfold Ms.psB; rw [HLQ.out]; rw [show (q.n.toList == Ms.sTe) = true from c3]; simp)
          have HRT2 : Hid (((((Ms.strip l).take (k + 1)).filter (Ms.psB nm)).map Ms.small) = (((Ms.strip l).take k).filter (Ms.psB nm)).map Ms.small) := hid' (by rw [HRT.out, HPF.out]; simp)
          go_wp2
          go_roundw
          case rel => exact ⟨k + 1, c, qo, qc, by go_num, rfl, by omega, by omega, hid' (by rw [HRT2.out]; exact HCN.out), hid' (by rw [HRT2.out]; exact HO6.out), HNR, HF6, HM6, HB6⟩
          case measure => simp [intOf]; omega
        have d3 : (q.n.toList != [116, 101]) = true := by unfold bne; rw [c3]; rfl
        have HPF : Hid (Ms.psB nm p = true) := hid' (by unfold Ms.psB; rw [HLQ.out]; rw [show (q.n.toList == Ms.sHost) = false from c2, show (q.n.toList == Ms.sTe) = false from c3, HISN.out]; rfl)
        have HRT2 : Hid (((((Ms.strip l).take (k + 1)).filter (Ms.psB nm)).map Ms.small) = (((Ms.strip l).take k).filter (Ms.psB nm)).map Ms.small ++ [q]) := hid' (by rw [HRT.out, HPF.out]; rfl)
        have HA : Hid ((w6.alloc (.cells #[.string q.n, .string q.v] 30)).ownsRow w.heap.size 30 2 (.slice qo c qc) c (fC ((((Ms.strip l).take k).filter (Ms.psB nm)).map Ms.small))) := hid' (HO6.out.alloc _)
        have HFA := hid' (HF6.out.alloc (.cells #[.string q.n, .string q.v] 30))
        have HMA := hid' (HM6.out.keep (bl_alloc w6 (.cells #[.string q.n, .string q.v] 30)))
        go_wp2_with (at_builtin; refine wpList_append_own_at _ rfl _ _ 22 rfl w.heap.size 30 i0 (.agg #[.string ⟨#[]⟩, .string ⟨#[]⟩]) 2 32 Tryd.underlying22 HI.out HZ0.out HZ1.out HZ2.out rfl (by decide) (.slice qo c qc) c (fC ((((Ms.strip l).take k).filter (Ms.psB nm)).map Ms.small)) rfl HA.out ⟨w6.heap.size, 0, none⟩ 1 1 [.string q.n, .string q.v] rfl rfl (two_new _ _ _ _) (by simp [Value.oneCell']) (by unfold maxLen; omega) (by omega) (by simp; have := HB6.out.size; omega) ?_; intro v3 w7 hown3 hgrow3 hx1 hx2; refine Hid.out ?_)
        refine hid' ?_
        have e : fC ((((Ms.strip l).take k).filter (Ms.psB nm)).map Ms.small) ++ [Value.string q.n, .string q.v] = fC ((((Ms.strip l).take (k + 1)).filter (Ms.psB nm)).map Ms.small) := by rw [HRT2.out, fC_append]; simp [fV, fC]
        rw [e] at hown3
        obtain ⟨v3o, v3c, hv3⟩ := own_shape hown3
        subst hv3
        have HO3 := hid' hown3
        have HB3 : Hid (Below w.heap.size w w7) := hid' ((HB6.out.alloc HB6.out.size _).grown hgrow3 (by simp; have := HB6.out.size; omega) (fun k hk => (HA.out.lt k hk).1))
        have HF3 := hid' (own_grown HFA.out hgrow3 (fun j hj e => HNR.out j e.symm hj))
        have HM3 := hid' (HMA.out.grown hgrow3 (own_map HA.out HMA.out))
        have HN3 : Hid (NB (.slice v3o (c + 1) v3c) (.slice (some a) m rc)) := hid' (HNR.out.at (own_lt HFA.out) (by first | exact hx1 | exact hx2))
        clear hown3 hgrow3 e hx1 hx2
        go_wp2
        go_roundw
        case rel => exact ⟨k + 1, c + 1, v3o, v3c, by go_num, rfl, by omega, by omega, hid' (by rw [HRT2.out, List.length_append, HCN.out]; rfl), HO3, HN3, HF3, HM3, HB3⟩
        case measure => simp [intOf]; omega
      · cases c1 : (q.n.toList == [99, 111, 110, 116, 101, 110, 116, 45, 108, 101, 110, 103, 116, 104])
        · have d1 : (q.n.toList != [99, 111, 110, 116, 101, 110, 116, 45, 108, 101, 110, 103, 116, 104]) = true := by unfold bne; rw [c1]; rfl
          have HPF : Hid (Ms.psB nm p = false) := hid' (by unfold Ms.psB; rw [HLQ.out]; rw [HISN.out, show (q.n.toList == Ms.sLen) = false from c1]; simp)
          have HRT2 : Hid (((((Ms.strip l).take (k + 1)).filter (Ms.psB nm)).map Ms.small) = (((Ms.strip l).take k).filter (Ms.psB nm)).map Ms.small) := hid' (by rw [HRT.out, HPF.out]; simp)
          go_wp2
          go_roundw
          case rel => exact ⟨k + 1, c, qo, qc, by go_num, rfl, by omega, by omega, hid' (by rw [HRT2.out]; exact HCN.out), hid' (by rw [HRT2.out]; exact HO6.out), HNR, HF6, HM6, HB6⟩
          case measure => simp [intOf]; omega
        · have d1 : (q.n.toList != [99, 111, 110, 116, 101, 110, 116, 45, 108, 101, 110, 103, 116, 104]) = false := by unfold bne; rw [c1]; rfl
          cases c2 : (q.n.toList == [104, 111, 115, 116])
          rotate_left
          · have d2 : (q.n.toList != [104, 111, 115, 116]) = false := by unfold bne; rw [c2]; rfl
            have HPF : Hid (Ms.psB nm p = false) := hid' (by unfold Ms.psB; rw [HLQ.out]; rw [show (q.n.toList == Ms.sHost) = true from c2]; rfl)
            have HRT2 : Hid (((((Ms.strip l).take (k + 1)).filter (Ms.psB nm)).map Ms.small) = (((Ms.strip l).take k).filter (Ms.psB nm)).map Ms.small) := hid' (by rw [HRT.out, HPF.out]; simp)
            go_wp2
            go_roundw
            case rel => exact ⟨k + 1, c, qo, qc, by go_num, rfl, by omega, by omega, hid' (by rw [HRT2.out]; exact HCN.out), hid' (by rw [HRT2.out]; exact HO6.out), HNR, HF6, HM6, HB6⟩
            case measure => simp [intOf]; omega
          have d2 : (q.n.toList != [104, 111, 115, 116]) = true := by unfold bne; rw [c2]; rfl
          cases c3 : (q.n.toList == [116, 101])
          rotate_left
          · have d3 : (q.n.toList != [116, 101]) = false := by unfold bne; rw [c3]; rfl
            have HPF : Hid (Ms.psB nm p = false) := hid' (by unfold Ms.psB; rw [HLQ.out]; rw [show (q.n.toList == Ms.sTe) = true from c3]; simp)
            have HRT2 : Hid (((((Ms.strip l).take (k + 1)).filter (Ms.psB nm)).map Ms.small) = (((Ms.strip l).take k).filter (Ms.psB nm)).map Ms.small) := hid' (by rw [HRT.out, HPF.out]; simp)
            go_wp2
            go_roundw
            case rel => exact ⟨k + 1, c, qo, qc, by go_num, rfl, by omega, by omega, hid' (by rw [HRT2.out]; exact HCN.out), hid' (by rw [HRT2.out]; exact HO6.out), HNR, HF6, HM6, HB6⟩
            case measure => simp [intOf]; omega
          have d3 : (q.n.toList != [116, 101]) = true := by unfold bne; rw [c3]; rfl
          have HPF : Hid (Ms.psB nm p = true) := hid' (by unfold Ms.psB; rw [HLQ.out]; rw [show (q.n.toList == Ms.sHost) = false from c2, show (q.n.toList == Ms.sTe) = false from c3, HISN.out, show (q.n.toList == Ms.sLen) = true from c1]; rfl)
          have HRT2 : Hid (((((Ms.strip l).take (k + 1)).filter (Ms.psB nm)).map Ms.small) = (((Ms.strip l).take k).filter (Ms.psB nm)).map Ms.small ++ [q]) := hid' (by rw [HRT.out, HPF.out]; rfl)
          have HA : Hid ((w6.alloc (.cells #[.string q.n, .string q.v] 30)).ownsRow w.heap.size 30 2 (.slice qo c qc) c (fC ((((Ms.strip l).take k).filter (Ms.psB nm)).map Ms.small))) := hid' (HO6.out.alloc _)
          have HFA := hid' (HF6.out.alloc (.cells #[.string q.n, .string q.v] 30))
          have HMA := hid' (HM6.out.keep (bl_alloc w6 (.cells #[.string q.n, .string q.v] 30)))
          go_wp2_with (at_builtin; refine wpList_append_own_at _ rfl _ _ 22 rfl w.heap.size 30 i0 (.agg #[.string ⟨#[]⟩, .string ⟨#[]⟩]) 2 32 Tryd.underlying22 HI.out HZ0.out HZ1.out HZ2.out rfl (by decide) (.slice qo c qc) c (fC ((((Ms.strip l).take k).filter (Ms.psB nm)).map Ms.small)) rfl HA.out ⟨w6.heap.size, 0, none⟩ 1 1 [.string q.n, .string q.v] rfl rfl (two_new _ _ _ _) (by simp [Value.oneCell']) (by unfold maxLen; omega) (by omega) (by simp; have := HB6.out.size; omega) ?_; intro v3 w7 hown3 hgrow3 hx1 hx2; refine Hid.out ?_)
          refine hid' ?_
          have e : fC ((((Ms.strip l).take k).filter (Ms.psB nm)).map Ms.small) ++ [Value.string q.n, .string q.v] = fC ((((Ms.strip l).take (k + 1)).filter (Ms.psB nm)).map Ms.small) := by rw [HRT2.out, fC_append]; simp [fV, fC]
          rw [e] at hown3
          obtain ⟨v3o, v3c, hv3⟩ := own_shape hown3
          subst hv3
          have HO3 := hid' hown3
          have HB3 : Hid (Below w.heap.size w w7) := hid' ((HB6.out.alloc HB6.out.size _).grown hgrow3 (by simp; have := HB6.out.size; omega) (fun k hk => (HA.out.lt k hk).1))
          have HF3 := hid' (own_grown HFA.out hgrow3 (fun j hj e => HNR.out j e.symm hj))
          have HM3 := hid' (HMA.out.grown hgrow3 (own_map HA.out HMA.out))
          have HN3 : Hid (NB (.slice v3o (c + 1) v3c) (.slice (some a) m rc)) := hid' (HNR.out.at (own_lt HFA.out) (by first | exact hx1 | exact hx2))
          clear hown3 hgrow3 e hx1 hx2
          go_wp2
          go_roundw
          case rel => exact ⟨k + 1, c + 1, v3o, v3c, by go_num, rfl, by omega, by omega, hid' (by rw [HRT2.out, List.length_append, HCN.out]; rfl), HO3, HN3, HF3, HM3, HB3⟩
          case measure => simp [intOf]; omega
    · obtain rfl : k = m := by omega
      have hlt2 : ¬ (k : Int) < (k : Int) := by omega
      have HT : Hid ((Ms.strip l).take k = Ms.strip l) := hid' (List.take_of_length_le (by rw [HM.out]; exact Nat.le_refl _))
      have HPP : Hid (Ms.pass l = (((Ms.strip l).take k).filter (Ms.psB nm)).map Ms.small) := hid' (by rw [Ms.pass_strip, HNM.out, HT.out])
      clear hlt
      go_wp2
      go_ret
      refine ⟨⟨c, qo, qc, rfl, ?_, ?_⟩, HB.out⟩
      · rw [HPP.out]; exact HCN.out
      · rw [HPP.out]; exact HO.out

end Go.Proofs.YtkfekopenahmdaaDoor
