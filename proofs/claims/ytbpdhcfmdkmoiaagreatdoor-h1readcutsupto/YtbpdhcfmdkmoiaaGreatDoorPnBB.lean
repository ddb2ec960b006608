/-
  The code's namedByConnection: by its contract.
  Whole, Waits, Bare of both; the code's status: by their contracts.
  The code's List: by its contract.
-/
import Derived.Shelf.Strings.Split
import Derived.Test.YtbpdhcfmdkmoiaaGreatDoorPnAK
import Derived.Test.YtbpdhcfmdkmoiaaGreatDoorPnBA
import Derived.Test.YtbpdhcfmdkmoiaaGreatDoorProg
import Derived.Test.YtbpdhcfmdkmoiaaGreatDoorPnAG
import Derived.Test.YtbpdhcfmdkmoiaaGreatDoorPnAL
namespace Go.Proofs.YtbpdhcfmdkmoiaaGreatDoor
open Go.RowKit
open Go.ChangeMaps (setBlock)

namespace Ms
theorem pcs_app (r : T8) : ∀ (a cur : T8), (∀ c ∈ a, c ≠ 44) → pcs cur (a ++ r) = pcs (cur ++ a) r
  | [], cur, _ => by simp
  | c :: a, cur, h => by
    rw [List.cons_append, pcs, if_neg (h c (by simp)), pcs_app r a (cur ++ [c]) (fun d hd => h d (by simp [hd]))]
    simp
theorem pcs_none (a : T8) (h : ∀ c ∈ a, c ≠ 44) : pcs [] a = [a] := by
  have := pcs_app [] a [] h
  simpa [pcs] using this
theorem splitK_pcs : ∀ (k : Nat) (s : T8), s.count 44 = k → Lib.splitK [44] 0 k s = pcs [] s
  | 0, s, h => by
    rw [Lib.splitK, pcs_none]
    intro c hc e
    subst e
    have := List.count_pos_iff.2 hc
    omega
  | k + 1, s, h => by
    rw [Lib.splitK, Lib.index_one]
    have hge := Lib.indexByte_ge s 44
    by_cases h1 : Lib.indexByte s 44 = -1
    · exfalso
      have h2 := Lib.indexByte_none h1
      have h3 : 0 < s.count 44 := by omega
      obtain ⟨i, hi⟩ := List.getElem?_of_mem (List.count_pos_iff.1 h3)
      exact h2 i hi
    · obtain ⟨o, ho⟩ : ∃ o : Nat, Lib.indexByte s 44 = (o : Int) := ⟨(Lib.indexByte s 44).toNat, by omega⟩
      obtain ⟨h2, h3⟩ := Lib.indexByte_some ho
      obtain ⟨hl, h4⟩ := List.getElem?_eq_some_iff.1 h2
      rw [if_neg (by simpa using h1), ho]
      have e : s = s.take o ++ 44 :: s.drop (o + 1) := by
        conv => lhs; rw [← List.take_append_drop o s, List.drop_eq_getElem_cons hl, h4]
      have h5 : ∀ c ∈ s.take o, c ≠ 44 := by
        intro c hc e
        subst e
        obtain ⟨i, hi⟩ := List.getElem?_of_mem hc
        have hio : i < o := by have := (List.getElem?_eq_some_iff.1 hi).1; rw [List.length_take] at this; omega
        rw [List.getElem?_take, if_pos hio] at hi
        exact h3 i hio hi
      have h6 : (s.drop (o + 1)).count 44 = k := by
        have h7 : (s.take o).count 44 = 0 := List.count_eq_zero.2 (fun hc => h5 44 hc rfl)
        rw [e, List.count_append, h7, List.count_cons] at h
        simp at h
        omega
      have h8 : pcs [] s = s.take o :: pcs [] (s.drop (o + 1)) := by
        conv => lhs; rw [e]
        rw [pcs_app _ _ _ h5, pcs, if_pos rfl]
        simp
      rw [h8]
      simp only [Int.toNat_natCast, Nat.add_zero, List.length_cons, List.length_nil, Nat.zero_add]
      rw [splitK_pcs k _ h6]
theorem pcs_len : ∀ (l cur : T8), ∀ x ∈ pcs cur l, x.length ≤ cur.length + l.length
  | [], cur, x, hx => by simp [pcs] at hx; subst hx; simp
  | c :: r, cur, x, hx => by
    rw [pcs] at hx
    split at hx
    · rcases List.mem_cons.1 hx with rfl | hx
      · simp
      · have := pcs_len r [] x hx
        simp at this ⊢
        omega
    · have := pcs_len r (cur ++ [c]) x hx
      simp at this ⊢
      omega
def nmK (p : Fd) : List T8 := if lo p.n == sConn then nm1 p else []
theorem nms_take {l : List Fd} {k : Nat} {p : Fd} (h : l[k]? = some p) : nms (l.take (k + 1)) = nms (l.take k) ++ nmK p := by
  unfold nms nmK
  rw [List.take_add_one, h, List.filter_append, List.flatMap_append]
  congr 1
  simp only [Option.toList_some, List.filter_cons, List.filter_nil]
  cases (lo p.n == sConn) <;> simp
end Ms
def pk14 (x : ByteArray) : Value := .string x
def ev14 (_ : Unit) : Value := .agg #[]
theorem ky14 : Ky Tryz.prog 9 pk14 .string := ⟨Tryz.underlying9, fun _ => trivial, fun a b h => by unfold pk14 at h; injection h⟩
theorem upd_block14 (w : World) (m : Nat) (o : Obj) : Upd m w (setBlock w m o) :=
  ⟨rfl, rfl, rfl, by simp [setBlock], fun k hk => by simp only [setBlock]; exact Array.getElem?_setIfInBounds_ne (fun e => hk e.symm)⟩
/-- A set of names in memory. -/
def MS (w : World) (b : Nat) (S : List Ms.T8) : Prop := ∃ f n es clock, Mp pk14 ev14 w b f n es clock ∧ ∀ k : ByteArray, (f k).isSome = S.contains k.toList
theorem MS.keep {w w' : World} {b : Nat} {S : List Ms.T8} (h : MS w b S) (hb : Below w.heap.size w w') : MS w' b S := by
  obtain ⟨f, n, es, clock, h1, h2⟩ := h
  exact ⟨f, n, es, clock, h1.other (hb.block b h1.lt), h2⟩
theorem MS.lt {w : World} {b : Nat} {S : List Ms.T8} (h : MS w b S) : b < w.heap.size := by
  obtain ⟨f, n, es, clock, h1, h2⟩ := h
  exact h1.lt
theorem MS.put {w : World} {b : Nat} {S : List Ms.T8} (h : MS w b S) (x : ByteArray) : ∃ w', (Instr.mapUpdate 117 (.map (some b)) (.string x) (.agg #[])).run Tryz.prog w = .ok () w' ∧ MS w' b (S ++ [x.toList]) ∧ Upd b w w' := by
  obtain ⟨f, n, es, clock, h1, h2⟩ := h
  obtain ⟨es', clock', hrun, hmp⟩ := h1.store ky14 Tryz.underlying117 x ()
  refine ⟨_, hrun, ⟨_, _, _, _, hmp, fun k => ?_⟩, upd_block14 w b _⟩
  unfold mput
  rw [Bool.eq_iff_iff]
  by_cases hk : k = x
  · subst hk
    simp
  · rw [if_neg hk, h2 k]
    have : k.toList ≠ x.toList := fun e => hk (by rw [Lib.toList_data, Lib.toList_data] at e; rw [← Lib.mk_data k, ← Lib.mk_data x, e])
    simp [this]
theorem MS.look {w : World} {b : Nat} {S : List Ms.T8} (h : MS w b S) (x : ByteArray) (r : Bool) (hr : S.contains x.toList = r) : (Instr.lookup 117 (.map (some b)) (.string x) true).run Tryz.prog w = .ok (.tuple #[.agg #[], .bool r]) w := by
  obtain ⟨f, n, es, clock, h1, h2⟩ := h
  have h3 := h2 x
  rw [hr] at h3
  have hz : ∀ W : World, (zeroValue 120).run Tryz.prog W = .ok (.agg #[]) W := fun W => by kernel_rfl
  cases hq : f x with
  | none =>
    rw [hq] at h3
    have h4 : r = false := h3.symm
    subst h4
    exact h1.look_no ky14 Tryz.underlying117 hz true hq
  | some u =>
    rw [hq] at h3
    have h4 : r = true := h3.symm
    subst h4
    exact h1.look_yes ky14 Tryz.underlying117 true hq

set_option maxHeartbeats 1000000 in
theorem csplit14 (s : ByteArray) (w : World) (hT : TB w) (hs : s.size ≤ 1048576) : Calls Tryz.prog 115 #[.string s, .string ⟨#[44]⟩] w fun e w' => ∃ ps : List ByteArray, e = .returned (.slice (some ⟨w.heap.size, 0, none⟩) ps.length ps.length) ∧ w' = w.alloc (.cells (ps.map Value.string).toArray 9) ∧ ps.map (·.data.toList) = Ms.pcs [] s.data.toList ∧ ps.length ≤ 1048577 ∧ ∀ p ∈ ps, p.size ≤ 1048576 := by
  obtain ⟨mm, hmm⟩ := hT.2
  have hle := Lib.countB_le ⟨#[44]⟩ (by decide) s.size s (Nat.le_refl _)
  have hlen := Lib.splitB_all ⟨#[44]⟩ (by decide) 0 _ s rfl
  have hd := Lib.splitB_data ⟨#[44]⟩ 0 (Lib.countB s ⟨#[44]⟩) s
  have hcnt : Lib.countB s ⟨#[44]⟩ = s.data.toList.count 44 := Lib.count_one _ _
  rw [Ms.splitK_pcs _ _ hcnt.symm] at hd
  refine (Tryz.strings_Split s ⟨#[44]⟩ mm w (by omega) hmm (by decide)).mono ?_
  rintro e w' ⟨rfl, rfl⟩
  refine ⟨_, by rw [hlen], rfl, hd, by rw [hlen]; omega, fun p hp => ?_⟩
  have h1 : p.data.toList ∈ Ms.pcs [] s.data.toList := by rw [← hd]; exact List.mem_map_of_mem hp
  have h2 := Ms.pcs_len s.data.toList [] _ h1
  rw [Lib.size_eq]
  rw [← Lib.size_eq] at h2
  simp at h2
  rw [Lib.size_eq] at h2
  have := Lib.size_eq s
  omega

set_option maxHeartbeats 4000000 in
set_option maxRecDepth 20000 in
theorem cnamed14 (v : Value) (l : List Fd) (w : World) (h : FW w v l) (hT : TB w) (hl : l.length ≤ 1048576) (hs : ∀ f ∈ l, f.n.size ≤ 1048576 ∧ f.v.size ≤ 1048576) :
    Calls Tryz.prog 96 #[v] w fun e w' => (∃ b, e = .returned (.map (some b)) ∧ w.heap.size ≤ b ∧ MS w' b (Ms.nms l)) ∧ Below w.heap.size w w' := by
  obtain ⟨ao, cap, hv⟩ := h.shape
  subst hv
  obtain ⟨n, hn⟩ : ∃ n, l.length = n := ⟨_, rfl⟩
  rw [hn] at h hl ⊢
  have H := hid' h
  have HN := hid' hn
  have HS := hid' hs
  have HTB := hid' hT
  clear h hn hs hT
  have HM0 : Hid (MS (w.alloc (.map #[] 0)) w.heap.size []) := hid' ⟨_, _, _, _, Mp.made w pk14 ev14, fun _ => rfl⟩
  have HB0 := hid' (bl_alloc w (.map #[] 0))
  have hmk : (Instr.makeMap 117 none).run Tryz.prog w = .ok (.map (some w.heap.size)) (w.alloc (.map #[] 0)) := rfl
  go_enter Tryz.func96, Tryz.ntmps96
  go_wp2
  obtain ⟨mb, hmb⟩ : ∃ mb, w.heap.size = mb := ⟨_, rfl⟩
  have HMB := hid' hmb
  rw [hmb] at HM0 ⊢
  clear hmb
  generalize w.alloc (.map #[] 0) = w0 at *
  go_loopw [11] (fun s11 wr => ∃ (k : Nat), s11 = .int .i64 (k : Int) ∧ k ≤ n ∧ Hid (MS wr mb (Ms.nms (l.take k))) ∧ Hid (Below w.heap.size w wr)) (fun s11 _ => n - (intOf s11).toNat)
  case atStart => exact ⟨0, rfl, Nat.zero_le _, HM0, HB0⟩
  case round =>
    obtain ⟨k, rfl, hk, HM, HB⟩ := hrel
    by_cases hlt : k < n
    · have hlt2 : (k : Int) < (n : Int) := by omega
      obtain ⟨p, hp⟩ : ∃ p, l[k]? = some p := ⟨_, List.getElem?_eq_getElem (by rw [HN.out]; exact hlt)⟩
      obtain ⟨a, hao, y0, y1⟩ := (H.out.keep HB.out).two k p hp
      subst hao
      have HPS := hid' (HS.out p (List.mem_of_getElem? hp))
      have HTK := hid' (Ms.nms_take hp)
      obtain ⟨sm, hsm⟩ : ∃ sm, (Ms.lo p.n == Ms.sConn) = sm := ⟨_, rfl⟩
      have HSM : Hid ((Tx.lower p.n.data.toList == Tx.lower (⟨#[99, 111, 110, 110, 101, 99, 116, 105, 111, 110]⟩ : ByteArray).data.toList) = sm) := hid' hsm
      have HH := hid' hsm
      have HX := hid' (fd_new wr p)
      have HB1 := hid' (below_two HB.out (bl_alloc wr (.cells #[.string p.n, .string p.v] 52)))
      have HM1 := hid' (HM.out.keep (bl_alloc wr (.cells #[.string p.n, .string p.v] 52)))
      clear hp hsm
      go_wp2_with fail
      obtain ⟨xb, hxb⟩ : ∃ xb, wr.heap.size = xb := ⟨_, rfl⟩
      rw [hxb] at HX ⊢
      clear hxb y0 y1 HB HM
      generalize wr.alloc (.cells #[.string p.n, .string p.v] 52) = w1 at *
      refine (csame14 p.n _ sm HSM.out w1 (by have := HPS.out.1; omega) (by decide)).mono ?_
      rintro e w2 ⟨rfl, hb2⟩
      have HB2 := hid' (below_two HB1.out hb2)
      have HX2 := hid' (HX.out.keep hb2)
      have HM2 := hid' (HM1.out.keep hb2)
      have x1 := HX2.out.cell 1 _ rfl
      clear hb2 HB1 HX HM1
      cases sm
      · have HQ : Hid (MS w2 mb (Ms.nms (l.take (k + 1)))) := hid' (by rw [HTK.out]; unfold Ms.nmK; rw [HH.out]; simpa using HM2.out)
        go_wp2
        go_roundw
        case rel => exact ⟨k + 1, by go_num, by omega, HQ, HB2⟩
        case measure => simp [intOf]; omega
      · have HQ : Hid (Ms.nms (l.take (k + 1)) = Ms.nms (l.take k) ++ (Ms.pcs [] (Ms.tx p.v)).map (fun t => Tx.lower (Tx.trim t))) := hid' (by rw [HTK.out]; unfold Ms.nmK; rw [HH.out]; rfl)
        go_wp2_with fail
        refine (csplit14 p.v w2 (HTB.out.keep HB2.out) HPS.out.2).mono ?_
        rintro e w3 ⟨ps, rfl, hw3, hps, hpl, hpz⟩
        obtain ⟨m, hm⟩ : ∃ m, ps.length = m := ⟨_, rfl⟩
        have hb3 : Below w2.heap.size w2 w3 := by rw [hw3]; exact bl_alloc w2 _
        have HB3 := hid' (below_two HB2.out hb3)
        have HA3 : Hid (Ar w3 w2.heap.size 9 (ps.map Value.string).toArray) := hid' (by rw [hw3]; exact heap_alloc_last w2 _)
        have HM3 := hid' (HM2.out.keep hb3)
        obtain ⟨sb, hsb⟩ : ∃ sb, w2.heap.size = sb := ⟨_, rfl⟩
        have HLB : Hid (mb < sb) := hid' (by rw [← hsb]; exact HM2.out.lt)
        rw [hsb] at HA3 ⊢
        rw [hm] at hpl ⊢
        have HPM := hid' hm
        have HPZ := hid' hpz
        have HQ2 : Hid (Ms.nms (l.take (k + 1)) = Ms.nms (l.take k) ++ ps.map (fun q => Tx.lower (Tx.trim q.data.toList))) := hid' (by
          have e1 : Ms.pcs [] (Ms.tx p.v) = ps.map (·.data.toList) := hps.symm
          rw [HQ.out, e1, List.map_map]
          rfl)
        clear hw3 hb3 hsb hm hps hpz x1
        go_wp2
        go_loopw [23] (fun s23 wi => ∃ (j : Nat), s23 = .int .i64 (j : Int) ∧ j ≤ m ∧ Hid (MS wi mb (Ms.nms (l.take k) ++ (ps.take j).map (fun q => Tx.lower (Tx.trim q.data.toList)))) ∧ Hid (Ar wi sb 9 (ps.map Value.string).toArray) ∧ Hid (Below w.heap.size w wi)) (fun s23 _ => m - (intOf s23).toNat)
        case atStart => exact ⟨0, rfl, Nat.zero_le _, hid' (by simpa using HM3.out), HA3, HB3⟩
        case round =>
          obtain ⟨j, rfl, hj, HMi, HAi, HBi⟩ := hrel
          by_cases hjt : j < m
          · have hjt2 : (j : Int) < (m : Int) := by omega
            obtain ⟨q, hq⟩ : ∃ q, ps[j]? = some q := ⟨_, List.getElem?_eq_getElem (by rw [HPM.out]; exact hjt)⟩
            have z0 : wr.cell? ⟨sb, j, none⟩ = some (.string q) := HAi.out.cell j _ (by simp [hq])
            have HQS := hid' (HPZ.out q (List.mem_of_getElem? hq))
            have HTJ : Hid ((ps.take (j + 1)).map (fun q => Tx.lower (Tx.trim q.data.toList)) = (ps.take j).map (fun q => Tx.lower (Tx.trim q.data.toList)) ++ [Tx.lower (Tx.trim q.data.toList)]) := hid' (by rw [List.take_add_one, hq]; simp)
            obtain ⟨y, hy⟩ : ∃ y : ByteArray, (⟨(Tx.trim q.data.toList).toArray⟩ : ByteArray) = y := ⟨_, rfl⟩
            obtain ⟨z, hz⟩ : ∃ z : ByteArray, (⟨(Tx.lower y.data.toList).toArray⟩ : ByteArray) = z := ⟨_, rfl⟩
            have HZ : Hid (z.toList = Tx.lower (Tx.trim q.data.toList)) := hid' (by rw [← hz, ba_list, ← hy])
            have HYS : Hid (y.size ≤ maxLen) := hid' (by
              have h1 := Tx.trim_le q.data.toList
              have h2 := HQS.out
              rw [Lib.size_eq] at h2 ⊢
              rw [← hy]
              unfold maxLen
              simp only
              omega)
            clear hq
            go_wp2_with fail
            refine (trim_any q wr (by have := HQS.out; unfold maxLen; omega)).mono ?_
            rw [hy]
            rintro e w5 ⟨rfl, hw5⟩
            subst w5
            go_wp2_with fail
            refine (lower_any y wr HYS.out).mono ?_
            rw [hz]
            rintro e w5 ⟨rfl, hb5⟩
            have HM5 := hid' (HMi.out.keep hb5)
            have HA5 := hid' (HAi.out.keep hb5)
            have HB5 := hid' (below_two HBi.out hb5)
            clear hb5 z0 hy hz
            obtain ⟨w6, hrun, hm6, hu6⟩ := HM5.out.put z
            have HM6 : Hid (MS w6 mb (Ms.nms (l.take k) ++ (ps.take (j + 1)).map (fun q => Tx.lower (Tx.trim q.data.toList)))) := hid' (by rw [HTJ.out, ← List.append_assoc, ← HZ.out]; exact hm6)
            have HA6 : Hid (Ar w6 sb 9 (ps.map Value.string).toArray) := hid' (by
              have h1 := HA5.out
              unfold Ar at h1 ⊢
              rw [hu6.block sb (by have := HLB.out; omega)]
              exact h1)
            have HB6 : Hid (Below w.heap.size w w6) := hid' (HB5.out.trans (hu6.below (Nat.le_of_eq HMB.out)))
            clear hm6 hu6
            go_wp2
            go_roundw
            case rel => exact ⟨j + 1, by go_num, by omega, HM6, HA6, HB6⟩
            case measure => simp [intOf]; omega
          · obtain rfl : j = m := by omega
            have hjt2 : ¬ (j : Int) < (j : Int) := by omega
            have HMF : Hid (MS wr mb (Ms.nms (l.take (k + 1)))) := hid' (by
              have := HMi.out
              rw [List.take_of_length_le (l := ps) (by rw [HPM.out]; exact Nat.le_refl _)] at this
              rw [HQ2.out]; exact this)
            clear hjt
            go_wp2
            go_roundw
            case rel => exact ⟨k + 1, by go_num, by omega, HMF, HBi⟩
            case measure => simp [intOf]; omega
    · obtain rfl : k = n := by omega
      have hlt2 : ¬ (k : Int) < (k : Int) := by omega
      have HTK : Hid (l.take k = l) := hid' (List.take_of_length_le (by rw [HN.out]; exact Nat.le_refl _))
      clear hlt
      go_wp2
      go_ret
      exact ⟨⟨mb, rfl, Nat.le_of_eq HMB.out, by have := HM.out; rwa [HTK.out] at this⟩, HB.out⟩

end Go.Proofs.YtbpdhcfmdkmoiaaGreatDoor

namespace Go.Proofs.YtbpdhcfmdkmoiaaGreatDoor
open Go.RowKit

namespace Ms
def whole (o : Option (Option ByteArray)) (body : Int) : Int :=
  match o with
  | none => 142
  | some none => 0
  | some (some v) => if (Tx.num 10 v.data.toList).1 == body then 0 else 142
def stat (s : Int) : Int := if s < 100 ∨ 999 < s then 500 else s
end Ms
theorem rq_cells (w : World) (c : Array Value) (T : TypeId) : Ar (w.alloc (.cells c T)) w.heap.size T c := heap_alloc_last w _

end Go.Proofs.YtbpdhcfmdkmoiaaGreatDoor

namespace Go.Proofs.YtbpdhcfmdkmoiaaGreatDoor
open Go.RowKit

namespace Ms
theorem strip_le (l : List Fd) : (strip l).length ≤ l.length := List.length_filter_le _ _
theorem strip_mem {l : List Fd} {f : Fd} (h : f ∈ strip l) : f ∈ l := (List.mem_filter.1 h).1
end Ms
/-- Two rows that lie apart. -/
def NB (v u : Value) : Prop := ∀ k, v.ownBlock = some k → u.ownBlock ≠ some k
theorem NB.at {w : World} {v v' u : Value} (h : NB v u) (hu : ∀ k, u.ownBlock = some k → k < w.heap.size) (hat : v'.ownBlock = v.ownBlock ∨ v'.ownBlock = some w.heap.size) : NB v' u := by
  intro k hk e
  rcases hat with h1 | h1
  · exact h k (h1 ▸ hk) e
  · rw [h1] at hk
    injection hk with hk
    have := hu k e
    omega

end Go.Proofs.YtbpdhcfmdkmoiaaGreatDoor
