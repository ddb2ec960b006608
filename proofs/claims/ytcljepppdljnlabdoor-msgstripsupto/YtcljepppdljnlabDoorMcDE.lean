/-
  Whole, Waits, Bare of both; the code's status: by their contracts.
  The code's List: by its contract.
-/
import Derived.Test.YtcljepppdljnlabDoorMcC
import Derived.Test.YtcljepppdljnlabDoorMsDI
namespace Go.Proofs.YtcljepppdljnlabDoor
open Go.RowKit

namespace Ms
def whole (o : Option (Option ByteArray)) (body : Int) : Int :=
  match o with
  | none => 142
  | some none => 0
  | some (some v) => if (Tx.num 10 v.data.toList).1 == body then 0 else 142
def waitB (f : Fd) : Bool := f.n.toList == [101, 120, 112, 101, 99, 116] && lo f.v == sCont
def waits (l : List Fd) : Bool := l.any waitB
def bare (m : ByteArray) (s : Int) : Bool := m.toList == [72, 69, 65, 68] || (decide (100 ≤ s) && decide (s ≤ 199)) || s == 204 || s == 304
def stat (s : Int) : Int := if s < 100 ∨ 999 < s then 500 else s
theorem waits_drop {l : List Fd} {i : Nat} {f : Fd} (h : l[i]? = some f) : waits (l.drop i) = (waitB f || waits (l.drop (i + 1))) := by
  obtain ⟨h1, h2⟩ := List.getElem?_eq_some_iff.1 h
  unfold waits
  rw [List.drop_eq_getElem_cons h1, h2, List.any_cons]
end Ms
theorem rq_cells (w : World) (c : Array Value) (T : TypeId) : Ar (w.alloc (.cells c T)) w.heap.size T c := heap_alloc_last w _

/-- A response's cells. -/
def rpC (s : Int) (fv : Value) (b : ByteArray) (tv : Value) : Array Value := #[.int .i64 s, fv, .string b, tv]

set_option maxHeartbeats 1000000 in
theorem cstat14 (s : Int) (fv : Value) (b : ByteArray) (tv : Value) (r : Int) (hr : Ms.stat s = r) (w : World) :
    Calls Tryd.prog 14 #[.agg (rpC s fv b tv)] w fun e w' => e = .returned (.int .i64 r) ∧ Below w.heap.size w w' := by
  have HR := hid' hr
  unfold Ms.stat at HR
  have HB := hid' (bl_alloc w (.cells (rpC s fv b tv) 26))
  have hA := rq_cells w (rpC s fv b tv) 26
  unfold rpC at *
  clear hr
  by_cases d1 : s < 100
  · have HF : Hid (r = 500) := hid' (by rw [← HR.out, if_pos (.inl d1)])
    go_enter Tryd.func14, Tryd.ntmps14
    go_wp2
    go_ret
    exact ⟨by rw [HF.out]; rfl, HB.out⟩
  by_cases d2 : 999 < s
  · have HF : Hid (r = 500) := hid' (by rw [← HR.out, if_pos (.inr d2)])
    go_enter Tryd.func14, Tryd.ntmps14
    go_wp2
    go_ret
    exact ⟨by rw [HF.out]; rfl, HB.out⟩
  have HF : Hid (r = s) := hid' (by rw [← HR.out, if_neg (by omega)])
  go_enter Tryd.func14, Tryd.ntmps14
  go_wp2
  go_ret
  exact ⟨by rw [HF.out]; rfl, HB.out⟩

end Go.Proofs.YtcljepppdljnlabDoor

namespace Go.Proofs.YtcljepppdljnlabDoor
open Go.RowKit

namespace Ms
def bStatus : ByteArray := ⟨#[58, 115, 116, 97, 116, 117, 115]⟩
def stF (s : Int) : Fd := ⟨bStatus, ⟨(Lib.itoa (stat s)).toArray⟩⟩
/-- A response's header list. -/
def lst (s : Int) (l : List Fd) : List Fd := stF s :: (strip l).map small
theorem stat_bd (s : Int) : 100 ≤ stat s ∧ stat s ≤ 999 := by unfold stat; split <;> omega
theorem strip_le (l : List Fd) : (strip l).length ≤ l.length := List.length_filter_le _ _
theorem strip_mem {l : List Fd} {f : Fd} (h : f ∈ strip l) : f ∈ l := (List.mem_filter.1 h).1
end Ms
theorem own_lit (w : World) (e : TypeId) (xs : List Value) (n s : Nat) (hl : xs.length = n * s) (hn : n ≤ maxLen) (B : Nat) (hB : B ≤ w.heap.size) : (w.alloc (.cells xs.toArray e)).ownsRow B e s (.slice (some ⟨w.heap.size, 0, none⟩) n n) n xs :=
  ⟨hl, .inr ⟨w.heap.size, n, xs.toArray, rfl, hB, heap_alloc_last w _, Nat.le_refl _, hn, by simpa using hl, by rw [← hl]; simp⟩⟩
/-- Two rows that lie apart. -/
def NB (v u : Value) : Prop := ∀ k, v.ownBlock = some k → u.ownBlock ≠ some k
theorem NB.at {w : World} {v v' u : Value} (h : NB v u) (hu : ∀ k, u.ownBlock = some k → k < w.heap.size) (hat : v'.ownBlock = v.ownBlock ∨ v'.ownBlock = some w.heap.size) : NB v' u := by
  intro k hk e
  rcases hat with h1 | h1
  · exact h k (h1 ▸ hk) e
  · rw [h1] at hk
    injection hk with hk
    have := hu k e
    omega
theorem map_take1 {l : List Fd} {k : Nat} {p : Fd} (h : l[k]? = some p) (g : Fd → Fd) : (l.take (k + 1)).map g = (l.take k).map g ++ [g p] := by
  rw [List.take_add_one, h]
  simp

set_option maxHeartbeats 4000000 in
set_option maxRecDepth 20000 in
theorem clist14 (s : Int) (fv : Value) (b : ByteArray) (tv : Value) (l : List Fd) (w : World) (h : FW w fv l) (hT : TB w) (hl : l.length ≤ 1048576) (hs : ∀ f ∈ l, f.n.size ≤ 140737488355328) :
    Calls Tryd.prog 6 #[.agg (rpC s fv b tv)] w fun e w' => (∃ m ro rc, e = .returned (.slice ro m rc) ∧ (Ms.lst s l).length = m ∧ w'.ownsRow w.heap.size 28 2 (.slice ro m rc) m (fC (Ms.lst s l))) ∧ Below w.heap.size w w' := by
  obtain ⟨i0, hi0, hz0, hz1, hz2⟩ := minfo_parts infoF14
  have HI := hid' hi0
  have HZ0 := hid' hz0
  have HZ1 := hid' hz1
  have HZ2 := hid' hz2
  clear hi0 hz0 hz1 hz2
  obtain ⟨st, hst⟩ : ∃ st, Ms.stat s = st := ⟨_, rfl⟩
  have HST := hid' hst
  have HSB : Hid (100 ≤ st ∧ st ≤ 999) := hid' (by rw [← hst]; exact Ms.stat_bd s)
  obtain ⟨y, hy⟩ : ∃ y : ByteArray, (⟨(Lib.itoa st).toArray⟩ : ByteArray) = y := ⟨_, rfl⟩
  have HSF : Hid (Ms.stF s = ⟨Ms.bStatus, y⟩) := hid' (by unfold Ms.stF; rw [hst, hy])
  have H := hid' h
  have HS := hid' hs
  have HTB := hid' hT
  have HB0 := hid' (bl_alloc w (.cells (rpC s fv b tv) 26))
  have hA := rq_cells w (rpC s fv b tv) 26
  obtain ⟨ao, cap, hv⟩ := h.shape
  subst hv
  unfold rpC at *
  clear hst h hs hT
  go_enter Tryd.func6, Tryd.ntmps6
  go_wp2_with fail
  have HA := hid' hA
  clear hA
  generalize w.alloc (.cells #[.int .i64 s, .slice ao l.length cap, .string b, tv] 26) = w0 at *
  refine (cstat14 s _ b tv st HST.out w0).mono ?_
  rintro e w1 ⟨rfl, hb1⟩
  have HB1 := hid' (below_two HB0.out hb1)
  have HA1 := hid' (HA.out.keep hb1)
  clear hb1 HA HB0
  go_wp2_with fail
  refine (decimal_any st (by have := HSB.out; omega) (by have := HSB.out; omega) w1 (HTB.out.keep HB1.out).1).mono ?_
  rw [hy]
  rintro e w2 ⟨rfl, hb2⟩
  have HB2 := hid' (below_two HB1.out hb2)
  have HA2 := hid' (HA1.out.keep hb2)
  clear hb2 HA1 HB1
  have HO3 := hid' (own_lit w2 28 (fC [⟨Ms.bStatus, y⟩]) 1 2 rfl (by decide) w.heap.size HB2.out.size)
  have HB3 := hid' (below_two HB2.out (bl_alloc w2 (.cells (fC [⟨Ms.bStatus, y⟩]).toArray 28)))
  have HA3 := hid' (HA2.out.keep (bl_alloc w2 (.cells (fC [⟨Ms.bStatus, y⟩]).toArray 28)))
  have c1 : w2.cell? ⟨w.heap.size, 1, none⟩ = some (.slice ao l.length cap) := HA2.out.cell 1 _ rfl
  have c3 : (w2.alloc (.cells (fC [⟨Ms.bStatus, y⟩]).toArray 28)).cell? ⟨w.heap.size, 1, none⟩ = some (.slice ao l.length cap) := HA3.out.cell 1 _ rfl
  clear HA2
  simp only [fC, fV, Ms.bStatus, List.flatMap_cons, List.flatMap_nil, List.append_nil] at HO3 HB3 HA3 c3
  go_wp2_with fail
  obtain ⟨lb, hlb⟩ : ∃ lb, w2.heap.size = lb := ⟨_, rfl⟩
  rw [hlb] at HO3 ⊢
  clear c1 c3 hlb
  generalize w2.alloc (.cells #[.string ⟨#[58, 115, 116, 97, 116, 117, 115]⟩, .string y] 28) = w3 at *
  refine (cstrip14 _ l w3 (H.out.keep HB3.out) hl HS.out).mono ?_
  rintro e w4 ⟨⟨m, ro, rc, rfl, hm, hown⟩, hb4⟩
  have HM := hid' hm
  have HMB : Hid (m ≤ 1048576) := hid' (by rw [← hm]; exact Nat.le_trans (Ms.strip_le l) hl)
  have HF := hid' hown
  have HNB : Hid (NB (.slice (some ⟨lb, 0, none⟩) 1 1) (.slice ro m rc)) := hid' (fun k hk e => by
    have h1 := own_lt HO3.out k hk
    have h2 := (own_ty hown k e).1
    omega)
  have HB4 := hid' (below_two HB3.out hb4)
  have HO4 := hid' (own_same HO3.out (fun j hj => hb4.block j (own_lt HO3.out j hj)))
  have hmb := HMB.out
  clear hm hown hb4 HO3 HB3 HA3 HB2
  go_wp2
  go_loopw [3, 15] (fun s3 s15 wr => ∃ (k : Nat) (qo : Option Addr) (qc : Nat), s15 = .int .i64 (k : Int) ∧ s3 = .slice qo (k + 1) qc ∧ k ≤ m ∧ Hid (wr.ownsRow w.heap.size 28 2 (.slice qo (k + 1) qc) (k + 1) (fC (⟨Ms.bStatus, y⟩ :: ((Ms.strip l).take k).map Ms.small))) ∧ Hid (NB (.slice qo (k + 1) qc) (.slice ro m rc)) ∧ Hid (wr.ownsRow w3.heap.size 28 2 (.slice ro m rc) m (fC (Ms.strip l))) ∧ Hid (Below w.heap.size w wr)) (fun _ s15 _ => m - (intOf s15).toNat)
  case atStart => exact ⟨0, _, _, rfl, rfl, Nat.zero_le _, HO4, HNB, HF, HB4⟩
  case round =>
    obtain ⟨k, qo, qc, rfl, rfl, hk, HO, HNR, HFR, HB⟩ := hrel
    by_cases hlt : k < m
    · have hlt2 : (k : Int) < (m : Int) := by omega
      obtain ⟨p, hp⟩ : ∃ p, (Ms.strip l)[k]? = some p := ⟨_, List.getElem?_eq_getElem (by rw [HM.out]; exact hlt)⟩
      obtain ⟨a, hao, y0, y1⟩ := (FW.of_own (l := Ms.strip l) (by rw [HM.out]; exact HFR.out)).two k p hp
      subst hao
      have HRT := hid' (map_take1 hp Ms.small)
      have HPS := hid' (HS.out p (Ms.strip_mem (List.mem_of_getElem? hp)))
      have HX := hid' (fd_new wr p)
      have HB1 := hid' (below_two HB.out (bl_alloc wr (.cells #[.string p.n, .string p.v] 28)))
      have HO1 := hid' (HO.out.alloc (.cells #[.string p.n, .string p.v] 28))
      have HF1 := hid' (HFR.out.alloc (.cells #[.string p.n, .string p.v] 28))
      clear hp
      go_wp2_with fail
      generalize wr.alloc (.cells #[.string p.n, .string p.v] 28) = w1 at *
      clear y0 y1 HB HO HFR HX
      refine (csmall14 p w1 HPS.out).mono ?_
      rintro e wq ⟨rfl, hbq⟩
      have HBq := hid' (below_two HB1.out hbq)
      have HOq := hid' (own_same HO1.out (fun j hj => hbq.block j (own_lt HO1.out j hj)))
      have HFq := hid' (own_same HF1.out (fun j hj => hbq.block j (own_lt HF1.out j hj)))
      clear hbq HB1 HO1 HF1
      obtain ⟨q, hq⟩ : ∃ q, Ms.small p = q := ⟨_, rfl⟩
      rw [hq] at HRT ⊢
      clear hq
      have HA : Hid ((wq.alloc (.cells #[.string q.n, .string q.v] 28)).ownsRow w.heap.size 28 2 (.slice qo (k + 1) qc) (k + 1) (fC (⟨Ms.bStatus, y⟩ :: ((Ms.strip l).take k).map Ms.small))) := hid' (HOq.out.alloc _)
      have HFA := hid' (HFq.out.alloc (.cells #[.string q.n, .string q.v] 28))
      go_wp2_with (at_builtin; refine wpList_append_own_at _ rfl _ _ 22 rfl w.heap.size 28 i0 (.agg #[.string ⟨#[]⟩, .string ⟨#[]⟩]) 2 32 Tryd.underlying22 HI.out HZ0.out HZ1.out HZ2.out rfl (by decide) (.slice qo (k + 1) qc) (k + 1) (fC (⟨Ms.bStatus, y⟩ :: ((Ms.strip l).take k).map Ms.small)) rfl HA.out ⟨wq.heap.size, 0, none⟩ 1 1 [.string q.n, .string q.v] rfl rfl (two_new _ _ _ _) (by simp [Value.oneCell']) (by unfold maxLen; omega) (by omega) (by simp; have := HBq.out.size; omega) ?_; intro v3 w5 hown3 hgrow3 hx1 hx2; refine Hid.out ?_)
      refine hid' ?_
      have e : fC (⟨Ms.bStatus, y⟩ :: ((Ms.strip l).take k).map Ms.small) ++ [Value.string q.n, .string q.v] = fC (⟨Ms.bStatus, y⟩ :: ((Ms.strip l).take (k + 1)).map Ms.small) := by rw [HRT.out, ← List.cons_append, fC_append]; simp [fV, fC]
      rw [e] at hown3
      obtain ⟨v3o, v3c, hv3⟩ := own_shape hown3
      subst hv3
      have HO3 := hid' hown3
      have HB3 : Hid (Below w.heap.size w w5) := hid' ((HBq.out.alloc HBq.out.size _).grown hgrow3 (by simp; have := HBq.out.size; omega) (fun k hk => (HA.out.lt k hk).1))
      have HF3 := hid' (own_grown HFA.out hgrow3 (fun j hj e => HNR.out j e.symm hj))
      have HN3 : Hid (NB (.slice v3o (k + 1 + 1) v3c) (.slice (some a) m rc)) := hid' (HNR.out.at (own_lt HFA.out) (by first | exact hx1 | exact hx2))
      clear hown3 hgrow3 e hx1 hx2
      go_wp2
      go_roundw
      case rel => exact ⟨k + 1, v3o, v3c, by go_num, rfl, by omega, HO3, HN3, HF3, HB3⟩
      case measure => simp [intOf]; omega
    · obtain rfl : k = m := by omega
      have hlt2 : ¬ (k : Int) < (k : Int) := by omega
      have HT : Hid ((Ms.strip l).take k = Ms.strip l) := hid' (List.take_of_length_le (by rw [HM.out]; exact Nat.le_refl _))
      have HLS : Hid (Ms.lst s l = ⟨Ms.bStatus, y⟩ :: ((Ms.strip l).take k).map Ms.small) := hid' (by unfold Ms.lst; rw [HT.out, HSF.out])
      clear hlt
      go_wp2
      go_ret
      refine ⟨⟨k + 1, qo, qc, rfl, ?_, ?_⟩, HB.out⟩
      · unfold Ms.lst
        rw [List.length_cons, List.length_map, HM.out]
      · rw [HLS.out]; exact HO.out

end Go.Proofs.YtcljepppdljnlabDoor
