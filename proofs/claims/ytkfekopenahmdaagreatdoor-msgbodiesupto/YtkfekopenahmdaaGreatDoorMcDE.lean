/-
  Whole, Waits, Bare of both; the code's status: by their contracts.
  The code's List: by its contract.
-/
import Derived.Test.YtkfekopenahmdaaGreatDoorMcC
import Derived.Test.YtkfekopenahmdaaGreatDoorMsDI
namespace Go.Proofs.YtkfekopenahmdaaGreatDoor
open Go.RowKit

namespace Ms
def whole (o : Option (Option ByteArray)) (body : Int) : Int :=
  match o with
  | none => 142
  | some none => 0
  | some (some v) => if (Tx.num 10 v.data.toList).1 == body then 0 else 142
def waitB (f : Fd) : Bool := f.n.toList == [101, 120, 112, 101, 99, 116] && lo f.v == sCont
def waits (l : List Fd) : Bool := l.any waitB
def bare (m : ByteArray) (s : Int) : Bool := m.toList == [72, 69, 65, 68] || (decide (100 ≤ s) && decide (s ≤ 199)) || s == 204 || s == 304
def stat (s : Int) : Int := if s < 100 ∨ 999 < s then 500 else s
theorem waits_drop {l : List Fd} {i : Nat} {f : Fd} (h : l[i]? = some f) : waits (l.drop i) = (waitB f || waits (l.drop (i + 1))) := by
  obtain ⟨h1, h2⟩ := List.getElem?_eq_some_iff.1 h
  unfold waits
  rw [List.drop_eq_getElem_cons h1, h2, List.any_cons]
end Ms
theorem rq_cells (w : World) (c : Array Value) (T : TypeId) : Ar (w.alloc (.cells c T)) w.heap.size T c := heap_alloc_last w _

set_option maxHeartbeats 2000000 in
set_option maxRecDepth 20000 in
theorem cwhole14 (m s a p b : ByteArray) (fv tv : Value) (l : List Fd) (body c : Int) (hc : Ms.whole (Ms.lenGo none l) body = c) (w : World) (h : FW w fv l) (hT : TB w) (hl : l.length ≤ 1048576) (hs : ∀ f ∈ l, f.n.size ≤ 140737488355328 ∧ f.v.size ≤ 140737488355328) :
    Calls Tryz.prog 13 #[.agg (rqC m s a p fv b tv), .int .i64 body] w fun e w' => e = .returned (.int .i64 c) ∧ Below w.heap.size w w' := by
  obtain ⟨o, ho⟩ : ∃ o, Ms.lenGo none l = o := ⟨_, rfl⟩
  rw [ho] at hc
  have hb := bl_alloc w (.cells (rqC m s a p fv b tv) 25)
  have HL := hid' (clen14 fv l o ho (w.alloc (.cells (rqC m s a p fv b tv) 25)) (h.keep hb) (hT.keep hb) hl hs)
  have HB0 := hid' hb
  have HC := hid' hc
  have hA := rq_cells w (rqC m s a p fv b tv) 25
  obtain ⟨ao, cap, hv⟩ := h.shape
  subst hv
  clear ho hc h hs hb hT
  unfold rqC at *
  go_enter Tryz.func13, Tryz.ntmps13
  go_wp2_with fail
  refine HL.out.mono ?_
  rintro e w1 ⟨he, hb1⟩
  have HB1 := hid' (below_two HB0.out hb1)
  subst he
  clear hb1 hA HL
  rcases o with _ | _ | v
  · have HF : Hid (c = 142) := hid' HC.out.symm
    simp only [Ms.lenV]
    go_wp2
    go_ret
    exact ⟨by rw [HF.out]; rfl, HB1.out⟩
  · have HF : Hid (c = 0) := hid' HC.out.symm
    simp only [Ms.lenV]
    go_wp2
    go_ret
    exact ⟨by rw [HF.out]; rfl, HB1.out⟩
  · simp only [Ms.lenV]
    obtain ⟨n, hn⟩ : ∃ n, (Tx.num 10 v.data.toList).1 = n := ⟨_, rfl⟩
    have HF : Hid (c = if n == body then 0 else 142) := hid' (by rw [← HC.out, ← hn]; rfl)
    rw [hn]
    cases c1 : (n == body)
    · have c3 : (n != body) = true := by unfold bne; rw [c1]; rfl
      have c4 : ¬ n = body := by intro e; rw [e] at c1; simp at c1
      rw [c1] at HF
      go_wp2
      go_ret
      exact ⟨by rw [HF.out]; rfl, HB1.out⟩
    · have c4 : n = body := beq_iff_eq.1 c1
      rw [c1] at HF
      clear hn c1
      subst c4
      have c3 : (n != n) = false := by simp
      go_wp2
      go_ret
      exact ⟨by rw [HF.out]; rfl, HB1.out⟩

set_option maxHeartbeats 2000000 in
set_option maxRecDepth 20000 in
theorem rwhole14 (NM : ∀ (s : ByteArray) (w : World), s.size ≤ maxLen → Calls Tryz.prog 59 #[.string s] w fun e w' => e = .returned (.tuple #[.int .i64 (Tx.num 10 s.data.toList).1, .int .i64 (Tx.num 10 s.data.toList).2]) ∧ Below w.heap.size w w') (m s a p b : ByteArray) (fv tv : Value) (l : List Fd) (body c : Int) (hc : Ms.whole (Ms.lenGo none l) body = c) (w : World) (h : FW w fv l)  (hl : l.length ≤ 1048576) (hs : ∀ f ∈ l, f.n.size ≤ 140737488355328 ∧ f.v.size ≤ 140737488355328) :
    Calls Tryz.prog 14 #[.agg (rqC m s a p fv b tv), .int .i64 body] w fun e w' => e = .returned (.int .i64 c) ∧ Below w.heap.size w w' := by
  obtain ⟨o, ho⟩ : ∃ o, Ms.lenGo none l = o := ⟨_, rfl⟩
  rw [ho] at hc
  have hb := bl_alloc w (.cells (rqC m s a p fv b tv) 25)
  have HL := hid' (rlen14 NM fv l o ho (w.alloc (.cells (rqC m s a p fv b tv) 25)) (h.keep hb)  hl hs)
  have HB0 := hid' hb
  have HC := hid' hc
  have hA := rq_cells w (rqC m s a p fv b tv) 25
  obtain ⟨ao, cap, hv⟩ := h.shape
  subst hv
  clear ho hc h hs hb NM
  unfold rqC at *
  go_enter Tryz.func14, Tryz.ntmps14
  go_wp2_with fail
  refine HL.out.mono ?_
  rintro e w1 ⟨he, hb1⟩
  have HB1 := hid' (below_two HB0.out hb1)
  subst he
  clear hb1 hA HL
  rcases o with _ | _ | v
  · have HF : Hid (c = 142) := hid' HC.out.symm
    simp only [Ms.lenV]
    go_wp2
    go_ret
    exact ⟨by rw [HF.out]; rfl, HB1.out⟩
  · have HF : Hid (c = 0) := hid' HC.out.symm
    simp only [Ms.lenV]
    go_wp2
    go_ret
    exact ⟨by rw [HF.out]; rfl, HB1.out⟩
  · simp only [Ms.lenV]
    obtain ⟨n, hn⟩ : ∃ n, (Tx.num 10 v.data.toList).1 = n := ⟨_, rfl⟩
    have HF : Hid (c = if n == body then 0 else 142) := hid' (by rw [← HC.out, ← hn]; rfl)
    rw [hn]
    cases c1 : (n == body)
    · have c3 : (n != body) = true := by unfold bne; rw [c1]; rfl
      have c4 : ¬ n = body := by intro e; rw [e] at c1; simp at c1
      rw [c1] at HF
      go_wp2
      go_ret
      exact ⟨by rw [HF.out]; rfl, HB1.out⟩
    · have c4 : n = body := beq_iff_eq.1 c1
      rw [c1] at HF
      clear hn c1
      subst c4
      have c3 : (n != n) = false := by simp
      go_wp2
      go_ret
      exact ⟨by rw [HF.out]; rfl, HB1.out⟩

set_option maxHeartbeats 2000000 in
set_option maxRecDepth 20000 in
theorem cwaits14 (m s a p b : ByteArray) (fv tv : Value) (l : List Fd) (r : Bool) (hr : Ms.waits l = r) (w : World) (h : FW w fv l) (hl : l.length ≤ 1048576) (hs : ∀ f ∈ l, f.n.size ≤ 140737488355328 ∧ f.v.size ≤ 140737488355328) :
    Calls Tryz.prog 15 #[.agg (rqC m s a p fv b tv)] w fun e w' => e = .returned (.bool r) ∧ Below w.heap.size w w' := by
  have hb := bl_alloc w (.cells (rqC m s a p fv b tv) 25)
  have hA := rq_cells w (rqC m s a p fv b tv) 25
  have H := hid' (h.keep hb)
  have HB0 := hid' hb
  obtain ⟨ao, cap, hv⟩ := h.shape
  subst hv
  obtain ⟨n, hn⟩ : ∃ n, l.length = n := ⟨_, rfl⟩
  rw [hn] at hl H HB0 ⊢
  rw [hn] at hA
  have HN := hid' hn
  have HS := hid' hs
  have HR := hid' hr
  have HA := hid' hA
  clear h hn hs hr hb
  unfold rqC at *
  go_enter Tryz.func15, Tryz.ntmps15
  go_wp2
  clear hA
  generalize w.alloc (.cells #[.string m, .string s, .string a, .string p, .slice ao n cap, .string b, tv] 25) = w0 at *
  go_loopw [8] (fun s8 wr => ∃ k : Nat, s8 = .int .i64 (k : Int) ∧ k ≤ n ∧ Hid (Ms.waits (l.drop k) = r) ∧ Hid (Below w0.heap.size w0 wr)) (fun s8 _ => n - (intOf s8).toNat)
  case atStart => exact ⟨0, rfl, Nat.zero_le _, HR, hid' (Below.refl _ _)⟩
  case round =>
    obtain ⟨k, rfl, hk, HI, HB⟩ := hrel
    have HBW : Hid (Below w.heap.size w wr) := hid' (below_two HB0.out HB.out)
    have g4 := (HA.out.keep HB.out).cell 4 _ rfl
    by_cases hlt : k < n
    · have hlt2 : (k : Int) < (n : Int) := by omega
      obtain ⟨q, hq⟩ : ∃ q, l[k]? = some q := ⟨_, List.getElem?_eq_getElem (by rw [HN.out]; exact hlt)⟩
      obtain ⟨ad, hao, y0, y1⟩ := (H.out.keep HB.out).two k q hq
      subst hao
      have hd := Ms.waits_drop hq
      rw [HI.out] at hd
      have HD := hid' hd
      have HPS := hid' (HS.out q (List.mem_of_getElem? hq))
      clear hq hd
      obtain ⟨t, ht⟩ : ∃ t, (Ms.lo q.v == Ms.sCont) = t := ⟨_, rfl⟩
      have HT : Hid ((Tx.lower q.v.data.toList == Tx.lower (⟨#[49, 48, 48, 45, 99, 111, 110, 116, 105, 110, 117, 101]⟩ : ByteArray).data.toList) = t) := hid' ht
      have HT2 := hid' ht
      have HB1 := hid' (below_two HB.out (bl_alloc wr (.cells #[.string q.n, .string q.v] 42)))
      have HBW1 := hid' (below_two HBW.out (bl_alloc wr (.cells #[.string q.n, .string q.v] 42)))
      clear ht
      cases c1 : (q.n.toList == [101, 120, 112, 101, 99, 116])
      · have HE : Hid (Ms.waits (l.drop (k + 1)) = r) := hid' (by rw [HD.out]; unfold Ms.waitB; rw [c1]; rfl)
        go_wp2
        go_roundw
        case rel => exact ⟨k + 1, by go_num, by omega, HE, HB1⟩
        case measure => simp [intOf]; omega
      · go_wp2_with fail
        refine (csame14 q.v _ t HT.out _ HPS.out.2 (by decide)).mono ?_
        rintro e w2 ⟨rfl, hb2⟩
        have HB2 := hid' (below_two HB1.out hb2)
        have HBW2 := hid' (below_two HBW1.out hb2)
        clear hb2
        cases t
        · have HE : Hid (Ms.waits (l.drop (k + 1)) = r) := hid' (by rw [HD.out]; unfold Ms.waitB; rw [c1, HT2.out]; rfl)
          go_wp2
          go_roundw
          case rel => exact ⟨k + 1, by go_num, by omega, HE, HB2⟩
          case measure => simp [intOf]; omega
        · have HE : Hid (r = true) := hid' (by rw [HD.out]; unfold Ms.waitB; rw [c1, HT2.out]; rfl)
          go_wp2
          go_ret
          exact ⟨by rw [HE.out]; rfl, HBW2.out⟩
    · obtain rfl : k = n := by omega
      have hlt2 : ¬ (k : Int) < (k : Int) := by omega
      have HE : Hid (r = false) := hid' (by rw [← HI.out, List.drop_of_length_le (by rw [HN.out]; exact Nat.le_refl _)]; rfl)
      clear hlt
      go_wp2
      go_ret
      exact ⟨by rw [HE.out]; rfl, HBW.out⟩

set_option maxHeartbeats 2000000 in
set_option maxRecDepth 20000 in
theorem rwaits14 (m s a p b : ByteArray) (fv tv : Value) (l : List Fd) (r : Bool) (hr : Ms.waits l = r) (w : World) (h : FW w fv l) (hl : l.length ≤ 1048576) (hs : ∀ f ∈ l, f.n.size ≤ 140737488355328 ∧ f.v.size ≤ 140737488355328) :
    Calls Tryz.prog 16 #[.agg (rqC m s a p fv b tv)] w fun e w' => e = .returned (.bool r) ∧ Below w.heap.size w w' := by
  have hb := bl_alloc w (.cells (rqC m s a p fv b tv) 25)
  have hA := rq_cells w (rqC m s a p fv b tv) 25
  have H := hid' (h.keep hb)
  have HB0 := hid' hb
  obtain ⟨ao, cap, hv⟩ := h.shape
  subst hv
  obtain ⟨n, hn⟩ : ∃ n, l.length = n := ⟨_, rfl⟩
  rw [hn] at hl H HB0 ⊢
  rw [hn] at hA
  have HN := hid' hn
  have HS := hid' hs
  have HR := hid' hr
  have HA := hid' hA
  clear h hn hs hr hb
  unfold rqC at *
  go_enter Tryz.func16, Tryz.ntmps16
  go_wp2
  clear hA
  generalize w.alloc (.cells #[.string m, .string s, .string a, .string p, .slice ao n cap, .string b, tv] 25) = w0 at *
  go_loopw [3] (fun s8 wr => ∃ k : Nat, s8 = .int .i64 (k : Int) ∧ k ≤ n ∧ Hid (Ms.waits (l.drop k) = r) ∧ Hid (Below w0.heap.size w0 wr)) (fun s8 _ => n - (intOf s8).toNat)
  case atStart => exact ⟨0, rfl, Nat.zero_le _, HR, hid' (Below.refl _ _)⟩
  case round =>
    obtain ⟨k, rfl, hk, HI, HB⟩ := hrel
    have HBW : Hid (Below w.heap.size w wr) := hid' (below_two HB0.out HB.out)
    have g4 := (HA.out.keep HB.out).cell 4 _ rfl
    by_cases hlt : k < n
    · have hlt2 : (k : Int) < (n : Int) := by omega
      obtain ⟨q, hq⟩ : ∃ q, l[k]? = some q := ⟨_, List.getElem?_eq_getElem (by rw [HN.out]; exact hlt)⟩
      obtain ⟨ad, hao, y0, y1⟩ := (H.out.keep HB.out).two k q hq
      subst hao
      have hd := Ms.waits_drop hq
      rw [HI.out] at hd
      have HD := hid' hd
      have HPS := hid' (HS.out q (List.mem_of_getElem? hq))
      clear hq hd
      obtain ⟨y, hy⟩ : ∃ y : ByteArray, (⟨(Tx.lower q.v.data.toList).toArray⟩ : ByteArray) = y := ⟨_, rfl⟩
      obtain ⟨t, ht⟩ : ∃ t, (y.toList == [49, 48, 48, 45, 99, 111, 110, 116, 105, 110, 117, 101]) = t := ⟨_, rfl⟩
      have HT2 : Hid ((Ms.lo q.v == Ms.sCont) = t) := hid' (by rw [← ht, ← hy, ba_list]; rfl)
      cases c1 : (q.n.toList == [101, 120, 112, 101, 99, 116])
      · have HE : Hid (Ms.waits (l.drop (k + 1)) = r) := hid' (by rw [HD.out]; unfold Ms.waitB; rw [c1]; rfl)
        clear ht
        go_wp2
        go_roundw
        case rel => exact ⟨k + 1, by go_num, by omega, HE, HB⟩
        case measure => simp [intOf]; omega
      · go_wp2_with fail
        refine (rLower_any q.v _ (by have := HPS.out.2; unfold maxLen; omega)).mono ?_
        rintro e w2 ⟨rfl, hb2⟩
        rw [hy]
        have HB2 := hid' (below_two HB.out hb2)
        have HBW2 := hid' (below_two HBW.out hb2)
        clear hb2
        cases t
        · have HE : Hid (Ms.waits (l.drop (k + 1)) = r) := hid' (by rw [HD.out]; unfold Ms.waitB; rw [c1, HT2.out]; rfl)
          go_wp2
          go_roundw
          case rel => exact ⟨k + 1, by go_num, by omega, HE, HB2⟩
          case measure => simp [intOf]; omega
        · have HE : Hid (r = true) := hid' (by rw [HD.out]; unfold Ms.waitB; rw [c1, HT2.out]; rfl)
          go_wp2
          go_ret
          exact ⟨by rw [HE.out]; rfl, HBW2.out⟩
    · obtain rfl : k = n := by omega
      have hlt2 : ¬ (k : Int) < (k : Int) := by omega
      have HE : Hid (r = false) := hid' (by rw [← HI.out, List.drop_of_length_le (by rw [HN.out]; exact Nat.le_refl _)]; rfl)
      clear hlt
      go_wp2
      go_ret
      exact ⟨by rw [HE.out]; rfl, HBW.out⟩

set_option maxHeartbeats 2000000 in
theorem cbare14 (m : ByteArray) (s : Int) (r : Bool) (hr : Ms.bare m s = r) (w : World) :
    Calls Tryz.prog 19 #[.string m, .int .i64 s] w fun e w' => e = .returned (.bool r) ∧ w' = w := by
  have HR := hid' hr
  unfold Ms.bare at HR
  clear hr
  cases c1 : (m.toList == [72, 69, 65, 68])
  rotate_left
  · have HF : Hid (r = true) := hid' (by rw [← HR.out, c1]; simp)
    by_cases d1 : 100 ≤ s
    · by_cases d2 : s < 200
      · have d3 : s ≤ 199 := by omega
        go_enter Tryz.func19, Tryz.ntmps19
        go_wp2
        go_ret
        exact ⟨by rw [HF.out]; rfl, rfl⟩
      · have d3 : ¬ s ≤ 199 := by omega
        go_enter Tryz.func19, Tryz.ntmps19
        go_wp2
        go_ret
        exact ⟨by rw [HF.out]; rfl, rfl⟩
    · go_enter Tryz.func19, Tryz.ntmps19
      go_wp2
      go_ret
      exact ⟨by rw [HF.out]; rfl, rfl⟩
  by_cases d1 : 100 ≤ s
  · by_cases d2 : s < 200
    · have d3 : s ≤ 199 := by omega
      have HF : Hid (r = true) := hid' (by rw [← HR.out, c1, decide_eq_true d1, decide_eq_true d3]; rfl)
      go_enter Tryz.func19, Tryz.ntmps19
      go_wp2
      go_ret
      exact ⟨by rw [HF.out]; rfl, rfl⟩
    · have d3 : ¬ s ≤ 199 := by omega
      cases c2 : (s == 204)
      · have HF : Hid (r = (s == 304)) := hid' (by rw [← HR.out, c1, decide_eq_true d1, decide_eq_false d3, c2]; rfl)
        go_enter Tryz.func19, Tryz.ntmps19
        go_wp2
        go_ret
        exact ⟨by rw [HF.out]; rfl, rfl⟩
      · have HF : Hid (r = true) := hid' (by rw [← HR.out, c2]; simp)
        go_enter Tryz.func19, Tryz.ntmps19
        go_wp2
        go_ret
        exact ⟨by rw [HF.out]; rfl, rfl⟩
  · have c2 : (s == 204) = false := beq_false_of_ne (by omega)
    have c3 : (s == 304) = false := beq_false_of_ne (by omega)
    have HF : Hid (r = false) := hid' (by rw [← HR.out, c1, decide_eq_false d1, c2, c3]; rfl)
    go_enter Tryz.func19, Tryz.ntmps19
    go_wp2
    go_ret
    exact ⟨by rw [HF.out]; rfl, rfl⟩

set_option maxHeartbeats 2000000 in
theorem rbare14 (m : ByteArray) (s : Int) (r : Bool) (hr : Ms.bare m s = r) (w : World) :
    Calls Tryz.prog 20 #[.string m, .int .i64 s] w fun e w' => e = .returned (.bool r) ∧ w' = w := by
  have HR := hid' hr
  unfold Ms.bare at HR
  clear hr
  cases c1 : (m.toList == [72, 69, 65, 68])
  rotate_left
  · have HF : Hid (r = true) := hid' (by rw [← HR.out, c1]; simp)
    by_cases d1 : 100 ≤ s
    · by_cases d2 : s < 200
      · have d3 : s ≤ 199 := by omega
        go_enter Tryz.func20, Tryz.ntmps20
        go_wp2
        go_ret
        exact ⟨by rw [HF.out]; rfl, rfl⟩
      · have d3 : ¬ s ≤ 199 := by omega
        go_enter Tryz.func20, Tryz.ntmps20
        go_wp2
        go_ret
        exact ⟨by rw [HF.out]; rfl, rfl⟩
    · go_enter Tryz.func20, Tryz.ntmps20
      go_wp2
      go_ret
      exact ⟨by rw [HF.out]; rfl, rfl⟩
  by_cases d1 : 100 ≤ s
  · by_cases d2 : s < 200
    · have d3 : s ≤ 199 := by omega
      have HF : Hid (r = true) := hid' (by rw [← HR.out, c1, decide_eq_true d1, decide_eq_true d3]; rfl)
      go_enter Tryz.func20, Tryz.ntmps20
      go_wp2
      go_ret
      exact ⟨by rw [HF.out]; rfl, rfl⟩
    · have d3 : ¬ s ≤ 199 := by omega
      cases c2 : (s == 204)
      · have HF : Hid (r = (s == 304)) := hid' (by rw [← HR.out, c1, decide_eq_true d1, decide_eq_false d3, c2]; rfl)
        go_enter Tryz.func20, Tryz.ntmps20
        go_wp2
        go_ret
        exact ⟨by rw [HF.out]; rfl, rfl⟩
      · have HF : Hid (r = true) := hid' (by rw [← HR.out, c2]; simp)
        go_enter Tryz.func20, Tryz.ntmps20
        go_wp2
        go_ret
        exact ⟨by rw [HF.out]; rfl, rfl⟩
  · have c2 : (s == 204) = false := beq_false_of_ne (by omega)
    have c3 : (s == 304) = false := beq_false_of_ne (by omega)
    have HF : Hid (r = false) := hid' (by rw [← HR.out, c1, decide_eq_false d1, c2, c3]; rfl)
    go_enter Tryz.func20, Tryz.ntmps20
    go_wp2
    go_ret
    exact ⟨by rw [HF.out]; rfl, rfl⟩

/-- A response's cells. -/
def rpC (s : Int) (fv : Value) (b : ByteArray) (tv : Value) : Array Value := #[.int .i64 s, fv, .string b, tv]

set_option maxHeartbeats 1000000 in
theorem cstat14 (s : Int) (fv : Value) (b : ByteArray) (tv : Value) (r : Int) (hr : Ms.stat s = r) (w : World) :
    Calls Tryz.prog 40 #[.agg (rpC s fv b tv)] w fun e w' => e = .returned (.int .i64 r) ∧ Below w.heap.size w w' := by
  have HR := hid' hr
  unfold Ms.stat at HR
  have HB := hid' (bl_alloc w (.cells (rpC s fv b tv) 35))
  have hA := rq_cells w (rpC s fv b tv) 35
  unfold rpC at *
  clear hr
  by_cases d1 : s < 100
  · have HF : Hid (r = 500) := hid' (by rw [← HR.out, if_pos (.inl d1)])
    go_enter Tryz.func40, Tryz.ntmps40
    go_wp2
    go_ret
    exact ⟨by rw [HF.out]; rfl, HB.out⟩
  by_cases d2 : 999 < s
  · have HF : Hid (r = 500) := hid' (by rw [← HR.out, if_pos (.inr d2)])
    go_enter Tryz.func40, Tryz.ntmps40
    go_wp2
    go_ret
    exact ⟨by rw [HF.out]; rfl, HB.out⟩
  have HF : Hid (r = s) := hid' (by rw [← HR.out, if_neg (by omega)])
  go_enter Tryz.func40, Tryz.ntmps40
  go_wp2
  go_ret
  exact ⟨by rw [HF.out]; rfl, HB.out⟩

end Go.Proofs.YtkfekopenahmdaaGreatDoor

namespace Go.Proofs.YtkfekopenahmdaaGreatDoor
open Go.RowKit

namespace Ms
def bStatus : ByteArray := ⟨#[58, 115, 116, 97, 116, 117, 115]⟩
def stF (s : Int) : Fd := ⟨bStatus, ⟨(Lib.itoa (stat s)).toArray⟩⟩
/-- A response's header list. -/
def lst (s : Int) (l : List Fd) : List Fd := stF s :: (strip l).map small
theorem stat_bd (s : Int) : 100 ≤ stat s ∧ stat s ≤ 999 := by unfold stat; split <;> omega
theorem strip_le (l : List Fd) : (strip l).length ≤ l.length := List.length_filter_le _ _
theorem strip_mem {l : List Fd} {f : Fd} (h : f ∈ strip l) : f ∈ l := (List.mem_filter.1 h).1
end Ms
theorem own_lit (w : World) (e : TypeId) (xs : List Value) (n s : Nat) (hl : xs.length = n * s) (hn : n ≤ maxLen) (B : Nat) (hB : B ≤ w.heap.size) : (w.alloc (.cells xs.toArray e)).ownsRow B e s (.slice (some ⟨w.heap.size, 0, none⟩) n n) n xs :=
  ⟨hl, .inr ⟨w.heap.size, n, xs.toArray, rfl, hB, heap_alloc_last w _, Nat.le_refl _, hn, by simpa using hl, by rw [← hl]; simp⟩⟩
/-- Two rows that lie apart. -/
def NB (v u : Value) : Prop := ∀ k, v.ownBlock = some k → u.ownBlock ≠ some k
theorem NB.at {w : World} {v v' u : Value} (h : NB v u) (hu : ∀ k, u.ownBlock = some k → k < w.heap.size) (hat : v'.ownBlock = v.ownBlock ∨ v'.ownBlock = some w.heap.size) : NB v' u := by
  intro k hk e
  rcases hat with h1 | h1
  · exact h k (h1 ▸ hk) e
  · rw [h1] at hk
    injection hk with hk
    have := hu k e
    omega
theorem map_take1 {l : List Fd} {k : Nat} {p : Fd} (h : l[k]? = some p) (g : Fd → Fd) : (l.take (k + 1)).map g = (l.take k).map g ++ [g p] := by
  rw [List.take_add_one, h]
  simp

set_option maxHeartbeats 4000000 in
set_option maxRecDepth 20000 in
theorem clist14 (s : Int) (fv : Value) (b : ByteArray) (tv : Value) (l : List Fd) (w : World) (h : FW w fv l) (hT : TB w) (hl : l.length ≤ 1048576) (hs : ∀ f ∈ l, f.n.size ≤ 140737488355328) :
    Calls Tryz.prog 12 #[.agg (rpC s fv b tv)] w fun e w' => (∃ m ro rc, e = .returned (.slice ro m rc) ∧ (Ms.lst s l).length = m ∧ w'.ownsRow w.heap.size 42 2 (.slice ro m rc) m (fC (Ms.lst s l))) ∧ Below w.heap.size w w' := by
  obtain ⟨i0, hi0, hz0, hz1, hz2⟩ := minfo_parts infoF14
  have HI := hid' hi0
  have HZ0 := hid' hz0
  have HZ1 := hid' hz1
  have HZ2 := hid' hz2
  clear hi0 hz0 hz1 hz2
  obtain ⟨st, hst⟩ : ∃ st, Ms.stat s = st := ⟨_, rfl⟩
  have HST := hid' hst
  have HSB : Hid (100 ≤ st ∧ st ≤ 999) := hid' (by rw [← hst]; exact Ms.stat_bd s)
  obtain ⟨y, hy⟩ : ∃ y : ByteArray, (⟨(Lib.itoa st).toArray⟩ : ByteArray) = y := ⟨_, rfl⟩
  have HSF : Hid (Ms.stF s = ⟨Ms.bStatus, y⟩) := hid' (by unfold Ms.stF; rw [hst, hy])
  have H := hid' h
  have HS := hid' hs
  have HTB := hid' hT
  have HB0 := hid' (bl_alloc w (.cells (rpC s fv b tv) 35))
  have hA := rq_cells w (rpC s fv b tv) 35
  obtain ⟨ao, cap, hv⟩ := h.shape
  subst hv
  unfold rpC at *
  clear hst h hs hT
  go_enter Tryz.func12, Tryz.ntmps12
  go_wp2_with fail
  have HA := hid' hA
  clear hA
  generalize w.alloc (.cells #[.int .i64 s, .slice ao l.length cap, .string b, tv] 35) = w0 at *
  refine (cstat14 s _ b tv st HST.out w0).mono ?_
  rintro e w1 ⟨rfl, hb1⟩
  have HB1 := hid' (below_two HB0.out hb1)
  have HA1 := hid' (HA.out.keep hb1)
  clear hb1 HA HB0
  go_wp2_with fail
  refine (decimal_any st (by have := HSB.out; omega) (by have := HSB.out; omega) w1 (HTB.out.keep HB1.out).1).mono ?_
  rw [hy]
  rintro e w2 ⟨rfl, hb2⟩
  have HB2 := hid' (below_two HB1.out hb2)
  have HA2 := hid' (HA1.out.keep hb2)
  clear hb2 HA1 HB1
  have HO3 := hid' (own_lit w2 42 (fC [⟨Ms.bStatus, y⟩]) 1 2 rfl (by decide) w.heap.size HB2.out.size)
  have HB3 := hid' (below_two HB2.out (bl_alloc w2 (.cells (fC [⟨Ms.bStatus, y⟩]).toArray 42)))
  have HA3 := hid' (HA2.out.keep (bl_alloc w2 (.cells (fC [⟨Ms.bStatus, y⟩]).toArray 42)))
  have c1 : w2.cell? ⟨w.heap.size, 1, none⟩ = some (.slice ao l.length cap) := HA2.out.cell 1 _ rfl
  have c3 : (w2.alloc (.cells (fC [⟨Ms.bStatus, y⟩]).toArray 42)).cell? ⟨w.heap.size, 1, none⟩ = some (.slice ao l.length cap) := HA3.out.cell 1 _ rfl
  clear HA2
  simp only [fC, fV, Ms.bStatus, List.flatMap_cons, List.flatMap_nil, List.append_nil] at HO3 HB3 HA3 c3
  go_wp2_with fail
  obtain ⟨lb, hlb⟩ : ∃ lb, w2.heap.size = lb := ⟨_, rfl⟩
  rw [hlb] at HO3 ⊢
  clear c1 c3 hlb
  generalize w2.alloc (.cells #[.string ⟨#[58, 115, 116, 97, 116, 117, 115]⟩, .string y] 42) = w3 at *
  refine (cstrip14 _ l w3 (H.out.keep HB3.out) hl HS.out).mono ?_
  rintro e w4 ⟨⟨m, ro, rc, rfl, hm, hown⟩, hb4⟩
  have HM := hid' hm
  have HMB : Hid (m ≤ 1048576) := hid' (by rw [← hm]; exact Nat.le_trans (Ms.strip_le l) hl)
  have HF := hid' hown
  have HNB : Hid (NB (.slice (some ⟨lb, 0, none⟩) 1 1) (.slice ro m rc)) := hid' (fun k hk e => by
    have h1 := own_lt HO3.out k hk
    have h2 := (own_ty hown k e).1
    omega)
  have HB4 := hid' (below_two HB3.out hb4)
  have HO4 := hid' (own_same HO3.out (fun j hj => hb4.block j (own_lt HO3.out j hj)))
  have hmb := HMB.out
  clear hm hown hb4 HO3 HB3 HA3 HB2
  go_wp2
  go_loopw [3, 15] (fun s3 s15 wr => ∃ (k : Nat) (qo : Option Addr) (qc : Nat), s15 = .int .i64 (k : Int) ∧ s3 = .slice qo (k + 1) qc ∧ k ≤ m ∧ Hid (wr.ownsRow w.heap.size 42 2 (.slice qo (k + 1) qc) (k + 1) (fC (⟨Ms.bStatus, y⟩ :: ((Ms.strip l).take k).map Ms.small))) ∧ Hid (NB (.slice qo (k + 1) qc) (.slice ro m rc)) ∧ Hid (wr.ownsRow w3.heap.size 42 2 (.slice ro m rc) m (fC (Ms.strip l))) ∧ Hid (Below w.heap.size w wr)) (fun _ s15 _ => m - (intOf s15).toNat)
  case atStart => exact ⟨0, _, _, rfl, rfl, Nat.zero_le _, HO4, HNB, HF, HB4⟩
  case round =>
    obtain ⟨k, qo, qc, rfl, rfl, hk, HO, HNR, HFR, HB⟩ := hrel
    by_cases hlt : k < m
    · have hlt2 : (k : Int) < (m : Int) := by omega
      obtain ⟨p, hp⟩ : ∃ p, (Ms.strip l)[k]? = some p := ⟨_, List.getElem?_eq_getElem (by rw [HM.out]; exact hlt)⟩
      obtain ⟨a, hao, y0, y1⟩ := (FW.of_own (l := Ms.strip l) (by rw [HM.out]; exact HFR.out)).two k p hp
      subst hao
      have HRT := hid' (map_take1 hp Ms.small)
      have HPS := hid' (HS.out p (Ms.strip_mem (List.mem_of_getElem? hp)))
      have HX := hid' (fd_new wr p)
      have HB1 := hid' (below_two HB.out (bl_alloc wr (.cells #[.string p.n, .string p.v] 42)))
      have HO1 := hid' (HO.out.alloc (.cells #[.string p.n, .string p.v] 42))
      have HF1 := hid' (HFR.out.alloc (.cells #[.string p.n, .string p.v] 42))
      clear hp
      go_wp2_with fail
      generalize wr.alloc (.cells #[.string p.n, .string p.v] 42) = w1 at *
      clear y0 y1 HB HO HFR HX
      refine (csmall14 p w1 HPS.out).mono ?_
      rintro e wq ⟨rfl, hbq⟩
      have HBq := hid' (below_two HB1.out hbq)
      have HOq := hid' (own_same HO1.out (fun j hj => hbq.block j (own_lt HO1.out j hj)))
      have HFq := hid' (own_same HF1.out (fun j hj => hbq.block j (own_lt HF1.out j hj)))
      clear hbq HB1 HO1 HF1
      obtain ⟨q, hq⟩ : ∃ q, Ms.small p = q := ⟨_, rfl⟩
      rw [hq] at HRT ⊢
      clear hq
      have HA : Hid ((wq.alloc (.cells #[.string q.n, .string q.v] 42)).ownsRow w.heap.size 42 2 (.slice qo (k + 1) qc) (k + 1) (fC (⟨Ms.bStatus, y⟩ :: ((Ms.strip l).take k).map Ms.small))) := hid' (HOq.out.alloc _)
      have HFA := hid' (HFq.out.alloc (.cells #[.string q.n, .string q.v] 42))
      go_wp2_with (at_builtin; refine wpList_append_own_at _ rfl _ _ 22 rfl w.heap.size 42 i0 (.agg #[.string ⟨#[]⟩, .string ⟨#[]⟩]) 2 32 Tryz.underlying22 HI.out HZ0.out HZ1.out HZ2.out rfl (by decide) (.slice qo (k + 1) qc) (k + 1) (fC (⟨Ms.bStatus, y⟩ :: ((Ms.strip l).take k).map Ms.small)) rfl HA.out ⟨wq.heap.size, 0, none⟩ 1 1 [.string q.n, .string q.v] rfl rfl (two_new _ _ _ _) (by simp [Value.oneCell']) (by unfold maxLen; omega) (by omega) (by simp; have := HBq.out.size; omega) ?_; intro v3 w5 hown3 hgrow3 hx1 hx2; refine Hid.out ?_)
      refine hid' ?_
      have e : fC (⟨Ms.bStatus, y⟩ :: ((Ms.strip l).take k).map Ms.small) ++ [Value.string q.n, .string q.v] = fC (⟨Ms.bStatus, y⟩ :: ((Ms.strip l).take (k + 1)).map Ms.small) := by rw [HRT.out, ← List.cons_append, fC_append]; simp [fV, fC]
      rw [e] at hown3
      obtain ⟨v3o, v3c, hv3⟩ := own_shape hown3
      subst hv3
      have HO3 := hid' hown3
      have HB3 : Hid (Below w.heap.size w w5) := hid' ((HBq.out.alloc HBq.out.size _).grown hgrow3 (by simp; have := HBq.out.size; omega) (fun k hk => (HA.out.lt k hk).1))
      have HF3 := hid' (own_grown HFA.out hgrow3 (fun j hj e => HNR.out j e.symm hj))
      have HN3 : Hid (NB (.slice v3o (k + 1 + 1) v3c) (.slice (some a) m rc)) := hid' (HNR.out.at (own_lt HFA.out) (by first | exact hx1 | exact hx2))
      clear hown3 hgrow3 e hx1 hx2
      go_wp2
      go_roundw
      case rel => exact ⟨k + 1, v3o, v3c, by go_num, rfl, by omega, HO3, HN3, HF3, HB3⟩
      case measure => simp [intOf]; omega
    · obtain rfl : k = m := by omega
      have hlt2 : ¬ (k : Int) < (k : Int) := by omega
      have HT : Hid ((Ms.strip l).take k = Ms.strip l) := hid' (List.take_of_length_le (by rw [HM.out]; exact Nat.le_refl _))
      have HLS : Hid (Ms.lst s l = ⟨Ms.bStatus, y⟩ :: ((Ms.strip l).take k).map Ms.small) := hid' (by unfold Ms.lst; rw [HT.out, HSF.out])
      clear hlt
      go_wp2
      go_ret
      refine ⟨⟨k + 1, qo, qc, rfl, ?_, ?_⟩, HB.out⟩
      · unfold Ms.lst
        rw [List.length_cons, List.length_map, HM.out]
      · rw [HLS.out]; exact HO.out

end Go.Proofs.YtkfekopenahmdaaGreatDoor
