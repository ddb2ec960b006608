/-
  The document's Shape: by its contract.
  The document's part where the text stands in braces.
  The document's part: by its contract.
  The document's finer: by its contract.
  The document's fits: by its contract.
-/
import Derived.Test.YtfdjimjiikeciaaGreatDoorRtA
import Derived.Deep.RegionWith
import Derived.Deep.RegionHeld3
import Derived.Test.YtfdjimjiikeciaaGreatDoorRtPl18
import Derived.Deep.QuietTactic
namespace Go.Proofs.YtfdjimjiikeciaaGreatDoor
open Go.RowKit

namespace Rt
theorem shape_len : ∀ {a b : List Prt}, shape a b = true → a.length = b.length := fun h => by
  have := congrArg List.length (shape_kinds h)
  simpa [kinds] using this
theorem shape_at : ∀ {a b : List Prt} {i : Nat} {p q : Prt}, a[i]? = some p → b[i]? = some q → alike p q = false → shape a b = false := by
  intro a
  induction a with
  | nil => intro b i p q h; simp at h
  | cons c x ih =>
    intro b i p q ha hb hq
    cases b with
    | nil => rfl
    | cons d y =>
      rw [shape]
      cases i with
      | zero =>
        simp at ha hb
        subst ha hb
        rw [hq]; rfl
      | succ i =>
        rw [ih (by simpa using ha) (by simpa using hb) hq, Bool.and_false]
theorem shape_all : ∀ {a b : List Prt}, a.length = b.length → (∀ (i : Nat) (p q : Prt), a[i]? = some p → b[i]? = some q → alike p q = true) → shape a b = true := by
  intro a
  induction a with
  | nil => intro b hl _; cases b with | nil => rfl | cons d y => simp at hl
  | cons c x ih =>
    intro b hl h
    cases b with
    | nil => simp at hl
    | cons d y =>
      rw [shape, h 0 c d rfl rfl, ih (by simpa using hl) (fun i p q hp hq => h (i + 1) p q (by simpa using hp) (by simpa using hq))]
      rfl
end Rt

set_option maxHeartbeats 4000000 in
set_option maxRecDepth 20000 in
theorem rshape18 (ao bo : Option Addr) (n m ac bc : Nat) (a b : List Rt.Prt) (hn : a.length = n) (hm : b.length = m) (hnb : n ≤ 4194305) (hmb : m ≤ 4194305) (w : World) (h1 : PR18 w ao a) (h2 : PR18 w bo b) :
    Calls Tryz.prog 22 #[.slice ao n ac, .slice bo m bc] w fun e w' => e = .returned (.bool (Rt.shape a b)) ∧ Below w.heap.size w w' := by
  have H1 := hid' h1
  have H2 := hid' h2
  have HN := hid' hn
  have HM := hid' hm
  clear h1 h2 hn hm
  by_cases hnm : n = m
  · have hne : ((n : Int) != (m : Int)) = false := by unfold bne; rw [show ((n : Int) == (m : Int)) = true by rw [beq_iff_eq]; omega]; rfl
    subst hnm
    go_enter Tryz.func22, Tryz.ntmps22
    go_wp2
    go_loopw [5] (fun s5 wr => ∃ i : Nat, s5 = .int .i64 (i : Int) ∧ i ≤ n ∧ Hid (∀ j p q, j < i → a[j]? = some p → b[j]? = some q → Rt.alike p q = true) ∧ Hid (Below w.heap.size w wr)) (fun s5 _ => n - (intOf s5).toNat)
    case atStart => exact ⟨0, rfl, Nat.zero_le _, hid' (fun j _ _ h => absurd h (Nat.not_lt_zero _)), hid' (Below.refl _ _)⟩
    case round =>
      obtain ⟨i, rfl, hi, HV, HB⟩ := hrel
      by_cases hlt : i < n
      · have hlt2 : (i : Int) < (n : Int) := by omega
        obtain ⟨p, hp⟩ : ∃ p, a[i]? = some p := ⟨_, List.getElem?_eq_getElem (by rw [HN.out]; exact hlt)⟩
        obtain ⟨q, hq⟩ : ∃ q, b[i]? = some q := ⟨_, List.getElem?_eq_getElem (by rw [HM.out]; exact hlt)⟩
        have HR1 := hid' (H1.out.below HB.out)
        have HR2 := hid' (H2.out.below HB.out)
        obtain ⟨g1, e1, l1, x0, x1⟩ := HR1.out i p hp
        obtain ⟨g2, e2, l2, y0, y1⟩ := HR2.out i q hq
        subst e1 e2
        have HAL := hid' (fun W => ralike18 p q W)
        obtain ⟨x, hx⟩ : ∃ x : ByteArray, (⟨p.t.toArray⟩ : ByteArray) = x := ⟨_, rfl⟩
        obtain ⟨y, hy⟩ : ∃ x : ByteArray, (⟨q.t.toArray⟩ : ByteArray) = x := ⟨_, rfl⟩
        rw [hx, hy] at HAL
        rw [hx] at x1
        rw [hy] at y1
        have HL1 := hid' l1
        have HL2 := hid' l2
        have HX0 := hid' x0
        have HX1 := hid' x1
        have HY0 := hid' y0
        have HY1 := hid' y1
        have sOf : ∀ W W1 : World, (Below wr.heap.size wr W ∧ W.cell? ⟨g1, i * 2, none⟩ = some (.int .i64 (p.k : Int)) ∧ W.cell? ⟨g1, i * 2 + 1, none⟩ = some (.string x) ∧ W.cell? ⟨g2, i * 2, none⟩ = some (.int .i64 (q.k : Int)) ∧ W.cell? ⟨g2, i * 2 + 1, none⟩ = some (.string y)) → Below W.heap.size W W1 → (Below wr.heap.size wr W1 ∧ W1.cell? ⟨g1, i * 2, none⟩ = some (.int .i64 (p.k : Int)) ∧ W1.cell? ⟨g1, i * 2 + 1, none⟩ = some (.string x) ∧ W1.cell? ⟨g2, i * 2, none⟩ = some (.int .i64 (q.k : Int)) ∧ W1.cell? ⟨g2, i * 2 + 1, none⟩ = some (.string y)) := fun W W1 h hb => by
          have hb' := below_two h.1 hb
          exact ⟨hb', (hb'.cell (p := ⟨g1, i * 2, none⟩) HL1.out).trans HX0.out, (hb'.cell (p := ⟨g1, i * 2 + 1, none⟩) HL1.out).trans HX1.out, (hb'.cell (p := ⟨g2, i * 2, none⟩) HL2.out).trans HY0.out, (hb'.cell (p := ⟨g2, i * 2 + 1, none⟩) HL2.out).trans HY1.out⟩
        have hS : Below wr.heap.size wr wr ∧ wr.cell? ⟨g1, i * 2, none⟩ = some (.int .i64 (p.k : Int)) ∧ wr.cell? ⟨g1, i * 2 + 1, none⟩ = some (.string x) ∧ wr.cell? ⟨g2, i * 2, none⟩ = some (.int .i64 (q.k : Int)) ∧ wr.cell? ⟨g2, i * 2 + 1, none⟩ = some (.string y) := ⟨Below.refl _ _, x0, x1, y0, y1⟩
        have HP := hid' hp
        have HQ := hid' hq
        cases hal : Rt.alike p q
        · rw [hal] at HAL
          have HF : Hid (Rt.shape a b = false) := hid' (Rt.shape_at hp hq hal)
          clear hp hq hx hy l1 l2
          go_upto_region 6 with fail
          go_region_held3 (fun W => Below wr.heap.size wr W ∧ W.cell? ⟨g1, i * 2, none⟩ = some (.int .i64 (p.k : Int)) ∧ W.cell? ⟨g1, i * 2 + 1, none⟩ = some (.string x) ∧ W.cell? ⟨g2, i * 2, none⟩ = some (.int .i64 (q.k : Int)) ∧ W.cell? ⟨g2, i * 2 + 1, none⟩ = some (.string y))
            (first | assumption | exact sOf _ _ (by assumption) (by assumption) | exact sOf _ _ (by assumption) ((Below.refl _ _).drew))
            (first | (go_at_call 44; refine (HAL.out _).mono ?_; rintro e wz ⟨rfl, hbz⟩))
          have hz : Below wr.heap.size wr wz := And.left (by assumption : Below wr.heap.size wr wz ∧ wz.cell? ⟨g1, i * 2, none⟩ = some (.int .i64 (p.k : Int)) ∧ wz.cell? ⟨g1, i * 2 + 1, none⟩ = some (.string x) ∧ wz.cell? ⟨g2, i * 2, none⟩ = some (.int .i64 (q.k : Int)) ∧ wz.cell? ⟨g2, i * 2 + 1, none⟩ = some (.string y))
          have HBz := hid' (below_two HB.out hz)
          clear sOf hS hz
          go_wp2
          go_ret
          exact ⟨by rw [HF.out]; rfl, HBz.out⟩
        · rw [hal] at HAL
          have HV2 : Hid (∀ j p q, j < i + 1 → a[j]? = some p → b[j]? = some q → Rt.alike p q = true) := hid' (fun j p' q' hj hp' hq' => by
            by_cases hji : j = i
            · subst hji
              rw [hp] at hp'
              rw [hq] at hq'
              injection hp' with hp'
              injection hq' with hq'
              rw [← hp', ← hq']; exact hal
            · exact HV.out j p' q' (by omega) hp' hq')
          clear hp hq hx hy l1 l2
          go_upto_region 6 with fail
          go_region_held3 (fun W => Below wr.heap.size wr W ∧ W.cell? ⟨g1, i * 2, none⟩ = some (.int .i64 (p.k : Int)) ∧ W.cell? ⟨g1, i * 2 + 1, none⟩ = some (.string x) ∧ W.cell? ⟨g2, i * 2, none⟩ = some (.int .i64 (q.k : Int)) ∧ W.cell? ⟨g2, i * 2 + 1, none⟩ = some (.string y))
            (first | assumption | exact sOf _ _ (by assumption) (by assumption) | exact sOf _ _ (by assumption) ((Below.refl _ _).drew))
            (first | (go_at_call 44; refine (HAL.out _).mono ?_; rintro e wz ⟨rfl, hbz⟩))
          have hz : Below wr.heap.size wr wz := And.left (by assumption : Below wr.heap.size wr wz ∧ wz.cell? ⟨g1, i * 2, none⟩ = some (.int .i64 (p.k : Int)) ∧ wz.cell? ⟨g1, i * 2 + 1, none⟩ = some (.string x) ∧ wz.cell? ⟨g2, i * 2, none⟩ = some (.int .i64 (q.k : Int)) ∧ wz.cell? ⟨g2, i * 2 + 1, none⟩ = some (.string y))
          have HBz := hid' (below_two HB.out hz)
          clear sOf hS hz
          go_wp2
          go_roundw
          case rel => exact ⟨i + 1, by go_num, by omega, HV2, HBz⟩
          case measure => simp [intOf]; omega
      · have hlt2 : ¬ (i : Int) < (n : Int) := by omega
        have HT : Hid (Rt.shape a b = true) := hid' (Rt.shape_all (HN.out.trans HM.out.symm) (fun j p q hp hq => HV.out j p q (by have := (List.getElem?_eq_some_iff.1 hp).1; have := HN.out; omega) hp hq))
        clear hlt
        go_wp2
        go_ret
        exact ⟨by rw [HT.out]; rfl, HB.out⟩
  · have hne : ((n : Int) != (m : Int)) = true := by unfold bne; rw [show ((n : Int) == (m : Int)) = false by rw [beq_eq_false_iff_ne]; omega]; rfl
    have HF : Hid (Rt.shape a b = false) := hid' (by
      cases hq : Rt.shape a b
      · rfl
      · exact absurd (HN.out.symm.trans ((Rt.shape_len hq).trans HM.out)) hnm)
    clear hnm
    go_enter Tryz.func22, Tryz.ntmps22
    go_wp2
    go_ret
    exact ⟨by rw [HF.out]; rfl, Below.refl _ _⟩

end Go.Proofs.YtfdjimjiikeciaaGreatDoor

namespace Go.Proofs.YtfdjimjiikeciaaGreatDoor
open Go.RowKit

theorem zeroPt18 : (Tryz.prog.info? 49).map (fun i => i.zero) = some (some (.agg #[.int .i64 0, .string ⟨#[]⟩])) := by kernel_rfl
theorem sizePt18 : (Tryz.prog.info? 49).map (·.size) = some 2 := by kernel_rfl
theorem infoPt18 : (Tryz.prog.info? 49).map (fun i => (i.zero, i.size, i.bytes)) = some (some (.agg #[.int .i64 0, .string ⟨#[]⟩]), 2, 24) := by kernel_rfl
theorem ldPt18 {w : World} {b : Nat} {x0 x1 : Value} (h : Ar w b 49 #[x0, x1]) : (loadVar 49 ⟨b, 0, none⟩).run Tryz.prog w = .ok (.agg #[x0, x1]) w :=
  run_loadVar_row (P := Tryz.prog) w b 49 49 _ (0, 0) _ h Tryz.underlying49 rfl sizePt18
theorem u123 (s : ByteArray) (k : Nat) (h : k < s.size) : (s[k] == 123) = ((s[k].toNat : Int) == 123) := by
  rw [Bool.eq_iff_iff, beq_iff_eq, beq_iff_eq]
  exact ⟨fun e => by rw [e]; rfl, fun e => UInt8.toNat_inj.1 (by simpa using (by omega : s[k].toNat = 123))⟩
theorem u125 (s : ByteArray) (k : Nat) (h : k < s.size) : (s[k] == 125) = ((s[k].toNat : Int) == 125) := by
  rw [Bool.eq_iff_iff, beq_iff_eq, beq_iff_eq]
  exact ⟨fun e => by rw [e]; rfl, fun e => UInt8.toNat_inj.1 (by simpa using (by omega : s[k].toNat = 125))⟩
def ptV18 (q : Rt.Prt × Bool) : Value := .tuple #[.agg #[.int .i64 (q.1.k : Int), .string ⟨q.1.t.toArray⟩], .bool q.2]

theorem ar_new18 (w : World) (t : TypeId) (c : Array Value) : Ar (w.alloc (Obj.cells c t)).drew w.heap.size t c := by
  show (w.heap.push _)[w.heap.size]? = _
  rw [Array.getElem?_push_size]
theorem cut_l18 (s : ByteArray) (l : List UInt8) (hl : s.data.toList = l) (p q : Nat) : (s.extract p q).data.toList = (l.take q).drop p := by
  rw [← hl]; simp [ByteArray.data_extract, Array.toList_extract, List.drop_take]

set_option maxHeartbeats 8000000 in
set_option maxRecDepth 20000 in
theorem rpart_b18 (s : ByteArray) (l : List UInt8) (hl : s.data.toList = l) (w : World) (hs : s.size ≤ 4194304) (h2 : 2 ≤ s.size)
    (n1 : Nat) (hn1 : s.size = n1 + 1) (h0 : 0 < s.size) (hn1s : n1 < s.size) (c0 : ((s[0].toNat : Int) == 123) = true) (cl : ((s[n1].toNat : Int) == 125) = true)
    (HP : Rt.prt l = if decide (5 ≤ l.length) && l.drop (l.length - 4) == [46, 46, 46, 125] then (⟨2, (l.drop 1).take (l.length - 5)⟩, Rt.nameB ((l.drop 1).take (l.length - 5))) else (⟨1, (l.drop 1).take (l.length - 2)⟩, Rt.nameB ((l.drop 1).take (l.length - 2)))) :
    Calls Tryz.prog 34 #[.string s] w fun e w' => e = .returned (ptV18 (Rt.prt l)) ∧ Below w.heap.size w w' := by
  have HSZ : Hid (s.size = l.length) := hid' (by rw [Lib.size_eq, hl])
  have HL := hid' hl
  have HPR := hid' HP
  clear hl HP
  have h2I : (2 : Int) ≤ (s.size : Int) := by omega
  have h0I : (0 : Int) < (s.size : Int) := by omega
  have hn1I : (n1 : Int) < (s.size : Int) := by omega
  have hsub : (s.size : Int) - 1 = (n1 : Int) := by omega
  have h11 : (1 : Int) ≤ (n1 : Int) := by omega
  have h12 : (n1 : Int) ≤ (s.size : Int) := by omega
  have h13 : 0 < n1 := by omega
  have h14 : n1 ≤ s.size := by omega
  have h15 : ¬ n1 = 0 := by omega
  have hw1 : IntKind.i64.wrap (n1 : Int) = (n1 : Int) := by rw [IntKind.wrap_i64]; omega
  have HN1 := hid' hn1
  clear hn1
  have HBW : ∀ o : Obj, Below w.heap.size w (w.alloc o) := fun o => (Below.refl _ _).alloc (Nat.le_refl _) o
  have HBH := hid' HBW
  clear HBW
  by_cases h5 : 5 ≤ s.size
  · have h5I : (5 : Int) ≤ (s.size : Int) := by omega
    obtain ⟨n4, hn4⟩ : ∃ n4, s.size = n4 + 4 := ⟨s.size - 4, by omega⟩
    have hsub4 : (s.size : Int) - 4 = (n4 : Int) := by omega
    have h41 : (1 : Int) ≤ (n4 : Int) := by omega
    have h42 : (n4 : Int) ≤ (s.size : Int) := by omega
    have h43 : 0 < n4 := by omega
    have h44 : n4 ≤ s.size := by omega
    have h45 : 1 ≤ n4 := by omega
    have h46 : ¬ n4 = 0 := by omega
    have h47 : (0 : Int) < (n4 : Int) := by omega
    have h48 : ¬ (n4 : Int) < 1 := by omega
    have h49 : ¬ (s.size : Int) < (n4 : Int) := by omega
    have hw4 : IntKind.i64.wrap (n4 : Int) = (n4 : Int) := by rw [IntKind.wrap_i64]; omega
    have HN4 := hid' hn4
    clear hn4
    have HCC : Hid ((l.drop (l.length - 4) == [46, 46, 46, 125]) = ((s.extract n4 s.size).toList == [46, 46, 46, 125])) := hid' (by
      have h8 := HSZ.out
      have h9 := HN4.out
      rw [Lib.toList_data, cut_l18 s l HL.out n4 s.size, h8, List.take_length, show l.length - 4 = n4 by omega])
    have HLL : Hid (5 ≤ l.length) := hid' (by have := HSZ.out; omega)
    cases c5 : ((s.extract n4 s.size).toList == [46, 46, 46, 125])
    · skip
      have HPQ : Hid (Rt.prt l = (⟨1, (l.drop 1).take (l.length - 2)⟩, Rt.nameB ((l.drop 1).take (l.length - 2)))) := hid' (by rw [HPR.out, HCC.out, c5, Bool.and_false]; rfl)
      obtain ⟨q, hq⟩ : ∃ q, (l.drop 1).take (l.length - 2) = q := ⟨_, rfl⟩
      have hqs : (s.extract 1 n1).data.toList = q := by rw [cut_l18 s l HL.out 1 n1, List.drop_take, ← hq]; congr 1; have := HN1.out; have := HSZ.out; omega
      have HQB : Hid (s.extract 1 n1 = ⟨q.toArray⟩) := hid' (by rw [← hqs])
      have HPF : Hid (ptV18 (Rt.prt l) = .tuple #[.agg #[.int .i64 1, .string (s.extract 1 n1)], .bool (Rt.nameB q)]) := hid' (by rw [HPQ.out, hq, HQB.out]; rfl)
      have HC := hid' hqs
      have HCZ : Hid ((s.extract 1 n1).size ≤ 4194304) := hid' (by simp only [ByteArray.size_extract]; omega)
      clear hqs hq
      go_enter Tryz.func34, Tryz.ntmps34
      go_wp2
      go_region_held3 (fun _ => True) (trivial) (first | (go_at_call 57; refine (rname18 _ _ HC.out _ ?_).mono ?_; (exact HCZ.out); rintro e w1 ⟨rfl, hw⟩; subst w1))
      all_goals go_wp2_with fail
      have hld := ldPt18 (w := (w.alloc (Obj.cells #[Value.int IntKind.i64 1, Value.string (s.extract 1 n1)] 49)).drew) (b := w.heap.size) (x0 := .int .i64 1) (x1 := .string (s.extract 1 n1)) (ar_new18 w _ _)
      exact bodyPost_ret (v := .tuple #[.agg #[.int .i64 1, .string (s.extract 1 n1)], .bool (Rt.nameB q)]) (by simp [results, Tryz.results34, asAddr, hld]) rfl ⟨by rw [HPF.out], (HBH.out _).drew⟩
    · skip
      have HPQ : Hid (Rt.prt l = (⟨2, (l.drop 1).take (l.length - 5)⟩, Rt.nameB ((l.drop 1).take (l.length - 5)))) := hid' (by rw [HPR.out, HCC.out, c5, decide_eq_true HLL.out, Bool.and_true]; rfl)
      obtain ⟨q, hq⟩ : ∃ q, (l.drop 1).take (l.length - 5) = q := ⟨_, rfl⟩
      have hqs : (s.extract 1 n4).data.toList = q := by rw [cut_l18 s l HL.out 1 n4, List.drop_take, ← hq]; congr 1; have := HN4.out; have := HSZ.out; omega
      have HQB : Hid (s.extract 1 n4 = ⟨q.toArray⟩) := hid' (by rw [← hqs])
      have HPF : Hid (ptV18 (Rt.prt l) = .tuple #[.agg #[.int .i64 2, .string (s.extract 1 n4)], .bool (Rt.nameB q)]) := hid' (by rw [HPQ.out, hq, HQB.out]; rfl)
      have HC := hid' hqs
      have HCZ : Hid ((s.extract 1 n4).size ≤ 4194304) := hid' (by simp only [ByteArray.size_extract]; omega)
      clear hqs hq
      go_enter Tryz.func34, Tryz.ntmps34
      go_wp2
      go_region_held3 (fun _ => True) (trivial) (first | (go_at_call 57; refine (rname18 _ _ HC.out _ ?_).mono ?_; (exact HCZ.out); rintro e w1 ⟨rfl, hw⟩; subst w1))
      all_goals go_wp2_with fail
      have hld := ldPt18 (w := (w.alloc (Obj.cells #[Value.int IntKind.i64 2, Value.string (s.extract 1 n4)] 49)).drew) (b := w.heap.size) (x0 := .int .i64 2) (x1 := .string (s.extract 1 n4)) (ar_new18 w _ _)
      exact bodyPost_ret (v := .tuple #[.agg #[.int .i64 2, .string (s.extract 1 n4)], .bool (Rt.nameB q)]) (by simp [results, Tryz.results34, asAddr, hld]) rfl ⟨by rw [HPF.out], (HBH.out _).drew⟩
  · have h5I : ¬ (5 : Int) ≤ (s.size : Int) := by omega
    have HLL : Hid (¬ 5 ≤ l.length) := hid' (by have := HSZ.out; omega)
    have HPQ : Hid (Rt.prt l = (⟨1, (l.drop 1).take (l.length - 2)⟩, Rt.nameB ((l.drop 1).take (l.length - 2)))) := hid' (by rw [HPR.out, decide_eq_false HLL.out, Bool.false_and]; rfl)
    obtain ⟨q, hq⟩ : ∃ q, (l.drop 1).take (l.length - 2) = q := ⟨_, rfl⟩
    have hqs : (s.extract 1 n1).data.toList = q := by rw [cut_l18 s l HL.out 1 n1, List.drop_take, ← hq]; congr 1; have := HN1.out; have := HSZ.out; omega
    have HQB : Hid (s.extract 1 n1 = ⟨q.toArray⟩) := hid' (by rw [← hqs])
    have HPF : Hid (ptV18 (Rt.prt l) = .tuple #[.agg #[.int .i64 1, .string (s.extract 1 n1)], .bool (Rt.nameB q)]) := hid' (by rw [HPQ.out, hq, HQB.out]; rfl)
    have HC := hid' hqs
    have HCZ : Hid ((s.extract 1 n1).size ≤ 4194304) := hid' (by simp only [ByteArray.size_extract]; omega)
    clear hqs hq
    go_enter Tryz.func34, Tryz.ntmps34
    go_wp2
    go_region_held3 (fun _ => True) (trivial) (first | (go_at_call 57; refine (rname18 _ _ HC.out _ ?_).mono ?_; (exact HCZ.out); rintro e w1 ⟨rfl, hw⟩; subst w1))
    all_goals go_wp2_with fail
    have hld := ldPt18 (w := (w.alloc (Obj.cells #[Value.int IntKind.i64 1, Value.string (s.extract 1 n1)] 49)).drew) (b := w.heap.size) (x0 := .int .i64 1) (x1 := .string (s.extract 1 n1)) (ar_new18 w _ _)
    exact bodyPost_ret (v := .tuple #[.agg #[.int .i64 1, .string (s.extract 1 n1)], .bool (Rt.nameB q)]) (by simp [results, Tryz.results34, asAddr, hld]) rfl ⟨by rw [HPF.out], (HBH.out _).drew⟩

end Go.Proofs.YtfdjimjiikeciaaGreatDoor

namespace Go.Proofs.YtfdjimjiikeciaaGreatDoor
open Go.RowKit

set_option maxHeartbeats 8000000 in
set_option maxRecDepth 20000 in
theorem rpart18 (s : ByteArray) (l : List UInt8) (hl : s.data.toList = l) (w : World) (hs : s.size ≤ 4194304) :
    Calls Tryz.prog 34 #[.string s] w fun e w' => e = .returned (ptV18 (Rt.prt l)) ∧ Below w.heap.size w w' := by
  have HSZ : Hid (s.size = l.length) := hid' (by rw [Lib.size_eq, hl])
  have HGB : Hid (∀ k (h : k < s.size), l[k]? = some s[k]) := hid' (fun k h => by rw [← hl]; exact Tx.get_byte s k h)
  have HL := hid' hl
  have HSE : Hid (s = ⟨l.toArray⟩) := hid' (by rw [← hl])
  have HPD : Hid (Rt.prt l = if decide (2 ≤ l.length) && (l.head? == some 123 && l.getLast? == some 125) then
    (if decide (5 ≤ l.length) && l.drop (l.length - 4) == [46, 46, 46, 125] then (⟨2, (l.drop 1).take (l.length - 5)⟩, Rt.nameB ((l.drop 1).take (l.length - 5)))
     else (⟨1, (l.drop 1).take (l.length - 2)⟩, Rt.nameB ((l.drop 1).take (l.length - 2))))
    else if l.all Rt.vis then (⟨0, l⟩, !l.isEmpty) else (⟨0, []⟩, false)) := hid' rfl
  clear hl
  by_cases h2 : 2 ≤ s.size
  · have h2I : (2 : Int) ≤ (s.size : Int) := by omega
    have h0 : 0 < s.size := by omega
    have h0I : (0 : Int) < (s.size : Int) := by omega
    have HH0 : Hid (l.head? = some s[0]) := hid' (by have := HGB.out 0 h0; cases hq : l with | nil => rw [hq] at this; simp at this | cons a b => rw [hq] at this; simpa using this)
    obtain ⟨n1, hn1⟩ : ∃ n1, s.size = n1 + 1 := ⟨s.size - 1, by omega⟩
    have hn1s : n1 < s.size := by omega
    have hn1I : (n1 : Int) < (s.size : Int) := by omega
    have HLA : Hid (l.getLast? = some s[n1]) := hid' (by rw [List.getLast?_eq_getElem?, ← HSZ.out, hn1, Nat.add_sub_cancel]; exact HGB.out n1 hn1s)
    have hsub : (s.size : Int) - 1 = (n1 : Int) := by omega
    have HN1 := hid' hn1
    clear hn1
    cases c0 : ((s[0].toNat : Int) == 123)
    · have HP : Hid (Rt.prt l = if l.all Rt.vis then (⟨0, l⟩, !l.isEmpty) else (⟨0, []⟩, false)) := hid' (by
        rw [HPD.out, HH0.out, show (some s[0] == some (123 : UInt8)) = false by rw [Option.some_beq_some, u123 s 0 h0, c0], Bool.false_and, Bool.and_false]; rfl)
      go_enter Tryz.func34, Tryz.ntmps34
      go_wp2_with (refine wpl_alloc 49 rfl rfl #[.int .i64 0, .string ⟨#[]⟩] zeroPt18 ?_)
      intro b0 w0 hb0 ha0 hbe0
      have HX := hid' ha0
      have HB0 := hid' hbe0
      have HG0 := hid' hb0
      clear hb0 ha0 hbe0
      go_wp2
      go_loopw [5] (fun s5 wr => ∃ k : Nat, s5 = .int .i64 (k : Int) ∧ k ≤ s.size ∧ Hid (∀ j c, l[j]? = some c → j < k → Rt.vis c = true) ∧ Hid (wr = w0)) (fun s5 _ => s.size - (intOf s5).toNat)
      case atStart => exact ⟨0, rfl, Nat.zero_le _, hid' (fun j _ _ h => absurd h (Nat.not_lt_zero _)), hid' rfl⟩
      case round =>
        obtain ⟨k, rfl, hk, HV, HW⟩ := hrel
        obtain rfl := HW.out
        by_cases hlt : k < s.size
        · have hlt2 : (k : Int) < (s.size : Int) := by omega
          have HNO : Hid (∀ (k : Nat) (c : UInt8), l[k]? = some c → Rt.vis c = false → Rt.prt l = (⟨0, []⟩, false)) := hid' (fun k c hc hv => by
            have : l.all Rt.vis = false := by
              rw [Bool.eq_false_iff]; intro ht
              have := List.all_eq_true.1 ht c (List.mem_of_getElem? hc)
              rw [hv] at this; cases this
            rw [HP.out, this]; rfl)
          have hvd : Rt.vis s[k] = (!decide (s[k].toNat < 33) && !decide (126 < s[k].toNat) && !(s[k] == 123) && !(s[k] == 125)) := rfl
          by_cases c1 : (s[k].toNat : Int) < 33
          · skip
            have HF := hid' (HNO.out k s[k] (HGB.out k hlt) (by rw [hvd, decide_eq_true (show s[k].toNat < 33 by omega)]; rfl))
            go_wp2_with (refine wpl_store 49 _ _ rfl rfl b0 #[.int .i64 0, .string ⟨#[]⟩] (by rfl) (by rfl) _ _ HX.out sizePt18 rfl (by simp [Value.oneCell']) ?_)
            intro w9 ha9 hu9
            have hld := ldPt18 ha9
            have HB9 := hid' (HB0.out.trans (hu9.below HG0.out))
            clear ha9 hu9
            go_wp2
            exact bodyPost_ret (v := .tuple #[.agg #[.int .i64 0, .string ⟨#[]⟩], .bool false]) (by simp [results, Tryz.results34, asAddr, hld] <;> omega) rfl ⟨by rw [HF.out]; rfl, HB9.out⟩
          · by_cases c2 : (126 : Int) < (s[k].toNat : Int)
            · skip
              have HF := hid' (HNO.out k s[k] (HGB.out k hlt) (by rw [hvd, decide_eq_true (show 126 < s[k].toNat by omega), Bool.not_true, Bool.and_false]; rfl))
              go_wp2_with (refine wpl_store 49 _ _ rfl rfl b0 #[.int .i64 0, .string ⟨#[]⟩] (by rfl) (by rfl) _ _ HX.out sizePt18 rfl (by simp [Value.oneCell']) ?_)
              intro w9 ha9 hu9
              have hld := ldPt18 ha9
              have HB9 := hid' (HB0.out.trans (hu9.below HG0.out))
              clear ha9 hu9
              go_wp2
              exact bodyPost_ret (v := .tuple #[.agg #[.int .i64 0, .string ⟨#[]⟩], .bool false]) (by simp [results, Tryz.results34, asAddr, hld] <;> omega) rfl ⟨by rw [HF.out]; rfl, HB9.out⟩
            · cases c3 : ((s[k].toNat : Int) == 123)
              · cases c4 : ((s[k].toNat : Int) == 125)
                · have HV2 : Hid (∀ j c, l[j]? = some c → j < k + 1 → Rt.vis c = true) := hid' (fun j c hc hj => by
                    by_cases hjk : j = k
                    · subst hjk
                      rw [HGB.out j hlt] at hc
                      injection hc with hc
                      rw [← hc, hvd, decide_eq_false (show ¬ s[j].toNat < 33 by omega), decide_eq_false (show ¬ 126 < s[j].toNat by omega), u123 s j hlt, c3, u125 s j hlt, c4]
                      rfl
                    · exact HV.out j c hc (by omega))
                  go_wp2
                  go_roundw
                  case rel => exact ⟨k + 1, by go_num, by omega, HV2, hid' (by trivial)⟩
                  case measure => simp [intOf]; omega
                · skip
                  have HF := hid' (HNO.out k s[k] (HGB.out k hlt) (by rw [hvd, u125 s k hlt, c4, Bool.not_true, Bool.and_false]))
                  go_wp2_with (refine wpl_store 49 _ _ rfl rfl b0 #[.int .i64 0, .string ⟨#[]⟩] (by rfl) (by rfl) _ _ HX.out sizePt18 rfl (by simp [Value.oneCell']) ?_)
                  intro w9 ha9 hu9
                  have hld := ldPt18 ha9
                  have HB9 := hid' (HB0.out.trans (hu9.below HG0.out))
                  clear ha9 hu9
                  go_wp2
                  exact bodyPost_ret (v := .tuple #[.agg #[.int .i64 0, .string ⟨#[]⟩], .bool false]) (by simp [results, Tryz.results34, asAddr, hld] <;> omega) rfl ⟨by rw [HF.out]; rfl, HB9.out⟩
              · skip
                have HF := hid' (HNO.out k s[k] (HGB.out k hlt) (by rw [hvd, u123 s k hlt, c3, Bool.not_true, Bool.and_false]; rfl))
                go_wp2_with (refine wpl_store 49 _ _ rfl rfl b0 #[.int .i64 0, .string ⟨#[]⟩] (by rfl) (by rfl) _ _ HX.out sizePt18 rfl (by simp [Value.oneCell']) ?_)
                intro w9 ha9 hu9
                have hld := ldPt18 ha9
                have HB9 := hid' (HB0.out.trans (hu9.below HG0.out))
                clear ha9 hu9
                go_wp2
                exact bodyPost_ret (v := .tuple #[.agg #[.int .i64 0, .string ⟨#[]⟩], .bool false]) (by simp [results, Tryz.results34, asAddr, hld] <;> omega) rfl ⟨by rw [HF.out]; rfl, HB9.out⟩
        · have hlt2 : ¬ (k : Int) < (s.size : Int) := by omega
          have HALL : Hid (l.all Rt.vis = true) := hid' (by
            rw [List.all_eq_true]
            intro c hc
            obtain ⟨j, hj, hjc⟩ := List.mem_iff_getElem.1 hc
            exact HV.out j c (by rw [List.getElem?_eq_getElem hj, hjc]) (by have := HSZ.out; omega))
          have HF : Hid (Rt.prt l = (⟨0, l⟩, !l.isEmpty)) := hid' (by rw [HP.out, HALL.out]; rfl)
          clear hlt
          have HLE : Hid (l.isEmpty = false) := hid' (by rw [List.isEmpty_eq_false_iff]; intro e9; have h9 := HSZ.out; rw [e9, List.length_nil] at h9; omega)
          go_wp2_with (refine wpl_store 49 _ _ rfl rfl b0 #[.int .i64 0, .string s] (by rfl) (by rfl) _ _ HX.out sizePt18 rfl (by simp [Value.oneCell']) ?_)
          intro w9 ha9 hu9
          have hld := ldPt18 ha9
          have HB9 := hid' (HB0.out.trans (hu9.below HG0.out))
          clear ha9 hu9
          go_wp2
          exact bodyPost_ret (v := .tuple #[.agg #[.int .i64 0, .string s], .bool true]) (by simp [results, Tryz.results34, asAddr, hld] <;> omega) rfl ⟨by rw [HF.out, HLE.out]; unfold ptV18; rw [← HSE.out]; rfl, HB9.out⟩
    · cases cl : ((s[n1].toNat : Int) == 125)
      · have HP : Hid (Rt.prt l = if l.all Rt.vis then (⟨0, l⟩, !l.isEmpty) else (⟨0, []⟩, false)) := hid' (by
          rw [HPD.out, HLA.out, show (some s[n1] == some (125 : UInt8)) = false by rw [Option.some_beq_some, u125 s n1 hn1s, cl], Bool.and_false, Bool.and_false]; rfl)
        go_enter Tryz.func34, Tryz.ntmps34
        go_wp2_with (refine wpl_alloc 49 rfl rfl #[.int .i64 0, .string ⟨#[]⟩] zeroPt18 ?_)
        intro b0 w0 hb0 ha0 hbe0
        have HX := hid' ha0
        have HB0 := hid' hbe0
        have HG0 := hid' hb0
        clear hb0 ha0 hbe0
        go_wp2
        go_loopw [5] (fun s5 wr => ∃ k : Nat, s5 = .int .i64 (k : Int) ∧ k ≤ s.size ∧ Hid (∀ j c, l[j]? = some c → j < k → Rt.vis c = true) ∧ Hid (wr = w0)) (fun s5 _ => s.size - (intOf s5).toNat)
        case atStart => exact ⟨0, rfl, Nat.zero_le _, hid' (fun j _ _ h => absurd h (Nat.not_lt_zero _)), hid' rfl⟩
        case round =>
          obtain ⟨k, rfl, hk, HV, HW⟩ := hrel
          obtain rfl := HW.out
          by_cases hlt : k < s.size
          · have hlt2 : (k : Int) < (s.size : Int) := by omega
            have HNO : Hid (∀ (k : Nat) (c : UInt8), l[k]? = some c → Rt.vis c = false → Rt.prt l = (⟨0, []⟩, false)) := hid' (fun k c hc hv => by
              have : l.all Rt.vis = false := by
                rw [Bool.eq_false_iff]; intro ht
                have := List.all_eq_true.1 ht c (List.mem_of_getElem? hc)
                rw [hv] at this; cases this
              rw [HP.out, this]; rfl)
            have hvd : Rt.vis s[k] = (!decide (s[k].toNat < 33) && !decide (126 < s[k].toNat) && !(s[k] == 123) && !(s[k] == 125)) := rfl
            by_cases c1 : (s[k].toNat : Int) < 33
            · skip
              have HF := hid' (HNO.out k s[k] (HGB.out k hlt) (by rw [hvd, decide_eq_true (show s[k].toNat < 33 by omega)]; rfl))
              go_wp2_with (refine wpl_store 49 _ _ rfl rfl b0 #[.int .i64 0, .string ⟨#[]⟩] (by rfl) (by rfl) _ _ HX.out sizePt18 rfl (by simp [Value.oneCell']) ?_)
              intro w9 ha9 hu9
              have hld := ldPt18 ha9
              have HB9 := hid' (HB0.out.trans (hu9.below HG0.out))
              clear ha9 hu9
              go_wp2
              exact bodyPost_ret (v := .tuple #[.agg #[.int .i64 0, .string ⟨#[]⟩], .bool false]) (by simp [results, Tryz.results34, asAddr, hld] <;> omega) rfl ⟨by rw [HF.out]; rfl, HB9.out⟩
            · by_cases c2 : (126 : Int) < (s[k].toNat : Int)
              · skip
                have HF := hid' (HNO.out k s[k] (HGB.out k hlt) (by rw [hvd, decide_eq_true (show 126 < s[k].toNat by omega), Bool.not_true, Bool.and_false]; rfl))
                go_wp2_with (refine wpl_store 49 _ _ rfl rfl b0 #[.int .i64 0, .string ⟨#[]⟩] (by rfl) (by rfl) _ _ HX.out sizePt18 rfl (by simp [Value.oneCell']) ?_)
                intro w9 ha9 hu9
                have hld := ldPt18 ha9
                have HB9 := hid' (HB0.out.trans (hu9.below HG0.out))
                clear ha9 hu9
                go_wp2
                exact bodyPost_ret (v := .tuple #[.agg #[.int .i64 0, .string ⟨#[]⟩], .bool false]) (by simp [results, Tryz.results34, asAddr, hld] <;> omega) rfl ⟨by rw [HF.out]; rfl, HB9.out⟩
              · cases c3 : ((s[k].toNat : Int) == 123)
                · cases c4 : ((s[k].toNat : Int) == 125)
                  · have HV2 : Hid (∀ j c, l[j]? = some c → j < k + 1 → Rt.vis c = true) := hid' (fun j c hc hj => by
                      by_cases hjk : j = k
                      · subst hjk
                        rw [HGB.out j hlt] at hc
                        injection hc with hc
                        rw [← hc, hvd, decide_eq_false (show ¬ s[j].toNat < 33 by omega), decide_eq_false (show ¬ 126 < s[j].toNat by omega), u123 s j hlt, c3, u125 s j hlt, c4]
                        rfl
                      · exact HV.out j c hc (by omega))
                    go_wp2
                    go_roundw
                    case rel => exact ⟨k + 1, by go_num, by omega, HV2, hid' (by trivial)⟩
                    case measure => simp [intOf]; omega
                  · skip
                    have HF := hid' (HNO.out k s[k] (HGB.out k hlt) (by rw [hvd, u125 s k hlt, c4, Bool.not_true, Bool.and_false]))
                    go_wp2_with (refine wpl_store 49 _ _ rfl rfl b0 #[.int .i64 0, .string ⟨#[]⟩] (by rfl) (by rfl) _ _ HX.out sizePt18 rfl (by simp [Value.oneCell']) ?_)
                    intro w9 ha9 hu9
                    have hld := ldPt18 ha9
                    have HB9 := hid' (HB0.out.trans (hu9.below HG0.out))
                    clear ha9 hu9
                    go_wp2
                    exact bodyPost_ret (v := .tuple #[.agg #[.int .i64 0, .string ⟨#[]⟩], .bool false]) (by simp [results, Tryz.results34, asAddr, hld] <;> omega) rfl ⟨by rw [HF.out]; rfl, HB9.out⟩
                · skip
                  have HF := hid' (HNO.out k s[k] (HGB.out k hlt) (by rw [hvd, u123 s k hlt, c3, Bool.not_true, Bool.and_false]; rfl))
                  go_wp2_with (refine wpl_store 49 _ _ rfl rfl b0 #[.int .i64 0, .string ⟨#[]⟩] (by rfl) (by rfl) _ _ HX.out sizePt18 rfl (by simp [Value.oneCell']) ?_)
                  intro w9 ha9 hu9
                  have hld := ldPt18 ha9
                  have HB9 := hid' (HB0.out.trans (hu9.below HG0.out))
                  clear ha9 hu9
                  go_wp2
                  exact bodyPost_ret (v := .tuple #[.agg #[.int .i64 0, .string ⟨#[]⟩], .bool false]) (by simp [results, Tryz.results34, asAddr, hld] <;> omega) rfl ⟨by rw [HF.out]; rfl, HB9.out⟩
          · have hlt2 : ¬ (k : Int) < (s.size : Int) := by omega
            have HALL : Hid (l.all Rt.vis = true) := hid' (by
              rw [List.all_eq_true]
              intro c hc
              obtain ⟨j, hj, hjc⟩ := List.mem_iff_getElem.1 hc
              exact HV.out j c (by rw [List.getElem?_eq_getElem hj, hjc]) (by have := HSZ.out; omega))
            have HF : Hid (Rt.prt l = (⟨0, l⟩, !l.isEmpty)) := hid' (by rw [HP.out, HALL.out]; rfl)
            clear hlt
            have HLE : Hid (l.isEmpty = false) := hid' (by rw [List.isEmpty_eq_false_iff]; intro e9; have h9 := HSZ.out; rw [e9, List.length_nil] at h9; omega)
            go_wp2_with (refine wpl_store 49 _ _ rfl rfl b0 #[.int .i64 0, .string s] (by rfl) (by rfl) _ _ HX.out sizePt18 rfl (by simp [Value.oneCell']) ?_)
            intro w9 ha9 hu9
            have hld := ldPt18 ha9
            have HB9 := hid' (HB0.out.trans (hu9.below HG0.out))
            clear ha9 hu9
            go_wp2
            exact bodyPost_ret (v := .tuple #[.agg #[.int .i64 0, .string s], .bool true]) (by simp [results, Tryz.results34, asAddr, hld] <;> omega) rfl ⟨by rw [HF.out, HLE.out]; unfold ptV18; rw [← HSE.out]; rfl, HB9.out⟩
      · have HP : Hid (Rt.prt l = if decide (5 ≤ l.length) && l.drop (l.length - 4) == [46, 46, 46, 125] then (⟨2, (l.drop 1).take (l.length - 5)⟩, Rt.nameB ((l.drop 1).take (l.length - 5))) else (⟨1, (l.drop 1).take (l.length - 2)⟩, Rt.nameB ((l.drop 1).take (l.length - 2)))) := hid' (by
          rw [HPD.out, HH0.out, HLA.out, show (some s[0] == some (123 : UInt8)) = true by rw [Option.some_beq_some, u123 s 0 h0, c0], show (some s[n1] == some (125 : UInt8)) = true by rw [Option.some_beq_some, u125 s n1 hn1s, cl], decide_eq_true (show 2 ≤ l.length by have := HSZ.out; omega)]
          rfl)
        exact rpart_b18 s l HL.out w hs h2 n1 HN1.out h0 hn1s c0 cl HP.out
  · have h2I : ¬ (2 : Int) ≤ (s.size : Int) := by omega
    have HP : Hid (Rt.prt l = if l.all Rt.vis then (⟨0, l⟩, !l.isEmpty) else (⟨0, []⟩, false)) := hid' (by
      rw [HPD.out, decide_eq_false (show ¬ 2 ≤ l.length by have := HSZ.out; omega)]; rfl)
    go_enter Tryz.func34, Tryz.ntmps34
    go_wp2_with (refine wpl_alloc 49 rfl rfl #[.int .i64 0, .string ⟨#[]⟩] zeroPt18 ?_)
    intro b0 w0 hb0 ha0 hbe0
    have HX := hid' ha0
    have HB0 := hid' hbe0
    have HG0 := hid' hb0
    clear hb0 ha0 hbe0
    go_wp2
    go_loopw [5] (fun s5 wr => ∃ k : Nat, s5 = .int .i64 (k : Int) ∧ k ≤ s.size ∧ Hid (∀ j c, l[j]? = some c → j < k → Rt.vis c = true) ∧ Hid (wr = w0)) (fun s5 _ => s.size - (intOf s5).toNat)
    case atStart => exact ⟨0, rfl, Nat.zero_le _, hid' (fun j _ _ h => absurd h (Nat.not_lt_zero _)), hid' rfl⟩
    case round =>
      obtain ⟨k, rfl, hk, HV, HW⟩ := hrel
      obtain rfl := HW.out
      by_cases hlt : k < s.size
      · have hlt2 : (k : Int) < (s.size : Int) := by omega
        have HNO : Hid (∀ (k : Nat) (c : UInt8), l[k]? = some c → Rt.vis c = false → Rt.prt l = (⟨0, []⟩, false)) := hid' (fun k c hc hv => by
          have : l.all Rt.vis = false := by
            rw [Bool.eq_false_iff]; intro ht
            have := List.all_eq_true.1 ht c (List.mem_of_getElem? hc)
            rw [hv] at this; cases this
          rw [HP.out, this]; rfl)
        have hvd : Rt.vis s[k] = (!decide (s[k].toNat < 33) && !decide (126 < s[k].toNat) && !(s[k] == 123) && !(s[k] == 125)) := rfl
        by_cases c1 : (s[k].toNat : Int) < 33
        · skip
          have HF := hid' (HNO.out k s[k] (HGB.out k hlt) (by rw [hvd, decide_eq_true (show s[k].toNat < 33 by omega)]; rfl))
          go_wp2_with (refine wpl_store 49 _ _ rfl rfl b0 #[.int .i64 0, .string ⟨#[]⟩] (by rfl) (by rfl) _ _ HX.out sizePt18 rfl (by simp [Value.oneCell']) ?_)
          intro w9 ha9 hu9
          have hld := ldPt18 ha9
          have HB9 := hid' (HB0.out.trans (hu9.below HG0.out))
          clear ha9 hu9
          go_wp2
          exact bodyPost_ret (v := .tuple #[.agg #[.int .i64 0, .string ⟨#[]⟩], .bool false]) (by simp [results, Tryz.results34, asAddr, hld] <;> omega) rfl ⟨by rw [HF.out]; rfl, HB9.out⟩
        · by_cases c2 : (126 : Int) < (s[k].toNat : Int)
          · skip
            have HF := hid' (HNO.out k s[k] (HGB.out k hlt) (by rw [hvd, decide_eq_true (show 126 < s[k].toNat by omega), Bool.not_true, Bool.and_false]; rfl))
            go_wp2_with (refine wpl_store 49 _ _ rfl rfl b0 #[.int .i64 0, .string ⟨#[]⟩] (by rfl) (by rfl) _ _ HX.out sizePt18 rfl (by simp [Value.oneCell']) ?_)
            intro w9 ha9 hu9
            have hld := ldPt18 ha9
            have HB9 := hid' (HB0.out.trans (hu9.below HG0.out))
            clear ha9 hu9
            go_wp2
            exact bodyPost_ret (v := .tuple #[.agg #[.int .i64 0, .string ⟨#[]⟩], .bool false]) (by simp [results, Tryz.results34, asAddr, hld] <;> omega) rfl ⟨by rw [HF.out]; rfl, HB9.out⟩
          · cases c3 : ((s[k].toNat : Int) == 123)
            · cases c4 : ((s[k].toNat : Int) == 125)
              · have HV2 : Hid (∀ j c, l[j]? = some c → j < k + 1 → Rt.vis c = true) := hid' (fun j c hc hj => by
                  by_cases hjk : j = k
                  · subst hjk
                    rw [HGB.out j hlt] at hc
                    injection hc with hc
                    rw [← hc, hvd, decide_eq_false (show ¬ s[j].toNat < 33 by omega), decide_eq_false (show ¬ 126 < s[j].toNat by omega), u123 s j hlt, c3, u125 s j hlt, c4]
                    rfl
                  · exact HV.out j c hc (by omega))
                go_wp2
                go_roundw
                case rel => exact ⟨k + 1, by go_num, by omega, HV2, hid' (by trivial)⟩
                case measure => simp [intOf]; omega
              · skip
                have HF := hid' (HNO.out k s[k] (HGB.out k hlt) (by rw [hvd, u125 s k hlt, c4, Bool.not_true, Bool.and_false]))
                go_wp2_with (refine wpl_store 49 _ _ rfl rfl b0 #[.int .i64 0, .string ⟨#[]⟩] (by rfl) (by rfl) _ _ HX.out sizePt18 rfl (by simp [Value.oneCell']) ?_)
                intro w9 ha9 hu9
                have hld := ldPt18 ha9
                have HB9 := hid' (HB0.out.trans (hu9.below HG0.out))
                clear ha9 hu9
                go_wp2
                exact bodyPost_ret (v := .tuple #[.agg #[.int .i64 0, .string ⟨#[]⟩], .bool false]) (by simp [results, Tryz.results34, asAddr, hld] <;> omega) rfl ⟨by rw [HF.out]; rfl, HB9.out⟩
            · skip
              have HF := hid' (HNO.out k s[k] (HGB.out k hlt) (by rw [hvd, u123 s k hlt, c3, Bool.not_true, Bool.and_false]; rfl))
              go_wp2_with (refine wpl_store 49 _ _ rfl rfl b0 #[.int .i64 0, .string ⟨#[]⟩] (by rfl) (by rfl) _ _ HX.out sizePt18 rfl (by simp [Value.oneCell']) ?_)
              intro w9 ha9 hu9
              have hld := ldPt18 ha9
              have HB9 := hid' (HB0.out.trans (hu9.below HG0.out))
              clear ha9 hu9
              go_wp2
              exact bodyPost_ret (v := .tuple #[.agg #[.int .i64 0, .string ⟨#[]⟩], .bool false]) (by simp [results, Tryz.results34, asAddr, hld] <;> omega) rfl ⟨by rw [HF.out]; rfl, HB9.out⟩
      · have hlt2 : ¬ (k : Int) < (s.size : Int) := by omega
        have HALL : Hid (l.all Rt.vis = true) := hid' (by
          rw [List.all_eq_true]
          intro c hc
          obtain ⟨j, hj, hjc⟩ := List.mem_iff_getElem.1 hc
          exact HV.out j c (by rw [List.getElem?_eq_getElem hj, hjc]) (by have := HSZ.out; omega))
        have HF : Hid (Rt.prt l = (⟨0, l⟩, !l.isEmpty)) := hid' (by rw [HP.out, HALL.out]; rfl)
        clear hlt
        by_cases z : (0 : Int) < (s.size : Int)
        · skip
          have HLE : Hid (l.isEmpty = false) := hid' (by rw [List.isEmpty_eq_false_iff]; intro e9; have h9 := HSZ.out; rw [e9, List.length_nil] at h9; omega)
          go_wp2_with (refine wpl_store 49 _ _ rfl rfl b0 #[.int .i64 0, .string s] (by rfl) (by rfl) _ _ HX.out sizePt18 rfl (by simp [Value.oneCell']) ?_)
          intro w9 ha9 hu9
          have hld := ldPt18 ha9
          have HB9 := hid' (HB0.out.trans (hu9.below HG0.out))
          clear ha9 hu9
          go_wp2
          exact bodyPost_ret (v := .tuple #[.agg #[.int .i64 0, .string s], .bool true]) (by simp [results, Tryz.results34, asAddr, hld] <;> omega) rfl ⟨by rw [HF.out, HLE.out]; unfold ptV18; rw [← HSE.out]; rfl, HB9.out⟩
        · have hz : decide ((0 : Int) < (s.size : Int)) = false := decide_eq_false z
          have HLE : Hid (l.isEmpty = true) := hid' (by rw [List.isEmpty_iff]; exact List.eq_nil_of_length_eq_zero (by have h9 := HSZ.out; omega))
          go_wp2_with (refine wpl_store 49 _ _ rfl rfl b0 #[.int .i64 0, .string s] (by rfl) (by rfl) _ _ HX.out sizePt18 rfl (by simp [Value.oneCell']) ?_)
          intro w9 ha9 hu9
          have hld := ldPt18 ha9
          have HB9 := hid' (HB0.out.trans (hu9.below HG0.out))
          clear ha9 hu9
          go_wp2
          exact bodyPost_ret (v := .tuple #[.agg #[.int .i64 0, .string s], .bool false]) (by simp [results, Tryz.results34, asAddr, hld] <;> exact ByteArray.size_eq_zero_iff.1 (by omega)) rfl ⟨by rw [HF.out, HLE.out]; unfold ptV18; rw [← HSE.out]; rfl, HB9.out⟩

end Go.Proofs.YtfdjimjiikeciaaGreatDoor

namespace Go.Proofs.YtfdjimjiikeciaaGreatDoor
open Go.RowKit

namespace Rt
theorem lex_at : ∀ (i : Nat) {a b : List Nat} {x y : Nat}, (∀ j, j < i → a[j]? = b[j]?) → a[i]? = some x → b[i]? = some y → x ≠ y → lex a b = decide (x < y) := by
  intro i
  induction i with
  | zero =>
    intro a b x y _ ha hb hxy
    cases a with
    | nil => simp at ha
    | cons c A =>
      cases b with
      | nil => simp at hb
      | cons d B =>
        simp at ha hb
        subst ha hb
        rw [lex, show (c == d) = false by rw [beq_eq_false_iff_ne]; exact hxy]; rfl
  | succ i ih =>
    intro a b x y h ha hb hxy
    cases a with
    | nil => simp at ha
    | cons c A =>
      cases b with
      | nil => simp at hb
      | cons d B =>
        have h0 := h 0 (Nat.succ_pos _)
        simp at h0
        subst h0
        rw [lex, show (c == c) = true by rw [beq_iff_eq]]
        exact ih (fun j hj => by simpa using h (j + 1) (by omega)) (by simpa using ha) (by simpa using hb) hxy
theorem lex_end : ∀ {a b : List Nat}, (∀ j, j < a.length → j < b.length → a[j]? = b[j]?) → lex a b = decide (a.length < b.length) := by
  intro a
  induction a with
  | nil => intro b _; cases b with | nil => rfl | cons d B => rw [lex]; simp
  | cons c A ih =>
    intro b h
    cases b with
    | nil => rw [lex]; simp
    | cons d B =>
      have h0 := h 0 (by simp) (by simp)
      simp at h0
      subst h0
      rw [lex, show (c == c) = true by rw [beq_iff_eq]]
      have := ih (b := B) (fun j h1 h2 => by simpa using h (j + 1) (by simpa using h1) (by simpa using h2))
      simp only [if_true, List.length_cons]
      rw [this]
      congr 1
      exact propext ⟨fun h => by omega, fun h => by omega⟩
theorem kinds_at {a : List Prt} {i : Nat} {p : Prt} (h : a[i]? = some p) : (kinds a)[i]? = some p.k := by unfold kinds; rw [List.getElem?_map, h]; rfl
theorem kinds_eq {a b : List Prt} {n : Nat} (h : ∀ j p q, j < n → a[j]? = some p → b[j]? = some q → p.k = q.k) (ha : n ≤ a.length) (hb : n ≤ b.length) : ∀ j, j < n → (kinds a)[j]? = (kinds b)[j]? := fun j hj => by
  have h1 := List.getElem?_eq_getElem (l := a) (i := j) (by omega)
  have h2 := List.getElem?_eq_getElem (l := b) (i := j) (by omega)
  rw [kinds_at h1, kinds_at h2, h j _ _ hj h1 h2]
end Rt

set_option maxHeartbeats 4000000 in
set_option maxRecDepth 20000 in
theorem rfiner18 (ao bo : Option Addr) (n m ac bc : Nat) (a b : List Rt.Prt) (hn : a.length = n) (hm : b.length = m) (hnb : n ≤ 4194305) (_hmb : m ≤ 4194305) (w : World) (h1 : PR18 w ao a) (h2 : PR18 w bo b) :
    Calls Tryz.prog 30 #[.slice ao n ac, .slice bo m bc] w fun e w' => e = .returned (.bool (Rt.finer a b)) ∧ Below w.heap.size w w' := by
  have H1 := hid' h1
  have H2 := hid' h2
  have HN := hid' hn
  have HM := hid' hm
  clear h1 h2 hn hm
  go_enter Tryz.func30, Tryz.ntmps30
  go_wp2
  go_loopw [5] (fun s5 wr => ∃ i : Nat, s5 = .int .i64 (i : Int) ∧ i ≤ n ∧ i ≤ m ∧ Hid (∀ j p q, j < i → a[j]? = some p → b[j]? = some q → p.k = q.k) ∧ Hid (Below w.heap.size w wr)) (fun s5 _ => n - (intOf s5).toNat)
  case atStart => exact ⟨0, rfl, Nat.zero_le _, Nat.zero_le _, hid' (fun j _ _ h => absurd h (Nat.not_lt_zero _)), hid' (Below.refl _ _)⟩
  case round =>
    obtain ⟨i, rfl, hi, him, HV, HB⟩ := hrel
    by_cases hlt : i < n
    · have hlt2 : (i : Int) < (n : Int) := by omega
      by_cases hlm : i < m
      · have hlm2 : (i : Int) < (m : Int) := by omega
        have h0i : (0 : Int) ≤ (i : Int) := by omega
        obtain ⟨p, hp⟩ : ∃ p, a[i]? = some p := ⟨_, List.getElem?_eq_getElem (by rw [HN.out]; exact hlt)⟩
        obtain ⟨q, hq⟩ : ∃ q, b[i]? = some q := ⟨_, List.getElem?_eq_getElem (by rw [HM.out]; exact hlm)⟩
        have HR1 := hid' (H1.out.below HB.out)
        have HR2 := hid' (H2.out.below HB.out)
        obtain ⟨g1, e1, l1, x0, x1⟩ := HR1.out i p hp
        obtain ⟨g2, e2, l2, y0, y1⟩ := HR2.out i q hq
        clear x1 y1
        subst e1 e2
        have HL1 := hid' l1
        have HL2 := hid' l2
        have HX0 := hid' x0
        have HY0 := hid' y0
        have sOf : ∀ W W1 : World, (Below wr.heap.size wr W ∧ W.cell? ⟨g1, i * 2, none⟩ = some (.int .i64 (p.k : Int)) ∧ W.cell? ⟨g2, i * 2, none⟩ = some (.int .i64 (q.k : Int))) → Below W.heap.size W W1 → (Below wr.heap.size wr W1 ∧ W1.cell? ⟨g1, i * 2, none⟩ = some (.int .i64 (p.k : Int)) ∧ W1.cell? ⟨g2, i * 2, none⟩ = some (.int .i64 (q.k : Int))) := fun W W1 h hb => by
          have hb' := below_two h.1 hb
          exact ⟨hb', (hb'.cell (p := ⟨g1, i * 2, none⟩) HL1.out).trans HX0.out, (hb'.cell (p := ⟨g2, i * 2, none⟩) HL2.out).trans HY0.out⟩
        have hS : Below wr.heap.size wr wr ∧ wr.cell? ⟨g1, i * 2, none⟩ = some (.int .i64 (p.k : Int)) ∧ wr.cell? ⟨g2, i * 2, none⟩ = some (.int .i64 (q.k : Int)) := ⟨Below.refl _ _, x0, y0⟩
        have HP := hid' hp
        have HQ := hid' hq
        by_cases hk : p.k = q.k
        · have hkn : ((p.k : Int) != (q.k : Int)) = false := by rw [hk]; simp
          have HV2 : Hid (∀ j p q, j < i + 1 → a[j]? = some p → b[j]? = some q → p.k = q.k) := hid' (fun j p' q' hj hp' hq' => by
            by_cases hji : j = i
            · subst hji
              rw [hp] at hp'
              rw [hq] at hq'
              injection hp' with hp'
              injection hq' with hq'
              rw [← hp', ← hq']; exact hk
            · exact HV.out j p' q' (by omega) hp' hq')
          clear hp hq l1 l2 hk
          go_upto_region 4 with fail
          go_region_held3 (fun W => Below wr.heap.size wr W ∧ W.cell? ⟨g1, i * 2, none⟩ = some (.int .i64 (p.k : Int)) ∧ W.cell? ⟨g2, i * 2, none⟩ = some (.int .i64 (q.k : Int)))
            (first | assumption | exact sOf _ _ (by assumption) (by assumption) | exact sOf _ _ (by assumption) ((Below.refl _ _).drew))
            (fail)
          go_wp2
          go_roundw
          case rel => exact ⟨i + 1, by go_num, by omega, by omega, HV2, hid' (below_two HB.out (Below.drew (Below.refl _ _)))⟩
          case measure => simp [intOf]; omega
        · have hkn : ((p.k : Int) != (q.k : Int)) = true := by simp; omega
          have HF : Hid (Rt.finer a b = decide (p.k < q.k)) := hid' (by
            unfold Rt.finer
            rw [Rt.lex_at i (Rt.kinds_eq HV.out (by rw [HN.out]; omega) (by rw [HM.out]; omega)) (Rt.kinds_at hp) (Rt.kinds_at hq) hk])
          clear hp hq l1 l2 hk
          go_upto_region 4 with fail
          go_region_held3 (fun W => Below wr.heap.size wr W ∧ W.cell? ⟨g1, i * 2, none⟩ = some (.int .i64 (p.k : Int)) ∧ W.cell? ⟨g2, i * 2, none⟩ = some (.int .i64 (q.k : Int)))
            (first | assumption | exact sOf _ _ (by assumption) (by assumption) | exact sOf _ _ (by assumption) ((Below.refl _ _).drew))
            (fail)
          go_upto_region 5 with fail
          go_region_held3 (fun W => Below wr.heap.size wr W ∧ W.cell? ⟨g1, i * 2, none⟩ = some (.int .i64 (p.k : Int)) ∧ W.cell? ⟨g2, i * 2, none⟩ = some (.int .i64 (q.k : Int)))
            (first | assumption | exact sOf _ _ (by assumption) (by assumption) | exact sOf _ _ (by assumption) ((Below.refl _ _).drew))
            (fail)
          go_wp2
          go_ret
          exact ⟨by rw [HF.out]; rfl, below_two HB.out (Below.drew (Below.drew (Below.refl _ _)))⟩
      · have hlm2 : ¬ (i : Int) < (m : Int) := by omega
        have HF : Hid (Rt.finer a b = decide (n < m)) := hid' (by
          unfold Rt.finer
          rw [Rt.lex_end (fun j h1 h2 => Rt.kinds_eq HV.out (by rw [HN.out]; omega) (by rw [HM.out]; omega) j (by simp [Rt.kinds, HM.out] at h2; omega))]
          simp only [Rt.kinds, List.length_map, HN.out, HM.out])
        go_wp2
        go_ret
        exact ⟨by rw [HF.out]; rfl, HB.out⟩
    · have hlt2 : ¬ (i : Int) < (n : Int) := by omega
      have HF : Hid (Rt.finer a b = decide (n < m)) := hid' (by
        unfold Rt.finer
        rw [Rt.lex_end (fun j h1 h2 => Rt.kinds_eq HV.out (by rw [HN.out]; omega) (by rw [HM.out]; omega) j (by simp [Rt.kinds, HN.out] at h1; omega))]
        simp only [Rt.kinds, List.length_map, HN.out, HM.out])
      go_wp2
      go_ret
      exact ⟨by rw [HF.out]; rfl, HB.out⟩

end Go.Proofs.YtfdjimjiikeciaaGreatDoor

namespace Go.Proofs.YtfdjimjiikeciaaGreatDoor
open Go.RowKit

namespace Rt
theorem fits_len : ∀ {a : List Prt} {l : List T8}, (∀ p ∈ a, p.k ≠ 2) → fits a l = true → a.length = l.length := by
  intro a
  induction a with
  | nil => intro l _ h; cases l with | nil => rfl | cons c r => cases h
  | cons p x ih =>
    intro l hk h
    rw [fits_cons, show (p.k == 2) = false by rw [beq_eq_false_iff_ne]; exact hk p (by simp)] at h
    cases l with
    | nil => cases h
    | cons c r =>
      simp only [Bool.false_eq_true, if_false, Bool.and_eq_true] at h
      rw [List.length_cons, List.length_cons, ih (fun q hq => hk q (by simp [hq])) h.2]
theorem fits_at : ∀ {a : List Prt} {l : List T8} {i : Nat} {p : Prt} {x : T8}, (∀ p ∈ a, p.k ≠ 2) → a[i]? = some p → l[i]? = some x → fit1 p x = false → fits a l = false := by
  intro a
  induction a with
  | nil => intro l i p x _ h; simp at h
  | cons c y ih =>
    intro l i p x hk ha hl hf
    rw [fits_cons, show (c.k == 2) = false by rw [beq_eq_false_iff_ne]; exact hk c (by simp)]
    cases l with
    | nil => simp at hl
    | cons d r =>
      simp only [Bool.false_eq_true, if_false]
      cases i with
      | zero =>
        simp at ha hl
        subst ha hl
        rw [hf]; rfl
      | succ i => rw [ih (fun q hq => hk q (by simp [hq])) (by simpa using ha) (by simpa using hl) hf, Bool.and_false]
theorem fits_all : ∀ {a : List Prt} {l : List T8}, (∀ p ∈ a, p.k ≠ 2) → a.length = l.length → (∀ (i : Nat) (p : Prt) (x : T8), a[i]? = some p → l[i]? = some x → fit1 p x = true) → fits a l = true := by
  intro a
  induction a with
  | nil => intro l _ hl _; cases l with | nil => rfl | cons c r => simp at hl
  | cons c y ih =>
    intro l hk hl h
    rw [fits_cons, show (c.k == 2) = false by rw [beq_eq_false_iff_ne]; exact hk c (by simp)]
    cases l with
    | nil => simp at hl
    | cons d r =>
      simp only [Bool.false_eq_true, if_false]
      rw [h 0 c d rfl rfl, ih (fun q hq => hk q (by simp [hq])) (by simpa using hl) (fun i p x hp hx => h (i + 1) p x (by simpa using hp) (by simpa using hx))]
      rfl
theorem fits_rest : ∀ {a : List Prt} {r : Prt} {l : List T8}, (∀ p ∈ a, p.k ≠ 2) → r.k = 2 → fits (a ++ [r]) l = (decide (a.length ≤ l.length) && fits a (l.take a.length)) := by
  intro a
  induction a with
  | nil =>
    intro r l _ hr
    rw [List.nil_append, fits_cons, show (r.k == 2) = true by rw [beq_iff_eq]; exact hr]
    simp [fits]
  | cons c y ih =>
    intro r l hk hr
    rw [List.cons_append, fits_cons, show (c.k == 2) = false by rw [beq_eq_false_iff_ne]; exact hk c (by simp)]
    cases l with
    | nil => simp
    | cons d t =>
      simp only [Bool.false_eq_true, if_false, List.length_cons, List.take_succ_cons]
      rw [ih (fun q hq => hk q (by simp [hq])) hr, fits_cons, show (c.k == 2) = false by rw [beq_eq_false_iff_ne]; exact hk c (by simp)]
      simp only [Bool.false_eq_true, if_false]
      rw [show decide (y.length + 1 ≤ t.length + 1) = decide (y.length ≤ t.length) by congr 1; exact propext ⟨fun h => by omega, fun h => by omega⟩]
      cases decide (y.length ≤ t.length) <;> simp
end Rt

theorem below_dN18 (w : World) (n : Nat) : Below w.heap.size w (w.drewN n) := ⟨rfl, rfl, rfl, Nat.le_refl _, fun _ _ => rfl⟩
theorem PR18.get {w : World} {ao : Option Addr} {a : List Rt.Prt} (h : PR18 w ao a) {i : Nat} {p : Rt.Prt} (hp : a[i]? = some p) : ∃ g, ao = some ⟨g, 0, none⟩ ∧ g < w.heap.size ∧ w.cell? ⟨g, i * 2, none⟩ = some (.int .i64 (p.k : Int)) ∧ w.cell? ⟨g, i * 2 + 1, none⟩ = some (.string ⟨p.t.toArray⟩) := h i p hp

set_option maxHeartbeats 4000000 in
set_option maxRecDepth 20000 in
theorem rfits_n18 (ao bo : Option Addr) (n m ac bc : Nat) (a : List Rt.Prt) (l : List (List UInt8)) (hn : a.length = n) (hm : l.length = m) (hnb : n ≤ 4194305) (hmb : m ≤ 4194305) (hk : ∀ p ∈ a, p.k ≠ 2) (w : World) (h1 : PR18 w ao a) (h2 : SR17 w bo l) :
    Calls Tryz.prog 29 #[.slice ao n ac, .slice bo m bc] w fun e w' => e = .returned (.bool (Rt.fits a l)) ∧ Below w.heap.size w w' := by
  have H1 := hid' h1
  have H2 := hid' h2
  have HN := hid' hn
  have HM := hid' hm
  have HK := hid' hk
  clear h1 h2 hn hm hk
  rcases Nat.eq_zero_or_pos n with rfl | hpos
  · have HA : Hid (a = []) := hid' (List.eq_nil_of_length_eq_zero HN.out)
    by_cases hm0 : m = 0
    · have hne : ((m : Int) != 0) = false := by rw [hm0]; rfl
      have hne' : ((0 : Int) != (m : Int)) = false := by rw [hm0]; rfl
      have HF : Hid (Rt.fits a l = true) := hid' (by rw [HA.out, List.eq_nil_of_length_eq_zero (HM.out.trans hm0)]; rfl)
      subst hm0
      go_enter Tryz.func29, Tryz.ntmps29
      go_wp2
      go_loopw [5] (fun s5 wr => s5 = .int .i64 0 ∧ wr = w) (fun _ _ => 0)
      case atStart => exact ⟨rfl, rfl⟩
      case round =>
        obtain ⟨rfl, rfl⟩ := hrel
        go_wp2
        go_ret
        exact ⟨by rw [HF.out]; rfl, Below.refl _ _⟩
    · have hne : ((0 : Int) != (m : Int)) = true := by simp; omega
      have HF : Hid (Rt.fits a l = false) := hid' (by
        cases hq : Rt.fits a l
        · rfl
        · exact absurd ((Rt.fits_len HK.out hq).symm.trans HN.out) (by rw [HM.out]; exact hm0))
      clear hm0
      go_enter Tryz.func29, Tryz.ntmps29
      go_wp2
      go_ret
      exact ⟨by rw [HF.out]; rfl, Below.refl _ _⟩
  · obtain ⟨n1, hn1⟩ : ∃ n1, n = n1 + 1 := ⟨n - 1, by omega⟩
    obtain ⟨p1, hp1⟩ : ∃ p, a[n1]? = some p := ⟨_, List.getElem?_eq_getElem (by rw [HN.out]; omega)⟩
    obtain ⟨g0, e0, l0, x0, x1⟩ := H1.out n1 p1 hp1
    have hk2 : ((p1.k : Int) == 2) = false := by rw [beq_eq_false_iff_ne]; have := HK.out p1 (List.mem_of_getElem? hp1); omega
    subst e0
    have HP1 := hid' hp1
    have hsub : (n : Int) - 1 = (n1 : Int) := by omega
    have hpI : (0 : Int) < (n : Int) := by omega
    have hlI : (n1 : Int) < (n : Int) := by omega
    have HNN := hid' hn1
    clear hn1 x1 l0 hp1
    by_cases hnm : n = m
    · subst hnm
      go_enter Tryz.func29, Tryz.ntmps29
      go_wp2
      clear x0 hk2 hsub hlI
      go_loopw [5] (fun s5 wr => ∃ i : Nat, s5 = .int .i64 (i : Int) ∧ i ≤ n ∧ Hid (∀ j p x, j < i → a[j]? = some p → l[j]? = some x → Rt.fit1 p x = true) ∧ Hid (Below w.heap.size w wr)) (fun s5 _ => n - (intOf s5).toNat)
      case atStart => exact ⟨0, rfl, Nat.zero_le _, hid' (fun j _ _ h => absurd h (Nat.not_lt_zero _)), hid' (Below.refl _ _)⟩
      case round =>
        obtain ⟨i, rfl, hi, HV, HB⟩ := hrel
        by_cases hlt : i < n
        · have hlt2 : (i : Int) < (n : Int) := by omega
          have h0i : (0 : Int) ≤ (i : Int) := by omega
          obtain ⟨p, hp⟩ : ∃ p, a[i]? = some p := ⟨_, List.getElem?_eq_getElem (by rw [HN.out]; exact hlt)⟩
          obtain ⟨q, hq⟩ : ∃ q, l[i]? = some q := ⟨_, List.getElem?_eq_getElem (by rw [HM.out]; exact hlt)⟩
          have HR1 := hid' (H1.out.below HB.out)
          have HR2 := hid' (H2.out.below HB.out)
          obtain ⟨g1, e1, l1, x0, x1⟩ := HR1.out i p hp
          obtain ⟨g2, e2, l2, y0⟩ := HR2.out i q hq
          injection e1 with e1
          injection e1 with e1
          subst e1 e2
          obtain ⟨x, hx⟩ : ∃ x : ByteArray, (⟨p.t.toArray⟩ : ByteArray) = x := ⟨_, rfl⟩
          obtain ⟨y, hy⟩ : ∃ x : ByteArray, (⟨q.toArray⟩ : ByteArray) = x := ⟨_, rfl⟩
          have hxy : (x.toList == y.toList) = (p.t == q) := by rw [← hx, ← hy, Lib.toList_data, Lib.toList_data]
          rw [hx] at x1
          rw [hy] at y0
          have hfd : Rt.fit1 p q = (!(p.k == 0) || p.t == q) := rfl
          have e2 : ((p.k : Int) == 0) = (p.k == 0) := by rw [Bool.eq_iff_iff, beq_iff_eq, beq_iff_eq]; omega
          have HV2 : Hid (Rt.fit1 p q = true → ∀ j p x, j < i + 1 → a[j]? = some p → l[j]? = some x → Rt.fit1 p x = true) := hid' (fun hf j p' q' hj hp' hq' => by
            by_cases hji : j = i
            · subst hji
              rw [hp] at hp'
              rw [hq] at hq'
              injection hp' with hp'
              injection hq' with hq'
              rw [← hp', ← hq']; exact hf
            · exact HV.out j p' q' (by omega) hp' hq')
          have HF : Hid (Rt.fit1 p q = false → Rt.fits a l = false) := hid' (fun hf => Rt.fits_at HK.out hp hq hf)
          clear hp hq hx hy l1 l2
          cases q2 : (p.k == 0)
          · rw [q2] at e2 hfd
            have HFT := hid' hfd
            clear hfd hxy
            go_wp2
            go_quiet (fail)
            have HBX := hid' (below_two HB.out (below_dN18 wr nq))
            go_wp2
            go_roundw
            case rel => exact ⟨i + 1, by go_num, by omega, hid' (HV2.out HFT.out), HBX⟩
            case measure => simp [intOf]; omega
          · rw [q2] at e2 hfd
            cases q3 : (p.t == q)
            · rw [q3] at hxy hfd
              have HFT := hid' hfd
              clear hfd
              go_wp2
              go_quiet (fail)
              have HBX := hid' (below_two HB.out (below_dN18 wr nq))
              go_wp2
              go_ret
              exact ⟨by rw [HF.out HFT.out]; rfl, HBX.out⟩
            · rw [q3] at hxy hfd
              have HFT := hid' hfd
              clear hfd
              go_wp2
              go_quiet (fail)
              have HBX := hid' (below_two HB.out (below_dN18 wr nq))
              go_wp2
              go_roundw
              case rel => exact ⟨i + 1, by go_num, by omega, hid' (HV2.out HFT.out), HBX⟩
              case measure => simp [intOf]; omega
        · have hlt2 : ¬ (i : Int) < (n : Int) := by omega
          have HF : Hid (Rt.fits a l = true) := hid' (Rt.fits_all HK.out (HN.out.trans HM.out.symm) (fun j p x hp hx => HV.out j p x (by have := (List.getElem?_eq_some_iff.1 hp).1; have := HN.out; omega) hp hx))
          clear hlt
          go_wp2
          go_ret
          exact ⟨by rw [HF.out]; rfl, HB.out⟩
    · have hne : ((n : Int) != (m : Int)) = true := by simp; omega
      have HF : Hid (Rt.fits a l = false) := hid' (by
        cases hq : Rt.fits a l
        · rfl
        · exact absurd (HN.out.symm.trans ((Rt.fits_len HK.out hq).trans HM.out)) hnm)
      clear hnm
      go_enter Tryz.func29, Tryz.ntmps29
      go_wp2
      go_ret
      exact ⟨by rw [HF.out]; rfl, Below.refl _ _⟩

theorem PR18.init {w : World} {ao : Option Addr} {a : List Rt.Prt} {r : Rt.Prt} (h : PR18 w ao (a ++ [r])) : PR18 w ao a := fun i p hp => h i p (by rw [List.getElem?_append_left (List.getElem?_eq_some_iff.1 hp).1]; exact hp)
theorem SR17.take18 {w : World} {ao : Option Addr} {l : List (List UInt8)} (h : SR17 w ao l) (k : Nat) : SR17 w ao (l.take k) := fun i p hp => h i p (by
  rw [List.getElem?_take] at hp
  split at hp
  · exact hp
  · cases hp)
namespace Rt
theorem Wf.split {a : List Prt} (h : Wf a) : (∀ p ∈ a, p.k ≠ 2) ∨ ∃ b r, a = b ++ [r] ∧ r.k = 2 ∧ ∀ p ∈ b, p.k ≠ 2 := by
  rcases List.eq_nil_or_concat a with rfl | ⟨b, r, rfl⟩
  · exact .inl (fun p hp => by simp at hp)
  · rw [List.concat_eq_append] at *
    have hb : ∀ p ∈ b, p.k ≠ 2 := fun p hp hk => by
      obtain ⟨i, hi, hip⟩ := List.mem_iff_getElem.1 hp
      have := h.last i p (by rw [List.getElem?_append_left hi, List.getElem?_eq_getElem hi, hip]) hk
      rw [List.length_append, List.length_singleton] at this
      omega
    by_cases hr : r.k = 2
    · exact .inr ⟨b, r, rfl, hr, hb⟩
    · refine .inl (fun p hp => ?_)
      rw [List.mem_append, List.mem_singleton] at hp
      rcases hp with hp | rfl
      · exact hb p hp
      · exact hr
end Rt

set_option maxHeartbeats 4000000 in
set_option maxRecDepth 20000 in
theorem rfits18 (ao bo : Option Addr) (n m ac bc : Nat) (a : List Rt.Prt) (l : List (List UInt8)) (hn : a.length = n) (hm : l.length = m) (hnb : n ≤ 4194305) (hmb : m ≤ 4194305) (hnc : n ≤ ac) (hmc : m ≤ bc) (hk : Rt.Wf a) (w : World) (h1 : PR18 w ao a) (h2 : SR17 w bo l) :
    Calls Tryz.prog 29 #[.slice ao n ac, .slice bo m bc] w fun e w' => e = .returned (.bool (Rt.fits a l)) ∧ Below w.heap.size w w' := by
  rcases hk.split with hk | ⟨b, r, rfl, hr, hk⟩
  · exact rfits_n18 ao bo n m ac bc a l hn hm hnb hmb hk w h1 h2
  · obtain ⟨n1, hn1⟩ : ∃ n1, b.length = n1 := ⟨_, rfl⟩
    have hnn : n = n1 + 1 := by rw [← hn, List.length_append, hn1]; rfl
    obtain ⟨g0, e0, l0, x0, x1⟩ := h1 n1 r (by rw [List.getElem?_append_right (by omega), ← hn1]; simp)
    have hk2 : ((r.k : Int) == 2) = true := by rw [beq_iff_eq, hr]; rfl
    subst e0
    have hsub : (n : Int) - 1 = (n1 : Int) := by omega
    have hpI : (0 : Int) < (n : Int) := by omega
    have hlI : (n1 : Int) < (n : Int) := by omega
    have H1 := hid' h1.init
    have H2 := hid' (h2.take18 n1)
    have HFR := hid' (Rt.fits_rest (l := l) hk hr)
    have HLM : Hid ((l.take n1).length = min n1 m) := hid' (by rw [List.length_take, hm])
    have HN1 := hid' hn1
    have HM := hid' hm
    have HK := hid' hk
    have HNN := hid' hnn
    clear hn hm hk h1 h2 hr hn1 hnn l0 x1
    by_cases hlm : m < n1
    · have hlm2 : (m : Int) < (n1 : Int) := by omega
      have HF : Hid (Rt.fits (b ++ [r]) l = false) := hid' (by rw [HFR.out, HN1.out, HM.out, decide_eq_false (by omega)]; rfl)
      clear hlm
      go_enter Tryz.func29, Tryz.ntmps29
      go_wp2
      go_ret
      exact ⟨by rw [HF.out]; rfl, Below.refl _ _⟩
    · have hlm2 : ¬ (m : Int) < (n1 : Int) := by omega
      have HF : Hid (Rt.fits (b ++ [r]) l = Rt.fits b (l.take n1)) := hid' (by rw [HFR.out, HN1.out, HM.out, decide_eq_true (by omega), Bool.true_and])
      have h0I : (0 : Int) ≤ (n1 : Int) := by omega
      have hcI : (n1 : Int) ≤ (ac : Int) := by omega
      have hdI : (n1 : Int) ≤ (bc : Int) := by omega
      have hw1 : IntKind.i64.wrap (n1 : Int) = (n1 : Int) := by rw [IntKind.wrap_i64]; omega
      have HC := hid' (fun W (hW : Below w.heap.size w W) => rfits_n18 (some ⟨g0, 0, none⟩) bo n1 n1 ac bc b (l.take n1) HN1.out (by rw [HLM.out]; omega) (by omega) (by omega) HK.out W (H1.out.below hW) (H2.out.below hW))
      have hS : Below w.heap.size w w := Below.refl _ _
      go_enter Tryz.func29, Tryz.ntmps29
      go_wp2
      go_region_held3 (fun W => Below w.heap.size w W)
        (first | assumption | exact below_two (by assumption) (by assumption) | exact Below.drew (by assumption))
        (first | (go_at_call 29; refine (HC.out _ ?_).mono ?_; assumption; rintro e wz ⟨rfl, hbz⟩))
      go_wp2
      go_ret
      exact ⟨by rw [HF.out]; rfl, by assumption⟩

end Go.Proofs.YtfdjimjiikeciaaGreatDoor
