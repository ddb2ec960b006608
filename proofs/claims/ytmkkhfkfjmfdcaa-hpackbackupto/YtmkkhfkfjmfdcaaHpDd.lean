/-
  The laws' own same, of fields that were read and fields that came in: by its contract; a script of deeds that came in.
-/
import Derived.Test.YtmkkhfkfjmfdcaaHpOf
import Derived.Test.YtmkkhfkfjmfdcaaHpLe
import Derived.Lib.SmallJoins
namespace Go.Proofs.Ytmkkhfkfjmfdcaa
open Go.RowKit

set_option maxHeartbeats 1000000 in
set_option maxRecDepth 20000 in
theorem sameF_any (B1 : Nat) (ao1 ao2 : Option Addr) (cap1 cap2 : Nat) (a b : List (List UInt8 × List UInt8)) (w : World) (h1 : Sl w B1 55 2 (.slice ao1 a.length cap1) a.length (Tb.cells a)) (h2 : FS w (.slice ao2 b.length cap2) b) (hla : a.length ≤ 35184372088832) (r : Bool) (hr : decide (a = b) = r) :
    Calls Try.prog 18 #[.slice ao1 a.length cap1, .slice ao2 b.length cap2] w fun e w' => e = .returned (.bool r) ∧ ∃ m, w' = w.drewN m := by
  obtain ⟨n, hn⟩ : ∃ n, a.length = n := ⟨_, rfl⟩
  obtain ⟨n2, hn2⟩ : ∃ n2, b.length = n2 := ⟨_, rfl⟩
  by_cases hne : n = n2
  · subst hne
    rw [hn] at h1 hla ⊢
    rw [hn2] at h2 ⊢
    have H1 := hid' h1
    have H2 := hid' h2
    have HN := hid' hn
    have HN2 := hid' hn2
    have HR := hid' hr
    have hee : ((n : Int) == (n : Int)) = true := beq_self_eq_true _
    clear h1 h2 hn hn2 hr
    go_enter Try.func18, Try.ntmps18
    go_wp2
    go_loopw [5] (fun s5 wr => ∃ i q : Nat, s5 = .int .i64 (i : Int) ∧ i ≤ n ∧ wr = w.drewN q ∧ Hid (a.take i = b.take i)) (fun s5 _ => n - (intOf s5).toNat)
    case atStart => exact ⟨0, 0, rfl, Nat.zero_le _, rfl, hid' rfl⟩
    case round =>
      obtain ⟨i, q, rfl, hin, rfl, HT⟩ := hrel
      by_cases hlt : i < n
      · have hlt2 : decide ((i : Int) < (n : Int)) = true := decide_eq_true (by omega)
        have hlt3 : decide (i < n) = true := decide_eq_true hlt
        have hltI : (i : Int) < (n : Int) := by omega
        obtain ⟨g1, q1, c1, hao1, _, _, _, _⟩ := H1.out.form (by omega)
        injection hao1 with e1 _ e2
        subst e1 e2
        have hi1 : i < a.length := by have := HN.out; omega
        have hi2 : i < b.length := by have := HN2.out; omega
        obtain ⟨x, hx⟩ : ∃ x, a[i]? = some x := ⟨_, List.getElem?_eq_getElem hi1⟩
        obtain ⟨y, hy⟩ : ∃ y, b[i]? = some y := ⟨_, List.getElem?_eq_getElem hi2⟩
        obtain ⟨xn, xv⟩ := x
        obtain ⟨yn, yv⟩ := y
        obtain ⟨ex0, ex1⟩ := Tb.cells_at _ _ _ hx
        obtain ⟨a2, rfl, b0, b1⟩ := H2.out.two i (yn, yv) hy
        simp only at ex0 ex1 b0 b1
        have a0 : w.cell? ⟨g1, q1 + i * 2, none⟩ = some (.string ⟨xn.toArray⟩) := (H1.out.cellAt (i * 2) (by omega)).trans ex0
        have a1 : w.cell? ⟨g1, q1 + i * 2 + 1, none⟩ = some (.string ⟨xv.toArray⟩) := (H1.out.cellAt (i * 2 + 1) (by omega)).trans ex1
        have hng := noGuard
        have HX := hid' hx
        have HY := hid' hy
        have HLT := hid' hlt
        clear ex0 ex1 hx hy hlt hi1 hi2
        by_cases hw : (xn, xv) = (yn, yv)
        · injection hw with w1 w2
          subst w1 w2
          have heq := nef_no xn xv
          go_wp2
          go_quiet ((fail))
          go_wp2
          go_roundw
          case rel => exact ⟨i + 1, _, by simp, by have := HLT.out; omega, by first | rfl | simp, hid' (by rw [List.take_add_one, List.take_add_one, HX.out, HY.out, HT.out])⟩
          case measure => have := HLT.out; simp [intOf]; omega
        · have heq := nef_yes xn xv yn yv hw
          have HRF : Hid (r = false) := hid' (by
            rw [← HR.out]
            refine decide_eq_false (fun e => hw ?_)
            have h1 := HX.out
            have h2 := HY.out
            rw [e, h2] at h1
            exact (Option.some.inj h1).symm)
          clear hw
          go_wp2
          go_quiet ((fail))
          go_wp2
          go_ret
          first
            | exact ⟨by rw [HRF.out]; rfl, _, rfl⟩
            | exact ⟨by rw [HRF.out]; rfl, _, World.drewN_drewN _ _ _⟩
            | exact ⟨by rw [HRF.out]; rfl, _, World.drewN_drewN⟩
      · have hlt2 : decide ((i : Int) < (n : Int)) = false := decide_eq_false (by omega)
        have hlt3 : decide (i < n) = false := decide_eq_false hlt
        have HRT : Hid (r = true) := hid' (by
          rw [← HR.out]
          refine decide_eq_true ?_
          have h1 := HT.out
          rw [List.take_of_length_le (by have := HN.out; omega), List.take_of_length_le (by have := HN2.out; omega)] at h1
          exact h1)
        clear hlt
        go_wp2
        go_ret
        exact ⟨by rw [HRT.out]; rfl, _, rfl⟩
  · obtain rfl : r = false := by
      rw [← hr]
      exact decide_eq_false (fun e => hne (by rw [← hn, ← hn2, e]))
    rw [hn, hn2]
    have he1 : ((n : Int) == (n2 : Int)) = false := beq_false_of_ne (by omega)
    have he2 : (n == n2) = false := beq_false_of_ne hne
    clear hr hne h1 h2
    go_enter Try.func18, Try.ntmps18
    go_wp2
    go_ret
    exact ⟨rfl, 0, rfl⟩

/-- A limit that is set, and fields. -/
structure Dd where
  set : Bool
  lim : Int
  fv : Value
  fields : List (List UInt8 × List UInt8)
/-- A script of deeds in memory. -/
def DScr (w : World) (v : Value) (ds : List Dd) : Prop :=
  (v = .slice none 0 0 ∧ ds = []) ∨ ∃ a cap, v = .slice (some a) ds.length cap ∧ ∀ i c, ds[i]? = some c →
    (a.add (i * 4)).block < w.heap.size ∧ w.cell? (a.add (i * 4)) = some (.bool c.set) ∧ w.cell? ⟨(a.add (i * 4)).block, (a.add (i * 4)).off + 1, none⟩ = some (.int .i64 c.lim) ∧ w.cell? ⟨(a.add (i * 4)).block, (a.add (i * 4)).off + 3, none⟩ = some c.fv ∧ FS w c.fv c.fields
open Go.ChangeShapes Go.WideShapes Go.ChangeAt Go.Deep

theorem cells4' {w : World} {p : Addr} {cs : List Value} (h : w.cells? 0 p 4 = some cs) : ∃ v0 v1 v2 v3, cs = [v0, v1, v2, v3] ∧ w.cell? p = some v0 ∧ w.cell? ⟨p.block, p.off + 1, none⟩ = some v1 ∧ w.cell? ⟨p.block, p.off + 3, none⟩ = some v3 := by
  obtain ⟨_, hl, hc⟩ := World.cells?_some h
  match cs, hl with
  | [v0, v1, v2, v3], _ =>
    refine ⟨v0, v1, v2, v3, rfl, ?_, ?_, ?_⟩
    · simpa [Addr.add] using hc 0 (by omega)
    · simpa [Addr.add] using hc 1 (by omega)
    · simpa [Addr.add] using hc 3 (by omega)
theorem bulk_mem {H : Type} {x : DataW H} {l : List (DataW H)} (h : x ∈ l) : Rows.uptoBulk x ≤ Rows.uptoBulkAll l := by
  induction l with
  | nil => cases h
  | cons y r ih =>
    simp only [Rows.uptoBulkAll]
    rcases List.mem_cons.1 h with rfl | h
    · omega
    · have := ih h; omega
theorem bulk_len' {H : Type} (l : List (DataW H)) : l.length ≤ Rows.uptoBulkAll l := by
  induction l with
  | nil => simp [Rows.uptoBulkAll]
  | cons x r ih =>
    have : 1 ≤ Rows.uptoBulk x := by
      cases x with
      | lit l => cases l <;> simp [Rows.uptoBulk]
      | nil => simp [Rows.uptoBulk]
      | ptr d => simp [Rows.uptoBulk]
      | slice elems spare => simp [Rows.uptoBulk]
      | agg parts => simp [Rows.uptoBulk]
      | iface t d => simp [Rows.uptoBulk]
      | map entries => simp [Rows.uptoBulk]
      | held h => simp [Rows.uptoBulk]
    simp only [Rows.uptoBulkAll, List.length_cons]; omega

set_option maxRecDepth 100000 in
theorem open_deeds {H : Type} {enc : TypeId × Value → H} {W : World} {base : Nat} {v : Value} {d : DataW H} {p : List MemPlace} (hval : Value.okWide Try.prog W .any base 22 v) (h : DataW.Trod enc Try.prog W 0 (fun _ => true) true 22 v d p) :
    ∃ ds : List Dd, DScr W v ds ∧ (∀ c ∈ ds, Tb.size c.fields ≤ 11 * Rows.uptoBulk d) ∧ ds.length ≤ Rows.uptoBulk d := by
  obtain ⟨a, len, cap, rfl⟩ := okWide_slice Try.underlying22 hval
  obtain ⟨fuel, hf⟩ := h
  have k4 : Try.prog.cellsOf 32 = 4 := by kernel_rfl
  have kb : Try.prog.cellsOf 4 = 1 := by kernel_rfl
  have ki : Try.prog.cellsOf 3 = 1 := by kernel_rfl
  have ks : Try.prog.cellsOf 9 = 1 := by kernel_rfl
  have kf : Try.prog.cellsOf 30 = 1 := by kernel_rfl
  rcases open_slice Try.underlying22 hf with ⟨h1, h2⟩ | ⟨a', len', cap', m, n, D, Pl, h1, _, hlc, hcm, hm, hx, hel⟩
  · simp [Value.cells] at h1
    obtain ⟨rfl, rfl, rfl⟩ := h1
    exact ⟨[], .inl ⟨rfl, rfl⟩, (fun c hc => by cases hc), Nat.zero_le _⟩
  · simp [Value.cells] at h1
    obtain ⟨rfl, rfl, rfl⟩ := h1
    simp only [if_true] at hm
    rw [hm] at hel hx
    have hch : ∀ i, ∃ c : Dd, i < len → ((a'.add (i * 4)).block < W.heap.size ∧ W.cell? (a'.add (i * 4)) = some (.bool c.set) ∧ W.cell? ⟨(a'.add (i * 4)).block, (a'.add (i * 4)).off + 1, none⟩ = some (.int .i64 c.lim) ∧ W.cell? ⟨(a'.add (i * 4)).block, (a'.add (i * 4)).off + 3, none⟩ = some c.fv ∧ FS W c.fv c.fields) ∧ Tb.size c.fields ≤ 11 * Rows.uptoBulk (D i) := by
      intro i
      by_cases hi : i < len
      · obtain ⟨cs', hc, ht⟩ := hel i (by omega)
        rw [k4] at hc
        obtain ⟨v0, v1, v2, v3, rfl, c0, c1, c3⟩ := cells4' hc
        obtain ⟨y0, y1, y2, y3, m2, e, _, g0, g1, g2, g3⟩ := Go.Joins.trod_struct4 Try.underlying32 ht
        simp only [kb, ki, ks, kf, List.drop_zero, List.take_succ_cons, List.take_zero, List.drop_succ_cons] at g0 g1 g2 g3
        obtain ⟨b0, f0, rfl⟩ := DataW.trod_bool Try.underlying4 g0
        obtain ⟨i1, f1, rfl, w1⟩ := DataW.trod_int Try.underlying3 g1
        simp only [List.cons.injEq, and_true] at f0 f1
        subst f0 f1
        obtain ⟨ao, ln, cp, rfl⟩ : ∃ ao ln cp, v3 = .slice ao ln cp := by
          rcases open_slice Try.underlying30 g3 with ⟨h1, _⟩ | ⟨a9, l9, cp9, _, _, _, _, h1, _⟩
          · exact ⟨none, 0, 0, by simpa using h1⟩
          · exact ⟨some a9, l9, cp9, by simpa using h1⟩
        obtain ⟨l, hFS, _, _, hsz⟩ := open_fieldsAt g3
        refine ⟨⟨b0, i1, .slice ao ln cp, l⟩, fun _ => ⟨⟨World.cells?_block hc (by omega), c0, c1, c3, hFS⟩, ?_⟩⟩
        rw [(Prod.mk.inj e).1]
        simp only [Rows.uptoBulk, Rows.uptoBulkAll]
        omega
      · exact ⟨⟨false, 0, .slice none 0 0, []⟩, fun h => absurd h hi⟩
    obtain ⟨f, hf'⟩ := Classical.axiomOfChoice hch
    have hd : d = .slice ((List.range len).map D) ((List.range (cap - len)).map fun j => D (len + j)) := (Prod.mk.inj hx).1
    have hdb : Rows.uptoBulkAll ((List.range len).map D) ≤ Rows.uptoBulk d := by rw [hd]; simp only [Rows.uptoBulk]; omega
    refine ⟨(List.range len).map f, .inr ⟨a', cap, by simp, ?_⟩, ?_, ?_⟩
    · intro i c hc
      have hi : i < len := by
        have := (List.getElem?_eq_some_iff.1 hc).1
        simpa using this
      have e : f i = c := by simpa [List.getElem?_map, List.getElem?_range hi] using hc
      rw [← e]
      exact (hf' i hi).1
    · intro c hc
      obtain ⟨i, hi, rfl⟩ := List.mem_map.1 hc
      have hi' : i < len := by simpa using hi
      have h1 := (hf' i hi').2
      have h2 := bulk_mem (List.mem_map.2 ⟨i, hi, rfl⟩ : D i ∈ (List.range len).map D)
      omega
    · have := bulk_len' ((List.range len).map D)
      rw [List.length_map] at this
      rw [List.length_map]
      omega

end Go.Proofs.Ytmkkhfkfjmfdcaa
