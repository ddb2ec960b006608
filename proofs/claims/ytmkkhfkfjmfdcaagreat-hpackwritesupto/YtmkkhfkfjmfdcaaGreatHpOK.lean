/-
  Fields that came in: as a row hands them.
  The laws' own lent: by its contract.
  The laws' own same, of fields that were read and fields that came in: by its contract; a script of deeds that came in.
  The laws' own kept: by its contract.
-/
import Derived.Test.YtmkkhfkfjmfdcaaGreatHpLn
import Derived.Test.YtmkkhfkfjmfdcaaGreatRows
import Derived.Deep.Slices
import Derived.Deep.Strs
import Derived.RowKit
import Derived.ProofKit
import Derived.OpenShut
import Derived.Lib.SmallJoins
namespace Go.Proofs.YtmkkhfkfjmfdcaaGreat
open Go.RowKit Go.ChangeShapes Go.WideShapes Go.ChangeAt Go.Deep

/-- What a field reads as. -/
def fdD {H : Type} (f : List UInt8 × List UInt8) : DataW H := .agg [.lit (.string f.1), .lit (.string f.2)]
set_option maxRecDepth 100000 in
theorem fds_bulk {H : Type} (l : List (List UInt8 × List UInt8)) : l.length ≤ Rows.uptoBulkAll (l.map fdD : List (DataW H)) ∧ ∀ f ∈ l, f.1.length ≤ Rows.uptoBulkAll (l.map fdD : List (DataW H)) ∧ f.2.length ≤ Rows.uptoBulkAll (l.map fdD : List (DataW H)) := by
  induction l with
  | nil => exact ⟨Nat.zero_le _, fun f hf => by cases hf⟩
  | cons x r ih =>
    have e : Rows.uptoBulkAll ((x :: r).map fdD : List (DataW H)) = x.1.length + x.2.length + 3 + Rows.uptoBulkAll (r.map fdD : List (DataW H)) := by
      simp only [List.map_cons, Rows.uptoBulkAll, fdD, Rows.uptoBulk]; omega
    rw [e]
    refine ⟨by have := ih.1; rw [List.length_cons]; omega, fun f hf => ?_⟩
    rcases List.mem_cons.1 hf with rfl | h
    · omega
    · have := ih.2 f h; omega
set_option maxRecDepth 100000 in
theorem fds_size {H : Type} (l : List (List UInt8 × List UInt8)) : Tb.size l ≤ 11 * Rows.uptoBulkAll (l.map fdD : List (DataW H)) := by
  induction l with
  | nil => exact Nat.zero_le _
  | cons x r ih =>
    have e : Rows.uptoBulkAll ((x :: r).map fdD : List (DataW H)) = x.1.length + x.2.length + 3 + Rows.uptoBulkAll (r.map fdD : List (DataW H)) := by
      simp only [List.map_cons, Rows.uptoBulkAll, fdD, Rows.uptoBulk]; omega
    rw [e, Tb.size_cons]
    unfold Tb.wt
    omega
theorem cells2 {w : World} {p : Addr} {cs : List Value} (h : w.cells? 0 p 2 = some cs) : ∃ v0 v1, cs = [v0, v1] ∧ w.cell? p = some v0 ∧ w.cell? (p.add 1) = some v1 := by
  obtain ⟨_, hl, hc⟩ := World.cells?_some h
  match cs, hl with
  | [v0, v1], _ =>
    refine ⟨v0, v1, rfl, ?_, ?_⟩
    · simpa [Addr.add] using hc 0 (by omega)
    · simpa using hc 1 (by omega)

set_option maxRecDepth 100000 in
theorem open_fieldsAt {H : Type} {enc : TypeId × Value → H} {W : World} {fuel : Nat} {ao : Option Addr} {len cap : Nat} {x : DataW H × List MemPlace} (hf : DataW.trod enc Tryz.prog W 0 (fun _ => true) true fuel 27 [.slice ao len cap] = some x) :
    ∃ l : List (List UInt8 × List UInt8), FS W (.slice ao len cap) l ∧ (∀ f ∈ l, f.1.length ≤ Rows.uptoBulk x.1 ∧ f.2.length ≤ Rows.uptoBulk x.1) ∧ l.length ≤ Rows.uptoBulk x.1 ∧ Tb.size l ≤ 11 * Rows.uptoBulk x.1 := by
  have c2 : Tryz.prog.cellsOf 54 = 2 := by kernel_rfl
  have c3 : Tryz.prog.cellsOf 9 = 1 := by kernel_rfl
  rcases open_slice Tryz.underlying27 hf with ⟨h1, h2⟩ | ⟨a', len', cap', m, n, D, Pl, h1, _, hlc, hcm, hm, hx, hel⟩
  · simp only [List.cons.injEq, and_true] at h1
    injection h1 with e1 e2 e3
    subst e1 e2 e3
    exact ⟨[], .inl ⟨rfl, rfl⟩, (fun f hf => by cases hf), Nat.zero_le _, Nat.zero_le _⟩
  · simp only [List.cons.injEq, and_true] at h1
    injection h1 with e1 e2 e3
    subst e1 e2 e3
    simp only [if_true] at hm
    rw [hm] at hel hx
    have hch : ∀ i, ∃ f : List UInt8 × List UInt8, i < len → (((a'.add (i * 2)).block < W.heap.size ∧ W.cell? (a'.add (i * 2)) = some (.string ⟨f.1.toArray⟩)) ∧ W.cell? ((a'.add (i * 2)).add 1) = some (.string ⟨f.2.toArray⟩)) ∧ D i = fdD f := by
      intro i
      by_cases hi : i < len
      · obtain ⟨cs', hc, ht⟩ := hel i (by omega)
        rw [c2] at hc
        obtain ⟨v0, v1, rfl, k0, k1⟩ := cells2 hc
        obtain ⟨z0, z1, m2, e, _, g0, g1⟩ := trod_struct2 Tryz.underlying54 ht
        simp only [c3, List.drop_zero, List.take_succ_cons, List.take_zero, List.drop_succ_cons] at g0 g1
        obtain ⟨s0, f0, rfl, _⟩ := DataW.trod_string Tryz.underlying9 g0
        obtain ⟨s1, f1, rfl, _⟩ := DataW.trod_string Tryz.underlying9 g1
        simp only [List.cons.injEq, and_true] at f0 f1
        subst f0 f1
        exact ⟨(s0.data.toList, s1.data.toList), fun _ => ⟨⟨⟨World.cells?_block hc (by omega), k0⟩, k1⟩, (Prod.mk.inj e).1⟩⟩
      · exact ⟨([], []), fun h => absurd h hi⟩
    obtain ⟨f, hf'⟩ := Classical.axiomOfChoice hch
    have hd : x.1 = .slice (((List.range len).map f).map fdD) ((List.range (cap - len)).map fun j => D (len + j)) := by
      rw [hx]
      simp only
      congr 1
      rw [List.map_map]
      apply List.map_congr_left
      intro i hi
      exact (hf' i (by simpa using hi)).2
    have hb := fds_bulk (H := H) ((List.range len).map f)
    have hdb : Rows.uptoBulkAll (((List.range len).map f).map fdD : List (DataW H)) ≤ Rows.uptoBulk x.1 := by rw [hd]; simp only [Rows.uptoBulk]; omega
    refine ⟨(List.range len).map f, .inr ⟨a', cap, by simp, ?_⟩, fun g hg => ⟨Nat.le_trans (hb.2 g hg).1 hdb, Nat.le_trans (hb.2 g hg).2 hdb⟩, Nat.le_trans hb.1 hdb, by have := fds_size (H := H) ((List.range len).map f); omega⟩
    intro j u hj
    have hjl : j < len * 2 := by
      have := (List.getElem?_eq_some_iff.1 hj).1
      rw [Tb.cells_length] at this
      simpa using this
    have hi : j / 2 < len := by omega
    have hfi : ((List.range len).map f)[j / 2]? = some (f (j / 2)) := by simp [List.getElem?_map, List.getElem?_range hi]
    obtain ⟨e0, e1⟩ := Tb.cells_at _ _ _ hfi
    obtain ⟨⟨⟨p0, p1⟩, p2⟩, _⟩ := hf' (j / 2) hi
    rcases Nat.mod_two_eq_zero_or_one j with hm2 | hm2
    · have ej : j = j / 2 * 2 := by omega
      rw [ej] at hj ⊢
      rw [e0] at hj
      rw [← Option.some.inj hj]
      exact ⟨p0, p1⟩
    · have ej : j = j / 2 * 2 + 1 := by omega
      rw [ej] at hj ⊢
      rw [e1] at hj
      rw [← Option.some.inj hj, ← Addr.add_add]
      exact ⟨World.block_lt_of_cell? W _ p2, p2⟩

set_option maxRecDepth 100000 in
theorem open_fields {H : Type} {enc : TypeId × Value → H} {W : World} {base : Nat} {v : Value} {d : DataW H} {p : List MemPlace} (hval : Value.okWide Tryz.prog W .any base 27 v) (h : DataW.Trod enc Tryz.prog W 0 (fun _ => true) true 27 v d p) :
    ∃ l : List (List UInt8 × List UInt8), FS W v l ∧ (∀ f ∈ l, f.1.length ≤ Rows.uptoBulk d ∧ f.2.length ≤ Rows.uptoBulk d) ∧ l.length ≤ Rows.uptoBulk d := by
  obtain ⟨a, len, cap, rfl⟩ := okWide_slice Tryz.underlying27 hval
  obtain ⟨fuel, hf⟩ := h
  obtain ⟨l, h1, h2, h3, _⟩ := open_fieldsAt (x := (d, p)) (by simpa [Value.cells] using hf)
  exact ⟨l, h1, h2, h3⟩

end Go.Proofs.YtmkkhfkfjmfdcaaGreat

namespace Go.Proofs.YtmkkhfkfjmfdcaaGreat
open Go.RowKit

theorem sl_front {w : World} {B : Nat} {e : TypeId} {s g n cap : Nat} {xs ys : List Value} (h : w.ownsRow B e s (.slice (some ⟨g, 0, none⟩) (n + 1) cap) (n + 1) (xs ++ ys)) (hl : xs.length = n * s) : Sl w B e s (.slice (some ⟨g, 0, none⟩) n cap) n xs := by
  refine ⟨hl, ?_⟩
  rcases h.2 with ⟨hv, _⟩ | ⟨g', cap', cur, hv, hb, hg, hn, hm, hs, ht⟩
  · cases hv
  · injection hv with h1 _ h3
    injection h1 with h1
    injection h1 with h1
    subst h1 h3
    refine .inr ⟨g, 0, cap, cur, rfl, hb, hg, by omega, hm, by omega, ?_⟩
    rw [List.drop_zero]
    have h2 : (cur.toList.take ((n + 1) * s)).take (n * s) = (xs ++ ys).take (n * s) := by rw [ht]
    rw [List.take_take, Nat.min_eq_left (Nat.mul_le_mul_right _ (by omega))] at h2
    rw [h2, ← hl, List.take_left]

set_option maxHeartbeats 2000000 in
set_option maxRecDepth 20000 in
theorem lent2_any (ao : Option Addr) (cap : Nat) (l : List (List UInt8 × List UInt8)) (w : World) (h : FS w (.slice ao l.length cap) l) (hb : l.length ≤ 1099511627776) :
    Calls Tryz.prog 8 #[.slice ao l.length cap] w fun e w' => ∃ g c', e = .returned (.slice (some ⟨g, 0, none⟩) l.length c') ∧ Sl w' w.heap.size 54 2 (.slice (some ⟨g, 0, none⟩) l.length c') l.length (Tb.cells l) ∧ Sl w' w.heap.size 54 2 (.slice (some ⟨g, 0, none⟩) (l.length + 1) c') (l.length + 1) (Tb.cells l ++ [.string ⟨#[45, 109, 97, 114, 107]⟩, .string ⟨#[]⟩]) ∧ l.length + 1 ≤ c' ∧ Below w.heap.size w w' := by
  obtain ⟨i0, hi, hz0, hz1, hz2⟩ := info_parts infoFd
  obtain ⟨n, hn⟩ : ∃ n, l.length = n := ⟨_, rfl⟩
  rw [hn] at h hb ⊢
  have HN := hid' hn
  have HI := hid' hi
  have HZ0 := hid' hz0
  have HZ1 := hid' hz1
  have HZ2 := hid' hz2
  have HCL : Hid ((Tb.cells l).length = n * 2) := hid' (by rw [Tb.cells_length, hn])
  clear hn hi hz0 hz1 hz2
  have hno : w.ownsRow w.heap.size 54 2 (.slice none 0 0) 0 [] := World.ownsRow_nil _ _ _ _
  have HNO := hid' hno
  clear hno
  rcases h with ⟨hv, rfl⟩ | ⟨a, cap', hv, hc⟩
  · injection hv with h1 h2 h3
    subst h1 h2 h3
    go_enter Tryz.func8, Tryz.ntmps8
    go_wp2_with (at_builtin; refine wpList_append_own_none rfl _ _ 27 rfl w.heap.size 54 i0 2 Tryz.underlying27 HI.out (.slice none 0 0) 0 [] rfl HNO.out rfl ?_; refine Hid.out ?_)
    refine hid' ?_
    have hown1 : w.ownsRow w.heap.size 54 2 (.slice none 0 0) 0 (Tb.cells []) := HNO.out
    have hbl1 := Below.refl w.heap.size w
    have HOWN1 := hid' hown1
    have HB1 := hid' hbl1
    clear hown1 hbl1
    go_wp2_with fail
    refine (fld_any _ _ _).mono ?_
    rintro e w2 ⟨rfl, hb2⟩
    have hb3 : Below w2.heap.size w2 (w2.alloc (.cells #[.string ⟨#[45, 109, 97, 114, 107]⟩, .string ⟨#[]⟩] 54)) := (Below.refl _ _).alloc (Nat.le_refl _) _
    have HA3 : Hid (Ar (w2.alloc (.cells #[.string ⟨#[45, 109, 97, 114, 107]⟩, .string ⟨#[]⟩] 54)) w2.heap.size 54 #[.string ⟨#[45, 109, 97, 114, 107]⟩, .string ⟨#[]⟩]) := hid' (heap_alloc_last w2 _)
    have HBB := hid' (below_two (below_two HB1.out hb2) hb3)
    have HOWN : Hid ((w2.alloc (.cells #[.string ⟨#[45, 109, 97, 114, 107]⟩, .string ⟨#[]⟩] 54)).ownsRow w.heap.size 54 2 (.slice none 0 0) 0 (Tb.cells [])) := hid' (HOWN1.out.kept (row := none) (grown_of_below (below_two hb2 hb3) _) (by simp [Value.ownBlock]))
    have HNW : Hid (∀ j u, [Value.string ⟨#[45, 109, 97, 114, 107]⟩, .string ⟨#[]⟩][j]? = some u → (w2.alloc (.cells #[.string ⟨#[45, 109, 97, 114, 107]⟩, .string ⟨#[]⟩] 54)).cell? ((⟨w2.heap.size, 0, none⟩ : Addr).add j) = some u) := hid' fun j u hj => by
      rw [Addr.add_mid, Nat.zero_add]
      exact HA3.out.cell j u (by simpa using hj)
    clear hb2 hb3 HOWN1
    go_wp2_with (at_builtin; refine wpList_append_own _ rfl _ _ 27 rfl w.heap.size 54 i0 (.agg #[.string ⟨#[]⟩, .string ⟨#[]⟩]) 2 32 Tryz.underlying27 HI.out HZ0.out HZ1.out HZ2.out rfl (by decide) (.slice none 0 0) 0 (Tb.cells []) rfl HOWN.out ⟨w2.heap.size, 0, none⟩ 1 1 [.string ⟨#[45, 109, 97, 114, 107]⟩, .string ⟨#[]⟩] rfl rfl HNW.out (by simp [Value.oneCell']) (by unfold maxLen; omega) (by omega) HBB.out.size ?_; intro v3 w3 hown3 hgrow3 _; refine Hid.out ?_)
    refine hid' ?_
    obtain ⟨g, cap3, rfl, hcap⟩ : ∃ g cap3, v3 = .slice (some ⟨g, 0, none⟩) (0 + 1) cap3 ∧ 0 + 1 ≤ cap3 := by
      rcases hown3.2 with ⟨_, h0⟩ | ⟨g, c3, cur, hv, _, _, hle, _⟩
      · omega
      · exact ⟨g, c3, hv, hle⟩
    have HSL : Hid (Sl w3 w.heap.size 54 2 (.slice (some ⟨g, 0, none⟩) 0 cap3) 0 (Tb.cells [])) := hid' (sl_front hown3 HCL.out)
    have HSL2 : Hid (Sl w3 w.heap.size 54 2 (.slice (some ⟨g, 0, none⟩) (0 + 1) cap3) (0 + 1) (Tb.cells [] ++ [.string ⟨#[45, 109, 97, 114, 107]⟩, .string ⟨#[]⟩])) := hid' (sl_of_own hown3)
    have HCP := hid' hcap
    have HB3 : Hid (Below w.heap.size w w3) := hid' (HBB.out.grown hgrow3 HBB.out.size (fun k hk => (HOWN.out.lt k hk).1))
    have hc2 : 0 ≤ cap3 := by omega
    have hc4 : ¬ cap3 = 0 := by omega
    have hc5 : (cap3 == 0) = false := beq_false_of_ne hc4
    clear hown3 hgrow3 hcap
    go_wp2
    go_ret
    exact ⟨g, cap3, rfl, HSL.out, HSL2.out, HCP.out, HB3.out⟩
  · injection hv with h1 h2 h3
    subst h1 h3
    have HC := hid' hc
    clear hc h2
    go_enter Tryz.func8, Tryz.ntmps8
    go_wp2_with (at_builtin; refine wpList_append_own _ rfl _ _ 27 rfl w.heap.size 54 i0 (.agg #[.string ⟨#[]⟩, .string ⟨#[]⟩]) 2 32 Tryz.underlying27 HI.out HZ0.out HZ1.out HZ2.out rfl (by decide) (.slice none 0 0) 0 [] rfl HNO.out a n cap (Tb.cells l) rfl HCL.out (fun j u hj => (HC.out j u hj).2) (Tb.cells_one l) (by unfold maxLen; omega) (by omega) (Nat.le_refl _) ?_; intro v1 w1 hown1 hgrow1 _; refine Hid.out ?_)
    refine hid' ?_
    rw [Nat.zero_add, List.nil_append] at hown1
    have hbl1 : Below w.heap.size w w1 := (Below.refl w.heap.size w).grown hgrow1 (Nat.le_refl _) (fun k hk => by simp [Value.ownBlock] at hk)
    clear hgrow1
    have HOWN1 := hid' hown1
    have HB1 := hid' hbl1
    clear hown1 hbl1
    go_wp2_with fail
    refine (fld_any _ _ _).mono ?_
    rintro e w2 ⟨rfl, hb2⟩
    have hb3 : Below w2.heap.size w2 (w2.alloc (.cells #[.string ⟨#[45, 109, 97, 114, 107]⟩, .string ⟨#[]⟩] 54)) := (Below.refl _ _).alloc (Nat.le_refl _) _
    have HA3 : Hid (Ar (w2.alloc (.cells #[.string ⟨#[45, 109, 97, 114, 107]⟩, .string ⟨#[]⟩] 54)) w2.heap.size 54 #[.string ⟨#[45, 109, 97, 114, 107]⟩, .string ⟨#[]⟩]) := hid' (heap_alloc_last w2 _)
    have HBB := hid' (below_two (below_two HB1.out hb2) hb3)
    have HOWN : Hid ((w2.alloc (.cells #[.string ⟨#[45, 109, 97, 114, 107]⟩, .string ⟨#[]⟩] 54)).ownsRow w.heap.size 54 2 v1 n (Tb.cells l)) := hid' (HOWN1.out.kept (row := none) (grown_of_below (below_two hb2 hb3) _) (by cases v1.ownBlock <;> simp))
    have HNW : Hid (∀ j u, [Value.string ⟨#[45, 109, 97, 114, 107]⟩, .string ⟨#[]⟩][j]? = some u → (w2.alloc (.cells #[.string ⟨#[45, 109, 97, 114, 107]⟩, .string ⟨#[]⟩] 54)).cell? ((⟨w2.heap.size, 0, none⟩ : Addr).add j) = some u) := hid' fun j u hj => by
      rw [Addr.add_mid, Nat.zero_add]
      exact HA3.out.cell j u (by simpa using hj)
    clear hb2 hb3 HOWN1
    go_wp2_with (at_builtin; refine wpList_append_own _ rfl _ _ 27 rfl w.heap.size 54 i0 (.agg #[.string ⟨#[]⟩, .string ⟨#[]⟩]) 2 32 Tryz.underlying27 HI.out HZ0.out HZ1.out HZ2.out rfl (by decide) v1 n (Tb.cells l) rfl HOWN.out ⟨w2.heap.size, 0, none⟩ 1 1 [.string ⟨#[45, 109, 97, 114, 107]⟩, .string ⟨#[]⟩] rfl rfl HNW.out (by simp [Value.oneCell']) (by unfold maxLen; omega) (by omega) HBB.out.size ?_; intro v3 w3 hown3 hgrow3 _; refine Hid.out ?_)
    refine hid' ?_
    obtain ⟨g, cap3, rfl, hcap⟩ : ∃ g cap3, v3 = .slice (some ⟨g, 0, none⟩) (n + 1) cap3 ∧ n + 1 ≤ cap3 := by
      rcases hown3.2 with ⟨_, h0⟩ | ⟨g, c3, cur, hv, _, _, hle, _⟩
      · omega
      · exact ⟨g, c3, hv, hle⟩
    have HSL : Hid (Sl w3 w.heap.size 54 2 (.slice (some ⟨g, 0, none⟩) n cap3) n (Tb.cells l)) := hid' (sl_front hown3 HCL.out)
    have HSL2 : Hid (Sl w3 w.heap.size 54 2 (.slice (some ⟨g, 0, none⟩) (n + 1) cap3) (n + 1) (Tb.cells l ++ [.string ⟨#[45, 109, 97, 114, 107]⟩, .string ⟨#[]⟩])) := hid' (sl_of_own hown3)
    have HCP := hid' hcap
    have HB3 : Hid (Below w.heap.size w w3) := hid' (HBB.out.grown hgrow3 HBB.out.size (fun k hk => (HOWN.out.lt k hk).1))
    have hc2 : n ≤ cap3 := by omega
    have hc4 : ¬ cap3 = 0 := by omega
    have hc5 : (cap3 == 0) = false := beq_false_of_ne hc4
    clear hown3 hgrow3 hcap
    go_wp2
    go_ret
    exact ⟨g, cap3, rfl, HSL.out, HSL2.out, HCP.out, HB3.out⟩

theorem lent_any (ao : Option Addr) (cap : Nat) (l : List (List UInt8 × List UInt8)) (w : World) (h : FS w (.slice ao l.length cap) l) (hb : l.length ≤ 1099511627776) :
    Calls Tryz.prog 8 #[.slice ao l.length cap] w fun e w' => ∃ g c', e = .returned (.slice (some ⟨g, 0, none⟩) l.length c') ∧ Sl w' w.heap.size 54 2 (.slice (some ⟨g, 0, none⟩) l.length c') l.length (Tb.cells l) ∧ Below w.heap.size w w' :=
  (lent2_any ao cap l w h hb).mono fun _ _ ⟨g, c', h1, h2, _, _, h3⟩ => ⟨g, c', h1, h2, h3⟩

end Go.Proofs.YtmkkhfkfjmfdcaaGreat

namespace Go.Proofs.YtmkkhfkfjmfdcaaGreat
open Go.RowKit

set_option maxHeartbeats 1000000 in
set_option maxRecDepth 20000 in
theorem sameF_any (B1 : Nat) (ao1 ao2 : Option Addr) (cap1 cap2 : Nat) (a b : List (List UInt8 × List UInt8)) (w : World) (h1 : Sl w B1 54 2 (.slice ao1 a.length cap1) a.length (Tb.cells a)) (h2 : FS w (.slice ao2 b.length cap2) b) (hla : a.length ≤ 35184372088832) (r : Bool) (hr : decide (a = b) = r) :
    Calls Tryz.prog 28 #[.slice ao1 a.length cap1, .slice ao2 b.length cap2] w fun e w' => e = .returned (.bool r) ∧ ∃ m, w' = w.drewN m := by
  obtain ⟨n, hn⟩ : ∃ n, a.length = n := ⟨_, rfl⟩
  obtain ⟨n2, hn2⟩ : ∃ n2, b.length = n2 := ⟨_, rfl⟩
  by_cases hne : n = n2
  · subst hne
    rw [hn] at h1 hla ⊢
    rw [hn2] at h2 ⊢
    have H1 := hid' h1
    have H2 := hid' h2
    have HN := hid' hn
    have HN2 := hid' hn2
    have HR := hid' hr
    have hee : ((n : Int) == (n : Int)) = true := beq_self_eq_true _
    clear h1 h2 hn hn2 hr
    go_enter Tryz.func28, Tryz.ntmps28
    go_wp2
    go_loopw [5] (fun s5 wr => ∃ i q : Nat, s5 = .int .i64 (i : Int) ∧ i ≤ n ∧ wr = w.drewN q ∧ Hid (a.take i = b.take i)) (fun s5 _ => n - (intOf s5).toNat)
    case atStart => exact ⟨0, 0, rfl, Nat.zero_le _, rfl, hid' rfl⟩
    case round =>
      obtain ⟨i, q, rfl, hin, rfl, HT⟩ := hrel
      by_cases hlt : i < n
      · have hlt2 : decide ((i : Int) < (n : Int)) = true := decide_eq_true (by omega)
        have hlt3 : decide (i < n) = true := decide_eq_true hlt
        have hltI : (i : Int) < (n : Int) := by omega
        obtain ⟨g1, q1, c1, hao1, _, _, _, _⟩ := H1.out.form (by omega)
        injection hao1 with e1 _ e2
        subst e1 e2
        have hi1 : i < a.length := by have := HN.out; omega
        have hi2 : i < b.length := by have := HN2.out; omega
        obtain ⟨x, hx⟩ : ∃ x, a[i]? = some x := ⟨_, List.getElem?_eq_getElem hi1⟩
        obtain ⟨y, hy⟩ : ∃ y, b[i]? = some y := ⟨_, List.getElem?_eq_getElem hi2⟩
        obtain ⟨xn, xv⟩ := x
        obtain ⟨yn, yv⟩ := y
        obtain ⟨ex0, ex1⟩ := Tb.cells_at _ _ _ hx
        obtain ⟨a2, rfl, b0, b1⟩ := H2.out.two i (yn, yv) hy
        simp only at ex0 ex1 b0 b1
        have a0 : w.cell? ⟨g1, q1 + i * 2, none⟩ = some (.string ⟨xn.toArray⟩) := (H1.out.cellAt (i * 2) (by omega)).trans ex0
        have a1 : w.cell? ⟨g1, q1 + i * 2 + 1, none⟩ = some (.string ⟨xv.toArray⟩) := (H1.out.cellAt (i * 2 + 1) (by omega)).trans ex1
        have hng := noGuard
        have HX := hid' hx
        have HY := hid' hy
        have HLT := hid' hlt
        clear ex0 ex1 hx hy hlt hi1 hi2
        by_cases hw : (xn, xv) = (yn, yv)
        · injection hw with w1 w2
          subst w1 w2
          have heq := nef_no xn xv
          go_wp2
          go_quiet ((fail))
          go_wp2
          go_roundw
          case rel => exact ⟨i + 1, _, by simp, by have := HLT.out; omega, by first | rfl | simp, hid' (by rw [List.take_add_one, List.take_add_one, HX.out, HY.out, HT.out])⟩
          case measure => have := HLT.out; simp [intOf]; omega
        · have heq := nef_yes xn xv yn yv hw
          have HRF : Hid (r = false) := hid' (by
            rw [← HR.out]
            refine decide_eq_false (fun e => hw ?_)
            have h1 := HX.out
            have h2 := HY.out
            rw [e, h2] at h1
            exact (Option.some.inj h1).symm)
          clear hw
          go_wp2
          go_quiet ((fail))
          go_wp2
          go_ret
          first
            | exact ⟨by rw [HRF.out]; rfl, _, rfl⟩
            | exact ⟨by rw [HRF.out]; rfl, _, World.drewN_drewN _ _ _⟩
            | exact ⟨by rw [HRF.out]; rfl, _, World.drewN_drewN⟩
      · have hlt2 : decide ((i : Int) < (n : Int)) = false := decide_eq_false (by omega)
        have hlt3 : decide (i < n) = false := decide_eq_false hlt
        have HRT : Hid (r = true) := hid' (by
          rw [← HR.out]
          refine decide_eq_true ?_
          have h1 := HT.out
          rw [List.take_of_length_le (by have := HN.out; omega), List.take_of_length_le (by have := HN2.out; omega)] at h1
          exact h1)
        clear hlt
        go_wp2
        go_ret
        exact ⟨by rw [HRT.out]; rfl, _, rfl⟩
  · obtain rfl : r = false := by
      rw [← hr]
      exact decide_eq_false (fun e => hne (by rw [← hn, ← hn2, e]))
    rw [hn, hn2]
    have he1 : ((n : Int) == (n2 : Int)) = false := beq_false_of_ne (by omega)
    have he2 : (n == n2) = false := beq_false_of_ne hne
    clear hr hne h1 h2
    go_enter Tryz.func28, Tryz.ntmps28
    go_wp2
    go_ret
    exact ⟨rfl, 0, rfl⟩

/-- A limit that is set, and fields. -/
structure Dd where
  set : Bool
  lim : Int
  fv : Value
  fields : List (List UInt8 × List UInt8)
/-- A script of deeds in memory. -/
def DScr (w : World) (v : Value) (ds : List Dd) : Prop :=
  (v = .slice none 0 0 ∧ ds = []) ∨ ∃ a cap, v = .slice (some a) ds.length cap ∧ ∀ i c, ds[i]? = some c →
    (a.add (i * 4)).block < w.heap.size ∧ w.cell? (a.add (i * 4)) = some (.bool c.set) ∧ w.cell? ⟨(a.add (i * 4)).block, (a.add (i * 4)).off + 1, none⟩ = some (.int .i64 c.lim) ∧ w.cell? ⟨(a.add (i * 4)).block, (a.add (i * 4)).off + 3, none⟩ = some c.fv ∧ FS w c.fv c.fields
open Go.ChangeShapes Go.WideShapes Go.ChangeAt Go.Deep

theorem cells4' {w : World} {p : Addr} {cs : List Value} (h : w.cells? 0 p 4 = some cs) : ∃ v0 v1 v2 v3, cs = [v0, v1, v2, v3] ∧ w.cell? p = some v0 ∧ w.cell? ⟨p.block, p.off + 1, none⟩ = some v1 ∧ w.cell? ⟨p.block, p.off + 3, none⟩ = some v3 := by
  obtain ⟨_, hl, hc⟩ := World.cells?_some h
  match cs, hl with
  | [v0, v1, v2, v3], _ =>
    refine ⟨v0, v1, v2, v3, rfl, ?_, ?_, ?_⟩
    · simpa [Addr.add] using hc 0 (by omega)
    · simpa [Addr.add] using hc 1 (by omega)
    · simpa [Addr.add] using hc 3 (by omega)
theorem bulk_mem {H : Type} {x : DataW H} {l : List (DataW H)} (h : x ∈ l) : Rows.uptoBulk x ≤ Rows.uptoBulkAll l := by
  induction l with
  | nil => cases h
  | cons y r ih =>
    simp only [Rows.uptoBulkAll]
    rcases List.mem_cons.1 h with rfl | h
    · omega
    · have := ih h; omega
theorem bulk_len' {H : Type} (l : List (DataW H)) : l.length ≤ Rows.uptoBulkAll l := by
  induction l with
  | nil => simp [Rows.uptoBulkAll]
  | cons x r ih =>
    have : 1 ≤ Rows.uptoBulk x := by
      cases x with
      | lit l => cases l <;> simp [Rows.uptoBulk]
      | nil => simp [Rows.uptoBulk]
      | ptr d => simp [Rows.uptoBulk]
      | slice elems spare => simp [Rows.uptoBulk]
      | agg parts => simp [Rows.uptoBulk]
      | iface t d => simp [Rows.uptoBulk]
      | map entries => simp [Rows.uptoBulk]
      | held h => simp [Rows.uptoBulk]
    simp only [Rows.uptoBulkAll, List.length_cons]; omega

set_option maxRecDepth 100000 in
theorem open_deeds {H : Type} {enc : TypeId × Value → H} {W : World} {base : Nat} {v : Value} {d : DataW H} {p : List MemPlace} (hval : Value.okWide Tryz.prog W .any base 22 v) (h : DataW.Trod enc Tryz.prog W 0 (fun _ => true) true 22 v d p) :
    ∃ ds : List Dd, DScr W v ds ∧ (∀ c ∈ ds, Tb.size c.fields ≤ 11 * Rows.uptoBulk d) ∧ ds.length ≤ Rows.uptoBulk d := by
  obtain ⟨a, len, cap, rfl⟩ := okWide_slice Tryz.underlying22 hval
  obtain ⟨fuel, hf⟩ := h
  have k4 : Tryz.prog.cellsOf 29 = 4 := by kernel_rfl
  have kb : Tryz.prog.cellsOf 4 = 1 := by kernel_rfl
  have ki : Tryz.prog.cellsOf 3 = 1 := by kernel_rfl
  have ks : Tryz.prog.cellsOf 9 = 1 := by kernel_rfl
  have kf : Tryz.prog.cellsOf 27 = 1 := by kernel_rfl
  rcases open_slice Tryz.underlying22 hf with ⟨h1, h2⟩ | ⟨a', len', cap', m, n, D, Pl, h1, _, hlc, hcm, hm, hx, hel⟩
  · simp [Value.cells] at h1
    obtain ⟨rfl, rfl, rfl⟩ := h1
    exact ⟨[], .inl ⟨rfl, rfl⟩, (fun c hc => by cases hc), Nat.zero_le _⟩
  · simp [Value.cells] at h1
    obtain ⟨rfl, rfl, rfl⟩ := h1
    simp only [if_true] at hm
    rw [hm] at hel hx
    have hch : ∀ i, ∃ c : Dd, i < len → ((a'.add (i * 4)).block < W.heap.size ∧ W.cell? (a'.add (i * 4)) = some (.bool c.set) ∧ W.cell? ⟨(a'.add (i * 4)).block, (a'.add (i * 4)).off + 1, none⟩ = some (.int .i64 c.lim) ∧ W.cell? ⟨(a'.add (i * 4)).block, (a'.add (i * 4)).off + 3, none⟩ = some c.fv ∧ FS W c.fv c.fields) ∧ Tb.size c.fields ≤ 11 * Rows.uptoBulk (D i) := by
      intro i
      by_cases hi : i < len
      · obtain ⟨cs', hc, ht⟩ := hel i (by omega)
        rw [k4] at hc
        obtain ⟨v0, v1, v2, v3, rfl, c0, c1, c3⟩ := cells4' hc
        obtain ⟨y0, y1, y2, y3, m2, e, _, g0, g1, g2, g3⟩ := Go.Joins.trod_struct4 Tryz.underlying29 ht
        simp only [kb, ki, ks, kf, List.drop_zero, List.take_succ_cons, List.take_zero, List.drop_succ_cons] at g0 g1 g2 g3
        obtain ⟨b0, f0, rfl⟩ := DataW.trod_bool Tryz.underlying4 g0
        obtain ⟨i1, f1, rfl, w1⟩ := DataW.trod_int Tryz.underlying3 g1
        simp only [List.cons.injEq, and_true] at f0 f1
        subst f0 f1
        obtain ⟨ao, ln, cp, rfl⟩ : ∃ ao ln cp, v3 = .slice ao ln cp := by
          rcases open_slice Tryz.underlying27 g3 with ⟨h1, _⟩ | ⟨a9, l9, cp9, _, _, _, _, h1, _⟩
          · exact ⟨none, 0, 0, by simpa using h1⟩
          · exact ⟨some a9, l9, cp9, by simpa using h1⟩
        obtain ⟨l, hFS, _, _, hsz⟩ := open_fieldsAt g3
        refine ⟨⟨b0, i1, .slice ao ln cp, l⟩, fun _ => ⟨⟨World.cells?_block hc (by omega), c0, c1, c3, hFS⟩, ?_⟩⟩
        rw [(Prod.mk.inj e).1]
        simp only [Rows.uptoBulk, Rows.uptoBulkAll]
        omega
      · exact ⟨⟨false, 0, .slice none 0 0, []⟩, fun h => absurd h hi⟩
    obtain ⟨f, hf'⟩ := Classical.axiomOfChoice hch
    have hd : d = .slice ((List.range len).map D) ((List.range (cap - len)).map fun j => D (len + j)) := (Prod.mk.inj hx).1
    have hdb : Rows.uptoBulkAll ((List.range len).map D) ≤ Rows.uptoBulk d := by rw [hd]; simp only [Rows.uptoBulk]; omega
    refine ⟨(List.range len).map f, .inr ⟨a', cap, by simp, ?_⟩, ?_, ?_⟩
    · intro i c hc
      have hi : i < len := by
        have := (List.getElem?_eq_some_iff.1 hc).1
        simpa using this
      have e : f i = c := by simpa [List.getElem?_map, List.getElem?_range hi] using hc
      rw [← e]
      exact (hf' i hi).1
    · intro c hc
      obtain ⟨i, hi, rfl⟩ := List.mem_map.1 hc
      have hi' : i < len := by simpa using hi
      have h1 := (hf' i hi').2
      have h2 := bulk_mem (List.mem_map.2 ⟨i, hi, rfl⟩ : D i ∈ (List.range len).map D)
      omega
    · have := bulk_len' ((List.range len).map D)
      rw [List.length_map] at this
      rw [List.length_map]
      omega

end Go.Proofs.YtmkkhfkfjmfdcaaGreat

namespace Go.Proofs.YtmkkhfkfjmfdcaaGreat
open Go.RowKit

set_option maxHeartbeats 2000000 in
set_option maxRecDepth 20000 in
theorem kept_any (C g cp : Nat) (aof : Option Addr) (capf : Nat) (l : List (List UInt8 × List UInt8)) (w : World) (h1 : Sl w C 54 2 (.slice (some ⟨g, 0, none⟩) l.length cp) l.length (Tb.cells l)) (h2 : Sl w C 54 2 (.slice (some ⟨g, 0, none⟩) (l.length + 1) cp) (l.length + 1) (Tb.cells l ++ [.string ⟨#[45, 109, 97, 114, 107]⟩, .string ⟨#[]⟩])) (hcp : l.length + 1 ≤ cp) (hF : FS w (.slice aof l.length capf) l) (hb : l.length ≤ 1048576) :
    Calls Tryz.prog 13 #[.slice (some ⟨g, 0, none⟩) l.length cp, .slice aof l.length capf] w fun e w' => e = .returned (.bool true) ∧ Below w.heap.size w w' := by
  obtain ⟨n, hn⟩ : ∃ n, l.length = n := ⟨_, rfl⟩
  have hcl : (Tb.cells l).length = n * 2 := by rw [Tb.cells_length, hn]
  have m0 : w.cell? ⟨g, n * 2, none⟩ = some (.string ⟨#[45, 109, 97, 114, 107]⟩) := by
    have := h2.cellAt (n * 2) (by omega)
    rw [List.getElem?_append_right (by omega), hcl, Nat.sub_self] at this
    simpa using this
  have m1 : w.cell? ⟨g, n * 2 + 1, none⟩ = some (.string ⟨#[]⟩) := by
    have := h2.cellAt (n * 2 + 1) (by omega)
    rw [List.getElem?_append_right (by omega), hcl, show n * 2 + 1 - n * 2 = 1 by omega] at this
    simpa using this
  rw [hn] at h1 hcp hF hb ⊢
  have HN := hid' hn
  have H1 := hid' h1
  have HF := hid' hF
  have hcp1 : n ≤ cp := by omega
  have hcI : (n : Int) + 1 ≤ (cp : Int) := by omega
  have hltn : decide ((n : Int) < (n : Int) + 1) = true := decide_eq_true (by omega)
  have hI1 : (n : Int) < (n : Int) + 1 := by omega
  have hI2 : (0 : Int) ≤ (n : Int) := by omega
  have hI3 : n < n + 1 := by omega
  have hng := noGuard
  have heq := eq_field_yes [45, 109, 97, 114, 107] []
  clear h1 h2 hF hn hcl
  go_enter Tryz.func13, Tryz.ntmps13
  go_wp2
  have hS : Below w.heap.size w w ∧ w.cell? ⟨g, n * 2, none⟩ = some (.string ⟨#[45, 109, 97, 114, 107]⟩) ∧ w.cell? ⟨g, n * 2 + 1, none⟩ = some (.string ⟨#[]⟩) := ⟨Below.refl _ _, m0, m1⟩
  have sOf : ∀ W W1 : World, (Below w.heap.size w W ∧ W.cell? ⟨g, n * 2, none⟩ = some (.string ⟨#[45, 109, 97, 114, 107]⟩) ∧ W.cell? ⟨g, n * 2 + 1, none⟩ = some (.string ⟨#[]⟩)) → Below W.heap.size W W1 → Below w.heap.size w W1 ∧ W1.cell? ⟨g, n * 2, none⟩ = some (.string ⟨#[45, 109, 97, 114, 107]⟩) ∧ W1.cell? ⟨g, n * 2 + 1, none⟩ = some (.string ⟨#[]⟩) := fun W W1 ⟨h, h0, h1⟩ hb => ⟨below_two h hb, Below.kc hb h0, Below.kc hb h1⟩
  have cOf : ∀ W : World, (Below w.heap.size w W ∧ W.cell? ⟨g, n * 2, none⟩ = some (.string ⟨#[45, 109, 97, 114, 107]⟩) ∧ W.cell? ⟨g, n * 2 + 1, none⟩ = some (.string ⟨#[]⟩)) → Calls Tryz.prog 28 #[.slice (some ⟨g, 0, none⟩) n cp, .slice aof n capf] W fun e w' => e = .returned (.bool true) ∧ Below W.heap.size W w' := fun W h => by
    have := sameF_any C (some ⟨g, 0, none⟩) aof cp capf l l W (by rw [HN.out]; exact H1.out.keep h.1) (by rw [HN.out]; exact HF.out.below h.1 (Nat.le_refl _)) (by rw [HN.out]; omega) true (decide_eq_true rfl)
    rw [HN.out] at this
    exact this.mono fun e w' ⟨he, m, hw⟩ => ⟨he, by rw [hw]; exact below_drewN _ _⟩
  go_region_held3 (fun W => Below w.heap.size w W ∧ W.cell? ⟨g, n * 2, none⟩ = some (.string ⟨#[45, 109, 97, 114, 107]⟩) ∧ W.cell? ⟨g, n * 2 + 1, none⟩ = some (.string ⟨#[]⟩))
    (first | assumption | exact sOf _ _ (by assumption) (by assumption) | exact sOf _ _ (by assumption) ((Below.refl _ _).drew))
    (first
    | (go_at_call 28; refine (cOf _ (by assumption)).mono ?_; rintro e w1 ⟨rfl, hb1⟩)
    | (go_at_call 19; refine (fld_any _ _ _).mono ?_; rintro e w2 ⟨rfl, hb2⟩))
  have HE := hid' (below_two (below_two (below_two (Below.refl w.heap.size w) ((Below.refl _ _).drew)) hb1) hb2)
  clear m0 m1 hS sOf cOf hb1 hb2 heq hng
  go_wp2
  go_ret
  exact ⟨rfl, HE.out⟩

end Go.Proofs.YtmkkhfkfjmfdcaaGreat
