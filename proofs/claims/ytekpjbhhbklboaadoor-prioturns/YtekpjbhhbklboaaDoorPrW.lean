/-
  awake, the chapter's examples: it returns true, whatever lies in memory.
-/
import Derived.Test.YtekpjbhhbklboaaDoorPrJ
import Derived.Test.YtekpjbhhbklboaaDoorPrV
namespace Go.Proofs.YtekpjbhhbklboaaDoor
open Go.RowKit

theorem noStandP : Tryd.prog.stoodInHeld 24 = false := by kernel_rfl
theorem fieldsOfP : Tryd.prog.underlying 24 = some (.struct (Tryd.prog.fieldsOf 24)) := by kernel_rfl
set_option maxRecDepth 20000 in
theorem eq_pri (x y : Int) (p q : Bool) (w : World) : (binOp .eql 24 (.agg #[.int .i64 x, .bool p]) (.agg #[.int .i64 y, .bool q])).run Tryd.prog w = .ok (.bool (x == y && p == q)) w := by
  rw [run_eql_struct, show (10000 : Nat) = 9999 + 1 by rfl, run_equalIn_agg w 9999 24 _ _ fieldsOfP noStandP]
  simp only [Program.fieldsOf, Tryd.underlying24]
  go_simp
  by_cases h1 : x = y <;> by_cases h2 : p = q <;> simp [h1, h2]
theorem eqp_yes (x : Int) (p : Bool) (w : World) : (binOp .eql 24 (.agg #[.int .i64 x, .bool p]) (.agg #[.int .i64 x, .bool p])).run Tryd.prog w = .ok (.bool true) w := by
  rw [eq_pri]; simp
theorem rr_lit (w : World) (T : TypeId) (cs : List Value) (n c : Nat) : RR (w.alloc (.cells cs.toArray T)) (.slice (some ⟨w.heap.size, 0, none⟩) n c) n cs := by
  refine .inr ⟨_, _, rfl, fun j u hj => ⟨?_, ?_⟩⟩
  · rw [Addr.add_mid]
    simp
  · have h : Ar (w.alloc (.cells cs.toArray T)) w.heap.size T cs.toArray := heap_alloc_last w _
    exact lit_cells h j u (by simpa using hj)

set_option maxHeartbeats 4000000 in
set_option maxRecDepth 20000 in
theorem awake_any (w : World) :
    Calls Tryd.prog 9 #[] w fun e w' => e = .returned (.bool true) ∧ Below w.heap.size w w' := by
  go_enter Tryd.func9, Tryd.ntmps9
  go_wp2_with fail
  refine (cnew_any _).mono ?_
  rintro e w1 ⟨b, rfl, _, hcm1, hb1⟩
  have HC1 := hid' hcm1
  have HB1 := hid' hb1
  clear hcm1 hb1
  go_wp2_with fail
  refine (cset_any w.heap.size b _ _ 1 3 true _ HC1.out).mono ?_
  rintro e w2 ⟨rfl, mv2, hcp⟩
  have HC2 := hid' hcp.cm
  have HB2 : Hid (Below w.heap.size w w2) := hid' (HB1.out.trans (hcp.lf.below HC1.out.size HC1.out.cs))
  clear hcp
  go_wp2_with fail
  refine (cset_any w.heap.size b _ _ 3 3 true _ HC2.out).mono ?_
  rintro e w3 ⟨rfl, mv3, hcp⟩
  have HC3 := hid' hcp.cm
  have HB3 : Hid (Below w.heap.size w w3) := hid' (HB2.out.trans (hcp.lf.below HC2.out.size HC2.out.cs))
  clear hcp
  go_wp2_with fail
  refine (cset_any w.heap.size b _ _ 5 3 false _ HC3.out).mono ?_
  rintro e w4 ⟨rfl, mv4, hcp⟩
  have HC4 := hid' hcp.cm
  have HB4 : Hid (Below w.heap.size w w4) := hid' (HB3.out.trans (hcp.lf.below HC3.out.size HC3.out.cs))
  clear hcp
  obtain ⟨l4, hl4⟩ : ∃ l, Pr.set (Pr.set (Pr.set Pr.ln0 1 (Pr.kept 3, true)) 3 (Pr.kept 3, true)) 5 (Pr.kept 3, false) = l := ⟨_, rfl⟩
  have HN1 : Hid (Pr.next l4 [1, 3, 5] = (5, l4)) := hid' (by rw [← hl4]; rfl)
  obtain ⟨l5, hl5⟩ : ∃ l, (Pr.next l4 [1, 3]).2 = l := ⟨_, rfl⟩
  have HN2 : Hid (Pr.next l4 [1, 3] = (1, l5)) := hid' (by rw [← hl5, ← hl4]; rfl)
  obtain ⟨l6, hl6⟩ : ∃ l, (Pr.next l5 [1, 3]).2 = l := ⟨_, rfl⟩
  have HN3 : Hid (Pr.next l5 [1, 3] = (3, l6)) := hid' (by rw [← hl6, ← hl5, ← hl4]; rfl)
  have HN4 : Hid (Pr.next l6 [9] = (-1, l6)) := hid' (by rw [← hl6, ← hl5, ← hl4]; rfl)
  have HLN : Hid (l6.ids.length = 3) := hid' (by rw [← hl6, ← hl5, ← hl4]; rfl)
  have HC4' : Hid (CM w4 w.heap.size b mv4 l4) := hid' (by rw [← hl4]; exact HC4.out)
  clear hl4 hl5 hl6 HC4 HC3 HC2 HC1 HB1 HB2 HB3
  have al : ∀ (W : World) (x : Obj), Below W.heap.size W (W.alloc x) := fun W x => (Below.refl _ _).alloc (Nat.le_refl _) _
  go_wp2_with fail
  refine (cnext_any w.heap.size b mv4 l4 l4 _ 3 [1, 3, 5] 5 3 rfl HN1.out _ (HC4'.out.keep (al _ _)) (rr_lit _ _ _ _ _) (by decide)).mono ?_
  rintro e w5 ⟨rfl, hc5, hf5⟩
  have HC5 := hid' hc5
  have HB5 : Hid (Below w.heap.size w w5) := hid' ((below_from HB4.out (al _ _) HC4'.out.size).trans (hf5.below (HC4'.out.keep (al _ _)).size (fun k hk => by rw [hk]; exact HC4'.out.lo)))
  clear hc5 hf5 HB4
  go_wp2_with fail
  refine (cnext_any w.heap.size b mv4 l4 l5 _ 2 [1, 3] 1 2 rfl HN2.out _ (HC5.out.keep (al _ _)) (rr_lit _ _ _ _ _) (by decide)).mono ?_
  rintro e w6 ⟨rfl, hc6, hf6⟩
  have HC6 := hid' hc6
  have HB6 : Hid (Below w.heap.size w w6) := hid' ((below_from HB5.out (al _ _) HC5.out.size).trans (hf6.below (HC5.out.keep (al _ _)).size (fun k hk => by rw [hk]; exact HC5.out.lo)))
  clear hc6 hf6 HB5
  go_wp2_with fail
  refine (cnext_any w.heap.size b mv4 l5 l6 _ 2 [1, 3] 3 2 rfl HN3.out _ (HC6.out.keep (al _ _)) (rr_lit _ _ _ _ _) (by decide)).mono ?_
  rintro e w7 ⟨rfl, hc7, hf7⟩
  have HC7 := hid' hc7
  have HB7 : Hid (Below w.heap.size w w7) := hid' ((below_from HB6.out (al _ _) HC6.out.size).trans (hf7.below (HC6.out.keep (al _ _)).size (fun k hk => by rw [hk]; exact HC6.out.lo)))
  clear hc7 hf7 HB6
  go_wp2_with fail
  refine (cnext_any w.heap.size b mv4 l6 l6 _ 1 [9] (-1) 1 rfl HN4.out _ (HC7.out.keep (al _ _)) (rr_lit _ _ _ _ _) (by decide)).mono ?_
  rintro e w8 ⟨rfl, hc8, hf8⟩
  have HC8 := hid' hc8
  have HB8 : Hid (Below w.heap.size w w8) := hid' ((below_from HB7.out (al _ _) HC7.out.size).trans (hf8.below (HC7.out.keep (al _ _)).size (fun k hk => by rw [hk]; exact HC7.out.lo)))
  clear hc8 hf8 HB7
  go_wp2_with fail
  refine (clen_any w.heap.size b mv4 l6 _ HC8.out 3 HLN.out).mono ?_
  rintro e w9 ⟨rfl, hw9⟩
  subst w9
  go_wp2_with fail
  refine (cparse_any ⟨#[117, 61, 50, 59, 113, 61, 49, 32, 44, 32, 117, 61, 52, 59, 105]⟩ _ (by decide) 4 false (by decide +kernel)).mono ?_
  rintro e w10 ⟨rfl, hb10⟩
  have HB10 := hid' (HB8.out.trans (hb10.mono HC8.out.size))
  have HS10 := hid' hb10.size
  have heq := eq_pri 4 4 false false
  clear hb10
  go_wp2_with fail
  refine (cfmt_any 0 true _).mono ?_
  rintro e w11 ⟨rfl, hb11⟩
  have HB11 := hid' (HB10.out.trans (hb11.mono (Nat.le_trans HC8.out.size HS10.out)))
  have hfm : Pr.fmt (Pr.kept 0) true = [117, 61, 48, 44, 32, 105] := by decide
  rw [hfm]
  clear hb11 hfm heq
  go_wp2
  go_ret
  exact ⟨rfl, HB11.out⟩

end Go.Proofs.YtekpjbhhbklboaaDoor
