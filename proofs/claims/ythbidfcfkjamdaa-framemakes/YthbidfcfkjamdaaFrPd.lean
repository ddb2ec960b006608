/-
  frame.dataPayload, and payloadOf of DATA: by their contracts.
-/
import Derived.Test.YthbidfcfkjamdaaFrPz
namespace Go.Proofs.Ythbidfcfkjamdaa
open Go.RowKit

section
variable {ops : Array Oper} {rest : List Oper} {o : Oper} {a : Act} {w : World} {Q : Exit → Act → World → Prop}
theorem wpl_appz (hgd : o.guard = none) (sl x : Operand) (ho : o.op = .call { callee := .builtin .append, args := #[sl, x], argTypes := #[66, 3] })
    (B : Nat) (v : Value) (n m : Nat) (xs : List Value) (hs : a.eval sl = v) (hown : w.ownsRow B 5 1 v n xs) (hx : a.eval x = .int .i64 (m : Int)) (hm : m ≤ 255) (hn : n ≤ 8589934592) (hB : B ≤ w.heap.size)
    (h : ∀ v' w', w'.ownsRow B 5 1 v' (n + m) (xs ++ List.replicate m (.int .u8 0)) → w.grownBy w' v.ownBlock → wpList Try.prog ops Q rest (a.put o.dst v') w') : wpList Try.prog ops Q (o :: rest) a w := by
  refine wpList_plain hgd fun K hK => ?_
  obtain ⟨v', w', hr, h2, h3⟩ := run_append_zeros o.type B v n m xs w hm hn hown hB
  unfold Oper.wp execOp
  simp only [ho, resolve, invoke, builtin, Sem.run_bind, Sem.run_pure, Result.andThen_ok, List.map_toArray, List.map_cons, List.map_nil, hs, hx, hr]
  exact hK _ _ (h v' w' h2 h3)
end
theorem own_lit1 (B : Nat) (w : World) (x : UInt8) (hB : B ≤ w.heap.size) : (w.alloc (.cells #[.int .u8 (x.toNat : Int)] 5)).ownsRow B 5 1 (.slice (some ⟨w.heap.size, 0, none⟩) 1 1) 1 (Lib.byteCells [x]) :=
  World.ownsRow_lit w #[.int .u8 (x.toNat : Int)] 1 hB (by decide) rfl
theorem bytes_zeros (m : Nat) : Lib.byteCells (List.replicate m 0) = List.replicate m (Value.int .u8 0) := by simp [Lib.byteCells]

set_option maxHeartbeats 4000000 in
set_option maxRecDepth 20000 in
theorem cdata_plain (k fl st : Int) (l : List UInt8) (p : Fm.Pt) (ao : Option Addr) (n cap : Nat) (h8 : Fm.has fl 8 = false) (w : World) : Calls Try.prog 42 #[.agg (frC k fl st l), .agg (ptC p (.slice ao n cap))] w fun e w' => (∃ u, e = .returned (.tuple #[u, .bool true]) ∧ Hid ((convert 66 9 u).run Try.prog w' = .ok (.string ⟨p.data.toArray⟩) w')) ∧ Below w.heap.size w w' := by
  have H8 := hid' h8
  clear h8
  go_enter Try.func42, Try.ntmps42
  go_wp2_with (refine wpl_boxes _ _ rfl rfl rfl rfl k fl st l p (.slice ao n cap) (by kernel_rfl) (fun b => by kernel_rfl) ?_)
  intro b1 b2 w0 hF
  obtain ⟨c0, c1, c2, c3⟩ := frC_cells hF.a1
  have HF := hid' hF
  clear hF
  go_wp2_with fail
  refine (chas_any k fl st l 8 false (by decide) H8.out _).mono ?_
  rintro e w1 ⟨rfl, hb1⟩
  have HF1 := hid' (HF.out.keep hb1)
  obtain ⟨x0, x1, x2, x3, x4, x5, x6, x7⟩ := pt_cells HF1.out.a2
  clear hb1 c0 c1 c2 c3
  go_upto_region 2 with fail
  go_wp2_with (refine wpl_tobytes _ rfl rfl p.data (by kernel_rfl) ?_)
  intro b5 cap5 w5 hg5 hcs hfs hb5
  have HCV : Hid ((convert 66 9 (.slice (some ⟨b5, 0, none⟩) p.data.length cap5)).run Try.prog w5 = .ok (.string ⟨p.data.toArray⟩) w5) := hid' (run_convert_bytes_back (P := Try.prog) w5 66 9 5 ⟨b5, 0, none⟩ cap5 p.data Try.underlying66 Try.underlying5 Try.underlying9 (fun j hj => by
    rw [Addr.add_mid, Nat.zero_add]; exact hcs j hj))
  have HB5 := hid' (below_two HF1.out.bel hb5)
  clear hcs hfs hb5 hg5 x0 x1 x2 x3 x4 x5 x6 x7
  go_wp2
  go_ret2
  exact ⟨⟨_, rfl, HCV⟩, HB5.out⟩

set_option maxHeartbeats 4000000 in
set_option maxRecDepth 20000 in
theorem cdata_no (k fl st : Int) (l : List UInt8) (p : Fm.Pt) (ao : Option Addr) (n cap : Nat) (h8 : Fm.has fl 8 = true) (hp : p.pad < 1 ∨ 256 < p.pad) (w : World) : Calls Try.prog 42 #[.agg (frC k fl st l), .agg (ptC p (.slice ao n cap))] w fun e w' => e = .returned (.tuple #[.slice none 0 0, .bool false]) ∧ Below w.heap.size w w' := by
  have H8 := hid' h8
  clear h8
  by_cases h1 : p.pad < 1
  · have d1 : decide (p.pad < 1) = true := decide_eq_true h1
    clear hp h1
    go_enter Try.func42, Try.ntmps42
    go_wp2_with (refine wpl_boxes _ _ rfl rfl rfl rfl k fl st l p (.slice ao n cap) (by kernel_rfl) (fun b => by kernel_rfl) ?_)
    intro b1 b2 w0 hF
    obtain ⟨c0, c1, c2, c3⟩ := frC_cells hF.a1
    have HF := hid' hF
    clear hF
    go_wp2_with fail
    refine (chas_any k fl st l 8 true (by decide) H8.out _).mono ?_
    rintro e w1 ⟨rfl, hb1⟩
    have HF1 := hid' (HF.out.keep hb1)
    obtain ⟨x0, x1, x2, x3, x4, x5, x6, x7⟩ := pt_cells HF1.out.a2
    clear hb1 c0 c1 c2 c3
    go_wp2
    go_ret2
    exact ⟨rfl, HF1.out.bel⟩
  · have d1 : decide (p.pad < 1) = false := decide_eq_false h1
    have d2 : decide ((256 : Int) < p.pad) = true := decide_eq_true (by omega)
    clear hp h1
    go_enter Try.func42, Try.ntmps42
    go_wp2_with (refine wpl_boxes _ _ rfl rfl rfl rfl k fl st l p (.slice ao n cap) (by kernel_rfl) (fun b => by kernel_rfl) ?_)
    intro b1 b2 w0 hF
    obtain ⟨c0, c1, c2, c3⟩ := frC_cells hF.a1
    have HF := hid' hF
    clear hF
    go_wp2_with fail
    refine (chas_any k fl st l 8 true (by decide) H8.out _).mono ?_
    rintro e w1 ⟨rfl, hb1⟩
    have HF1 := hid' (HF.out.keep hb1)
    obtain ⟨x0, x1, x2, x3, x4, x5, x6, x7⟩ := pt_cells HF1.out.a2
    clear hb1 c0 c1 c2 c3
    go_wp2
    go_ret2
    exact ⟨rfl, HF1.out.bel⟩

set_option maxHeartbeats 4000000 in
set_option maxRecDepth 20000 in
theorem cdata_pad (k fl st : Int) (l : List UInt8) (p : Fm.Pt) (m : Nat) (ao : Option Addr) (n cap : Nat) (h8 : Fm.has fl 8 = true) (hp : p.pad = (m : Int) + 1) (hm : m ≤ 255) (hd : p.data.length ≤ 16777215) (w : World) : Calls Try.prog 42 #[.agg (frC k fl st l), .agg (ptC p (.slice ao n cap))] w fun e w' => (∃ u, e = .returned (.tuple #[u, .bool true]) ∧ Hid ((convert 66 9 u).run Try.prog w' = .ok (.string ⟨(Fm.byt m :: (p.data ++ List.replicate m 0)).toArray⟩) w')) ∧ Below w.heap.size w w' := by
  obtain ⟨i0, hi, hz0, hz1, hz2⟩ := info_parts' infoByte'
  have HI := hid' hi
  have HZ0 := hid' hz0
  have HZ1 := hid' hz1
  have HZ2 := hid' hz2
  clear hi hz0 hz1 hz2
  have H8 := hid' h8
  have d1 : decide (p.pad < 1) = false := decide_eq_false (by omega)
  have d2 : decide ((256 : Int) < p.pad) = false := decide_eq_false (by omega)
  have hsub : p.pad - 1 = (m : Int) := by omega
  obtain ⟨x, rfl⟩ : ∃ x : UInt8, m = x.toNat := ⟨UInt8.ofNat m, by rw [UInt8.toNat_ofNat', Nat.mod_eq_of_lt (by omega)]⟩
  have hx : Fm.byt ((x.toNat : Nat) : Int) = x := Fm.byt_of _ _ (by omega)
  rw [hx]
  have HD := hid' hd
  clear h8 hp hx hd
  go_enter Try.func42, Try.ntmps42
  go_wp2_with (refine wpl_boxes _ _ rfl rfl rfl rfl k fl st l p (.slice ao n cap) (by kernel_rfl) (fun b => by kernel_rfl) ?_)
  intro b1 b2 w0 hF
  obtain ⟨c0, c1, c2, c3⟩ := frC_cells hF.a1
  have HF := hid' hF
  clear hF
  go_wp2_with fail
  refine (chas_any k fl st l 8 true (by decide) H8.out _).mono ?_
  rintro e w1 ⟨rfl, hb1⟩
  have HF1 := hid' (HF.out.keep hb1)
  obtain ⟨x0, x1, x2, x3, x4, x5, x6, x7⟩ := pt_cells HF1.out.a2
  have HB1 := hid' HF1.out.bel
  clear hb1 c0 c1 c2 c3
  go_upto_region 6 with fail
  have z0 := (pt_cells (HF1.out.a2.keep ((Below.refl _ _).alloc (Nat.le_refl _) (.cells #[.int .u8 (x.toNat : Int)] 5)))).1
  have hne2 : w1.heap.size ≠ b2 := by have := HF1.out.a2.lt; omega
  have hne3 : b2 ≠ w1.heap.size := Ne.symm hne2
  go_wp2_with (at_builtin; refine Lib.wpList_append_own_string _ rfl _ _ 66 9 rfl w.heap.size 5 i0 Try.underlying66 Try.underlying9 HI.out HZ0.out HZ1.out HZ2.out _ _ _ rfl (own_lit1 w.heap.size w1 x HB1.out.size) ⟨p.data.toArray⟩ rfl ?c3 ?c4 ?c5 ?_)
  case c3 => show 1 + p.data.length ≤ maxLen; have := HD.out; unfold maxLen; omega
  case c4 => show 1 + p.data.length ≤ _; have := HD.out; omega
  case c5 => have := HB1.out.size; simp; omega
  intro v2 w2 hown2 hgrow2 _
  have hb2 : Below w.heap.size w1 w2 := ((Below.refl _ _).alloc HB1.out.size _).trans (Below.of_grown hgrow2 (fun k hk => by simp [Value.ownBlock] at hk; subst hk; exact HB1.out.size) (by have := HB1.out.size; simp; omega))
  have HB2 := hid' (HB1.out.trans hb2)
  have HO2 : Hid (w2.ownsRow w.heap.size 5 1 v2 (1 + p.data.length) (Lib.byteCells (x :: p.data))) := hid' (by
    have e : Lib.byteCells (x :: p.data) = Lib.byteCells [x] ++ Lib.strCells ⟨p.data.toArray⟩ := by simp [Lib.byteCells, Lib.strCells]
    rw [e]; exact hown2)
  obtain ⟨np, hnp⟩ : ∃ np, 1 + p.data.length = np := ⟨_, rfl⟩
  have hnpl : np ≤ 16777216 := by have := HD.out; omega
  rw [hnp] at HO2
  have HNP := hid' hnp
  clear hown2 hgrow2 hb2 hnp x0 x1 x2 x3 x4 x5 x6 x7 z0 hne2 hne3
  go_wp2_with (at_builtin; refine wpl_appz rfl _ _ rfl w.heap.size _ np x.toNat _ rfl HO2.out (by kernel_rfl) hm (by omega) HB2.out.size ?_)
  intro v3 w3 hown3 hgrow3
  have HB3 := hid' (HB2.out.trans (NB.of_grown HO2.out hgrow3 HB2.out.size).bel)
  have HBR : Hid (BR w3 w.heap.size v3 (x :: (p.data ++ List.replicate x.toNat 0))) := hid' (by
    unfold BR
    have e : x :: (p.data ++ List.replicate x.toNat 0) = (x :: p.data) ++ List.replicate x.toNat 0 := by simp
    rw [e, bytes_app, bytes_zeros, List.length_append, List.length_replicate, List.length_cons, Nat.add_comm p.data.length 1, HNP.out]
    exact hown3)
  clear hown3 hgrow3
  go_wp2
  go_ret2
  exact ⟨⟨_, rfl, hid' (br_str HBR.out)⟩, HB3.out⟩

end Go.Proofs.Ythbidfcfkjamdaa
