/-
  (*Book).Open: by its contract.
-/
import Derived.Test.YthgdokcdpmoeeaaStI
namespace Go.Proofs.Ythgdokcdpmoeeaa
open Go.RowKit

theorem one_new (w : World) (t : TypeId) (x : Value) : ∀ j u, ([x] : List Value)[j]? = some u → (w.alloc (.cells #[x] t)).cell? ((⟨w.heap.size, 0, none⟩ : Addr).add j) = some u := by
  intro j u hj
  match j, hj with
  | 0, hj => simp at hj; subst hj; simp [Addr.add]
theorem two_new (w : World) (t : TypeId) (x y : Value) : ∀ j u, ([x, y] : List Value)[j]? = some u → (w.alloc (.cells #[x, y] t)).cell? ((⟨w.heap.size, 0, none⟩ : Addr).add j) = some u := by
  intro j u hj
  match j, hj with
  | 0, hj => simp at hj; subst hj; simp [Addr.add]
  | 1, hj => simp at hj; subst hj; simp [Addr.add]
theorem gr_alloc {w : World} {o : Obj} {w' : World} {row : Option Nat} (h : (w.alloc o).grownBy w' row) : w.grownBy w' row :=
  ⟨h.os, h.tape, h.output, Nat.le_trans (by simp) h.size, fun k hk hne => by rw [h.block k (by simp; omega) hne]; exact Lib.alloc_old w _ k hk⟩

section
variable {ops : Array Oper} {rest : List Oper} {o : Oper} {a : Act} {w : World} {Q : Exit → Act → World → Prop}
/-- make of no element, with room. -/
theorem wpl_make0 (t e : TypeId) (x y : Operand) (ho : o.op = .makeSlice t x y) (hgd : o.guard = none) (base : Nat) (i : TypeInfo) (z : Value) (size : Nat) (ht : Try.prog.underlying t = some (.slice e)) (hi : Try.prog.info? e = some i) (hz : i.zero = some z) (hsize : i.size = size)
    (c : Nat) (hbytes : i.bytes * c ≤ 281474976710656) (h63 : c ≤ maxLen) (hbase : base ≤ w.heap.size) (hx : a.eval x = .int .i64 0) (hy : a.eval y = .int .i64 (c : Int))
    (h : ∀ v w', w'.ownsRow base e size v 0 [] → Below w.heap.size w w' → wpList Try.prog ops Q rest (a.put o.dst v) w') : wpList Try.prog ops Q (o :: rest) a w := by
  refine wpList_plain hgd fun _ hK => ?_
  obtain ⟨w', hr, h1, h2⟩ := run_make_own (P := Try.prog) w base t e i z size ht hi hz hsize .i64 .i64 c hbytes h63 hbase
  unfold Oper.wp execOp
  simp only [ho, hx, hy, Sem.run_bind, Sem.run_pure, hr, Result.andThen_ok]
  exact hK _ _ (h _ _ h1 (Below.of_grown h2 (fun k hk => by cases hk) (Nat.le_refl _)))
end

set_option maxHeartbeats 4000000 in
set_option maxRecDepth 20000 in
theorem sopen_any (B b : Nat) (k : Sm.Bk) (v u : Value) (w : World) (h : BK w B b k v u) :
    Calls Try.prog 19 #[.pointer (some ⟨b, 0, none⟩)] w fun e w' => (∃ r, e = .returned r ∧ w'.ownsRow w.heap.size 3 1 r k.op.length (idCells (k.op.map (·.1)))) ∧ Below w.heap.size w w' := by
  obtain ⟨i0, hi, hz0, hz1, hz2⟩ := sinfo_parts sinfoI
  have HI := hid' hi
  have HZ0 := hid' hz0
  have HZ1 := hid' hz1
  have HZ2 := hid' hz2
  clear hi hz0 hz1 hz2
  have c2 := h.cells.2.2.1
  obtain ⟨ao, cap, rfl⟩ := own_shape h.op
  obtain ⟨l, hl⟩ : ∃ l, k.op = l := ⟨_, rfl⟩
  have HRR : Hid (RR w (.slice ao l.length cap) l.length (enCells l)) := hid' (by rw [← hl]; exact RR.of_own h.op)
  have hlen : l.length ≤ 65536 := by rw [← hl]; exact h.opn
  have hbl := h.hd.lt
  rw [hl] at c2 ⊢
  obtain ⟨m, hm⟩ : ∃ m, l.length = m := ⟨_, rfl⟩
  have HM := hid' hm
  rw [hm] at c2 hlen HRR
  clear h hl hm
  go_enter Try.func19, Try.ntmps19
  go_wp2_with (refine wpl_make0 52 3 _ _ rfl rfl w.heap.size i0 _ 1 Try.underlying52 HI.out HZ0.out HZ1.out m (by rw [HZ2.out]; omega) (by unfold maxLen; omega) (Nat.le_refl _) (by kernel_rfl) (by kernel_rfl) ?_)
  intro v4 w4 hown4 hb4
  have c2' := (hb4.cell (p := ⟨b, 2, none⟩) hbl).trans c2
  have HS4 : Hid (w4.ownsRow w.heap.size 3 1 v4 0 (idCells []) ∧ Below w.heap.size w w4) := hid' ⟨hown4, hb4⟩
  clear hown4 hb4 c2
  go_wp2
  go_loopw [3, 19] (fun s3 s19 wr => ∃ i : Nat, s19 = .int .i64 (i : Int) ∧ i ≤ m ∧ Hid (wr.ownsRow w.heap.size 3 1 s3 i (idCells ((l.take i).map (·.1))) ∧ Below w.heap.size w wr)) (fun _ s19 _ => m - (intOf s19).toNat)
  case atStart => exact ⟨0, rfl, Nat.zero_le _, HS4⟩
  case round =>
    clear HS4 c2'
    obtain ⟨i, rfl, him, HX⟩ := hrel
    by_cases hlt : i < m
    · have hlt2 : (i : Int) < (m : Int) := by omega
      obtain ⟨p, hp⟩ : ∃ p, l[i]? = some p := ⟨_, List.getElem?_eq_getElem (by rw [HM.out]; exact hlt)⟩
      obtain ⟨a, hao, x0, x1⟩ := (HRR.out.keep HX.out.2).two HM.out.symm i p hp
      subst hao
      have HP := hid' hp
      obtain ⟨pid, hpid⟩ : ∃ q, p.1 = q := ⟨_, rfl⟩
      obtain ⟨pph, hpph⟩ : ∃ q, p.2 = q := ⟨_, rfl⟩
      rw [hpid] at x0
      rw [hpph] at x1
      have HPI := hid' hpid
      clear hp hpid hpph
      go_wp2_with (refine wpl_alloc 81 rfl rfl _ szeroE ?_)
      intro b5 w5 hg5 ha5 hb5
      go_wp2_with (refine wpl_store 81 _ _ rfl rfl b5 #[.int .i64 (pid : Int), .int .u8 (pph : Int)] (by kernel_rfl) (by kernel_rfl) _ _ ha5 ssizeE rfl (by simp [Value.oneCell']) ?_)
      intro w6 ha6 hu6
      have hb6 := hb5.trans (hu6.below hg5)
      have c60 := ha6.cell 0 _ rfl
      have HB6 := hid' (below_two HX.out.2 hb6)
      have HOW6 := hid' (own_keep HX.out.1 hb6)
      clear ha5 hb5 hg5 ha6 hu6 hb6 x0 x1
      obtain ⟨xs, hxs'⟩ : ∃ xs, idCells ((l.take i).map (·.1)) = xs := ⟨_, rfl⟩
      rw [hxs'] at HOW6
      have HXX := hid' hxs'
      clear hxs' HX
      go_wp2_with (at_builtin; refine wpList_append_own _ rfl _ _ 52 rfl w.heap.size 3 i0 _ 1 8 Try.underlying52 HI.out HZ0.out HZ1.out HZ2.out rfl (by decide) _ _ _ rfl (World.ownsRow.alloc HOW6.out _) ⟨w6.heap.size, 0, none⟩ 1 1 [.int .i64 (pid : Int)] rfl rfl (one_new _ _ _) (fun u hu => by simp at hu; rw [hu]; rfl) ?a1 ?a2 ?a3 ?_)
      case a1 => unfold maxLen; omega
      case a2 => omega
      case a3 => have := HB6.out.size; simp; omega
      intro vx w8 hown hgrow _
      have hb8 : Below w.heap.size w w8 := HB6.out.trans (Below.of_grown (gr_alloc hgrow) (fun k hk => (HOW6.out.lt k hk).1) HB6.out.size)
      have HS8 : Hid (w8.ownsRow w.heap.size 3 1 vx (i + 1) (idCells ((l.take (i + 1)).map (·.1))) ∧ Below w.heap.size w w8) := hid' ⟨by
        rw [List.take_add_one, HP.out, List.map_append, idCells_append, HXX.out]
        simp only [Option.toList_some, List.map_cons, List.map_nil, HPI.out]
        exact hown, hb8⟩
      clear hown hgrow hb8
      go_wp2
      go_roundw
      case rel => exact ⟨i + 1, by go_num, by omega, HS8⟩
      case measure => simp [intOf]; omega
    · have hib : i = m := by omega
      subst hib
      have hlt2 : ¬ (i : Int) < (i : Int) := by omega
      have HF : Hid (wr.ownsRow w.heap.size 3 1 u3 l.length (idCells (l.map (·.1)))) := hid' (by
        have := HX.out.1
        rw [List.take_of_length_le (by rw [HM.out]; exact Nat.le_refl _)] at this
        rw [HM.out]
        exact this)
      have HB := hid' HX.out.2
      clear HX
      go_wp2
      go_ret
      exact ⟨⟨_, rfl, HF.out⟩, HB.out⟩

end Go.Proofs.Ythgdokcdpmoeeaa
