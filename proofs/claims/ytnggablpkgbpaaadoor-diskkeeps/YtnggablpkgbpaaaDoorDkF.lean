/-
  Files compared; the document's List, Same: by their contracts.
-/
import Derived.Test.YtnggablpkgbpaaaDoorDkE
import Derived.Laws.StructEq
namespace Go.Proofs.YtnggablpkgbpaaaDoor
open Go.RowKit

theorem noStandE : Tryd.prog.stoodInHeld 45 = false := by kernel_rfl
theorem noGuardE : Tryd.prog.eqGuardType Tryd.prog.depth 45 = false := by kernel_rfl
theorem fieldsOfE : Tryd.prog.underlying 45 = some (.struct (Tryd.prog.fieldsOf 45)) := by kernel_rfl
theorem noStandFi : Tryd.prog.stoodInHeld 38 = false := by kernel_rfl
theorem noGuardFi : Tryd.prog.eqGuardType Tryd.prog.depth 38 = false := by kernel_rfl
theorem fieldsOfFi : Tryd.prog.underlying 38 = some (.struct (Tryd.prog.fieldsOf 38)) := by kernel_rfl
set_option maxRecDepth 20000 in
theorem eqIn_file (d : Nat) (s s' : ByteArray) (i j i' j' : Int) (w : World) : (Op.equalIn (d + 1 + 1) 38 (.agg #[.string s, .int .i64 i, .int .i64 j]) (.agg #[.string s', .int .i64 i', .int .i64 j'])).run Tryd.prog w = .ok (s.toList == s'.toList && i == i' && j == j') w := by
  rw [run_equalIn_agg w (d + 1) 38 _ _ fieldsOfFi noStandFi]
  simp only [Program.fieldsOf, Tryd.underlying38]
  go_simp
  by_cases h1 : s.toList = s'.toList <;> by_cases h2 : i = i' <;> by_cases h3 : j = j' <;> simp [h1, h2, h3]
set_option maxRecDepth 20000 in
theorem neq_entry (e : Dk.En) (w : World) : (binOp .neq 45 (.agg (enV e).toArray) (.agg (enV e).toArray)).run Tryd.prog w = .ok (.bool false) w := by
  simp only [enV]
  rw [run_neq_struct, show (10000 : Nat) = 9999 + 1 by rfl, run_equalIn_agg w 9999 45 _ _ fieldsOfE noStandE]
  simp only [Program.fieldsOf, Tryd.underlying45]
  go_simp

set_option maxRecDepth 20000 in
theorem neq_file (s s' : ByteArray) (i j i' j' : Int) (w : World) : (binOp .neq 38 (.agg #[.string s, .int .i64 i, .int .i64 j]) (.agg #[.string s', .int .i64 i', .int .i64 j'])).run Tryd.prog w = .ok (.bool (!(s.toList == s'.toList && i == i' && j == j'))) w := by
  rw [run_neq_struct, show (10000 : Nat) = 9998 + 1 + 1 by rfl, eqIn_file 9998]
  rfl
set_option maxRecDepth 20000 in
theorem eq_file (s s' : ByteArray) (i j i' j' : Int) (w : World) : (binOp .eql 38 (.agg #[.string s, .int .i64 i, .int .i64 j]) (.agg #[.string s', .int .i64 i', .int .i64 j'])).run Tryd.prog w = .ok (.bool (s.toList == s'.toList && i == i' && j == j')) w := by
  rw [run_eql_struct, show (10000 : Nat) = 9998 + 1 + 1 by rfl, eqIn_file 9998]
  rfl

theorem lst_take (pre : List UInt8) (es : List Dk.En) (k : Nat) (p : Dk.En) (hp : es[k]? = some p) : Dk.lst pre (es.take (k + 1)) = Dk.lst pre (es.take k) ++ if pre.isPrefixOf (Dk.key p) then [p] else [] := by
  unfold Dk.lst
  rw [List.take_add_one, hp, List.filter_append]
  simp only [Option.toList, List.filter_cons, List.filter_nil]
theorem lst_le (pre : List UInt8) (es : List Dk.En) : (Dk.lst pre es).length ≤ es.length := List.length_filter_le _ _

set_option maxHeartbeats 4000000 in
set_option maxRecDepth 20000 in
theorem dlist (B b : Nat) (v : Value) (q : Int) (es : List Dk.En) (x : ByteArray) (w : World) (h : RD w B b v q es) :
    Calls Tryd.prog 24 #[.pointer (some ⟨b, 0, none⟩), .string x] w fun e w' => (∃ m ro rc, e = .returned (.slice ro m rc) ∧ (Dk.lst x.data.toList es).length = m ∧ w'.ownsRow w.heap.size 45 4 (.slice ro m rc) m (enC (Dk.lst x.data.toList es))) ∧ Below w.heap.size w w' := by
  obtain ⟨i0, hi0, hz0, hz1, hz2⟩ := dinfo_parts dinfoE
  have HI := hid' hi0
  have HZ0 := hid' hz0
  have HZ1 := hid' hz1
  have HZ2 := hid' hz2
  clear hi0 hz0 hz1 hz2
  have c0 := h.obj.cell 0 _ rfl
  obtain ⟨ao, cap, hv⟩ := down_shape h.row
  subst hv
  have HR := hid' (RE.of_own h.row)
  have hl := h.le
  have hbl := h.obj.lt
  obtain ⟨n, hn⟩ : ∃ n, es.length = n := ⟨_, rfl⟩
  have HN := hid' hn
  rw [hn] at HR c0 hl
  clear h hn
  go_enter Tryd.func24, Tryd.ntmps24
  go_wp2
  go_loopw [5, 6] (fun s5 s6 wr => ∃ (k m : Nat) (ro : Option Addr) (rc : Nat), s6 = .int .i64 (k : Int) ∧ s5 = .slice ro m rc ∧ k ≤ n ∧ m ≤ k ∧ Hid ((Dk.lst x.data.toList (es.take k)).length = m) ∧ Hid (wr.ownsRow w.heap.size 45 4 (.slice ro m rc) m (enC (Dk.lst x.data.toList (es.take k)))) ∧ Hid (Below w.heap.size w wr)) (fun _ s6 _ => n - (intOf s6).toNat)
  case atStart => exact ⟨0, 0, none, 0, rfl, rfl, Nat.zero_le _, Nat.zero_le _, hid' rfl, hid' (World.ownsRow_nil _ _ _ _), hid' (Below.refl _ _)⟩
  case round =>
    obtain ⟨k, m, ro, rc, rfl, rfl, hk, hmk, HML, HO, HB⟩ := hrel
    have c0' := (HB.out.cell (p := ⟨b, 0, none⟩) hbl).trans c0
    by_cases hlt : k < n
    · have hlt2 : (k : Int) < (n : Int) := by omega
      obtain ⟨p, hp⟩ : ∃ p, es[k]? = some p := ⟨_, List.getElem?_eq_getElem (by rw [HN.out]; exact hlt)⟩
      obtain ⟨a, hao, y0, y1, y2, y3⟩ := (HR.out.keep HB.out).four HN.out.symm k p hp
      subst hao
      have hrt := lst_take x.data.toList es k p hp
      obtain ⟨d, hd⟩ : ∃ d, x.data.toList.isPrefixOf (Dk.key p) = d := ⟨_, rfl⟩
      rw [hd] at hrt
      have HD := hid' hd
      clear hp hd
      go_wp2_with fail
      refine (rbegins p.path x d HD.out _).mono ?_
      rintro e wq ⟨rfl, hwq⟩
      subst wq
      cases d
      · simp only [Bool.false_eq_true, if_false, List.append_nil] at hrt
        have HRT := hid' hrt
        clear hrt
        go_wp2
        go_roundw
        case rel => exact ⟨k + 1, m, ro, rc, by go_num, rfl, by omega, by omega, hid' (by rw [HRT.out]; exact HML.out), hid' (by rw [HRT.out]; exact HO.out), HB⟩
        case measure => simp [intOf]; omega
      · simp only [if_true] at hrt
        have HRT := hid' hrt
        have HA : Hid ((wr.alloc (.cells #[.string p.path, .string p.body, .int .i64 p.time, .int .i64 p.seq] 45)).ownsRow w.heap.size 45 4 (.slice ro m rc) m (enC (Dk.lst x.data.toList (es.take k)))) := hid' (HO.out.alloc _)
        clear hrt
        go_wp2_with (at_builtin; refine wpList_append_own_at _ rfl _ _ 27 rfl w.heap.size 45 i0 (.agg #[.string ⟨#[]⟩, .string ⟨#[]⟩, .int .i64 0, .int .i64 0]) 4 48 Tryd.underlying27 HI.out HZ0.out HZ1.out HZ2.out rfl (by decide) (.slice ro m rc) m (enC (Dk.lst x.data.toList (es.take k))) rfl HA.out ⟨wr.heap.size, 0, none⟩ 1 1 [.string p.path, .string p.body, .int .i64 p.time, .int .i64 p.seq] rfl rfl (four_new _ _ _ _ _ _) (by simp [Value.oneCell']) (by unfold maxLen; omega) (by omega) (by simp; have := HB.out.size; omega) ?_; intro v3 w3 hown3 hgrow3 _ _; refine Hid.out ?_)
        refine hid' ?_
        have e : enC (Dk.lst x.data.toList (es.take k)) ++ [Value.string p.path, .string p.body, .int .i64 p.time, .int .i64 p.seq] = enC (Dk.lst x.data.toList (es.take (k + 1))) := by rw [HRT.out, enC_append, enC_cons]; simp [enV, enC]
        rw [e] at hown3
        obtain ⟨v3o, v3c, hv3⟩ := down_shape hown3
        subst hv3
        have HO3 := hid' hown3
        have HB3 : Hid (Below w.heap.size w w3) := hid' ((HB.out.alloc HB.out.size _).grown hgrow3 (by simp; have := HB.out.size; omega) (fun k hk => (HA.out.lt k hk).1))
        clear hown3 hgrow3 e y0 y1 y2 y3 c0'
        go_wp2
        go_roundw
        case rel => exact ⟨k + 1, m + 1, v3o, v3c, by go_num, rfl, by omega, by omega, hid' (by rw [HRT.out, List.length_append, HML.out]; rfl), HO3, HB3⟩
        case measure => simp [intOf]; omega
    · obtain rfl : k = n := by omega
      have hlt2 : ¬ (k : Int) < (k : Int) := by omega
      have HT : Hid (es.take k = es) := hid' (List.take_of_length_le (by rw [HN.out]; exact Nat.le_refl _))
      clear hlt
      go_wp2
      go_ret
      refine ⟨⟨m, ro, rc, rfl, ?_, ?_⟩, HB.out⟩
      · have := HML.out; rwa [HT.out] at this
      · have := HO.out; rwa [HT.out] at this

set_option maxHeartbeats 4000000 in
set_option maxRecDepth 20000 in
theorem dsame (ao bo : Option Addr) (ca cb n : Nat) (l : List Dk.En) (hn : l.length = n) (w : World) (h1 : RE w (.slice ao n ca) n (enC l)) (h2 : RE w (.slice bo n cb) n (enC l)) (hb : n ≤ 65536) :
    Calls Tryd.prog 23 #[.slice ao n ca, .slice bo n cb] w fun e w' => e = .returned (.bool true) ∧ ∃ m, w' = w.drewN m := by
  have H1 := hid' h1
  have H2 := hid' h2
  have HN := hid' hn
  have hee : ((n : Int) == (n : Int)) = true := beq_self_eq_true _
  have hgd := noGuardE
  clear h1 h2 hn
  go_enter Tryd.func23, Tryd.ntmps23
  go_wp2
  go_loopw [5] (fun s5 wr => ∃ i q : Nat, s5 = .int .i64 (i : Int) ∧ i ≤ n ∧ wr = w.drewN q) (fun s5 _ => n - (intOf s5).toNat)
  case atStart => exact ⟨0, 0, rfl, Nat.zero_le _, rfl⟩
  case round =>
    obtain ⟨i, q, rfl, hi, hwr⟩ := hrel
    subst hwr
    by_cases hlt : i < n
    · have hlt2 : (i : Int) < (n : Int) := by omega
      obtain ⟨p, hp⟩ : ∃ p, l[i]? = some p := ⟨_, List.getElem?_eq_getElem (by rw [HN.out]; exact hlt)⟩
      obtain ⟨a, hao, x0, x1, x2, x3⟩ := H1.out.four HN.out.symm i p hp
      obtain ⟨a2, hbo, y0, y1, y2, y3⟩ := H2.out.four HN.out.symm i p hp
      subst hao hbo
      have hne : ∀ W, (binOp .neq 45 (.agg #[.string p.path, .string p.body, .int .i64 p.time, .int .i64 p.seq]) (.agg #[.string p.path, .string p.body, .int .i64 p.time, .int .i64 p.seq])).run Tryd.prog W = .ok (.bool false) W := fun W => neq_entry p W
      have HLT := hid' hlt
      clear hp hlt
      go_wp2
      go_quiet (fail)
      go_wp2
      go_roundw
      case rel => exact ⟨i + 1, _, by go_num, by have := HLT.out; omega, by first | rfl | simp⟩
      case measure => have := HLT.out; simp [intOf]; omega
    · have hlt2 : ¬ (i : Int) < (n : Int) := by omega
      clear hlt
      go_wp2
      go_ret
      exact ⟨rfl, _, rfl⟩

end Go.Proofs.YtnggablpkgbpaaaDoor
