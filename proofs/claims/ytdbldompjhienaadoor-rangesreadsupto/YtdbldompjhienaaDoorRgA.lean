/-
  The document's digits and piece: by their contracts.
-/
import Derived.Test.YtdbldompjhienaaDoorRgPl
import Derived.Test.YtdbldompjhienaaDoorProg
import Derived.Test.YtdbldompjhienaaDoorLf
import Derived.WalkKit
import Derived.Deep.CutRange
namespace Go.Proofs.YtdbldompjhienaaDoor
open Go.RowKit

theorem bl_alloc (w : World) (x : Obj) : Below w.heap.size w (w.alloc x) := (Below.refl _ _).alloc (Nat.le_refl _) _
theorem zeroRg16 : (Tryd.prog.info? 23).map (fun i => i.zero) = some (some (.agg #[.int .i64 0, .int .i64 0])) := by kernel_rfl
theorem sizeRg16 : (Tryd.prog.info? 23).map (·.size) = some 2 := by kernel_rfl
theorem infoRg16 : (Tryd.prog.info? 23).map (fun i => (i.zero, i.size, i.bytes)) = some (some (.agg #[.int .i64 0, .int .i64 0]), 2, 16) := by kernel_rfl
theorem ldRg16 {w : World} {b : Nat} {x0 x1 : Value} (h : Ar w b 23 #[x0, x1]) : (loadVar 23 ⟨b, 0, none⟩).run Tryd.prog w = .ok (.agg #[x0, x1]) w :=
  run_loadVar_row (P := Tryd.prog) w b 23 23 _ (0, 0) _ h Tryd.underlying23 rfl sizeRg16
theorem wrp16 (x : Int) (h0 : -9223372036854775808 ≤ x) (h1 : x ≤ 9223372036854775807) : IntKind.i64.wrap x = x := by rw [IntKind.wrap_i64]; omega
theorem ext_td16 (s : ByteArray) (a b : Nat) : s.extract a b = ⟨((s.data.toList.drop a).take (b - a)).toArray⟩ := by
  apply ByteArray.ext
  rw [ByteArray.data_extract]
  apply Array.toList_inj.1
  simp [Array.toList_extract, List.extract_eq_take_drop]

set_option maxHeartbeats 1000000 in
theorem rdig16 (NM : ∀ (s : ByteArray) (w : World), s.size ≤ maxLen → Calls Tryd.prog 49 #[.string s] w fun e w' => e = .returned (.tuple #[.int .i64 (Tx.num 10 s.data.toList).1, .int .i64 (Tx.num 10 s.data.toList).2]) ∧ Below w.heap.size w w')
    (s : ByteArray) (l : List UInt8) (hl : s.data.toList = l) (w : World) :
    Calls Tryd.prog 39 #[.string s] w fun e w' => e = .returned (.tuple #[.int .i64 (Rg.digN l), .bool (Rg.digB l)]) ∧ Below w.heap.size w w' := by
  have hsz : s.size = l.length := by rw [Lib.size_eq, hl]
  by_cases h1 : s.size < 1
  · have HN : Hid (Rg.digN l = 0 ∧ Rg.digB l = false) := hid' ⟨by unfold Rg.digN; rw [if_neg (by omega)], by unfold Rg.digB; rw [decide_eq_false (show ¬ 1 ≤ l.length by omega)]; rfl⟩
    have h1I : (s.size : Int) < 1 := by omega
    go_enter Tryd.func39, Tryd.ntmps39
    go_wp2
    go_ret2
    exact ⟨by rw [HN.out.1, HN.out.2]; rfl, Below.refl _ _⟩
  have h1I : ¬ (s.size : Int) < 1 := by omega
  by_cases h2 : 15 < s.size
  · have HN : Hid (Rg.digN l = 0 ∧ Rg.digB l = false) := hid' ⟨by unfold Rg.digN; rw [if_neg (by omega)], by unfold Rg.digB; rw [decide_eq_false (show ¬ l.length ≤ 15 by omega), Bool.and_false]; rfl⟩
    have h2I : (15 : Int) < (s.size : Int) := by omega
    go_enter Tryd.func39, Tryd.ntmps39
    go_wp2
    go_ret2
    exact ⟨by rw [HN.out.1, HN.out.2]; rfl, Below.refl _ _⟩
  have h2I : ¬ (15 : Int) < (s.size : Int) := by omega
  have HM := hid' (NM s w (by unfold maxLen; omega))
  rw [hl] at HM
  have HN : Hid (Rg.digN l = (Tx.num 10 l).1 ∧ Rg.digB l = ((Tx.num 10 l).2 == 0)) := hid' ⟨by unfold Rg.digN; rw [if_pos (by omega)], by unfold Rg.digB; rw [decide_eq_true (show 1 ≤ l.length by omega), decide_eq_true (show l.length ≤ 15 by omega)]; rfl⟩
  clear NM
  go_enter Tryd.func39, Tryd.ntmps39
  go_wp2_with fail
  refine HM.out.mono ?_
  rintro e w1 ⟨rfl, hb1⟩
  go_wp2
  go_ret2
  exact ⟨by rw [HN.out.1, HN.out.2]; rfl, hb1⟩

/-- What piece answers. -/
def pcV (q : Rg.Rn × Bool × Bool) : Value := .tuple #[.agg #[.int .i64 q.1.a, .int .i64 q.1.b], .bool q.2.1, .bool q.2.2]
def dv16 (l : List UInt8) (k : Nat) : Int := if Rg.hasD l && decide (Rg.ahead l < k) then (Rg.ahead l : Int) else -1
theorem u45 (s : ByteArray) (k : Nat) (h : k < s.size) : (s[k] == 45) = ((s[k].toNat : Int) == 45) := by
  rw [Bool.eq_iff_iff, beq_iff_eq, beq_iff_eq]
  constructor
  · intro e; rw [e]; rfl
  · intro e; apply UInt8.toNat_inj.1; simp; omega

set_option maxHeartbeats 4000000 in
set_option maxRecDepth 20000 in
theorem rpiece16 (NM : ∀ (s : ByteArray) (w : World), s.size ≤ maxLen → Calls Tryd.prog 49 #[.string s] w fun e w' => e = .returned (.tuple #[.int .i64 (Tx.num 10 s.data.toList).1, .int .i64 (Tx.num 10 s.data.toList).2]) ∧ Below w.heap.size w w')
    (s : ByteArray) (l : List UInt8) (hl : s.data.toList = l) (n : Int) (n0 : 0 ≤ n) (n1 : n ≤ 9223372036854775807) (w : World) (hs : s.size ≤ 140737488355328) :
    Calls Tryd.prog 28 #[.string s, .int .i64 n] w fun e w' => e = .returned (pcV (Rg.pc l n)) ∧ Below w.heap.size w w' := by
  have hsz : s.size = l.length := by rw [Lib.size_eq, hl]
  have HG : Hid (∀ k (h : k < s.size), l[k]? = some s[k]) := hid' (fun k h => by rw [← hl]; exact Tx.get_byte s k h)
  have HL := hid' hl
  have HNM := hid' NM
  have HSZ := hid' hsz
  clear hl NM hsz
  go_enter Tryd.func28, Tryd.ntmps28
  go_wp2_with (refine wpl_alloc 23 rfl rfl #[.int .i64 0, .int .i64 0] zeroRg16 ?_)
  intro b0 w0 hb0 ha0 hbe0
  have HX := hid' ha0
  have HB0 := hid' hbe0
  have HG0 := hid' hb0
  clear hb0 ha0 hbe0
  go_wp2
  go_loopw [7, 8] (fun s7 s8 wr => ∃ k : Nat, s8 = .int .i64 (k : Int) ∧ s7 = .int .i64 (dv16 l k) ∧ k ≤ s.size ∧ Hid (wr = w0)) (fun _ s8 _ => s.size - (intOf s8).toNat)
  case atStart => exact ⟨0, rfl, by unfold dv16; rw [decide_eq_false (Nat.not_lt_zero _), Bool.and_false]; rfl, Nat.zero_le _, hid' rfl⟩
  case round =>
    obtain ⟨k, rfl, rfl, hk, HW⟩ := hrel
    obtain rfl := HW.out
    obtain ⟨dk, hdk⟩ : ∃ dk, dv16 l k = dk := ⟨_, rfl⟩
    rw [hdk]
    by_cases hlt : k < s.size
    · have hlt2 : (k : Int) < (s.size : Int) := by omega
      have hc := HG.out k hlt
      cases h45 : ((s[k].toNat : Int) == 45)
      · have hne : Rg.hasD l = true → Rg.ahead l ≠ k := fun h e => by
          have := Rg.ahead_stop h
          rw [e, hc] at this
          injection this with this
          rw [← u45 s k hlt, this] at h45
          revert h45; decide
        have HD : Hid (dv16 l (k + 1) = dk) := hid' (by
          rw [← hdk]; unfold dv16
          cases hd : Rg.hasD l
          · rfl
          · have := hne hd
            rw [show decide (Rg.ahead l < k + 1) = decide (Rg.ahead l < k) from decide_eq_decide.2 (by omega)])
        clear hc hne hdk
        go_wp2
        go_roundw
        case rel => exact ⟨k + 1, by go_num, by rw [HD.out], by omega, hid' (by trivial)⟩
        case measure => simp [intOf]; omega
      · have hd : Rg.hasD l = true := by
          unfold Rg.hasD
          refine List.contains_iff_mem.2 ?_
          have h1 : s[k] = 45 := eq_of_beq ((u45 s k hlt).trans h45)
          rw [h1] at hc
          exact List.mem_of_getElem? hc
        have hak : Rg.ahead l ≤ k := by
          rcases Nat.lt_or_ge k (Rg.ahead l) with h | h
          · obtain ⟨c, h1, h2⟩ := Rg.ahead_at h
            rw [hc] at h1
            injection h1 with h1
            subst h1
            rw [u45 s k hlt, h45] at h2; cases h2
          · exact h
        by_cases hq : Rg.ahead l = k
        · have hneg : dk < 0 := by rw [← hdk]; unfold dv16; rw [hd, decide_eq_false (by omega)]; simp
          have HD : Hid (dv16 l (k + 1) = (k : Int)) := hid' (by unfold dv16; rw [hd, decide_eq_true (by omega), hq]; rfl)
          clear hc hd hak hdk
          go_wp2
          go_roundw
          case rel => exact ⟨k + 1, by go_num, by rw [HD.out], by omega, hid' (by trivial)⟩
          case measure => simp [intOf]; omega
        · have hpos : ¬ dk < 0 := by rw [← hdk]; unfold dv16; rw [hd, decide_eq_true (by omega)]; simp
          have HD : Hid (dv16 l (k + 1) = dk) := hid' (by rw [← hdk]; unfold dv16; rw [hd, decide_eq_true (by omega), decide_eq_true (by omega)])
          clear hc hd hak hdk
          go_wp2
          go_roundw
          case rel => exact ⟨k + 1, by go_num, by rw [HD.out], by omega, hid' (by trivial)⟩
          case measure => simp [intOf]; omega
    · have hkn : s.size = k := by omega
      subst hkn
      have hlt2 : ¬ (s.size : Int) < (s.size : Int) := by omega
      have HXq := HX
      have HBq := HB0
      clear hlt
      cases hd : Rg.hasD l
      · have hneg : dk < 0 := by rw [← hdk]; unfold dv16; rw [hd]; simp
        have HPC : Hid (Rg.pc l n = (⟨0, 0⟩, false, false)) := hid' (by unfold Rg.pc; rw [hd]; rfl)
        clear hdk
        go_wp2_with (refine wpl_store 23 _ _ rfl rfl b0 #[.int .i64 0, .int .i64 0] (by rfl) (by rfl) _ _ HXq.out sizeRg16 rfl (by simp [Value.oneCell']) ?_)
        intro w9 ha9 hu9
        have hld := ldRg16 ha9
        have HB9 := hid' (HBq.out.trans (hu9.below HG0.out))
        clear ha9 hu9
        go_wp2
        exact bodyPost_ret (v := .tuple #[.agg #[.int .i64 0, .int .i64 0], .bool false, .bool false]) (by simp [results, Tryd.results28, asAddr, hld]) rfl ⟨by rw [HPC.out]; rfl, HB9.out⟩
      · have hal := Rg.ahead_lt hd
        obtain ⟨d, hde⟩ : ∃ d, Rg.ahead l = d := ⟨_, rfl⟩
        have hdd : dk = (d : Int) := by rw [← hdk]; unfold dv16; rw [hd, decide_eq_true (by have := HSZ.out; omega), hde]; rfl
        subst hdd
        rw [hde, ← HSZ.out] at hal
        have hpos : ¬ (d : Int) < 0 := by omega
        have hdl : (d : Int) ≤ (s.size : Int) := by omega
        have hdl1 : (d : Int) + 1 ≤ (s.size : Int) := by omega
        have hd1 : d ≤ s.size := by omega
        have hd2 : d + 1 ≤ s.size := by omega
        obtain ⟨xa, hxa⟩ : ∃ x, Rg.digN (l.take d) = x := ⟨_, rfl⟩
        obtain ⟨xf, hxf⟩ : ∃ x, Rg.digB (l.take d) = x := ⟨_, rfl⟩
        obtain ⟨yb, hyb⟩ : ∃ x, Rg.digN (l.drop (d + 1)) = x := ⟨_, rfl⟩
        obtain ⟨yl, hyl⟩ : ∃ x, Rg.digB (l.drop (d + 1)) = x := ⟨_, rfl⟩
        have xb := Rg.digN_bd (l.take d)
        have yb2 := Rg.digN_bd (l.drop (d + 1))
        rw [hxa] at xb
        rw [hyb] at yb2
        have HC1 := hid' (fun W => rdig16 HNM.out (s.extract 0 d) (l.take d) (by rw [ext_td16, HL.out]; simp) W)
        have HC2 := hid' (fun W => rdig16 HNM.out (s.extract (d + 1) s.size) (l.drop (d + 1)) (by rw [ext_td16, HL.out]; exact List.take_of_length_le (by rw [List.length_drop, HSZ.out]; exact Nat.le_refl _)) W)
        rw [hxa, hxf] at HC1
        rw [hyb, hyl] at HC2
        have HPC : Hid (Rg.pc l n = if d = 0 then (⟨max (n - yb) 0, n - 1⟩, decide (0 < yb) && decide (0 < n), yl) else if d + 1 = s.size then (⟨xa, n - 1⟩, decide (xa < n), xf) else (⟨xa, min yb (n - 1)⟩, decide (xa < n), xf && yl && decide (xa ≤ yb))) := hid' (by unfold Rg.pc; rw [hd]; simp only [if_true]; rw [hde, hxa, hxf, hyb, hyl, HSZ.out])
        clear hdk hde hxa hxf hyb hyl
        go_wp2_with fail
        refine (HC1.out _).mono ?_
        rintro e w1 ⟨rfl, hb1⟩
        have HB1 := hid' (below_two HBq.out hb1)
        have HX1 := hid' (HXq.out.keep hb1)
        clear hb1 HXq HBq
        go_wp2_with fail
        refine (HC2.out _).mono ?_
        rintro e w2 ⟨rfl, hb2⟩
        have HBq := hid' (below_two HB1.out hb2)
        have HXq := hid' (HX1.out.keep hb2)
        clear hb2 HX1 HB1
        have wn1 : IntKind.i64.wrap (n - 1) = n - 1 := wrp16 _ (by omega) (by omega)
        have wnb : IntKind.i64.wrap (n - yb) = n - yb := wrp16 _ (by omega) (by omega)
        have ws1 : IntKind.i64.wrap ((s.size : Int) - 1) = (s.size : Int) - 1 := wrp16 _ (by omega) (by omega)
        by_cases hd0 : d = 0
        · have hdB : ((d : Int) == 0) = true := by rw [beq_iff_eq]; omega
          have HP1 : Hid (Rg.pc l n = (⟨max (n - yb) 0, n - 1⟩, decide (0 < yb) && decide (0 < n), yl)) := hid' (by rw [HPC.out, if_pos hd0])
          by_cases m1 : n - yb < 0
          · have HMX : Hid (max (n - yb) 0 = 0) := hid' (by omega)
            have e1 : 0 < yb := by omega
            rw [HMX.out, decide_eq_true e1] at HP1
            by_cases e2 : 0 < n
            · rw [decide_eq_true e2] at HP1
              go_wp2_with (refine wpl_store 23 _ _ rfl rfl b0 #[.int .i64 0, .int .i64 (n - 1)] (by rfl) (by rfl) _ _ HXq.out sizeRg16 rfl (by simp [Value.oneCell']) ?_)
              intro w9 ha9 hu9
              have hld := ldRg16 ha9
              have HB9 := hid' (HBq.out.trans (hu9.below HG0.out))
              clear ha9 hu9
              go_wp2
              exact bodyPost_ret (v := .tuple #[.agg #[.int .i64 0, .int .i64 (n - 1)], .bool true, .bool yl]) (by simp [results, Tryd.results28, asAddr, hld]) rfl ⟨by rw [HP1.out]; rfl, HB9.out⟩
            · rw [decide_eq_false e2] at HP1
              go_wp2_with (refine wpl_store 23 _ _ rfl rfl b0 #[.int .i64 0, .int .i64 (n - 1)] (by rfl) (by rfl) _ _ HXq.out sizeRg16 rfl (by simp [Value.oneCell']) ?_)
              intro w9 ha9 hu9
              have hld := ldRg16 ha9
              have HB9 := hid' (HBq.out.trans (hu9.below HG0.out))
              clear ha9 hu9
              go_wp2
              exact bodyPost_ret (v := .tuple #[.agg #[.int .i64 0, .int .i64 (n - 1)], .bool false, .bool yl]) (by simp [results, Tryd.results28, asAddr, hld]; try omega) rfl ⟨by rw [HP1.out]; rfl, HB9.out⟩
          · have HMX : Hid (max (n - yb) 0 = n - yb) := hid' (by omega)
            rw [HMX.out] at HP1
            by_cases e1 : 0 < yb
            · have e2 : 0 < n := by omega
              rw [decide_eq_true e1, decide_eq_true e2] at HP1
              go_wp2_with (refine wpl_store 23 _ _ rfl rfl b0 #[.int .i64 (n - yb), .int .i64 (n - 1)] (by rfl) (by rfl) _ _ HXq.out sizeRg16 rfl (by simp [Value.oneCell']) ?_)
              intro w9 ha9 hu9
              have hld := ldRg16 ha9
              have HB9 := hid' (HBq.out.trans (hu9.below HG0.out))
              clear ha9 hu9
              go_wp2
              exact bodyPost_ret (v := .tuple #[.agg #[.int .i64 (n - yb), .int .i64 (n - 1)], .bool true, .bool yl]) (by simp [results, Tryd.results28, asAddr, hld]) rfl ⟨by rw [HP1.out]; rfl, HB9.out⟩
            · rw [decide_eq_false e1] at HP1
              go_wp2_with (refine wpl_store 23 _ _ rfl rfl b0 #[.int .i64 (n - yb), .int .i64 (n - 1)] (by rfl) (by rfl) _ _ HXq.out sizeRg16 rfl (by simp [Value.oneCell']) ?_)
              intro w9 ha9 hu9
              have hld := ldRg16 ha9
              have HB9 := hid' (HBq.out.trans (hu9.below HG0.out))
              clear ha9 hu9
              go_wp2
              exact bodyPost_ret (v := .tuple #[.agg #[.int .i64 (n - yb), .int .i64 (n - 1)], .bool false, .bool yl]) (by simp [results, Tryd.results28, asAddr, hld]; try omega) rfl ⟨by rw [HP1.out]; rfl, HB9.out⟩
        · have hdB : ((d : Int) == 0) = false := by rw [beq_eq_false_iff_ne]; omega
          by_cases hdl' : d + 1 = s.size
          · have hdC : ((d : Int) == (s.size : Int) - 1) = true := by rw [beq_iff_eq]; omega
            have HP1 : Hid (Rg.pc l n = (⟨xa, n - 1⟩, decide (xa < n), xf)) := hid' (by rw [HPC.out, if_neg hd0, if_pos hdl'])
            by_cases e1 : xa < n
            · rw [decide_eq_true e1] at HP1
              go_wp2_with (refine wpl_store 23 _ _ rfl rfl b0 #[.int .i64 xa, .int .i64 (n - 1)] (by rfl) (by rfl) _ _ HXq.out sizeRg16 rfl (by simp [Value.oneCell']) ?_)
              intro w9 ha9 hu9
              have hld := ldRg16 ha9
              have HB9 := hid' (HBq.out.trans (hu9.below HG0.out))
              clear ha9 hu9
              go_wp2
              exact bodyPost_ret (v := .tuple #[.agg #[.int .i64 xa, .int .i64 (n - 1)], .bool true, .bool xf]) (by simp [results, Tryd.results28, asAddr, hld]) rfl ⟨by rw [HP1.out]; rfl, HB9.out⟩
            · rw [decide_eq_false e1] at HP1
              go_wp2_with (refine wpl_store 23 _ _ rfl rfl b0 #[.int .i64 xa, .int .i64 (n - 1)] (by rfl) (by rfl) _ _ HXq.out sizeRg16 rfl (by simp [Value.oneCell']) ?_)
              intro w9 ha9 hu9
              have hld := ldRg16 ha9
              have HB9 := hid' (HBq.out.trans (hu9.below HG0.out))
              clear ha9 hu9
              go_wp2
              exact bodyPost_ret (v := .tuple #[.agg #[.int .i64 xa, .int .i64 (n - 1)], .bool false, .bool xf]) (by simp [results, Tryd.results28, asAddr, hld]; try omega) rfl ⟨by rw [HP1.out]; rfl, HB9.out⟩
          · have hdC : ((d : Int) == (s.size : Int) - 1) = false := by rw [beq_eq_false_iff_ne]; omega
            have HP1 : Hid (Rg.pc l n = (⟨xa, min yb (n - 1)⟩, decide (xa < n), xf && yl && decide (xa ≤ yb))) := hid' (by rw [HPC.out, if_neg hd0, if_neg hdl'])
            by_cases m2 : n - 1 < yb
            · have HMN : Hid (min yb (n - 1) = (n - 1)) := hid' (by omega)
              rw [HMN.out] at HP1
              by_cases e1 : xa < n
              · rw [decide_eq_true e1] at HP1
                cases xf
                · skip
                  go_wp2_with (refine wpl_store 23 _ _ rfl rfl b0 #[.int .i64 xa, .int .i64 (n - 1)] (by rfl) (by rfl) _ _ HXq.out sizeRg16 rfl (by simp [Value.oneCell']) ?_)
                  intro w9 ha9 hu9
                  have hld := ldRg16 ha9
                  have HB9 := hid' (HBq.out.trans (hu9.below HG0.out))
                  clear ha9 hu9
                  go_wp2
                  exact bodyPost_ret (v := .tuple #[.agg #[.int .i64 xa, .int .i64 (n - 1)], .bool true, .bool false]) (by simp [results, Tryd.results28, asAddr, hld]) rfl ⟨by rw [HP1.out]; rfl, HB9.out⟩
                · cases yl
                  · skip
                    go_wp2_with (refine wpl_store 23 _ _ rfl rfl b0 #[.int .i64 xa, .int .i64 (n - 1)] (by rfl) (by rfl) _ _ HXq.out sizeRg16 rfl (by simp [Value.oneCell']) ?_)
                    intro w9 ha9 hu9
                    have hld := ldRg16 ha9
                    have HB9 := hid' (HBq.out.trans (hu9.below HG0.out))
                    clear ha9 hu9
                    go_wp2
                    exact bodyPost_ret (v := .tuple #[.agg #[.int .i64 xa, .int .i64 (n - 1)], .bool true, .bool false]) (by simp [results, Tryd.results28, asAddr, hld]) rfl ⟨by rw [HP1.out]; rfl, HB9.out⟩
                  · by_cases e3 : xa ≤ yb
                    · rw [decide_eq_true e3] at HP1
                      go_wp2_with (refine wpl_store 23 _ _ rfl rfl b0 #[.int .i64 xa, .int .i64 (n - 1)] (by rfl) (by rfl) _ _ HXq.out sizeRg16 rfl (by simp [Value.oneCell']) ?_)
                      intro w9 ha9 hu9
                      have hld := ldRg16 ha9
                      have HB9 := hid' (HBq.out.trans (hu9.below HG0.out))
                      clear ha9 hu9
                      go_wp2
                      exact bodyPost_ret (v := .tuple #[.agg #[.int .i64 xa, .int .i64 (n - 1)], .bool true, .bool true]) (by simp [results, Tryd.results28, asAddr, hld]) rfl ⟨by rw [HP1.out]; rfl, HB9.out⟩
                    · exfalso; omega
              · rw [decide_eq_false e1] at HP1
                cases xf
                · skip
                  go_wp2_with (refine wpl_store 23 _ _ rfl rfl b0 #[.int .i64 xa, .int .i64 (n - 1)] (by rfl) (by rfl) _ _ HXq.out sizeRg16 rfl (by simp [Value.oneCell']) ?_)
                  intro w9 ha9 hu9
                  have hld := ldRg16 ha9
                  have HB9 := hid' (HBq.out.trans (hu9.below HG0.out))
                  clear ha9 hu9
                  go_wp2
                  exact bodyPost_ret (v := .tuple #[.agg #[.int .i64 xa, .int .i64 (n - 1)], .bool false, .bool false]) (by simp [results, Tryd.results28, asAddr, hld]; try omega) rfl ⟨by rw [HP1.out]; rfl, HB9.out⟩
                · cases yl
                  · skip
                    go_wp2_with (refine wpl_store 23 _ _ rfl rfl b0 #[.int .i64 xa, .int .i64 (n - 1)] (by rfl) (by rfl) _ _ HXq.out sizeRg16 rfl (by simp [Value.oneCell']) ?_)
                    intro w9 ha9 hu9
                    have hld := ldRg16 ha9
                    have HB9 := hid' (HBq.out.trans (hu9.below HG0.out))
                    clear ha9 hu9
                    go_wp2
                    exact bodyPost_ret (v := .tuple #[.agg #[.int .i64 xa, .int .i64 (n - 1)], .bool false, .bool false]) (by simp [results, Tryd.results28, asAddr, hld]; try omega) rfl ⟨by rw [HP1.out]; rfl, HB9.out⟩
                  · by_cases e3 : xa ≤ yb
                    · rw [decide_eq_true e3] at HP1
                      go_wp2_with (refine wpl_store 23 _ _ rfl rfl b0 #[.int .i64 xa, .int .i64 (n - 1)] (by rfl) (by rfl) _ _ HXq.out sizeRg16 rfl (by simp [Value.oneCell']) ?_)
                      intro w9 ha9 hu9
                      have hld := ldRg16 ha9
                      have HB9 := hid' (HBq.out.trans (hu9.below HG0.out))
                      clear ha9 hu9
                      go_wp2
                      exact bodyPost_ret (v := .tuple #[.agg #[.int .i64 xa, .int .i64 (n - 1)], .bool false, .bool true]) (by simp [results, Tryd.results28, asAddr, hld]; try omega) rfl ⟨by rw [HP1.out]; rfl, HB9.out⟩
                    · rw [decide_eq_false e3] at HP1
                      go_wp2_with (refine wpl_store 23 _ _ rfl rfl b0 #[.int .i64 xa, .int .i64 (n - 1)] (by rfl) (by rfl) _ _ HXq.out sizeRg16 rfl (by simp [Value.oneCell']) ?_)
                      intro w9 ha9 hu9
                      have hld := ldRg16 ha9
                      have HB9 := hid' (HBq.out.trans (hu9.below HG0.out))
                      clear ha9 hu9
                      go_wp2
                      exact bodyPost_ret (v := .tuple #[.agg #[.int .i64 xa, .int .i64 (n - 1)], .bool false, .bool false]) (by simp [results, Tryd.results28, asAddr, hld]; try omega) rfl ⟨by rw [HP1.out]; rfl, HB9.out⟩
            · have HMN : Hid (min yb (n - 1) = yb) := hid' (by omega)
              rw [HMN.out] at HP1
              by_cases e1 : xa < n
              · rw [decide_eq_true e1] at HP1
                cases xf
                · skip
                  go_wp2_with (refine wpl_store 23 _ _ rfl rfl b0 #[.int .i64 xa, .int .i64 yb] (by rfl) (by rfl) _ _ HXq.out sizeRg16 rfl (by simp [Value.oneCell']) ?_)
                  intro w9 ha9 hu9
                  have hld := ldRg16 ha9
                  have HB9 := hid' (HBq.out.trans (hu9.below HG0.out))
                  clear ha9 hu9
                  go_wp2
                  exact bodyPost_ret (v := .tuple #[.agg #[.int .i64 xa, .int .i64 yb], .bool true, .bool false]) (by simp [results, Tryd.results28, asAddr, hld]) rfl ⟨by rw [HP1.out]; rfl, HB9.out⟩
                · cases yl
                  · skip
                    go_wp2_with (refine wpl_store 23 _ _ rfl rfl b0 #[.int .i64 xa, .int .i64 yb] (by rfl) (by rfl) _ _ HXq.out sizeRg16 rfl (by simp [Value.oneCell']) ?_)
                    intro w9 ha9 hu9
                    have hld := ldRg16 ha9
                    have HB9 := hid' (HBq.out.trans (hu9.below HG0.out))
                    clear ha9 hu9
                    go_wp2
                    exact bodyPost_ret (v := .tuple #[.agg #[.int .i64 xa, .int .i64 yb], .bool true, .bool false]) (by simp [results, Tryd.results28, asAddr, hld]) rfl ⟨by rw [HP1.out]; rfl, HB9.out⟩
                  · by_cases e3 : xa ≤ yb
                    · rw [decide_eq_true e3] at HP1
                      go_wp2_with (refine wpl_store 23 _ _ rfl rfl b0 #[.int .i64 xa, .int .i64 yb] (by rfl) (by rfl) _ _ HXq.out sizeRg16 rfl (by simp [Value.oneCell']) ?_)
                      intro w9 ha9 hu9
                      have hld := ldRg16 ha9
                      have HB9 := hid' (HBq.out.trans (hu9.below HG0.out))
                      clear ha9 hu9
                      go_wp2
                      exact bodyPost_ret (v := .tuple #[.agg #[.int .i64 xa, .int .i64 yb], .bool true, .bool true]) (by simp [results, Tryd.results28, asAddr, hld]) rfl ⟨by rw [HP1.out]; rfl, HB9.out⟩
                    · rw [decide_eq_false e3] at HP1
                      go_wp2_with (refine wpl_store 23 _ _ rfl rfl b0 #[.int .i64 xa, .int .i64 yb] (by rfl) (by rfl) _ _ HXq.out sizeRg16 rfl (by simp [Value.oneCell']) ?_)
                      intro w9 ha9 hu9
                      have hld := ldRg16 ha9
                      have HB9 := hid' (HBq.out.trans (hu9.below HG0.out))
                      clear ha9 hu9
                      go_wp2
                      exact bodyPost_ret (v := .tuple #[.agg #[.int .i64 xa, .int .i64 yb], .bool true, .bool false]) (by simp [results, Tryd.results28, asAddr, hld]; try omega) rfl ⟨by rw [HP1.out]; rfl, HB9.out⟩
              · rw [decide_eq_false e1] at HP1
                cases xf
                · skip
                  go_wp2_with (refine wpl_store 23 _ _ rfl rfl b0 #[.int .i64 xa, .int .i64 yb] (by rfl) (by rfl) _ _ HXq.out sizeRg16 rfl (by simp [Value.oneCell']) ?_)
                  intro w9 ha9 hu9
                  have hld := ldRg16 ha9
                  have HB9 := hid' (HBq.out.trans (hu9.below HG0.out))
                  clear ha9 hu9
                  go_wp2
                  exact bodyPost_ret (v := .tuple #[.agg #[.int .i64 xa, .int .i64 yb], .bool false, .bool false]) (by simp [results, Tryd.results28, asAddr, hld]; try omega) rfl ⟨by rw [HP1.out]; rfl, HB9.out⟩
                · cases yl
                  · skip
                    go_wp2_with (refine wpl_store 23 _ _ rfl rfl b0 #[.int .i64 xa, .int .i64 yb] (by rfl) (by rfl) _ _ HXq.out sizeRg16 rfl (by simp [Value.oneCell']) ?_)
                    intro w9 ha9 hu9
                    have hld := ldRg16 ha9
                    have HB9 := hid' (HBq.out.trans (hu9.below HG0.out))
                    clear ha9 hu9
                    go_wp2
                    exact bodyPost_ret (v := .tuple #[.agg #[.int .i64 xa, .int .i64 yb], .bool false, .bool false]) (by simp [results, Tryd.results28, asAddr, hld]; try omega) rfl ⟨by rw [HP1.out]; rfl, HB9.out⟩
                  · by_cases e3 : xa ≤ yb
                    · exfalso; omega
                    · rw [decide_eq_false e3] at HP1
                      go_wp2_with (refine wpl_store 23 _ _ rfl rfl b0 #[.int .i64 xa, .int .i64 yb] (by rfl) (by rfl) _ _ HXq.out sizeRg16 rfl (by simp [Value.oneCell']) ?_)
                      intro w9 ha9 hu9
                      have hld := ldRg16 ha9
                      have HB9 := hid' (HBq.out.trans (hu9.below HG0.out))
                      clear ha9 hu9
                      go_wp2
                      exact bodyPost_ret (v := .tuple #[.agg #[.int .i64 xa, .int .i64 yb], .bool false, .bool false]) (by simp [results, Tryd.results28, asAddr, hld]; try omega) rfl ⟨by rw [HP1.out]; rfl, HB9.out⟩

end Go.Proofs.YtdbldompjhienaaDoor
