/-
  The document's cut: by its contract.
-/
import Derived.Test.YtdbldompjhienaaDoorRgA
import Derived.Test.YtdbldompjhienaaDoorTrims
import Derived.Laws.Cover1
import Derived.Laws.OwnMore
import Derived.Great.BuildSlice
import Derived.Deep.QuietTactic
import Derived.BigQuiet
import Derived.Maps.AppendAt
namespace Go.Proofs.YtdbldompjhienaaDoor
open Go.RowKit

theorem minfo16 {P : Program} {t : TypeId} {z : Option Value} {s b : Nat} (h : (P.info? t).map (fun i => (i.zero, i.size, i.bytes)) = some (z, s, b)) : ∃ i, P.info? t = some i ∧ i.zero = z ∧ i.size = s ∧ i.bytes = b := by
  cases hq : P.info? t with
  | none => simp [hq] at h
  | some i => simp [hq] at h; exact ⟨i, rfl, h.1, h.2.1, h.2.2⟩
theorem own_shape16 {w : World} {B : Nat} {e : TypeId} {s : Nat} {v : Value} {n : Nat} {xs : List Value} (h : w.ownsRow B e s v n xs) : ∃ ao cap, v = .slice ao n cap := by
  rcases h.2 with ⟨h1, rfl⟩ | ⟨g, cap, cur, h1, _⟩
  · exact ⟨none, 0, h1⟩
  · exact ⟨_, cap, h1⟩
theorem own_kp16 {w w' : World} {B : Nat} {e : TypeId} {s : Nat} {v : Value} {n : Nat} {xs : List Value} (h : w.ownsRow B e s v n xs) (hb : Below w.heap.size w w') : w'.ownsRow B e s v n xs := own_same h (fun j hj => hb.block j (own_lt h j hj))
theorem infoS16 : (Tryd.prog.info? 9).map (fun i => (i.zero, i.size, i.bytes)) = some (some (.string ⟨#[]⟩), 1, 16) := by kernel_rfl
theorem one_cell16 (w : World) (T : TypeId) (x0 : Value) : ∀ j v, [x0][j]? = some v → (w.alloc (.cells #[x0] T)).cell? ((⟨w.heap.size, 0, none⟩ : Addr).add j) = some v := by
  intro j v h
  rw [Addr.add_mid, Nat.zero_add]
  have hA : Ar (w.alloc (.cells #[x0] T)) w.heap.size T #[x0] := heap_alloc_last w _
  exact hA.cell j v (by simpa using h)
/-- Texts as cells. -/
def sC16 (l : List (List UInt8)) : List Value := l.map fun x => .string ⟨x.toArray⟩
theorem sC16_app (a b : List (List UInt8)) : sC16 (a ++ b) = sC16 a ++ sC16 b := by unfold sC16; rw [List.map_append]

namespace Rg
def keepP (ps : List T8) : List T8 := (ps.map Tx.trim).filter (fun p => !(p == []))
theorem keepP_app (ps : List T8) (p : T8) : keepP (ps ++ [p]) = keepP ps ++ (if Tx.trim p == [] then [] else [Tx.trim p]) := by
  unfold keepP
  rw [List.map_append, List.filter_append]
  congr 1
  simp only [List.map_cons, List.map_nil, List.filter_cons, List.filter_nil]
  cases Tx.trim p == [] <;> rfl
theorem drop_c {l : T8} {k : Nat} {c : UInt8} (hc : l[k]? = some c) : l.drop k = c :: l.drop (k + 1) := by
  obtain ⟨h1, h2⟩ := List.getElem?_eq_some_iff.1 hc
  rw [List.drop_eq_getElem_cons h1, h2]
theorem take_c {l : T8} {f k : Nat} {c : UInt8} (hf : f ≤ k) (hc : l[k]? = some c) : (l.drop f).take (k + 1 - f) = (l.drop f).take (k - f) ++ [c] := by
  rw [show k + 1 - f = (k - f) + 1 by omega, List.take_add_one, List.getElem?_drop, show f + (k - f) = k by omega, hc]
  rfl
end Rg
theorem u44 (s : ByteArray) (k : Nat) (h : k < s.size) : (s[k] == 44) = ((s[k].toNat : Int) == 44) := by
  rw [Bool.eq_iff_iff, beq_iff_eq, beq_iff_eq]
  constructor
  · intro e; rw [e]; rfl
  · intro e; apply UInt8.toNat_inj.1; simp; omega

set_option maxHeartbeats 1600000 in
set_option maxRecDepth 20000 in
theorem rcut16 (s : ByteArray) (l : List UInt8) (hl : s.data.toList = l) (w : World) (hs : s.size ≤ 1048576) :
    Calls Tryd.prog 27 #[.string s] w fun e w' => (∃ m ro rc, e = .returned (.slice ro m rc) ∧ (Rg.pcs l).length = m ∧ w'.ownsRow w.heap.size 9 1 (.slice ro m rc) m (sC16 (Rg.pcs l))) ∧ Below w.heap.size w w' := by
  obtain ⟨i0, hi0, hz0, hz1, hz2⟩ := minfo16 infoS16
  have HI := hid' hi0
  have HZ0 := hid' hz0
  have HZ1 := hid' hz1
  have HZ2 := hid' hz2
  clear hi0 hz0 hz1 hz2
  have HSZ : Hid (s.size = l.length) := hid' (by rw [Lib.size_eq, hl])
  have HGB : Hid (∀ k (h : k < s.size), l[k]? = some s[k]) := hid' (fun k h => by rw [← hl]; exact Tx.get_byte s k h)
  have HL := hid' hl
  clear hl
  go_enter Tryd.func27, Tryd.ntmps27
  go_wp2
  go_loopw [3, 4, 5] (fun s3 s4 s5 wr => ∃ (k f m : Nat) (ps : List Rg.T8) (ro : Option Addr) (rc : Nat), s5 = .int .i64 (k : Int) ∧ s4 = .int .i64 (f : Int) ∧ s3 = .slice ro m rc ∧ f ≤ k ∧ k ≤ s.size + 1 ∧ m ≤ k ∧ Hid ((Rg.keepP ps).length = m) ∧ Hid ((k ≤ s.size ∧ Rg.cutA [] l = ps ++ Rg.cutA ((l.drop f).take (k - f)) (l.drop k)) ∨ (k = s.size + 1 ∧ Rg.cutA [] l = ps)) ∧ Hid (wr.ownsRow w.heap.size 9 1 (.slice ro m rc) m (sC16 (Rg.keepP ps))) ∧ Hid (Below w.heap.size w wr)) (fun _ _ s5 _ => s.size + 1 - (intOf s5).toNat)
  case atStart => exact ⟨0, 0, 0, [], none, 0, rfl, rfl, rfl, Nat.le_refl _, Nat.zero_le _, Nat.le_refl _, hid' rfl, hid' (.inl ⟨Nat.zero_le _, by simp⟩), hid' (World.ownsRow_nil _ _ _ _), hid' (Below.refl _ _)⟩
  case round =>
    obtain ⟨k, f, m, ps, ro, rc, rfl, rfl, rfl, hf, hk, hm, HML, HC, HO, HB⟩ := hrel
    by_cases hle : k ≤ s.size
    · have hle2 : (k : Int) ≤ (s.size : Int) := by omega
      have HC1 : Hid (Rg.cutA [] l = ps ++ Rg.cutA ((l.drop f).take (k - f)) (l.drop k)) := hid' (by rcases HC.out with ⟨_, h⟩ | ⟨h, _⟩; exact h; omega)
      have hfk : (f : Int) ≤ (k : Int) := by omega
      have HXL : Hid ((s.extract f k).data.toList = (l.drop f).take (k - f)) := hid' (by rw [ext_td16, HL.out])
      have HTR := hid' (fun W => rTrim_any (s.extract f k) W (by rw [ByteArray.size_extract]; unfold maxLen; omega))
      rw [HXL.out] at HTR
      obtain ⟨cu, hcu⟩ : ∃ cu, (l.drop f).take (k - f) = cu := ⟨_, rfl⟩
      rw [hcu] at HTR HC1
      obtain ⟨y, hy⟩ : ∃ y : ByteArray, (⟨(Tx.trim cu).toArray⟩ : ByteArray) = y := ⟨_, rfl⟩
      have HY : Hid (y.data.toList = Tx.trim cu) := hid' (by rw [← hy])
      have HYS : Hid (sC16 [Tx.trim cu] = [.string y]) := hid' (by unfold sC16; rw [← hy]; rfl)
      rw [hy] at HTR
      have hye : y.toList.isEmpty = (Tx.trim cu == []) := by
        rw [Lib.toList_data, HY.out]
        cases Tx.trim cu <;> rfl
      have HCU := hid' hcu
      clear hcu hy HC
      by_cases hke : k = s.size
      · have hkE : ((k : Int) == (s.size : Int)) = true := by rw [beq_iff_eq]; omega
        have HKE := hid' hke
        clear hke
        have HCN : Hid ((k + 1 ≤ s.size ∧ Rg.cutA [] l = (ps ++ [cu]) ++ Rg.cutA ((l.drop (k + 1)).take (k + 1 - (k + 1))) (l.drop (k + 1))) ∨ (k + 1 = s.size + 1 ∧ Rg.cutA [] l = ps ++ [cu])) := hid' (.inr ⟨by have := HKE.out; omega, by rw [HC1.out, List.drop_eq_nil_of_le (by have := HSZ.out; have := HKE.out; omega), Rg.cutA]⟩)
        go_wp2_with fail
        refine (HTR.out _).mono ?_
        rintro e wq ⟨rfl, hwq⟩
        subst wq
        cases ye : (Tx.trim cu == [])
        · rw [ye] at hye
          have HKP : Hid (Rg.keepP (ps ++ [cu]) = Rg.keepP ps ++ [Tx.trim cu]) := hid' (by rw [Rg.keepP_app, ye]; rfl)
          have HA : Hid ((wr.alloc (.cells #[.string y] 9)).ownsRow w.heap.size 9 1 (.slice ro m rc) m (sC16 (Rg.keepP ps))) := hid' (HO.out.alloc _)
          go_wp2_with (at_builtin; refine wpList_append_own_at _ rfl _ _ 45 rfl w.heap.size 9 i0 (.string ⟨#[]⟩) 1 16 Tryd.underlying45 HI.out HZ0.out HZ1.out HZ2.out rfl (by decide) (.slice ro m rc) m (sC16 (Rg.keepP ps)) rfl HA.out ⟨wr.heap.size, 0, none⟩ 1 1 [.string y] rfl rfl (one_cell16 _ _ _) (by simp [Value.oneCell']) (by unfold maxLen; omega) (by omega) (by simp; have := HB.out.size; omega) ?_; intro v3 w3 hown3 hgrow3 _ _; refine Hid.out ?_)
          refine hid' ?_
          have e : sC16 (Rg.keepP ps) ++ [Value.string y] = sC16 (Rg.keepP (ps ++ [cu])) := by rw [HKP.out, sC16_app, HYS.out]
          rw [e] at hown3
          obtain ⟨v3o, v3c, hv3⟩ := own_shape16 hown3
          subst hv3
          have HO3 := hid' hown3
          have HB3 : Hid (Below w.heap.size w w3) := hid' ((HB.out.alloc HB.out.size _).grown hgrow3 (by simp; have := HB.out.size; omega) (fun k hk => (HA.out.lt k hk).1))
          clear hown3 hgrow3 e
          go_wp2
          go_roundw
          case rel => exact ⟨k + 1, k + 1, m + 1, ps ++ [cu], v3o, v3c, by go_num, by go_num, rfl, Nat.le_refl _, by omega, by omega, hid' (by rw [HKP.out, List.length_append, HML.out]; rfl), HCN, HO3, HB3⟩
          case measure => simp [intOf]; omega
        · rw [ye] at hye
          have HKP : Hid (Rg.keepP (ps ++ [cu]) = Rg.keepP ps) := hid' (by rw [Rg.keepP_app, ye]; simp)
          go_wp2
          go_roundw
          case rel => exact ⟨k + 1, k + 1, m, ps ++ [cu], ro, rc, by go_num, by go_num, rfl, Nat.le_refl _, by omega, by omega, hid' (by rw [HKP.out]; exact HML.out), HCN, hid' (by rw [HKP.out]; exact HO.out), HB⟩
          case measure => simp [intOf]; omega
      · have hkE : ((k : Int) == (s.size : Int)) = false := by rw [beq_eq_false_iff_ne]; omega
        have hlt : k < s.size := by omega
        have hlt2 : (k : Int) < (s.size : Int) := by omega
        have hc := HGB.out k hlt
        cases h44 : ((s[k].toNat : Int) == 44)
        · have HCN : Hid ((k + 1 ≤ s.size ∧ Rg.cutA [] l = ps ++ Rg.cutA ((l.drop f).take (k + 1 - f)) (l.drop (k + 1))) ∨ (k + 1 = s.size + 1 ∧ Rg.cutA [] l = ps)) := hid' (.inl ⟨by omega, by
            rw [HC1.out, Rg.drop_c hc, Rg.take_c hf hc, HCU.out, Rg.cutA, if_neg (fun e => by rw [← u44 s k hlt, e] at h44; revert h44; decide)]⟩)
          clear hc
          go_wp2
          go_roundw
          case rel => exact ⟨k + 1, f, m, ps, ro, rc, by go_num, rfl, rfl, by omega, by omega, by omega, HML, HCN, HO, HB⟩
          case measure => simp [intOf]; omega
        · have hcc : s[k] = 44 := eq_of_beq ((u44 s k hlt).trans h44)
          rw [hcc] at hc
          have HDC := hid' (Rg.drop_c hc)
          clear hc hcc
          have HCN : Hid ((k + 1 ≤ s.size ∧ Rg.cutA [] l = (ps ++ [cu]) ++ Rg.cutA ((l.drop (k + 1)).take (k + 1 - (k + 1))) (l.drop (k + 1))) ∨ (k + 1 = s.size + 1 ∧ Rg.cutA [] l = ps ++ [cu])) := hid' (.inl ⟨by omega, by rw [HC1.out, HDC.out, Rg.cutA, if_pos rfl]; simp⟩)
          go_wp2_with fail
          refine (HTR.out _).mono ?_
          rintro e wq ⟨rfl, hwq⟩
          subst wq
          cases ye : (Tx.trim cu == [])
          · rw [ye] at hye
            have HKP : Hid (Rg.keepP (ps ++ [cu]) = Rg.keepP ps ++ [Tx.trim cu]) := hid' (by rw [Rg.keepP_app, ye]; rfl)
            have HA : Hid ((wr.alloc (.cells #[.string y] 9)).ownsRow w.heap.size 9 1 (.slice ro m rc) m (sC16 (Rg.keepP ps))) := hid' (HO.out.alloc _)
            go_wp2_with (at_builtin; refine wpList_append_own_at _ rfl _ _ 45 rfl w.heap.size 9 i0 (.string ⟨#[]⟩) 1 16 Tryd.underlying45 HI.out HZ0.out HZ1.out HZ2.out rfl (by decide) (.slice ro m rc) m (sC16 (Rg.keepP ps)) rfl HA.out ⟨wr.heap.size, 0, none⟩ 1 1 [.string y] rfl rfl (one_cell16 _ _ _) (by simp [Value.oneCell']) (by unfold maxLen; omega) (by omega) (by simp; have := HB.out.size; omega) ?_; intro v3 w3 hown3 hgrow3 _ _; refine Hid.out ?_)
            refine hid' ?_
            have e : sC16 (Rg.keepP ps) ++ [Value.string y] = sC16 (Rg.keepP (ps ++ [cu])) := by rw [HKP.out, sC16_app, HYS.out]
            rw [e] at hown3
            obtain ⟨v3o, v3c, hv3⟩ := own_shape16 hown3
            subst hv3
            have HO3 := hid' hown3
            have HB3 : Hid (Below w.heap.size w w3) := hid' ((HB.out.alloc HB.out.size _).grown hgrow3 (by simp; have := HB.out.size; omega) (fun k hk => (HA.out.lt k hk).1))
            clear hown3 hgrow3 e
            go_wp2
            go_roundw
            case rel => exact ⟨k + 1, k + 1, m + 1, ps ++ [cu], v3o, v3c, by go_num, by go_num, rfl, Nat.le_refl _, by omega, by omega, hid' (by rw [HKP.out, List.length_append, HML.out]; rfl), HCN, HO3, HB3⟩
            case measure => simp [intOf]; omega
          · rw [ye] at hye
            have HKP : Hid (Rg.keepP (ps ++ [cu]) = Rg.keepP ps) := hid' (by rw [Rg.keepP_app, ye]; simp)
            go_wp2
            go_roundw
            case rel => exact ⟨k + 1, k + 1, m, ps ++ [cu], ro, rc, by go_num, by go_num, rfl, Nat.le_refl _, by omega, by omega, hid' (by rw [HKP.out]; exact HML.out), HCN, hid' (by rw [HKP.out]; exact HO.out), HB⟩
            case measure => simp [intOf]; omega
    · obtain rfl : k = s.size + 1 := by omega
      have hle2 : ¬ ((s.size + 1 : Nat) : Int) ≤ (s.size : Int) := by omega
      have HE : Hid (Rg.pcs l = Rg.keepP ps) := hid' (by
        have h : Rg.cutA [] l = ps := by rcases HC.out with ⟨h, _⟩ | ⟨_, h⟩; omega; exact h
        unfold Rg.pcs Rg.keepP; rw [h])
      clear hle
      go_wp2
      go_ret
      exact ⟨⟨m, ro, rc, rfl, by rw [HE.out]; exact HML.out, by rw [HE.out]; exact HO.out⟩, HB.out⟩

end Go.Proofs.YtdbldompjhienaaDoor
