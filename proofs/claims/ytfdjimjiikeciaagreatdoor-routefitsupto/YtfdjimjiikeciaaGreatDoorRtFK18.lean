/-
  The document's Pattern: by its contract.
  Routes that can be read; the document's by: by its contract.
  The document's lay: by its contract.
  The document's allow: by its contract.
  The document's Same of two matches that are the same: by its contract.
  The document's Join of a row from its middle on, and caught: by their contracts.
-/
import Derived.Test.YtfdjimjiikeciaaGreatDoorRtBE18
import Derived.Test.YtfdjimjiikeciaaGreatDoorPtAE18
import Derived.Deep.RegionLaw
import Derived.RegionTactic
namespace Go.Proofs.YtfdjimjiikeciaaGreatDoor
open Go.RowKit

namespace Rt
theorem cutS_ne18 (a : T8) : ∀ (l : T8), Pt.cutS a l ≠ [] := by
  intro l
  induction l generalizing a with
  | nil => rw [Pt.cutS]; simp
  | cons c r ih =>
    rw [Pt.cutS]
    split
    · simp
    · exact ih _
theorem pats_no {out : List Prt} {x : T8} {r : List T8} (h : (prt x).2 = false ∨ ((prt x).1.k = 2 ∧ r ≠ [])) : pats out (x :: r) = none := by
  rw [pats]
  rcases h with h | ⟨h1, h2⟩
  · rw [h]; rfl
  · rw [h1, show r.isEmpty = false by cases r with | nil => exact absurd rfl h2 | cons a b => rfl]
    cases (prt x).2 <;> rfl
theorem pats_dup {out : List Prt} {x : T8} {r : List T8} (h : (prt x).2 = true) (h1 : (prt x).1.k ≠ 2 ∨ r = []) (hd : dup out (prt x).1 = true) : pats out (x :: r) = none := by
  rw [pats, h, hd]
  rcases h1 with h1 | h1
  · rw [show ((prt x).1.k == 2) = false by rw [beq_eq_false_iff_ne]; exact h1]; rfl
  · rw [h1]; cases ((prt x).1.k == 2) <;> rfl
theorem pats_go {out : List Prt} {x : T8} {r : List T8} (h : (prt x).2 = true) (h1 : (prt x).1.k ≠ 2 ∨ r = []) (hd : dup out (prt x).1 = false) : pats out (x :: r) = pats (out ++ [(prt x).1]) r := by
  rw [pats, h, hd]
  rcases h1 with h1 | h1
  · rw [show ((prt x).1.k == 2) = false by rw [beq_eq_false_iff_ne]; exact h1]; rfl
  · rw [h1]; cases ((prt x).1.k == 2) <;> rfl
def dq (p q : Prt) : Bool := !(q.k == 0) && (!(p.k == 0) && q.t == p.t)
theorem dup_yes {out : List Prt} {p q : Prt} {j : Nat} (h : out[j]? = some q) (hd : dq p q = true) : dup out p = true := by
  unfold dup; rw [List.any_eq_true]; exact ⟨q, List.mem_of_getElem? h, hd⟩
theorem dup_no {out : List Prt} {p : Prt} (h : ∀ (j : Nat) (q : Prt), out[j]? = some q → dq p q = false) : dup out p = false := by
  unfold dup
  rw [List.any_eq_false]
  intro q hq
  obtain ⟨j, hj, hjq⟩ := List.mem_iff_getElem.1 hq
  have := h j q (by rw [List.getElem?_eq_getElem hj, hjq])
  unfold dq at this
  rw [this]; decide
end Rt

theorem two_new18 (w : World) (T : TypeId) (x0 x1 : Value) : ∀ j v, [x0, x1][j]? = some v → (w.alloc (.cells #[x0, x1] T)).cell? ((⟨w.heap.size, 0, none⟩ : Addr).add j) = some v := by
  intro j v h
  rw [Addr.add_mid, Nat.zero_add]
  have hA : Ar (w.alloc (.cells #[x0, x1] T)) w.heap.size T #[x0, x1] := heap_alloc_last w _
  exact hA.cell j v (by simpa using h)
def patR18 (w : World) (o : Option (List Rt.Prt)) (e : Ending) (w' : World) : Prop :=
  (o = none ∧ e = .returned (.tuple #[.slice none 0 0, .bool false])) ∨ ∃ ps m ro rc, o = some ps ∧ e = .returned (.tuple #[.slice ro m rc, .bool true]) ∧ ps.length = m ∧ w'.ownsRow w.heap.size 49 2 (.slice ro m rc) m (pC18 ps)

set_option maxHeartbeats 8000000 in
set_option maxRecDepth 20000 in
theorem rpat18 (s : ByteArray) (l : List UInt8) (hl : s.data.toList = l) (w : World) (hs : s.size ≤ 4194304) :
    Calls Tryz.prog 14 #[.string s] w fun e w' => patR18 w (Rt.pattern l) e w' ∧ Below w.heap.size w w' := by
  obtain ⟨i0, hi0, hz0, hz1, hz2⟩ := minfo17 infoPt18
  have HI := hid' hi0
  have HZ0 := hid' hz0
  have HZ1 := hid' hz1
  have HZ2 := hid' hz2
  clear hi0 hz0 hz1 hz2
  have HSZ : Hid (s.size = l.length) := hid' (by rw [Lib.size_eq, hl])
  have HGB : Hid (∀ k (h : k < s.size), l[k]? = some s[k]) := hid' (fun k h => by rw [← hl]; exact Tx.get_byte s k h)
  have HL := hid' hl
  have HU47 := hid' (fun k h => u47 s k h)
  have HPD : Hid (Rt.pattern l = if l == [47] then some [] else if l.head? == some 47 then Rt.pats [] (Pt.cutS [] (l.drop 1)) else none) := hid' rfl
  have hs1 : (s.toList == [47]) = (l == [47]) := by rw [Lib.toList_data, hl]
  have hs0 : s.toList.isEmpty = l.isEmpty := by rw [Lib.toList_data, hl]
  clear hl
  cases h1 : (l == [47])
  · rw [h1] at hs1 HPD
    cases h0 : l.isEmpty
    · rw [h0] at hs0
      have h0s : 0 < s.size := by
        have := HSZ.out
        cases hq : l with
        | nil => rw [hq] at h0; cases h0
        | cons a b => rw [this, hq, List.length_cons]; omega
      have h0I : (0 : Int) < (s.size : Int) := by omega
      have HH0 : Hid (l.head? = some s[0]) := hid' (by have := HGB.out 0 h0s; cases hq : l with | nil => rw [hq] at this; simp at this | cons a b => rw [hq] at this; simpa using this)
      cases h47 : ((s[0].toNat : Int) == 47)
      · have h47n : ((s[0].toNat : Int) != 47) = true := by unfold bne; rw [h47]; rfl
        have HN : Hid (Rt.pattern l = none) := hid' (by
          rw [HPD.out, HH0.out, show (some s[0] == some (47 : UInt8)) = false by rw [Option.some_beq_some, u47 s 0 h0s, h47]]; rfl)
        clear h47
        go_enter Tryz.func14, Tryz.ntmps14
        go_wp2
        go_ret2
        exact ⟨.inl ⟨HN.out, rfl⟩, Below.refl _ _⟩
      · have h47n : ((s[0].toNat : Int) != 47) = false := by unfold bne; rw [h47]; rfl
        have HP : Hid (Rt.pattern l = Rt.pats [] (Pt.cutS [] (l.drop 1))) := hid' (by
          rw [HPD.out, HH0.out, show (some s[0] == some (47 : UInt8)) = true by rw [Option.some_beq_some, u47 s 0 h0s, h47]]; rfl)
        clear h47
        go_enter Tryz.func14, Tryz.ntmps14
        go_wp2
        clear hs1 hs0 h47n h0I
        go_loopw [4, 5, 6] (fun s4 s5 s6 wr => ∃ (k f m : Nat) (ps : List Rt.Prt) (ro : Option Addr) (rc : Nat), s6 = .int .i64 (k : Int) ∧ s5 = .int .i64 (f : Int) ∧ s4 = .slice ro m rc ∧ f ≤ k ∧ k ≤ s.size + 1 ∧ m ≤ k ∧ Hid (ps.length = m) ∧ Hid ((k ≤ s.size ∧ Rt.pattern l = Rt.pats ps (Pt.cutS ((l.drop f).take (k - f)) (l.drop k))) ∨ (k = s.size + 1 ∧ Rt.pattern l = some ps)) ∧ Hid (wr.ownsRow w.heap.size 49 2 (.slice ro m rc) m (pC18 ps)) ∧ Hid (Below w.heap.size w wr)) (fun _ _ s6 _ => s.size + 1 - (intOf s6).toNat)
        case atStart => exact ⟨1, 1, 0, [], none, 0, rfl, rfl, rfl, Nat.le_refl _, by omega, by omega, hid' rfl, hid' (.inl ⟨by omega, by rw [HP.out]; simp⟩), hid' (World.ownsRow_nil _ _ _ _), hid' (Below.refl _ _)⟩
        case round =>
          obtain ⟨k, f, m, ps, ro, rc, rfl, rfl, rfl, hf, hk, hm, HML, HC, HO, HB⟩ := hrel
          by_cases hle : k ≤ s.size
          · have hle2 : (k : Int) ≤ (s.size : Int) := by omega
            have HC1 : Hid (Rt.pattern l = Rt.pats ps (Pt.cutS ((l.drop f).take (k - f)) (l.drop k))) := hid' (by rcases HC.out with ⟨_, h⟩ | ⟨h, _⟩; exact h; omega)
            have hfk : (f : Int) ≤ (k : Int) := by omega
            obtain ⟨cu, hcu⟩ : ∃ cu, (l.drop f).take (k - f) = cu := ⟨_, rfl⟩
            have hex : s.extract f k = ⟨cu.toArray⟩ := by rw [ext_td17, HL.out, hcu]
            obtain ⟨y, hy⟩ : ∃ y : ByteArray, (⟨cu.toArray⟩ : ByteArray) = y := ⟨_, rfl⟩
            have HYL : Hid (y.data.toList = cu) := hid' (by rw [← hy])
            have HYZ : Hid (y.size ≤ 4194304) := hid' (by rw [← hy, ← hex]; simp only [ByteArray.size_extract]; omega)
            rw [hy] at hex
            rw [hcu] at HC1
            have HCU := hid' hcu
            clear hcu hy HC
            obtain ⟨p, b, hpb⟩ : ∃ p b, Rt.prt cu = (p, b) := ⟨_, _, rfl⟩
            obtain ⟨pk, pt⟩ := p
            obtain ⟨x, hx⟩ : ∃ x : ByteArray, (⟨pt.toArray⟩ : ByteArray) = x := ⟨_, rfl⟩
            have HRP : Hid (∀ W, Calls Tryz.prog 34 #[.string y] W fun e w' => e = .returned (.tuple #[.agg #[.int .i64 (pk : Int), .string x], .bool b]) ∧ Below W.heap.size W w') := hid' (fun W => by
              have := rpart18 y cu HYL.out W HYZ.out
              rw [hpb] at this
              unfold ptV18 at this
              simp only [hx] at this
              exact this)
            have HPB := hid' hpb
            have HXX := hid' hx
            clear hpb hx
            by_cases hke : k = s.size
            · have hltF : ¬ (k : Int) < (s.size : Int) := by omega
              obtain ⟨R, hR⟩ : ∃ R : List (List UInt8), R = [] := ⟨_, rfl⟩
              have HPR : Hid (Rt.pattern l = Rt.pats ps (cu :: R)) := hid' (by rw [HC1.out, List.drop_eq_nil_of_le (by have := HSZ.out; omega), Pt.cutS, hR])
              have HNX : Hid (∀ qs, Rt.pattern l = Rt.pats qs R → ((k + 1 ≤ s.size ∧ Rt.pattern l = Rt.pats qs (Pt.cutS ((l.drop (k + 1)).take (k + 1 - (k + 1))) (l.drop (k + 1)))) ∨ (k + 1 = s.size + 1 ∧ Rt.pattern l = some qs))) := hid' (fun qs h => .inr ⟨by omega, by rw [h, hR, Rt.pats]⟩)
              have HRE : Hid (R = []) := hid' hR
              clear hR hke
              cases b
              · have HN : Hid (Rt.pattern l = none) := hid' (by rw [HPR.out]; exact Rt.pats_no (.inl (by rw [HPB.out])))
                go_wp2_with (go_at_call 34; refine (HRP.out _).mono ?_; rintro e w1 ⟨rfl, hb1⟩)
                go_ret2
                exact ⟨.inl ⟨HN.out, rfl⟩, below_two (below_two HB.out hb1) (bl_alloc17 w1 _)⟩
              · cases hk2 : (pk == 2)
                · have hk2' : ((pk : Int) == 2) = false := by rw [beq_eq_false_iff_ne] at *; omega
                  have HOK : Hid ((Rt.prt cu).1.k ≠ 2 ∨ R = []) := hid' (.inl (by rw [HPB.out]; simpa using hk2))
                  clear hk2
                  go_wp2_with (go_at_call 34; refine (HRP.out _).mono ?_; rintro e w1 ⟨rfl, hb1⟩)
                  obtain ⟨w2, hw2⟩ : ∃ w2, w1.alloc (.cells #[.int .i64 (pk : Int), .string x] 49) = w2 := ⟨_, rfl⟩
                  obtain ⟨b7, hb7⟩ : ∃ b7, w1.heap.size = b7 := ⟨_, rfl⟩
                  have hA2 : Ar w2 b7 49 #[.int .i64 (pk : Int), .string x] := by rw [← hw2, ← hb7]; exact heap_alloc_last w1 _
                  have HA2 := hid' hA2
                  have HBA : Hid (Below wr.heap.size wr w2) := hid' (by rw [← hw2]; exact below_two hb1 (bl_alloc17 w1 _))
                  rw [hw2, hb7]
                  clear hw2 hb7 hA2 hb1
                  go_loopw [9] (fun s9 wi => ∃ i : Nat, s9 = .int .i64 (i : Int) ∧ i ≤ m ∧ Hid (∀ j q, j < i → ps[j]? = some q → Rt.dq ⟨pk, pt⟩ q = false) ∧ Hid (Below w2.heap.size w2 wi)) (fun s9 _ => m - (intOf s9).toNat)
                  case atStart => exact ⟨0, rfl, Nat.zero_le _, hid' (fun j _ h => absurd h (Nat.not_lt_zero _)), hid' (Below.refl _ _)⟩
                  case round =>
                    obtain ⟨i, rfl, hi, HV, HBI⟩ := hrel
                    have HBW := hid' (below_two HBA.out HBI.out)
                    have c0 := (HBI.out.cell (p := ⟨b7, 0, none⟩) HA2.out.lt).trans (HA2.out.cell 0 _ rfl)
                    have c1 := (HBI.out.cell (p := ⟨b7, 1, none⟩) HA2.out.lt).trans (HA2.out.cell 1 _ rfl)
                    by_cases hlti : i < m
                    · have hlti2 : (i : Int) < (m : Int) := by omega
                      have h0i : (0 : Int) ≤ (i : Int) := by omega
                      obtain ⟨q, hq⟩ : ∃ q, ps[i]? = some q := ⟨_, List.getElem?_eq_getElem (by rw [HML.out]; exact hlti)⟩
                      obtain ⟨g1, e1, l1, x0, x1⟩ := (PR18.own HO.out) i q hq
                      subst e1
                      obtain ⟨z, hz⟩ : ∃ z : ByteArray, (⟨q.t.toArray⟩ : ByteArray) = z := ⟨_, rfl⟩
                      rw [hz] at x1
                      have y0 := (HBW.out.cell (p := ⟨g1, i * 2, none⟩) l1).trans x0
                      have y1 := (HBW.out.cell (p := ⟨g1, i * 2 + 1, none⟩) l1).trans x1
                      have hzx : (z.toList == x.toList) = (q.t == pt) := by rw [← hz, ← HXX.out, Lib.toList_data, Lib.toList_data]
                      have hdq : Rt.dq ⟨pk, pt⟩ q = (!(q.k == 0) && (!(pk == 0) && q.t == pt)) := rfl
                      have e1 : ((q.k : Int) != 0) = !(q.k == 0) := by unfold bne; congr 1; rw [Bool.eq_iff_iff, beq_iff_eq, beq_iff_eq]; omega
                      have e2 : ((pk : Int) != 0) = !(pk == 0) := by unfold bne; congr 1; rw [Bool.eq_iff_iff, beq_iff_eq, beq_iff_eq]; omega
                      have HV2 : Hid (Rt.dq ⟨pk, pt⟩ q = false → ∀ j q, j < i + 1 → ps[j]? = some q → Rt.dq ⟨pk, pt⟩ q = false) := hid' (fun hf j q' hj hq' => by
                        by_cases hji : j = i
                        · subst hji
                          rw [hq] at hq'
                          injection hq' with hq'
                          rw [← hq']; exact hf
                        · exact HV.out j q' (by omega) hq')
                      have HDY : Hid (Rt.dq ⟨pk, pt⟩ q = true → Rt.pattern l = none) := hid' (fun hd => by
                        rw [HPR.out]; exact Rt.pats_dup (by rw [HPB.out]) HOK.out (by rw [HPB.out]; exact Rt.dup_yes hq hd))
                      clear hq l1 x0 x1 hz
                      cases q1 : (q.k == 0)
                      · rw [q1] at e1 hdq
                        have e1 : ((q.k : Int) != 0) = true := e1
                        cases q2 : (pk == 0)
                        · rw [q2] at e2 hdq
                          have e2 : ((pk : Int) != 0) = true := e2
                          cases q3 : (q.t == pt)
                          · rw [q3] at hzx hdq
                            have HFT := hid' hdq
                            clear hdq
                            go_wp2
                            go_quiet (fail)
                            have HBX := hid' (below_two HBI.out (below_dN18 wr nq))
                            go_wp2
                            go_roundw
                            case rel => exact ⟨i + 1, by go_num, by omega, hid' (HV2.out HFT.out), HBX⟩
                            case measure => simp [intOf]; omega
                          · rw [q3] at hzx hdq
                            have HFT := hid' hdq
                            clear hdq
                            go_wp2
                            go_quiet (fail)
                            have HBX := hid' (below_two HBW.out (below_dN18 wr nq))
                            go_wp2
                            go_ret2
                            exact ⟨.inl ⟨HDY.out HFT.out, rfl⟩, below_two HB.out HBX.out⟩
                        · rw [q2] at e2 hdq
                          have e2 : ((pk : Int) != 0) = false := e2
                          clear hzx
                          have HFT := hid' hdq
                          clear hdq
                          go_wp2
                          go_quiet (fail)
                          have HBX := hid' (below_two HBI.out (below_dN18 wr nq))
                          go_wp2
                          go_roundw
                          case rel => exact ⟨i + 1, by go_num, by omega, hid' (HV2.out HFT.out), HBX⟩
                          case measure => simp [intOf]; omega
                      · rw [q1] at e1 hdq
                        have e1 : ((q.k : Int) != 0) = false := e1
                        clear hzx e2
                        have HFT := hid' hdq
                        clear hdq
                        go_wp2
                        go_quiet (fail)
                        have HBX := hid' (below_two HBI.out (below_dN18 wr nq))
                        go_wp2
                        go_roundw
                        case rel => exact ⟨i + 1, by go_num, by omega, hid' (HV2.out HFT.out), HBX⟩
                        case measure => simp [intOf]; omega
                    · have hlti2 : ¬ (i : Int) < (m : Int) := by omega
                      obtain rfl : i = m := by omega
                      have HND : Hid (Rt.dup ps ⟨pk, pt⟩ = false) := hid' (Rt.dup_no (fun j q hq => HV.out j q (by have := (List.getElem?_eq_some_iff.1 hq).1; have := HML.out; omega) hq))
                      have HNP : Hid (Rt.pattern l = Rt.pats (ps ++ [⟨pk, pt⟩]) R) := hid' (by
                        rw [HPR.out, Rt.pats_go (by rw [HPB.out]) HOK.out (by rw [HPB.out]; exact HND.out), HPB.out])
                      have HOW := hid' (own_kp17 HO.out HBW.out)
                      have HBW2 := hid' (below_two HB.out HBW.out)
                      have HA : Hid ((wr.alloc (.cells #[.int .i64 (pk : Int), .string x] 49)).ownsRow w.heap.size 49 2 (.slice ro i rc) i (pC18 ps)) := hid' (HOW.out.alloc _)
                      go_wp2_with (at_builtin; refine wpList_append_own_at _ rfl _ _ 44 rfl w.heap.size 49 i0 (.agg #[.int .i64 0, .string ⟨#[]⟩]) 2 24 Tryz.underlying44 HI.out HZ0.out HZ1.out HZ2.out rfl (by decide) (.slice ro i rc) i (pC18 ps) rfl HA.out ⟨wr.heap.size, 0, none⟩ 1 1 [.int .i64 (pk : Int), .string x] rfl rfl (two_new18 _ _ _ _) (by simp [Value.oneCell']) (by unfold maxLen; omega) (by omega) (by simp; have := HBW2.out.size; omega) ?_; intro v3 w3 hown3 hgrow3 _ _; refine Hid.out ?_)
                      refine hid' ?_
                      have e : pC18 ps ++ [.int .i64 (pk : Int), .string x] = pC18 (ps ++ [⟨pk, pt⟩]) := by rw [pC18_app, ← HXX.out]; rfl
                      rw [e] at hown3
                      obtain ⟨v3o, v3c, hv3⟩ := own_shape17 hown3
                      subst hv3
                      have HO3 := hid' hown3
                      have HB3 : Hid (Below w.heap.size w w3) := hid' ((HBW2.out.alloc HBW2.out.size _).grown hgrow3 (by simp; have := HBW2.out.size; omega) (fun k hk => (HA.out.lt k hk).1))
                      clear hown3 hgrow3 e
                      go_wp2
                      go_roundw
                      case rel => exact ⟨k + 1, k + 1, i + 1, ps ++ [⟨pk, pt⟩], v3o, v3c, by go_num, by go_num, rfl, Nat.le_refl _, by omega, by omega, hid' (by rw [List.length_append, HML.out]; rfl), hid' (HNX.out _ HNP.out), HO3, HB3⟩
                      case measure => simp [intOf]; omega
                · have hk2' : ((pk : Int) == 2) = true := by rw [beq_iff_eq] at hk2; rw [hk2]; rfl
                  have HOK : Hid ((Rt.prt cu).1.k ≠ 2 ∨ R = []) := hid' (.inr HRE.out)
                  clear hk2
                  go_wp2_with (go_at_call 34; refine (HRP.out _).mono ?_; rintro e w1 ⟨rfl, hb1⟩)
                  obtain ⟨w2, hw2⟩ : ∃ w2, w1.alloc (.cells #[.int .i64 (pk : Int), .string x] 49) = w2 := ⟨_, rfl⟩
                  obtain ⟨b7, hb7⟩ : ∃ b7, w1.heap.size = b7 := ⟨_, rfl⟩
                  have hA2 : Ar w2 b7 49 #[.int .i64 (pk : Int), .string x] := by rw [← hw2, ← hb7]; exact heap_alloc_last w1 _
                  have HA2 := hid' hA2
                  have HBA : Hid (Below wr.heap.size wr w2) := hid' (by rw [← hw2]; exact below_two hb1 (bl_alloc17 w1 _))
                  rw [hw2, hb7]
                  clear hw2 hb7 hA2 hb1
                  go_loopw [9] (fun s9 wi => ∃ i : Nat, s9 = .int .i64 (i : Int) ∧ i ≤ m ∧ Hid (∀ j q, j < i → ps[j]? = some q → Rt.dq ⟨pk, pt⟩ q = false) ∧ Hid (Below w2.heap.size w2 wi)) (fun s9 _ => m - (intOf s9).toNat)
                  case atStart => exact ⟨0, rfl, Nat.zero_le _, hid' (fun j _ h => absurd h (Nat.not_lt_zero _)), hid' (Below.refl _ _)⟩
                  case round =>
                    obtain ⟨i, rfl, hi, HV, HBI⟩ := hrel
                    have HBW := hid' (below_two HBA.out HBI.out)
                    have c0 := (HBI.out.cell (p := ⟨b7, 0, none⟩) HA2.out.lt).trans (HA2.out.cell 0 _ rfl)
                    have c1 := (HBI.out.cell (p := ⟨b7, 1, none⟩) HA2.out.lt).trans (HA2.out.cell 1 _ rfl)
                    by_cases hlti : i < m
                    · have hlti2 : (i : Int) < (m : Int) := by omega
                      have h0i : (0 : Int) ≤ (i : Int) := by omega
                      obtain ⟨q, hq⟩ : ∃ q, ps[i]? = some q := ⟨_, List.getElem?_eq_getElem (by rw [HML.out]; exact hlti)⟩
                      obtain ⟨g1, e1, l1, x0, x1⟩ := (PR18.own HO.out) i q hq
                      subst e1
                      obtain ⟨z, hz⟩ : ∃ z : ByteArray, (⟨q.t.toArray⟩ : ByteArray) = z := ⟨_, rfl⟩
                      rw [hz] at x1
                      have y0 := (HBW.out.cell (p := ⟨g1, i * 2, none⟩) l1).trans x0
                      have y1 := (HBW.out.cell (p := ⟨g1, i * 2 + 1, none⟩) l1).trans x1
                      have hzx : (z.toList == x.toList) = (q.t == pt) := by rw [← hz, ← HXX.out, Lib.toList_data, Lib.toList_data]
                      have hdq : Rt.dq ⟨pk, pt⟩ q = (!(q.k == 0) && (!(pk == 0) && q.t == pt)) := rfl
                      have e1 : ((q.k : Int) != 0) = !(q.k == 0) := by unfold bne; congr 1; rw [Bool.eq_iff_iff, beq_iff_eq, beq_iff_eq]; omega
                      have e2 : ((pk : Int) != 0) = !(pk == 0) := by unfold bne; congr 1; rw [Bool.eq_iff_iff, beq_iff_eq, beq_iff_eq]; omega
                      have HV2 : Hid (Rt.dq ⟨pk, pt⟩ q = false → ∀ j q, j < i + 1 → ps[j]? = some q → Rt.dq ⟨pk, pt⟩ q = false) := hid' (fun hf j q' hj hq' => by
                        by_cases hji : j = i
                        · subst hji
                          rw [hq] at hq'
                          injection hq' with hq'
                          rw [← hq']; exact hf
                        · exact HV.out j q' (by omega) hq')
                      have HDY : Hid (Rt.dq ⟨pk, pt⟩ q = true → Rt.pattern l = none) := hid' (fun hd => by
                        rw [HPR.out]; exact Rt.pats_dup (by rw [HPB.out]) HOK.out (by rw [HPB.out]; exact Rt.dup_yes hq hd))
                      clear hq l1 x0 x1 hz
                      cases q1 : (q.k == 0)
                      · rw [q1] at e1 hdq
                        have e1 : ((q.k : Int) != 0) = true := e1
                        cases q2 : (pk == 0)
                        · rw [q2] at e2 hdq
                          have e2 : ((pk : Int) != 0) = true := e2
                          cases q3 : (q.t == pt)
                          · rw [q3] at hzx hdq
                            have HFT := hid' hdq
                            clear hdq
                            go_wp2
                            go_quiet (fail)
                            have HBX := hid' (below_two HBI.out (below_dN18 wr nq))
                            go_wp2
                            go_roundw
                            case rel => exact ⟨i + 1, by go_num, by omega, hid' (HV2.out HFT.out), HBX⟩
                            case measure => simp [intOf]; omega
                          · rw [q3] at hzx hdq
                            have HFT := hid' hdq
                            clear hdq
                            go_wp2
                            go_quiet (fail)
                            have HBX := hid' (below_two HBW.out (below_dN18 wr nq))
                            go_wp2
                            go_ret2
                            exact ⟨.inl ⟨HDY.out HFT.out, rfl⟩, below_two HB.out HBX.out⟩
                        · rw [q2] at e2 hdq
                          have e2 : ((pk : Int) != 0) = false := e2
                          clear hzx
                          have HFT := hid' hdq
                          clear hdq
                          go_wp2
                          go_quiet (fail)
                          have HBX := hid' (below_two HBI.out (below_dN18 wr nq))
                          go_wp2
                          go_roundw
                          case rel => exact ⟨i + 1, by go_num, by omega, hid' (HV2.out HFT.out), HBX⟩
                          case measure => simp [intOf]; omega
                      · rw [q1] at e1 hdq
                        have e1 : ((q.k : Int) != 0) = false := e1
                        clear hzx e2
                        have HFT := hid' hdq
                        clear hdq
                        go_wp2
                        go_quiet (fail)
                        have HBX := hid' (below_two HBI.out (below_dN18 wr nq))
                        go_wp2
                        go_roundw
                        case rel => exact ⟨i + 1, by go_num, by omega, hid' (HV2.out HFT.out), HBX⟩
                        case measure => simp [intOf]; omega
                    · have hlti2 : ¬ (i : Int) < (m : Int) := by omega
                      obtain rfl : i = m := by omega
                      have HND : Hid (Rt.dup ps ⟨pk, pt⟩ = false) := hid' (Rt.dup_no (fun j q hq => HV.out j q (by have := (List.getElem?_eq_some_iff.1 hq).1; have := HML.out; omega) hq))
                      have HNP : Hid (Rt.pattern l = Rt.pats (ps ++ [⟨pk, pt⟩]) R) := hid' (by
                        rw [HPR.out, Rt.pats_go (by rw [HPB.out]) HOK.out (by rw [HPB.out]; exact HND.out), HPB.out])
                      have HOW := hid' (own_kp17 HO.out HBW.out)
                      have HBW2 := hid' (below_two HB.out HBW.out)
                      have HA : Hid ((wr.alloc (.cells #[.int .i64 (pk : Int), .string x] 49)).ownsRow w.heap.size 49 2 (.slice ro i rc) i (pC18 ps)) := hid' (HOW.out.alloc _)
                      go_wp2_with (at_builtin; refine wpList_append_own_at _ rfl _ _ 44 rfl w.heap.size 49 i0 (.agg #[.int .i64 0, .string ⟨#[]⟩]) 2 24 Tryz.underlying44 HI.out HZ0.out HZ1.out HZ2.out rfl (by decide) (.slice ro i rc) i (pC18 ps) rfl HA.out ⟨wr.heap.size, 0, none⟩ 1 1 [.int .i64 (pk : Int), .string x] rfl rfl (two_new18 _ _ _ _) (by simp [Value.oneCell']) (by unfold maxLen; omega) (by omega) (by simp; have := HBW2.out.size; omega) ?_; intro v3 w3 hown3 hgrow3 _ _; refine Hid.out ?_)
                      refine hid' ?_
                      have e : pC18 ps ++ [.int .i64 (pk : Int), .string x] = pC18 (ps ++ [⟨pk, pt⟩]) := by rw [pC18_app, ← HXX.out]; rfl
                      rw [e] at hown3
                      obtain ⟨v3o, v3c, hv3⟩ := own_shape17 hown3
                      subst hv3
                      have HO3 := hid' hown3
                      have HB3 : Hid (Below w.heap.size w w3) := hid' ((HBW2.out.alloc HBW2.out.size _).grown hgrow3 (by simp; have := HBW2.out.size; omega) (fun k hk => (HA.out.lt k hk).1))
                      clear hown3 hgrow3 e
                      go_wp2
                      go_roundw
                      case rel => exact ⟨k + 1, k + 1, i + 1, ps ++ [⟨pk, pt⟩], v3o, v3c, by go_num, by go_num, rfl, Nat.le_refl _, by omega, by omega, hid' (by rw [List.length_append, HML.out]; rfl), hid' (HNX.out _ HNP.out), HO3, HB3⟩
                      case measure => simp [intOf]; omega
            · have hlt : k < s.size := by omega
              have hlt2 : (k : Int) < (s.size : Int) := by omega
              have hc := HGB.out k hlt
              cases h47 : ((s[k].toNat : Int) == 47)
              · have h47n : ((s[k].toNat : Int) != 47) = true := by unfold bne; rw [h47]; rfl
                have HCN : Hid ((k + 1 ≤ s.size ∧ Rt.pattern l = Rt.pats ps (Pt.cutS ((l.drop f).take (k + 1 - f)) (l.drop (k + 1)))) ∨ (k + 1 = s.size + 1 ∧ Rt.pattern l = some ps)) := hid' (.inl ⟨by omega, by
                  rw [HC1.out, Pt.drop_c hc, Pt.take_c hf hc, HCU.out, Pt.cutS, if_neg (by rw [HU47.out k hlt, h47]; decide)]⟩)
                clear hc hex h47
                go_wp2
                go_roundw
                case rel => exact ⟨k + 1, f, m, ps, ro, rc, by go_num, rfl, rfl, by omega, by omega, by omega, HML, HCN, HO, HB⟩
                case measure => simp [intOf]; omega
              · have h47n : ((s[k].toNat : Int) != 47) = false := by unfold bne; rw [h47]; rfl
                have hcc : s[k] = 47 := eq_of_beq ((HU47.out k hlt).trans h47)
                rw [hcc] at hc
                have HDC := hid' (Pt.drop_c hc)
                clear hc hcc
                obtain ⟨R, hR⟩ : ∃ R : List (List UInt8), R = Pt.cutS [] (l.drop (k + 1)) := ⟨_, rfl⟩
                have HPR : Hid (Rt.pattern l = Rt.pats ps (cu :: R)) := hid' (by rw [HC1.out, HDC.out, Pt.cutS, if_pos (by decide), hR])
                have HNX : Hid (∀ qs, Rt.pattern l = Rt.pats qs R → ((k + 1 ≤ s.size ∧ Rt.pattern l = Rt.pats qs (Pt.cutS ((l.drop (k + 1)).take (k + 1 - (k + 1))) (l.drop (k + 1)))) ∨ (k + 1 = s.size + 1 ∧ Rt.pattern l = some qs))) := hid' (fun qs h => .inl ⟨by omega, by rw [h, hR]; simp⟩)
                have HRE : Hid (R ≠ []) := hid' (by rw [hR]; exact Rt.cutS_ne18 _ _)
                clear hR hke h47
                cases b
                · have HN : Hid (Rt.pattern l = none) := hid' (by rw [HPR.out]; exact Rt.pats_no (.inl (by rw [HPB.out])))
                  go_wp2_with (go_at_call 34; refine (HRP.out _).mono ?_; rintro e w1 ⟨rfl, hb1⟩)
                  go_ret2
                  exact ⟨.inl ⟨HN.out, rfl⟩, below_two (below_two HB.out hb1) (bl_alloc17 w1 _)⟩
                · cases hk2 : (pk == 2)
                  · have hk2' : ((pk : Int) == 2) = false := by rw [beq_eq_false_iff_ne] at *; omega
                    have HOK : Hid ((Rt.prt cu).1.k ≠ 2 ∨ R = []) := hid' (.inl (by rw [HPB.out]; simpa using hk2))
                    clear hk2
                    go_wp2_with (go_at_call 34; refine (HRP.out _).mono ?_; rintro e w1 ⟨rfl, hb1⟩)
                    obtain ⟨w2, hw2⟩ : ∃ w2, w1.alloc (.cells #[.int .i64 (pk : Int), .string x] 49) = w2 := ⟨_, rfl⟩
                    obtain ⟨b7, hb7⟩ : ∃ b7, w1.heap.size = b7 := ⟨_, rfl⟩
                    have hA2 : Ar w2 b7 49 #[.int .i64 (pk : Int), .string x] := by rw [← hw2, ← hb7]; exact heap_alloc_last w1 _
                    have HA2 := hid' hA2
                    have HBA : Hid (Below wr.heap.size wr w2) := hid' (by rw [← hw2]; exact below_two hb1 (bl_alloc17 w1 _))
                    rw [hw2, hb7]
                    clear hw2 hb7 hA2 hb1
                    go_loopw [9] (fun s9 wi => ∃ i : Nat, s9 = .int .i64 (i : Int) ∧ i ≤ m ∧ Hid (∀ j q, j < i → ps[j]? = some q → Rt.dq ⟨pk, pt⟩ q = false) ∧ Hid (Below w2.heap.size w2 wi)) (fun s9 _ => m - (intOf s9).toNat)
                    case atStart => exact ⟨0, rfl, Nat.zero_le _, hid' (fun j _ h => absurd h (Nat.not_lt_zero _)), hid' (Below.refl _ _)⟩
                    case round =>
                      obtain ⟨i, rfl, hi, HV, HBI⟩ := hrel
                      have HBW := hid' (below_two HBA.out HBI.out)
                      have c0 := (HBI.out.cell (p := ⟨b7, 0, none⟩) HA2.out.lt).trans (HA2.out.cell 0 _ rfl)
                      have c1 := (HBI.out.cell (p := ⟨b7, 1, none⟩) HA2.out.lt).trans (HA2.out.cell 1 _ rfl)
                      by_cases hlti : i < m
                      · have hlti2 : (i : Int) < (m : Int) := by omega
                        have h0i : (0 : Int) ≤ (i : Int) := by omega
                        obtain ⟨q, hq⟩ : ∃ q, ps[i]? = some q := ⟨_, List.getElem?_eq_getElem (by rw [HML.out]; exact hlti)⟩
                        obtain ⟨g1, e1, l1, x0, x1⟩ := (PR18.own HO.out) i q hq
                        subst e1
                        obtain ⟨z, hz⟩ : ∃ z : ByteArray, (⟨q.t.toArray⟩ : ByteArray) = z := ⟨_, rfl⟩
                        rw [hz] at x1
                        have y0 := (HBW.out.cell (p := ⟨g1, i * 2, none⟩) l1).trans x0
                        have y1 := (HBW.out.cell (p := ⟨g1, i * 2 + 1, none⟩) l1).trans x1
                        have hzx : (z.toList == x.toList) = (q.t == pt) := by rw [← hz, ← HXX.out, Lib.toList_data, Lib.toList_data]
                        have hdq : Rt.dq ⟨pk, pt⟩ q = (!(q.k == 0) && (!(pk == 0) && q.t == pt)) := rfl
                        have e1 : ((q.k : Int) != 0) = !(q.k == 0) := by unfold bne; congr 1; rw [Bool.eq_iff_iff, beq_iff_eq, beq_iff_eq]; omega
                        have e2 : ((pk : Int) != 0) = !(pk == 0) := by unfold bne; congr 1; rw [Bool.eq_iff_iff, beq_iff_eq, beq_iff_eq]; omega
                        have HV2 : Hid (Rt.dq ⟨pk, pt⟩ q = false → ∀ j q, j < i + 1 → ps[j]? = some q → Rt.dq ⟨pk, pt⟩ q = false) := hid' (fun hf j q' hj hq' => by
                          by_cases hji : j = i
                          · subst hji
                            rw [hq] at hq'
                            injection hq' with hq'
                            rw [← hq']; exact hf
                          · exact HV.out j q' (by omega) hq')
                        have HDY : Hid (Rt.dq ⟨pk, pt⟩ q = true → Rt.pattern l = none) := hid' (fun hd => by
                          rw [HPR.out]; exact Rt.pats_dup (by rw [HPB.out]) HOK.out (by rw [HPB.out]; exact Rt.dup_yes hq hd))
                        clear hq l1 x0 x1 hz
                        cases q1 : (q.k == 0)
                        · rw [q1] at e1 hdq
                          have e1 : ((q.k : Int) != 0) = true := e1
                          cases q2 : (pk == 0)
                          · rw [q2] at e2 hdq
                            have e2 : ((pk : Int) != 0) = true := e2
                            cases q3 : (q.t == pt)
                            · rw [q3] at hzx hdq
                              have HFT := hid' hdq
                              clear hdq
                              go_wp2
                              go_quiet (fail)
                              have HBX := hid' (below_two HBI.out (below_dN18 wr nq))
                              go_wp2
                              go_roundw
                              case rel => exact ⟨i + 1, by go_num, by omega, hid' (HV2.out HFT.out), HBX⟩
                              case measure => simp [intOf]; omega
                            · rw [q3] at hzx hdq
                              have HFT := hid' hdq
                              clear hdq
                              go_wp2
                              go_quiet (fail)
                              have HBX := hid' (below_two HBW.out (below_dN18 wr nq))
                              go_wp2
                              go_ret2
                              exact ⟨.inl ⟨HDY.out HFT.out, rfl⟩, below_two HB.out HBX.out⟩
                          · rw [q2] at e2 hdq
                            have e2 : ((pk : Int) != 0) = false := e2
                            clear hzx
                            have HFT := hid' hdq
                            clear hdq
                            go_wp2
                            go_quiet (fail)
                            have HBX := hid' (below_two HBI.out (below_dN18 wr nq))
                            go_wp2
                            go_roundw
                            case rel => exact ⟨i + 1, by go_num, by omega, hid' (HV2.out HFT.out), HBX⟩
                            case measure => simp [intOf]; omega
                        · rw [q1] at e1 hdq
                          have e1 : ((q.k : Int) != 0) = false := e1
                          clear hzx e2
                          have HFT := hid' hdq
                          clear hdq
                          go_wp2
                          go_quiet (fail)
                          have HBX := hid' (below_two HBI.out (below_dN18 wr nq))
                          go_wp2
                          go_roundw
                          case rel => exact ⟨i + 1, by go_num, by omega, hid' (HV2.out HFT.out), HBX⟩
                          case measure => simp [intOf]; omega
                      · have hlti2 : ¬ (i : Int) < (m : Int) := by omega
                        obtain rfl : i = m := by omega
                        have HND : Hid (Rt.dup ps ⟨pk, pt⟩ = false) := hid' (Rt.dup_no (fun j q hq => HV.out j q (by have := (List.getElem?_eq_some_iff.1 hq).1; have := HML.out; omega) hq))
                        have HNP : Hid (Rt.pattern l = Rt.pats (ps ++ [⟨pk, pt⟩]) R) := hid' (by
                          rw [HPR.out, Rt.pats_go (by rw [HPB.out]) HOK.out (by rw [HPB.out]; exact HND.out), HPB.out])
                        have HOW := hid' (own_kp17 HO.out HBW.out)
                        have HBW2 := hid' (below_two HB.out HBW.out)
                        have HA : Hid ((wr.alloc (.cells #[.int .i64 (pk : Int), .string x] 49)).ownsRow w.heap.size 49 2 (.slice ro i rc) i (pC18 ps)) := hid' (HOW.out.alloc _)
                        go_wp2_with (at_builtin; refine wpList_append_own_at _ rfl _ _ 44 rfl w.heap.size 49 i0 (.agg #[.int .i64 0, .string ⟨#[]⟩]) 2 24 Tryz.underlying44 HI.out HZ0.out HZ1.out HZ2.out rfl (by decide) (.slice ro i rc) i (pC18 ps) rfl HA.out ⟨wr.heap.size, 0, none⟩ 1 1 [.int .i64 (pk : Int), .string x] rfl rfl (two_new18 _ _ _ _) (by simp [Value.oneCell']) (by unfold maxLen; omega) (by omega) (by simp; have := HBW2.out.size; omega) ?_; intro v3 w3 hown3 hgrow3 _ _; refine Hid.out ?_)
                        refine hid' ?_
                        have e : pC18 ps ++ [.int .i64 (pk : Int), .string x] = pC18 (ps ++ [⟨pk, pt⟩]) := by rw [pC18_app, ← HXX.out]; rfl
                        rw [e] at hown3
                        obtain ⟨v3o, v3c, hv3⟩ := own_shape17 hown3
                        subst hv3
                        have HO3 := hid' hown3
                        have HB3 : Hid (Below w.heap.size w w3) := hid' ((HBW2.out.alloc HBW2.out.size _).grown hgrow3 (by simp; have := HBW2.out.size; omega) (fun k hk => (HA.out.lt k hk).1))
                        clear hown3 hgrow3 e
                        go_wp2
                        go_roundw
                        case rel => exact ⟨k + 1, k + 1, i + 1, ps ++ [⟨pk, pt⟩], v3o, v3c, by go_num, by go_num, rfl, Nat.le_refl _, by omega, by omega, hid' (by rw [List.length_append, HML.out]; rfl), hid' (HNX.out _ HNP.out), HO3, HB3⟩
                        case measure => simp [intOf]; omega
                  · have HN : Hid (Rt.pattern l = none) := hid' (by rw [HPR.out]; exact Rt.pats_no (.inr ⟨by rw [HPB.out]; simpa using hk2, HRE.out⟩))
                    have hk2' : ((pk : Int) == 2) = true := by rw [beq_iff_eq] at hk2; rw [hk2]; rfl
                    clear hk2
                    go_wp2_with (go_at_call 34; refine (HRP.out _).mono ?_; rintro e w1 ⟨rfl, hb1⟩)
                    go_ret2
                    exact ⟨.inl ⟨HN.out, rfl⟩, below_two (below_two HB.out hb1) (bl_alloc17 w1 _)⟩
          · obtain rfl : k = s.size + 1 := by omega
            have hle2 : ¬ ((s.size + 1 : Nat) : Int) ≤ (s.size : Int) := by omega
            have HE : Hid (Rt.pattern l = some ps) := hid' (by rcases HC.out with ⟨h, _⟩ | ⟨_, h⟩; omega; exact h)
            clear hle
            go_wp2
            go_ret2
            exact ⟨.inr ⟨ps, m, ro, rc, HE.out, rfl, HML.out, HO.out⟩, HB.out⟩
    · rw [h0] at hs0
      have HN : Hid (Rt.pattern l = none) := hid' (by rw [HPD.out, List.isEmpty_iff.1 h0]; rfl)
      clear h0
      go_enter Tryz.func14, Tryz.ntmps14
      go_wp2
      go_ret2
      exact ⟨.inl ⟨HN.out, rfl⟩, Below.refl _ _⟩
  · rw [h1] at hs1 HPD
    have HN : Hid (Rt.pattern l = some []) := hid' (by rw [HPD.out]; rfl)
    clear h1 hs0
    go_enter Tryz.func14, Tryz.ntmps14
    go_wp2
    go_ret2
    exact ⟨.inr ⟨[], 0, none, 0, HN.out, rfl, rfl, World.ownsRow_nil _ _ _ _⟩, Below.refl _ _⟩

end Go.Proofs.YtfdjimjiikeciaaGreatDoor

namespace Go.Proofs.YtfdjimjiikeciaaGreatDoor
open Go.RowKit

namespace Rt
theorem pats_len18 : ∀ (xs : List T8) {out ps : List Prt}, pats out xs = some ps → ps.length = out.length + xs.length := by
  intro xs
  induction xs with
  | nil => intro out ps h; rw [pats] at h; injection h with h; rw [← h]; rfl
  | cons x r ih =>
    intro out ps h
    rw [pats] at h
    split at h
    · cases h
    · split at h
      · cases h
      · rw [ih h, List.length_append]; simp only [List.length_cons, List.length_nil]; omega
theorem pat_len18 (r : Ro) : (pat r).length ≤ r.p.length + 1 := by
  unfold pat pattern
  split
  · simp
  · split
    · cases h : pats [] (Pt.cutS [] (r.p.drop 1)) with
      | none => simp
      | some ps =>
        have h1 := pats_len18 _ h
        have h2 := Pt.cutS_len (r.p.drop 1)
        rw [List.length_drop] at h2
        rw [List.length_nil] at h1
        simp only [Option.getD_some]
        omega
    · simp
theorem by_at18 {rs : List Ro} {of : List Prt} {m : T8} {i : Nat} {r : Ro} (hr : rs[i]? = some r) (ht : (shape (pat r) of && r.m == m) = true) (hb : ∀ (j : Nat) (q : Ro), j < i → rs[j]? = some q → (shape (pat q) of && q.m == m) = false) : byM rs of m = some i := by
  unfold byM
  rw [List.findIdx?_eq_some_iff_getElem]
  obtain ⟨hi, hri⟩ := List.getElem?_eq_some_iff.1 hr
  refine ⟨hi, by rw [hri]; exact ht, fun j hj => ?_⟩
  have hjl : j < rs.length := by omega
  rw [hb j rs[j] hj (List.getElem?_eq_getElem hjl)]
  decide
theorem by_no18 {rs : List Ro} {of : List Prt} {m : T8} (hb : ∀ (j : Nat) (q : Ro), rs[j]? = some q → (shape (pat q) of && q.m == m) = false) : byM rs of m = none := by
  unfold byM
  rw [List.findIdx?_eq_none_iff]
  intro q hq
  obtain ⟨j, hj, hjq⟩ := List.mem_iff_getElem.1 hq
  exact hb j q (by rw [List.getElem?_eq_getElem hj, hjq])
def ix (o : Option Nat) : Int := match o with | some k => (k : Int) | none => -1
end Rt

def RR18 (w : World) (ao : Option Addr) (rs : List Rt.Ro) : Prop := ∀ (i : Nat) (r : Rt.Ro), rs[i]? = some r → ∃ a : Addr, ao = some a ∧ (a.add (i * 4)).block < w.heap.size ∧ w.cell? (a.add (i * 4)) = some (.string ⟨r.m.toArray⟩) ∧ w.cell? ⟨(a.add (i * 4)).block, (a.add (i * 4)).off + 1, none⟩ = some (.string ⟨r.p.toArray⟩) ∧ w.cell? ⟨(a.add (i * 4)).block, (a.add (i * 4)).off + 2, none⟩ = some (.int .u8 r.h) ∧ r.p.length ≤ 4194304 ∧ r.m.length ≤ 4194304 ∧ ∃ z : ByteArray, w.cell? ⟨(a.add (i * 4)).block, (a.add (i * 4)).off + 3, none⟩ = some (.string z)
theorem RR18.below {w w' : World} {ao : Option Addr} {rs : List Rt.Ro} (h : RR18 w ao rs) (hb : Below w.heap.size w w') : RR18 w' ao rs := fun i r hr => by
  obtain ⟨a, h1, h2, h3, h4, h5, h6, h7, z, h8⟩ := h i r hr
  exact ⟨a, h1, Nat.lt_of_lt_of_le h2 hb.size, (hb.cell h2).trans h3, (hb.cell (p := ⟨(a.add (i * 4)).block, (a.add (i * 4)).off + 1, none⟩) h2).trans h4, (hb.cell (p := ⟨(a.add (i * 4)).block, (a.add (i * 4)).off + 2, none⟩) h2).trans h5, h6, h7, z, (hb.cell (p := ⟨(a.add (i * 4)).block, (a.add (i * 4)).off + 3, none⟩) h2).trans h8⟩
theorem patR18.get {w w' : World} {e : Ending} {r : Rt.Ro} (h : patR18 w (Rt.pattern r.p) e w') : ∃ m ro rc b, e = .returned (.tuple #[.slice ro m rc, .bool b]) ∧ (Rt.pat r).length = m ∧ PR18 w' ro (Rt.pat r) ∧ b = (Rt.pattern r.p).isSome := by
  rcases h with ⟨h1, rfl⟩ | ⟨ps, m, ro, rc, h1, rfl, h2, h3⟩
  · refine ⟨0, none, 0, false, rfl, ?_, ?_, by rw [h1]; rfl⟩
    · unfold Rt.pat; rw [h1]; rfl
    · unfold Rt.pat; rw [h1]; exact fun i p hp => by simp at hp
  · have hp : Rt.pat r = ps := by unfold Rt.pat; rw [h1]; rfl
    exact ⟨m, ro, rc, true, rfl, by rw [hp]; exact h2, by rw [hp]; exact PR18.own h3, by rw [h1]; rfl⟩

set_option maxHeartbeats 4000000 in
set_option maxRecDepth 20000 in
theorem rby18 (ao bo : Option Addr) (n m ac bc : Nat) (rs : List Rt.Ro) (of : List Rt.Prt) (s : ByteArray) (ml : List UInt8) (hl : s.data.toList = ml) (hn : rs.length = n) (hm : of.length = m) (hnb : n ≤ 4194305) (hmb : m ≤ 4194305) (w : World) (h1 : RR18 w ao rs) (h2 : PR18 w bo of) :
    Calls Tryz.prog 31 #[.slice ao n ac, .slice bo m bc, .string s] w fun e w' => e = .returned (.int .i64 (Rt.ix (Rt.byM rs of ml))) ∧ Below w.heap.size w w' := by
  have H1 := hid' h1
  have H2 := hid' h2
  have HN := hid' hn
  have HM := hid' hm
  have HL := hid' hl
  clear h1 h2 hn hm hl
  go_enter Tryz.func31, Tryz.ntmps31
  go_wp2
  go_loopw [7] (fun s7 wr => ∃ i : Nat, s7 = .int .i64 (i : Int) ∧ i ≤ n ∧ Hid (∀ (j : Nat) (q : Rt.Ro), j < i → rs[j]? = some q → (Rt.shape (Rt.pat q) of && q.m == ml) = false) ∧ Hid (Below w.heap.size w wr)) (fun s7 _ => n - (intOf s7).toNat)
  case atStart => exact ⟨0, rfl, Nat.zero_le _, hid' (fun j _ h => absurd h (Nat.not_lt_zero _)), hid' (Below.refl _ _)⟩
  case round =>
    obtain ⟨i, rfl, hi, HV, HB⟩ := hrel
    by_cases hlt : i < n
    · have hlt2 : (i : Int) < (n : Int) := by omega
      have h0i : (0 : Int) ≤ (i : Int) := by omega
      obtain ⟨r, hr⟩ : ∃ r, rs[i]? = some r := ⟨_, List.getElem?_eq_getElem (by rw [HN.out]; exact hlt)⟩
      obtain ⟨a, e1, l1, x0, x1, _, hpl, _⟩ := (H1.out.below HB.out) i r hr
      subst e1
      obtain ⟨x, hx⟩ : ∃ x : ByteArray, (⟨r.m.toArray⟩ : ByteArray) = x := ⟨_, rfl⟩
      obtain ⟨y, hy⟩ : ∃ x : ByteArray, (⟨r.p.toArray⟩ : ByteArray) = x := ⟨_, rfl⟩
      have hxy : (x.toList == s.toList) = (r.m == ml) := by rw [← hx, Lib.toList_data, Lib.toList_data, HL.out]
      have HRP : Hid (∀ W, Calls Tryz.prog 14 #[.string y] W fun e w' => patR18 W (Rt.pattern r.p) e w' ∧ Below W.heap.size W w') := hid' (fun W => rpat18 y r.p (by rw [← hy]) W (by rw [← hy]; simpa [ByteArray.size] using hpl))
      have HPL : Hid ((Rt.pat r).length ≤ 4194305) := hid' (by have := Rt.pat_len18 r; omega)
      rw [hx] at x0
      rw [hy] at x1
      have HX0 := hid' x0
      have HL1 := hid' l1
      have HV2 : Hid ((Rt.shape (Rt.pat r) of && r.m == ml) = false → ∀ (j : Nat) (q : Rt.Ro), j < i + 1 → rs[j]? = some q → (Rt.shape (Rt.pat q) of && q.m == ml) = false) := hid' (fun hf j q' hj hq' => by
        by_cases hji : j = i
        · subst hji
          rw [hr] at hq'
          injection hq' with hq'
          rw [← hq']; exact hf
        · exact HV.out j q' (by omega) hq')
      have HYE : Hid ((Rt.shape (Rt.pat r) of && r.m == ml) = true → Rt.byM rs of ml = some i) := hid' (fun ht => Rt.by_at18 hr ht HV.out)
      clear hr hx hy l1 hpl
      cases hsh : Rt.shape (Rt.pat r) of
      · have HFT : Hid ((Rt.shape (Rt.pat r) of && r.m == ml) = false) := hid' (by rw [hsh]; rfl)
        have HSH := hid' hsh
        clear hsh hxy
        go_wp2_with (go_at_call 14; refine (HRP.out _).mono ?_; rintro e w1 ⟨hp1, hb1⟩; obtain ⟨m1, ro1, rc1, b1, rfl, hm1, hpr1, -⟩ := hp1.get; refine Hid.out ?_)
        refine hid' ?_
        have HB1 := hid' (below_two HB.out hb1)
        have HS : Hid (∀ W, Below w1.heap.size w1 W → Calls Tryz.prog 22 #[.slice ro1 m1 rc1, .slice bo m bc] W fun e w' => e = .returned (.bool false) ∧ Below W.heap.size W w') := hid' (fun W hW => by
          have := rshape18 ro1 bo m1 m rc1 bc (Rt.pat r) of hm1 HM.out (by rw [← hm1]; exact HPL.out) hmb W (hpr1.below hW) (H2.out.below (below_two HB1.out hW))
          rw [HSH.out] at this
          exact this)
        have HX1 := hid' ((hb1.cell HL1.out).trans HX0.out)
        have HL2 : Hid ((a.add (i * 4)).block < w1.heap.size) := hid' (Nat.lt_of_lt_of_le HL1.out hb1.size)
        clear hp1 hb1 hm1 hpr1 x0 x1
        go_wp2_with (go_at_call 22; refine (HS.out _ (Below.refl _ _)).mono ?_; rintro e w2 ⟨rfl, hb2⟩; refine Hid.out ?_)
        refine hid' ?_
        have HB3 := hid' (below_two HB1.out hb2)
        have x2 := (hb2.cell HL2.out).trans HX1.out
        clear hb2
        go_wp2
        go_roundw
        case rel => exact ⟨i + 1, by go_num, by omega, hid' (HV2.out HFT.out), HB3⟩
        case measure => simp [intOf]; omega
      · cases hmm : (r.m == ml)
        · have HFT : Hid ((Rt.shape (Rt.pat r) of && r.m == ml) = false) := hid' (by rw [hmm, Bool.and_false])
          rw [hmm] at hxy
          have HSH := hid' hsh
          clear hsh hmm
          go_wp2_with (go_at_call 14; refine (HRP.out _).mono ?_; rintro e w1 ⟨hp1, hb1⟩; obtain ⟨m1, ro1, rc1, b1, rfl, hm1, hpr1, -⟩ := hp1.get; refine Hid.out ?_)
          refine hid' ?_
          have HB1 := hid' (below_two HB.out hb1)
          have HS : Hid (∀ W, Below w1.heap.size w1 W → Calls Tryz.prog 22 #[.slice ro1 m1 rc1, .slice bo m bc] W fun e w' => e = .returned (.bool true) ∧ Below W.heap.size W w') := hid' (fun W hW => by
            have := rshape18 ro1 bo m1 m rc1 bc (Rt.pat r) of hm1 HM.out (by rw [← hm1]; exact HPL.out) hmb W (hpr1.below hW) (H2.out.below (below_two HB1.out hW))
            rw [HSH.out] at this
            exact this)
          have HX1 := hid' ((hb1.cell HL1.out).trans HX0.out)
          have HL2 : Hid ((a.add (i * 4)).block < w1.heap.size) := hid' (Nat.lt_of_lt_of_le HL1.out hb1.size)
          clear hp1 hb1 hm1 hpr1 x0 x1
          go_wp2_with (go_at_call 22; refine (HS.out _ (Below.refl _ _)).mono ?_; rintro e w2 ⟨rfl, hb2⟩; refine Hid.out ?_)
          refine hid' ?_
          have HB3 := hid' (below_two HB1.out hb2)
          have x2 := (hb2.cell HL2.out).trans HX1.out
          clear hb2
          go_wp2
          go_roundw
          case rel => exact ⟨i + 1, by go_num, by omega, hid' (HV2.out HFT.out), HB3⟩
          case measure => simp [intOf]; omega
        · have HFT : Hid ((Rt.shape (Rt.pat r) of && r.m == ml) = true) := hid' (by rw [hmm, hsh]; rfl)
          rw [hmm] at hxy
          have HSH := hid' hsh
          clear hsh hmm
          go_wp2_with (go_at_call 14; refine (HRP.out _).mono ?_; rintro e w1 ⟨hp1, hb1⟩; obtain ⟨m1, ro1, rc1, b1, rfl, hm1, hpr1, -⟩ := hp1.get; refine Hid.out ?_)
          refine hid' ?_
          have HB1 := hid' (below_two HB.out hb1)
          have HS : Hid (∀ W, Below w1.heap.size w1 W → Calls Tryz.prog 22 #[.slice ro1 m1 rc1, .slice bo m bc] W fun e w' => e = .returned (.bool true) ∧ Below W.heap.size W w') := hid' (fun W hW => by
            have := rshape18 ro1 bo m1 m rc1 bc (Rt.pat r) of hm1 HM.out (by rw [← hm1]; exact HPL.out) hmb W (hpr1.below hW) (H2.out.below (below_two HB1.out hW))
            rw [HSH.out] at this
            exact this)
          have HX1 := hid' ((hb1.cell HL1.out).trans HX0.out)
          have HL2 : Hid ((a.add (i * 4)).block < w1.heap.size) := hid' (Nat.lt_of_lt_of_le HL1.out hb1.size)
          clear hp1 hb1 hm1 hpr1 x0 x1
          go_wp2_with (go_at_call 22; refine (HS.out _ (Below.refl _ _)).mono ?_; rintro e w2 ⟨rfl, hb2⟩; refine Hid.out ?_)
          refine hid' ?_
          have HB3 := hid' (below_two HB1.out hb2)
          have x2 := (hb2.cell HL2.out).trans HX1.out
          clear hb2
          go_wp2
          go_ret
          exact ⟨by rw [HYE.out HFT.out]; rfl, HB3.out⟩
    · have hlt2 : ¬ (i : Int) < (n : Int) := by omega
      have HE : Hid (Rt.byM rs of ml = none) := hid' (Rt.by_no18 (fun j q hq => HV.out j q (by have := (List.getElem?_eq_some_iff.1 hq).1; have := HN.out; omega) hq))
      clear hlt
      go_wp2
      go_ret
      exact ⟨by rw [HE.out]; rfl, HB.out⟩

end Go.Proofs.YtfdjimjiikeciaaGreatDoor

namespace Go.Proofs.YtfdjimjiikeciaaGreatDoor
open Go.RowKit

namespace Rt
theorem lay_lt {a : T8} {r : List T8} {s : T8} (h : a < s) : lay (a :: r) s = a :: lay r s := by rw [lay, if_pos h]
theorem lay_eq {a : T8} {r : List T8} {s : T8} (h : ¬ a < s) (h1 : (a == s) = true) : lay (a :: r) s = a :: r := by rw [lay, if_neg h, h1]; rfl
theorem lay_gt {a : T8} {r : List T8} {s : T8} (h : ¬ a < s) (h1 : (a == s) = false) : lay (a :: r) s = s :: a :: r := by rw [lay, if_neg h, h1]; rfl
end Rt

set_option maxHeartbeats 4000000 in
set_option maxRecDepth 20000 in
theorem rlay18 (ao : Option Addr) (n ac : Nat) (l : List (List UInt8)) (s : ByteArray) (sl : List UInt8) (hl : s.data.toList = sl) (hn : l.length = n) (hnb : n ≤ 4194305) (w : World) (h1 : SR17 w ao l) :
    Calls Tryz.prog 56 #[.slice ao n ac, .string s] w fun e w' => (∃ m ro rc, e = .returned (.slice ro m rc) ∧ (Rt.lay l sl).length = m ∧ w'.ownsRow w.heap.size 9 1 (.slice ro m rc) m (sC17 (Rt.lay l sl))) ∧ Below w.heap.size w w' := by
  obtain ⟨i0, hi0, hz0, hz1, hz2⟩ := minfo17 infoS17
  have HI := hid' hi0
  have HZ0 := hid' hz0
  have HZ1 := hid' hz1
  have HZ2 := hid' hz2
  clear hi0 hz0 hz1 hz2
  have H1 := hid' h1
  have HN := hid' hn
  have HL := hid' hl
  have HYS : Hid (sC17 [sl] = [.string s]) := hid' (by unfold sC17; rw [← hl]; rfl)
  clear h1 hn hl
  go_enter Tryz.func56, Tryz.ntmps56
  go_wp2
  go_loopw [5, 6, 7] (fun s5 s6 s7 wr => ∃ (i m : Nat) (d : Bool) (os : List Pt.T8) (ro : Option Addr) (rc : Nat), s7 = .int .i64 (i : Int) ∧ s6 = .bool d ∧ s5 = .slice ro m rc ∧ i ≤ n ∧ m ≤ 2 * i ∧ Hid (os.length = m) ∧ Hid (Rt.lay l sl = os ++ (if d then l.drop i else Rt.lay (l.drop i) sl)) ∧ Hid (wr.ownsRow w.heap.size 9 1 (.slice ro m rc) m (sC17 os)) ∧ Hid (Below w.heap.size w wr)) (fun _ _ s7 _ => n - (intOf s7).toNat)
  case atStart => exact ⟨0, 0, false, [], none, 0, rfl, rfl, rfl, Nat.zero_le _, Nat.le_refl _, hid' rfl, hid' (by simp), hid' (World.ownsRow_nil _ _ _ _), hid' (Below.refl _ _)⟩
  case round =>
    obtain ⟨i, m, d, os, ro, rc, rfl, rfl, rfl, hi, hm, HML, HC, HO, HB⟩ := hrel
    by_cases hlt : i < n
    · have hlt2 : (i : Int) < (n : Int) := by omega
      have h0i : (0 : Int) ≤ (i : Int) := by omega
      obtain ⟨q, hq⟩ : ∃ q, l[i]? = some q := ⟨_, List.getElem?_eq_getElem (by rw [HN.out]; exact hlt)⟩
      obtain ⟨g1, e1, l1, x0⟩ := H1.out i q hq
      subst e1
      obtain ⟨x, hx⟩ : ∃ x : ByteArray, (⟨q.toArray⟩ : ByteArray) = x := ⟨_, rfl⟩
      rw [hx] at x0
      have HXS : Hid (sC17 [q] = [.string x]) := hid' (by unfold sC17; rw [← hx]; rfl)
      have HXE : Hid ((x.toList == s.toList) = (q == sl)) := hid' (by rw [← hx, Lib.toList_data, Lib.toList_data, HL.out])
      have HXL : Hid ((x.toList < s.toList) = (q < sl)) := hid' (by rw [← hx, Lib.toList_data, Lib.toList_data, HL.out])
      have HDR : Hid (l.drop i = q :: l.drop (i + 1)) := hid' (by rw [List.drop_eq_getElem_cons (by rw [HN.out]; exact hlt)]; congr 1; rw [List.getElem?_eq_getElem (by rw [HN.out]; exact hlt)] at hq; injection hq)
      have HX0 := hid' x0
      have HL1 := hid' l1
      have x3 := (HB.out.cell (p := ⟨g1, i, none⟩) l1).trans x0
      clear hq hx x0 l1
      cases d
      · by_cases hlq : q < sl
        · have hx1 : Op.bytesLess x.toList s.toList = true := by rw [bytesLess_eq, decide_eq_true_iff, HXL.out]; exact hlq
          have HCN : Hid (Rt.lay l sl = (os ++ [q]) ++ (if false then l.drop (i + 1) else Rt.lay (l.drop (i + 1)) sl)) := hid' (by rw [HC.out, HDR.out]; simp [Rt.lay_lt hlq])
          clear hlq
          have HA3 : Hid ((wr.alloc (.cells #[.string x] 9)).ownsRow w.heap.size 9 1 (.slice ro m rc) m (sC17 os)) := hid' (HO.out.alloc _)
          go_wp2_with (at_builtin; refine wpList_append_own_at _ rfl _ _ 47 rfl w.heap.size 9 i0 (.string ⟨#[]⟩) 1 16 Tryz.underlying47 HI.out HZ0.out HZ1.out HZ2.out rfl (by decide) (.slice ro m rc) (m) (sC17 os) rfl HA3.out ⟨wr.heap.size, 0, none⟩ 1 1 [.string x] rfl rfl (one_cell17 _ _ _) (by simp [Value.oneCell']) (by unfold maxLen; omega) (by omega) (by simp; have := HB.out.size; omega) ?_; intro v3 w3 hown3 hgrow3 _ _; refine Hid.out ?_)
          refine hid' ?_
          have e3 : sC17 os ++ [Value.string x] = sC17 (os ++ [q]) := by rw [sC17_app os [q], HXS.out]
          rw [e3] at hown3
          obtain ⟨v3o, v3c, hv3⟩ := own_shape17 hown3
          subst hv3
          have HO3 := hid' hown3
          have HB3 : Hid (Below w.heap.size w w3) := hid' ((HB.out.alloc HB.out.size _).grown hgrow3 (by simp; have := HB.out.size; omega) (fun k hk => (HA3.out.lt k hk).1))
          clear hown3 hgrow3 e3
          go_wp2
          go_roundw
          case rel => exact ⟨i + 1, m + 1, false, os ++ [q], v3o, v3c, by go_num, rfl, rfl, by omega, by omega, hid' (by rw [List.length_append, HML.out]; rfl), HCN, HO3, HB3⟩
          case measure => simp [intOf]; omega
        · have hx1 : Op.bytesLess x.toList s.toList = false := by rw [bytesLess_eq, decide_eq_false_iff_not, HXL.out]; exact hlq
          cases hqe : (q == sl)
          · have hx2 : (x.toList == s.toList) = false := by rw [HXE.out]; exact hqe
            have HCN : Hid (Rt.lay l sl = ((os ++ [sl]) ++ [q]) ++ (if true then l.drop (i + 1) else Rt.lay (l.drop (i + 1)) sl)) := hid' (by rw [HC.out, HDR.out]; simp [Rt.lay_gt hlq hqe])
            clear hlq hqe
            have HA3 : Hid ((wr.alloc (.cells #[.string s] 9)).ownsRow w.heap.size 9 1 (.slice ro m rc) m (sC17 os)) := hid' (HO.out.alloc _)
            go_wp2_with (at_builtin; refine wpList_append_own_at _ rfl _ _ 47 rfl w.heap.size 9 i0 (.string ⟨#[]⟩) 1 16 Tryz.underlying47 HI.out HZ0.out HZ1.out HZ2.out rfl (by decide) (.slice ro m rc) (m) (sC17 os) rfl HA3.out ⟨wr.heap.size, 0, none⟩ 1 1 [.string s] rfl rfl (one_cell17 _ _ _) (by simp [Value.oneCell']) (by unfold maxLen; omega) (by omega) (by simp; have := HB.out.size; omega) ?_; intro v3 w3 hown3 hgrow3 _ _; refine Hid.out ?_)
            refine hid' ?_
            have e3 : sC17 os ++ [Value.string s] = sC17 (os ++ [sl]) := by rw [sC17_app os [sl], HYS.out]
            rw [e3] at hown3
            obtain ⟨v3o, v3c, hv3⟩ := own_shape17 hown3
            subst hv3
            have HO3 := hid' hown3
            have HB3 : Hid (Below w.heap.size w w3) := hid' ((HB.out.alloc HB.out.size _).grown hgrow3 (by simp; have := HB.out.size; omega) (fun k hk => (HA3.out.lt k hk).1))
            clear hown3 hgrow3 e3
            have x4 := (HB3.out.cell (p := ⟨g1, i, none⟩) HL1.out).trans HX0.out
            clear x3
            have HA4 : Hid ((w3.alloc (.cells #[.string x] 9)).ownsRow w.heap.size 9 1 (.slice v3o (m + 1) v3c) (m + 1) (sC17 (os ++ [sl]))) := hid' (HO3.out.alloc _)
            go_wp2_with (at_builtin; refine wpList_append_own_at _ rfl _ _ 47 rfl w.heap.size 9 i0 (.string ⟨#[]⟩) 1 16 Tryz.underlying47 HI.out HZ0.out HZ1.out HZ2.out rfl (by decide) (.slice v3o (m + 1) v3c) ((m + 1)) (sC17 (os ++ [sl])) rfl HA4.out ⟨w3.heap.size, 0, none⟩ 1 1 [.string x] rfl rfl (one_cell17 _ _ _) (by simp [Value.oneCell']) (by unfold maxLen; omega) (by omega) (by simp; have := HB3.out.size; omega) ?_; intro v4 w4 hown4 hgrow4 _ _; refine Hid.out ?_)
            refine hid' ?_
            have e4 : sC17 (os ++ [sl]) ++ [Value.string x] = sC17 ((os ++ [sl]) ++ [q]) := by rw [sC17_app (os ++ [sl]) [q], HXS.out]
            rw [e4] at hown4
            obtain ⟨v4o, v4c, hv4⟩ := own_shape17 hown4
            subst hv4
            have HO4 := hid' hown4
            have HB4 : Hid (Below w.heap.size w w4) := hid' ((HB3.out.alloc HB3.out.size _).grown hgrow4 (by simp; have := HB3.out.size; omega) (fun k hk => (HA4.out.lt k hk).1))
            clear hown4 hgrow4 e4
            go_wp2
            go_roundw
            case rel => exact ⟨i + 1, m + 1 + 1, true, (os ++ [sl]) ++ [q], v4o, v4c, by go_num, rfl, rfl, by omega, by omega, hid' (by rw [List.length_append, List.length_append, HML.out]; rfl), HCN, HO4, HB4⟩
            case measure => simp [intOf]; omega
          · have hx2 : (x.toList == s.toList) = true := by rw [HXE.out]; exact hqe
            have HCN : Hid (Rt.lay l sl = (os ++ [q]) ++ (if true then l.drop (i + 1) else Rt.lay (l.drop (i + 1)) sl)) := hid' (by rw [HC.out, HDR.out]; simp [Rt.lay_eq hlq hqe])
            clear hlq hqe
            have HA3 : Hid ((wr.alloc (.cells #[.string x] 9)).ownsRow w.heap.size 9 1 (.slice ro m rc) m (sC17 os)) := hid' (HO.out.alloc _)
            go_wp2_with (at_builtin; refine wpList_append_own_at _ rfl _ _ 47 rfl w.heap.size 9 i0 (.string ⟨#[]⟩) 1 16 Tryz.underlying47 HI.out HZ0.out HZ1.out HZ2.out rfl (by decide) (.slice ro m rc) (m) (sC17 os) rfl HA3.out ⟨wr.heap.size, 0, none⟩ 1 1 [.string x] rfl rfl (one_cell17 _ _ _) (by simp [Value.oneCell']) (by unfold maxLen; omega) (by omega) (by simp; have := HB.out.size; omega) ?_; intro v3 w3 hown3 hgrow3 _ _; refine Hid.out ?_)
            refine hid' ?_
            have e3 : sC17 os ++ [Value.string x] = sC17 (os ++ [q]) := by rw [sC17_app os [q], HXS.out]
            rw [e3] at hown3
            obtain ⟨v3o, v3c, hv3⟩ := own_shape17 hown3
            subst hv3
            have HO3 := hid' hown3
            have HB3 : Hid (Below w.heap.size w w3) := hid' ((HB.out.alloc HB.out.size _).grown hgrow3 (by simp; have := HB.out.size; omega) (fun k hk => (HA3.out.lt k hk).1))
            clear hown3 hgrow3 e3
            go_wp2
            go_roundw
            case rel => exact ⟨i + 1, m + 1, true, os ++ [q], v3o, v3c, by go_num, rfl, rfl, by omega, by omega, hid' (by rw [List.length_append, HML.out]; rfl), HCN, HO3, HB3⟩
            case measure => simp [intOf]; omega
      · have HCN : Hid (Rt.lay l sl = (os ++ [q]) ++ (if true then l.drop (i + 1) else Rt.lay (l.drop (i + 1)) sl)) := hid' (by rw [HC.out, HDR.out]; simp)
        have HA3 : Hid ((wr.alloc (.cells #[.string x] 9)).ownsRow w.heap.size 9 1 (.slice ro m rc) m (sC17 os)) := hid' (HO.out.alloc _)
        go_wp2_with (at_builtin; refine wpList_append_own_at _ rfl _ _ 47 rfl w.heap.size 9 i0 (.string ⟨#[]⟩) 1 16 Tryz.underlying47 HI.out HZ0.out HZ1.out HZ2.out rfl (by decide) (.slice ro m rc) (m) (sC17 os) rfl HA3.out ⟨wr.heap.size, 0, none⟩ 1 1 [.string x] rfl rfl (one_cell17 _ _ _) (by simp [Value.oneCell']) (by unfold maxLen; omega) (by omega) (by simp; have := HB.out.size; omega) ?_; intro v3 w3 hown3 hgrow3 _ _; refine Hid.out ?_)
        refine hid' ?_
        have e3 : sC17 os ++ [Value.string x] = sC17 (os ++ [q]) := by rw [sC17_app os [q], HXS.out]
        rw [e3] at hown3
        obtain ⟨v3o, v3c, hv3⟩ := own_shape17 hown3
        subst hv3
        have HO3 := hid' hown3
        have HB3 : Hid (Below w.heap.size w w3) := hid' ((HB.out.alloc HB.out.size _).grown hgrow3 (by simp; have := HB.out.size; omega) (fun k hk => (HA3.out.lt k hk).1))
        clear hown3 hgrow3 e3
        go_wp2
        go_roundw
        case rel => exact ⟨i + 1, m + 1, true, os ++ [q], v3o, v3c, by go_num, rfl, rfl, by omega, by omega, hid' (by rw [List.length_append, HML.out]; rfl), HCN, HO3, HB3⟩
        case measure => simp [intOf]; omega
    · obtain rfl : i = n := by omega
      have hlt2 : ¬ (i : Int) < (i : Int) := by omega
      have HDE : Hid (l.drop i = []) := hid' (List.drop_eq_nil_of_le (by rw [HN.out]; exact Nat.le_refl _))
      cases d
      · have HE : Hid (Rt.lay l sl = os ++ [sl]) := hid' (by rw [HC.out, HDE.out]; rfl)
        have HA3 : Hid ((wr.alloc (.cells #[.string s] 9)).ownsRow w.heap.size 9 1 (.slice ro m rc) m (sC17 os)) := hid' (HO.out.alloc _)
        go_wp2_with (at_builtin; refine wpList_append_own_at _ rfl _ _ 47 rfl w.heap.size 9 i0 (.string ⟨#[]⟩) 1 16 Tryz.underlying47 HI.out HZ0.out HZ1.out HZ2.out rfl (by decide) (.slice ro m rc) (m) (sC17 os) rfl HA3.out ⟨wr.heap.size, 0, none⟩ 1 1 [.string s] rfl rfl (one_cell17 _ _ _) (by simp [Value.oneCell']) (by unfold maxLen; omega) (by omega) (by simp; have := HB.out.size; omega) ?_; intro v3 w3 hown3 hgrow3 _ _; refine Hid.out ?_)
        refine hid' ?_
        have e3 : sC17 os ++ [Value.string s] = sC17 (os ++ [sl]) := by rw [sC17_app os [sl], HYS.out]
        rw [e3] at hown3
        obtain ⟨v3o, v3c, hv3⟩ := own_shape17 hown3
        subst hv3
        have HO3 := hid' hown3
        have HB3 : Hid (Below w.heap.size w w3) := hid' ((HB.out.alloc HB.out.size _).grown hgrow3 (by simp; have := HB.out.size; omega) (fun k hk => (HA3.out.lt k hk).1))
        clear hown3 hgrow3 e3
        go_wp2
        go_ret
        exact ⟨⟨m + 1, v3o, v3c, rfl, by rw [HE.out, List.length_append, HML.out]; rfl, by rw [HE.out]; exact HO3.out⟩, HB3.out⟩
      · have HE : Hid (Rt.lay l sl = os) := hid' (by rw [HC.out, HDE.out]; simp)
        go_wp2
        go_ret
        exact ⟨⟨m, ro, rc, rfl, by rw [HE.out]; exact HML.out, by rw [HE.out]; exact HO.out⟩, HB.out⟩

end Go.Proofs.YtfdjimjiikeciaaGreatDoor

namespace Go.Proofs.YtfdjimjiikeciaaGreatDoor
open Go.RowKit

namespace Rt
theorem lay_len18 : ∀ (l : List T8) (s : T8), (lay l s).length ≤ l.length + 1 := by
  intro l s
  induction l with
  | nil => rw [lay]; simp
  | cons a r ih =>
    rw [lay]
    split
    · simp only [List.length_cons]; omega
    · split
      · simp
      · simp
theorem lay_mem18 : ∀ (l : List T8) (s x : T8), x ∈ lay l s → x = s ∨ x ∈ l := by
  intro l s
  induction l with
  | nil => intro x h; rw [lay] at h; exact .inl (by simpa using h)
  | cons a r ih =>
    intro x h
    rw [lay] at h
    split at h
    · rcases List.mem_cons.1 h with h | h
      · exact .inr (by rw [h]; simp)
      · rcases ih x h with h | h
        · exact .inl h
        · exact .inr (by simp [h])
    · split at h
      · exact .inr h
      · rcases List.mem_cons.1 h with h | h
        · exact .inl h
        · exact .inr h
theorem comma_len18 (s x : T8) : (comma s x).length ≤ s.length + 2 + x.length := by
  unfold comma
  split
  · rw [List.length_append]; omega
  · simp only [List.length_append, List.length_cons, List.length_nil]; omega
theorem meths_take {rs : List Ro} {of : List Prt} {i : Nat} {r : Ro} (h : rs[i]? = some r) : meths (rs.take (i + 1)) of = meth (meths (rs.take i) of) of r := by
  unfold meths
  rw [List.take_add_one, h, List.foldl_append]
  rfl
end Rt

set_option maxHeartbeats 8000000 in
set_option maxRecDepth 20000 in
theorem rallow18 (ao bo : Option Addr) (n m ac bc : Nat) (rs : List Rt.Ro) (of : List Rt.Prt) (hn : rs.length = n) (hm : of.length = m) (hnb : n ≤ 65536) (hmb : m ≤ 4194305) (w : World) (h1 : RR18 w ao rs) (h2 : PR18 w bo of) :
    Calls Tryz.prog 33 #[.slice ao n ac, .slice bo m bc] w fun e w' => e = .returned (.string ⟨(Rt.allow rs of).toArray⟩) ∧ Below w.heap.size w w' := by
  have H1 := hid' h1
  have H2 := hid' h2
  have HN := hid' hn
  have HM := hid' hm
  clear h1 h2 hn hm
  have HLIT : Hid (SR17 (w.alloc (.cells #[.string ⟨#[79, 80, 84, 73, 79, 78, 83]⟩] 9)) (some ⟨w.heap.size, 0, none⟩) [Rt.sOPT]) := hid' (fun i p hp => by
    have hA : Ar (w.alloc (.cells #[.string ⟨#[79, 80, 84, 73, 79, 78, 83]⟩] 9)) w.heap.size 9 #[.string ⟨#[79, 80, 84, 73, 79, 78, 83]⟩] := heap_alloc_last w _
    cases i with
    | zero =>
      simp at hp
      exact ⟨w.heap.size, rfl, hA.lt, by rw [← hp]; exact hA.cell 0 _ rfl⟩
    | succ i => simp at hp)
  have HBL := hid' (bl_alloc17 w (.cells #[.string ⟨#[79, 80, 84, 73, 79, 78, 83]⟩] 9))
  go_enter Tryz.func33, Tryz.ntmps33
  go_wp2
  go_loopw [5, 6] (fun s5 s6 wr => ∃ (i k : Nat) (ls : List Rt.T8) (ro : Option Addr) (rc : Nat), s6 = .int .i64 (i : Int) ∧ s5 = .slice ro k rc ∧ i ≤ n ∧ k ≤ 2 * i + 1 ∧ Hid (ls.length = k) ∧ Hid (ls = Rt.meths (rs.take i) of) ∧ Hid (∀ x ∈ ls, x.length ≤ 4194304) ∧ Hid (SR17 wr ro ls) ∧ Hid (Below w.heap.size w wr)) (fun _ s6 _ => n - (intOf s6).toNat)
  case atStart => exact ⟨0, 1, [Rt.sOPT], _, _, rfl, rfl, Nat.zero_le _, Nat.le_refl _, hid' rfl, hid' rfl, hid' (fun x hx => by rw [List.mem_singleton.1 hx]; decide), HLIT, HBL⟩
  case round =>
    obtain ⟨i, k, ls, ro, rc, rfl, rfl, hi, hk, HLS, HLE, HLB, HR, HB⟩ := hrel
    by_cases hlt : i < n
    · have hlt2 : (i : Int) < (n : Int) := by omega
      have h0i : (0 : Int) ≤ (i : Int) := by omega
      obtain ⟨r, hr⟩ : ∃ r, rs[i]? = some r := ⟨_, List.getElem?_eq_getElem (by rw [HN.out]; exact hlt)⟩
      obtain ⟨a, e1, l1, x0, x1, _, hpl, hml, _⟩ := (H1.out.below HB.out) i r hr
      subst e1
      obtain ⟨x, hx⟩ : ∃ x : ByteArray, (⟨r.m.toArray⟩ : ByteArray) = x := ⟨_, rfl⟩
      obtain ⟨y, hy⟩ : ∃ x : ByteArray, (⟨r.p.toArray⟩ : ByteArray) = x := ⟨_, rfl⟩
      have hxg : (x.toList == [71, 69, 84]) = (r.m == Rt.sGET) := by rw [← hx, Lib.toList_data]; rfl
      have HXD : Hid (x.data.toList = r.m) := hid' (by rw [← hx])
      have HRP : Hid (∀ W, Calls Tryz.prog 14 #[.string y] W fun e w' => patR18 W (Rt.pattern r.p) e w' ∧ Below W.heap.size W w') := hid' (fun W => rpat18 y r.p (by rw [← hy]) W (by rw [← hy]; simpa [ByteArray.size] using hpl))
      have HPL : Hid ((Rt.pat r).length ≤ 4194305) := hid' (by have := Rt.pat_len18 r; omega)
      rw [hx] at x0
      rw [hy] at x1
      have HX0 := hid' x0
      have HL1 := hid' l1
      have HML := hid' hml
      have HNX : Hid (Rt.meths (rs.take (i + 1)) of = if Rt.shape (Rt.pat r) of then (if r.m == Rt.sGET then Rt.lay (Rt.lay ls r.m) Rt.sHEAD else Rt.lay ls r.m) else ls) := hid' (by rw [Rt.meths_take hr, ← HLE.out]; rfl)
      have HLB2 : Hid (∀ x ∈ Rt.lay ls r.m, x.length ≤ 4194304) := hid' (fun z hz => by
        rcases Rt.lay_mem18 _ _ _ hz with h | h
        · rw [h]; exact HML.out
        · exact HLB.out z h)
      clear hr hx hy l1 hpl hml
      cases hsh : Rt.shape (Rt.pat r) of
      · have HNE : Hid (ls = Rt.meths (rs.take (i + 1)) of) := hid' (by rw [HNX.out, hsh]; rfl)
        have HSH := hid' hsh
        clear hsh hxg
        go_wp2_with (go_at_call 14; refine (HRP.out _).mono ?_; rintro e w1 ⟨hp1, hb1⟩; obtain ⟨m1, ro1, rc1, b1, rfl, hm1, hpr1, -⟩ := hp1.get; refine Hid.out ?_)
        refine hid' ?_
        have HB1 := hid' (below_two HB.out hb1)
        have HS : Hid (∀ W, Below w1.heap.size w1 W → Calls Tryz.prog 22 #[.slice ro1 m1 rc1, .slice bo m bc] W fun e w' => e = .returned (.bool false) ∧ Below W.heap.size W w') := hid' (fun W hW => by
          have := rshape18 ro1 bo m1 m rc1 bc (Rt.pat r) of hm1 HM.out (by rw [← hm1]; exact HPL.out) hmb W (hpr1.below hW) (H2.out.below (below_two HB1.out hW))
          rw [HSH.out] at this
          exact this)
        have HX1 := hid' ((hb1.cell HL1.out).trans HX0.out)
        have HL2 : Hid ((a.add (i * 4)).block < w1.heap.size) := hid' (Nat.lt_of_lt_of_le HL1.out hb1.size)
        have HR1 := hid' (HR.out.below hb1)
        clear hp1 hb1 hm1 hpr1 x0 x1
        go_wp2_with (go_at_call 22; refine (HS.out _ (Below.refl _ _)).mono ?_; rintro e w2 ⟨rfl, hb2⟩; refine Hid.out ?_)
        refine hid' ?_
        have HB3 := hid' (below_two HB1.out hb2)
        have x2 := (hb2.cell HL2.out).trans HX1.out
        have HX2 := hid' x2
        have HL3 : Hid ((a.add (i * 4)).block < w2.heap.size) := hid' (Nat.lt_of_lt_of_le HL2.out hb2.size)
        have HR2 := hid' (HR1.out.below hb2)
        clear hb2
        go_wp2
        go_roundw
        case rel => exact ⟨i + 1, k, ls, ro, rc, by go_num, rfl, by omega, by omega, HLS, HNE, HLB, HR2, HB3⟩
        case measure => simp [intOf]; omega
      · cases hg : (r.m == Rt.sGET)
        · have HNE : Hid (Rt.lay ls r.m = Rt.meths (rs.take (i + 1)) of) := hid' (by rw [HNX.out, hsh, hg]; rfl)
          have HSH := hid' hsh
          rw [hg] at hxg
          clear hsh hg
          go_wp2_with (go_at_call 14; refine (HRP.out _).mono ?_; rintro e w1 ⟨hp1, hb1⟩; obtain ⟨m1, ro1, rc1, b1, rfl, hm1, hpr1, -⟩ := hp1.get; refine Hid.out ?_)
          refine hid' ?_
          have HB1 := hid' (below_two HB.out hb1)
          have HS : Hid (∀ W, Below w1.heap.size w1 W → Calls Tryz.prog 22 #[.slice ro1 m1 rc1, .slice bo m bc] W fun e w' => e = .returned (.bool true) ∧ Below W.heap.size W w') := hid' (fun W hW => by
            have := rshape18 ro1 bo m1 m rc1 bc (Rt.pat r) of hm1 HM.out (by rw [← hm1]; exact HPL.out) hmb W (hpr1.below hW) (H2.out.below (below_two HB1.out hW))
            rw [HSH.out] at this
            exact this)
          have HX1 := hid' ((hb1.cell HL1.out).trans HX0.out)
          have HL2 : Hid ((a.add (i * 4)).block < w1.heap.size) := hid' (Nat.lt_of_lt_of_le HL1.out hb1.size)
          have HR1 := hid' (HR.out.below hb1)
          clear hp1 hb1 hm1 hpr1 x0 x1
          go_wp2_with (go_at_call 22; refine (HS.out _ (Below.refl _ _)).mono ?_; rintro e w2 ⟨rfl, hb2⟩; refine Hid.out ?_)
          refine hid' ?_
          have HB3 := hid' (below_two HB1.out hb2)
          have x2 := (hb2.cell HL2.out).trans HX1.out
          have HX2 := hid' x2
          have HL3 : Hid ((a.add (i * 4)).block < w2.heap.size) := hid' (Nat.lt_of_lt_of_le HL2.out hb2.size)
          have HR2 := hid' (HR1.out.below hb2)
          clear hb2
          go_wp2_with (go_at_call 56; refine (rlay18 ro k rc ls x r.m HXD.out HLS.out (by omega) _ HR2.out).mono ?_; rintro e w3 ⟨⟨m3, ro3, rc3, rfl, hm3, ho3⟩, hb3⟩; refine Hid.out ?_)
          refine hid' ?_
          have HB4 := hid' (below_two HB3.out hb3)
          have x4 := (hb3.cell HL3.out).trans HX2.out
          have HR3 := hid' (SR17.own ho3)
          have HM3 := hid' hm3
          have hm4 : m3 ≤ k + 1 := by rw [← hm3]; have := Rt.lay_len18 ls r.m; have := HLS.out; omega
          clear ho3 hm3 hb3 x2
          go_wp2
          go_roundw
          case rel => exact ⟨i + 1, m3, Rt.lay ls r.m, ro3, rc3, by go_num, rfl, by omega, by omega, HM3, HNE, HLB2, HR3, HB4⟩
          case measure => simp [intOf]; omega
        · have HNE : Hid (Rt.lay (Rt.lay ls r.m) Rt.sHEAD = Rt.meths (rs.take (i + 1)) of) := hid' (by rw [HNX.out, hsh, hg]; rfl)
          have HSH := hid' hsh
          rw [hg] at hxg
          clear hsh hg
          go_wp2_with (go_at_call 14; refine (HRP.out _).mono ?_; rintro e w1 ⟨hp1, hb1⟩; obtain ⟨m1, ro1, rc1, b1, rfl, hm1, hpr1, -⟩ := hp1.get; refine Hid.out ?_)
          refine hid' ?_
          have HB1 := hid' (below_two HB.out hb1)
          have HS : Hid (∀ W, Below w1.heap.size w1 W → Calls Tryz.prog 22 #[.slice ro1 m1 rc1, .slice bo m bc] W fun e w' => e = .returned (.bool true) ∧ Below W.heap.size W w') := hid' (fun W hW => by
            have := rshape18 ro1 bo m1 m rc1 bc (Rt.pat r) of hm1 HM.out (by rw [← hm1]; exact HPL.out) hmb W (hpr1.below hW) (H2.out.below (below_two HB1.out hW))
            rw [HSH.out] at this
            exact this)
          have HX1 := hid' ((hb1.cell HL1.out).trans HX0.out)
          have HL2 : Hid ((a.add (i * 4)).block < w1.heap.size) := hid' (Nat.lt_of_lt_of_le HL1.out hb1.size)
          have HR1 := hid' (HR.out.below hb1)
          clear hp1 hb1 hm1 hpr1 x0 x1
          go_wp2_with (go_at_call 22; refine (HS.out _ (Below.refl _ _)).mono ?_; rintro e w2 ⟨rfl, hb2⟩; refine Hid.out ?_)
          refine hid' ?_
          have HB3 := hid' (below_two HB1.out hb2)
          have x2 := (hb2.cell HL2.out).trans HX1.out
          have HX2 := hid' x2
          have HL3 : Hid ((a.add (i * 4)).block < w2.heap.size) := hid' (Nat.lt_of_lt_of_le HL2.out hb2.size)
          have HR2 := hid' (HR1.out.below hb2)
          clear hb2
          go_wp2_with (go_at_call 56; refine (rlay18 ro k rc ls x r.m HXD.out HLS.out (by omega) _ HR2.out).mono ?_; rintro e w3 ⟨⟨m3, ro3, rc3, rfl, hm3, ho3⟩, hb3⟩; refine Hid.out ?_)
          refine hid' ?_
          have HB4 := hid' (below_two HB3.out hb3)
          have x4 := (hb3.cell HL3.out).trans HX2.out
          have HR3 := hid' (SR17.own ho3)
          have HM3 := hid' hm3
          have hm4 : m3 ≤ k + 1 := by rw [← hm3]; have := Rt.lay_len18 ls r.m; have := HLS.out; omega
          clear ho3 hm3 hb3 x2
          have HLB3 : Hid (∀ x ∈ Rt.lay (Rt.lay ls r.m) Rt.sHEAD, x.length ≤ 4194304) := hid' (fun z hz => by
            rcases Rt.lay_mem18 _ _ _ hz with h | h
            · rw [h]; decide
            · exact HLB2.out z h)
          go_wp2_with (go_at_call 56; refine (rlay18 ro3 m3 rc3 (Rt.lay ls r.m) ⟨#[72, 69, 65, 68]⟩ Rt.sHEAD rfl HM3.out (by omega) _ HR3.out).mono ?_; rintro e w5 ⟨⟨m5, ro5, rc5, rfl, hm5, ho5⟩, hb5⟩; refine Hid.out ?_)
          refine hid' ?_
          have HB5 := hid' (below_two HB4.out hb5)
          have HR5 := hid' (SR17.own ho5)
          have HM5 := hid' hm5
          have hm6 : m5 ≤ m3 + 1 := by rw [← hm5]; have := Rt.lay_len18 (Rt.lay ls r.m) Rt.sHEAD; have := HM3.out; omega
          clear ho5 hm5 hb5
          go_wp2
          go_roundw
          case rel => exact ⟨i + 1, m5, Rt.lay (Rt.lay ls r.m) Rt.sHEAD, ro5, rc5, by go_num, rfl, by omega, by omega, HM5, HNE, HLB3, HR5, HB5⟩
          case measure => simp [intOf]; omega
    · obtain rfl : i = n := by omega
      have hlt2 : ¬ (i : Int) < (i : Int) := by omega
      have HLA : Hid (ls = Rt.meths rs of) := hid' (by rw [HLE.out, ← HN.out, List.take_length])
      clear hlt
      go_wp2
      have HCB : Hid (∀ j, j ≤ k → ((ls.take j).foldl Rt.comma []).length ≤ j * 4194306) := hid' (fun j => by
        induction j with
        | zero => intro _; simp
        | succ j ih =>
          intro hj
          have hjl : j < ls.length := by rw [HLS.out]; omega
          rw [List.take_add_one, List.getElem?_eq_getElem hjl, List.foldl_append]
          have h1 := Rt.comma_len18 ((ls.take j).foldl Rt.comma []) ls[j]
          have h2 := ih (by omega)
          have h3 := HLB.out ls[j] (List.getElem_mem hjl)
          show (Rt.comma ((ls.take j).foldl Rt.comma []) ls[j]).length ≤ _
          omega)
      go_loopw [9, 10] (fun s9 s10 wi => ∃ (j : Nat) (Z : List UInt8), s10 = .int .i64 (j : Int) ∧ s9 = .string ⟨Z.toArray⟩ ∧ j ≤ k ∧ Hid ((ls.take j).foldl Rt.comma [] = Z) ∧ Hid (wi = wr)) (fun _ s10 _ => k - (intOf s10).toNat)
      case atStart => exact ⟨0, [], rfl, rfl, Nat.zero_le _, hid' rfl, hid' rfl⟩
      case round =>
        obtain ⟨j, Z, rfl, rfl, hj, HZ, HW⟩ := hrel
        obtain rfl := HW.out
        have hZb : Z.length ≤ 131073 * 4194306 := by
          rw [← HZ.out]
          exact Nat.le_trans (HCB.out j hj) (Nat.mul_le_mul_right _ (by omega))
        by_cases hlj : j < k
        · have hlj2 : (j : Int) < (k : Int) := by omega
          obtain ⟨p, hp⟩ : ∃ p, ls[j]? = some p := ⟨_, List.getElem?_eq_getElem (by rw [HLS.out]; exact hlj)⟩
          obtain ⟨g, rfl, _, y0⟩ := HR.out j p hp
          have hpb : p.length ≤ 4194304 := HLB.out p (List.mem_of_getElem? hp)
          have HJT : Hid ((ls.take (j + 1)).foldl Rt.comma [] = Rt.comma Z p) := hid' (by rw [List.take_add_one, hp, List.foldl_append, HZ.out]; rfl)
          clear hp
          cases hze : Z.isEmpty
          · have hz2 : ¬ Z = [] := by rw [List.isEmpty_eq_false_iff] at hze; exact hze
            have HJU : Hid ((ls.take (j + 1)).foldl Rt.comma [] = Z ++ [44, 32] ++ p) := hid' (by rw [HJT.out]; unfold Rt.comma; rw [hze]; rfl)
            have k1 : ¬ 9223372036854775807 < Z.length + 2 := by omega
            have k2 : ¬ 9223372036854775807 < Z.length + 2 + p.length := by omega
            go_wp2
            go_roundw
            case rel => exact ⟨j + 1, Z ++ [44, 32] ++ p, by go_num, by first | rfl | (congr 1; apply ByteArray.ext; simp), by omega, HJU, hid' (by trivial)⟩
            case measure => simp [intOf]; omega
          · have hz2 : Z = [] := List.isEmpty_iff.1 hze
            have HJU : Hid ((ls.take (j + 1)).foldl Rt.comma [] = p) := hid' (by rw [HJT.out, hz2]; rfl)
            subst hz2
            have k1 : ¬ 9223372036854775807 < p.length := by omega
            go_wp2
            go_roundw
            case rel => exact ⟨j + 1, p, by go_num, by first | rfl | (congr 1; apply ByteArray.ext; simp), by omega, HJU, hid' (by trivial)⟩
            case measure => simp [intOf]; omega
        · have hlj2 : ¬ (j : Int) < (k : Int) := by omega
          have HE : Hid (Rt.allow rs of = Z) := hid' (by
            unfold Rt.allow
            rw [← HLA.out, ← HZ.out, List.take_of_length_le (by rw [HLS.out]; omega)])
          clear hlj
          go_wp2
          go_ret
          exact ⟨by rw [HE.out]; rfl, HB.out⟩

end Go.Proofs.YtfdjimjiikeciaaGreatDoor

namespace Go.Proofs.YtfdjimjiikeciaaGreatDoor
open Go.RowKit

theorem noStandPm18 : Tryz.prog.stoodInHeld 42 = false := by kernel_rfl
theorem fieldsPm18 : Tryz.prog.underlying 42 = some (.struct (Tryz.prog.fieldsOf 42)) := by kernel_rfl
set_option maxRecDepth 20000 in
theorem neqPm18 (a b : ByteArray) (w : World) : (binOp .neq 42 (.agg #[.string a, .string b]) (.agg #[.string a, .string b])).run Tryz.prog w = .ok (.bool false) w := by
  rw [run_neq_struct, show (10000 : Nat) = 9999 + 1 by rfl, run_equalIn_agg w 9999 42 _ _ fieldsPm18 noStandPm18]
  simp only [Program.fieldsOf, Tryz.underlying42]
  go_simp

def PM18 (w : World) (ao : Option Addr) (ps : List (List UInt8 × List UInt8)) : Prop := ∀ (i : Nat) (p : List UInt8 × List UInt8), ps[i]? = some p → ∃ a : Addr, ao = some a ∧ (a.add (i * 2)).block < w.heap.size ∧ w.cell? (a.add (i * 2)) = some (.string ⟨p.1.toArray⟩) ∧ w.cell? ⟨(a.add (i * 2)).block, (a.add (i * 2)).off + 1, none⟩ = some (.string ⟨p.2.toArray⟩)
theorem PM18.nil (w : World) (ao : Option Addr) : PM18 w ao [] := fun i p h => by simp at h
theorem PM18.below {w w' : World} {ao : Option Addr} {ps : List (List UInt8 × List UInt8)} (h : PM18 w ao ps) (hb : Below w.heap.size w w') : PM18 w' ao ps := fun i p hp => by
  obtain ⟨a, h1, h2, h3, h4⟩ := h i p hp
  exact ⟨a, h1, Nat.lt_of_lt_of_le h2 hb.size, (hb.cell h2).trans h3, (hb.cell (p := ⟨(a.add (i * 2)).block, (a.add (i * 2)).off + 1, none⟩) h2).trans h4⟩

set_option maxHeartbeats 4000000 in
set_option maxRecDepth 20000 in
theorem rsame18 (st ro : Int) (al : ByteArray) (ao bo : Option Addr) (n ac bc : Nat) (ps : List (List UInt8 × List UInt8)) (hn : ps.length = n) (hnb : n ≤ 4194305) (w : World) (h1 : PM18 w ao ps) (h2 : PM18 w bo ps) :
    Calls Tryz.prog 13 #[.agg #[.int .i64 st, .int .i64 ro, .slice ao n ac, .string al], .agg #[.int .i64 st, .int .i64 ro, .slice bo n bc, .string al]] w fun e w' => e = .returned (.bool true) ∧ Below w.heap.size w w' := by
  obtain ⟨w2, hw2⟩ : ∃ w2, (w.alloc (.cells #[.int .i64 st, .int .i64 ro, .slice ao n ac, .string al] 35)).alloc (.cells #[.int .i64 st, .int .i64 ro, .slice bo n bc, .string al] 35) = w2 := ⟨_, rfl⟩
  have hB2 : Below w.heap.size w w2 := by rw [← hw2]; exact below_two (bl_alloc17 w _) (bl_alloc17 _ _)
  obtain ⟨b1, hb1⟩ : ∃ b1, w.heap.size = b1 := ⟨_, rfl⟩
  have hA1 : Ar w2 b1 35 #[.int .i64 st, .int .i64 ro, .slice ao n ac, .string al] := by
    rw [← hw2, ← hb1]
    have hA : Ar (w.alloc (.cells #[.int .i64 st, .int .i64 ro, .slice ao n ac, .string al] 35)) w.heap.size 35 #[.int .i64 st, .int .i64 ro, .slice ao n ac, .string al] := heap_alloc_last w _
    exact ((bl_alloc17 _ _).block _ hA.lt).trans hA
  have hA2 : Ar w2 (b1 + 1) 35 #[.int .i64 st, .int .i64 ro, .slice bo n bc, .string al] := by
    rw [← hw2, ← hb1]
    have hA := heap_alloc_last (w.alloc (.cells #[.int .i64 st, .int .i64 ro, .slice ao n ac, .string al] 35)) (.cells #[.int .i64 st, .int .i64 ro, .slice bo n bc, .string al] 35)
    have e9 : ∀ o : Obj, (w.alloc o).heap.size = w.heap.size + 1 := fun o => by simp
    rw [e9] at hA
    exact hA
  have H1 := hid' (h1.below hB2)
  have H2 := hid' (h2.below hB2)
  have HN := hid' hn
  have HB2 := hid' hB2
  have HA1 := hid' hA1
  have HA2 := hid' hA2
  have hee : ((n : Int) != (n : Int)) = false := by simp
  have hst : (st != st) = false := by simp
  have hro : (ro != ro) = false := by simp
  have c10 := hA1.cell 0 _ rfl
  have c11 := hA1.cell 1 _ rfl
  have c12 := hA1.cell 2 _ rfl
  have c13 := hA1.cell 3 _ rfl
  have c20 := hA2.cell 0 _ rfl
  have c21 := hA2.cell 1 _ rfl
  have c22 := hA2.cell 2 _ rfl
  have c23 := hA2.cell 3 _ rfl
  clear h1 h2 hn hA1 hA2 hB2
  go_enter Tryz.func13, Tryz.ntmps13
  go_wp2
  clear hw2 c10 c11 c13 c20 c21 c23
  go_loopw [5] (fun s5 wr => ∃ i q : Nat, s5 = .int .i64 (i : Int) ∧ i ≤ n ∧ wr = w2.drewN q) (fun s5 _ => n - (intOf s5).toNat)
  case atStart => exact ⟨0, 0, rfl, Nat.zero_le _, rfl⟩
  case round =>
    obtain ⟨i, q, rfl, hi, hwr⟩ := hrel
    subst hwr
    by_cases hlt : i < n
    · have hlt2 : (i : Int) < (n : Int) := by omega
      obtain ⟨p, hp⟩ : ∃ p, ps[i]? = some p := ⟨_, List.getElem?_eq_getElem (by rw [HN.out]; exact hlt)⟩
      obtain ⟨a1, rfl, _, x0, x1⟩ := H1.out i p hp
      obtain ⟨a2, rfl, _, y0, y1⟩ := H2.out i p hp
      have hne := neqPm18 ⟨p.1.toArray⟩ ⟨p.2.toArray⟩
      have HLT := hid' hlt
      clear hp hlt
      go_wp2
      go_quiet (fail)
      go_wp2
      go_roundw
      case rel => exact ⟨i + 1, _, by go_num, by have := HLT.out; omega, by first | rfl | simp⟩
      case measure => have := HLT.out; simp [intOf]; omega
    · have hlt2 : ¬ (i : Int) < (n : Int) := by omega
      clear hlt
      go_wp2
      go_ret
      exact ⟨rfl, by rw [← hb1]; exact below_two HB2.out (below_dN18 _ _)⟩

end Go.Proofs.YtfdjimjiikeciaaGreatDoor

namespace Go.Proofs.YtfdjimjiikeciaaGreatDoor
open Go.RowKit

theorem step_ap18 {P : Program} {w : World} {ops : Array Oper} {o : Oper} {a : Act} {K : Act → World → Prop} {Q : Exit → Act → World → Prop} {E : Prop} (hgd : o.guard = none) (s x : Operand) (t : TypeId)
    (ho : o.op = .call { callee := .builtin .append, args := #[s, x], argTypes := #[t, t] })
    (base : Nat) (e : TypeId) (i : TypeInfo) (z : Value) (size bytes : Nat) (ht : P.underlying t = some (.slice e)) (hi : P.info? e = some i) (hz : i.zero = some z)
    (hsize : i.size = size) (hby : i.bytes = bytes) (hzs : z.cells.size = size) (hsz : 0 < size)
    (v : Value) (n : Nat) (xs : List Value) (hs : a.eval s = v) (hown : w.ownsRow base e size v n xs)
    (ad : Addr) (m c : Nat) (news : List Value) (hx : a.eval x = .slice (some ad) m c) (hl : news.length = m * size) (hnews : ∀ j u, news[j]? = some u → w.cell? (ad.add j) = some u) (h1 : ∀ u ∈ news, u.oneCell' = true)
    (h63 : n + m ≤ maxLen) (hbytes : (n + m) * bytes ≤ 140737488355328) (hbase : base ≤ w.heap.size)
    (h : ∀ v' w', w'.ownsRow base e size v' (n + m) (xs ++ news) → w.grownBy w' v.ownBlock → K (a.put o.dst v') w') :
    if Region.wanted o (yielded ops a.tmps) = true then Oper.wp P o a w K Q else E := by
  have hw : Region.wanted o (yielded ops a.tmps) = true := by simp [Region.wanted, hgd]
  rw [if_pos hw]
  obtain ⟨v', w', hr, h2, h3, _, _⟩ := run_append_own_at (P := P) w base t o.type e i z size bytes ht hi hz hsize hby hzs hsz v n xs hown ad m c news hl hnews h1 h63 hbytes hbase
  unfold Oper.wp execOp
  simp only [ho, resolve, invoke, builtin, Sem.run_bind, Sem.run_pure, Result.andThen_ok, List.map_toArray, List.map_cons, List.map_nil, hs, hx, hr]
  exact h v' w' h2 h3
/-- A row of texts that can be read, from any place of its block on. -/
def SO18 (w : World) (ao : Option Addr) (l : List (List UInt8)) : Prop := ∀ i p, l[i]? = some p → ∃ g o, ao = some ⟨g, o, none⟩ ∧ w.cell? ⟨g, o + i, none⟩ = some (.string ⟨p.toArray⟩)

set_option maxHeartbeats 1600000 in
theorem rjoin18 (ao : Option Addr) (n cap : Nat) (k : List (List UInt8)) (hn : k.length = n) (w : World) (h : SO18 w ao k) (hnb : n ≤ 4194305) (hsz : (k.map List.length).sum + k.length ≤ 16777216) :
    Calls Tryz.prog 16 #[.slice ao n cap] w fun e w' => e = .returned (.string ⟨(Pt.join k).toArray⟩) ∧ w' = w := by
  have HS := hid' h
  have HN := hid' hn
  have HSZ := hid' hsz
  have HJL : Hid (∀ i, (Pt.join (k.take i)).length ≤ 16777216) := hid' (fun i => by
    have h1 := Pt.join_len (k.take i)
    have h2 : ((k.take i).map List.length).sum ≤ (k.map List.length).sum := by
      conv => rhs; rw [← List.take_append_drop i k, List.map_append, List.sum_append]
      omega
    have h3 : (k.take i).length ≤ k.length := by rw [List.length_take]; omega
    omega)
  have HPL : Hid (∀ p ∈ k, p.length ≤ 16777216) := hid' (fun p hp => by
    have := List.single_le_sum17 (List.mem_map_of_mem (f := List.length) hp)
    omega)
  clear h hn hsz
  go_enter Tryz.func16, Tryz.ntmps16
  go_wp2
  go_loopw [3, 4] (fun s3 s4 wr => ∃ (i : Nat) (Z : List UInt8), s4 = .int .i64 (i : Int) ∧ s3 = .string ⟨Z.toArray⟩ ∧ i ≤ n ∧ Hid (Pt.join (k.take i) = Z) ∧ wr = w) (fun _ s4 _ => n - (intOf s4).toNat)
  case atStart => exact ⟨0, [], rfl, rfl, Nat.zero_le _, hid' rfl, rfl⟩
  case round =>
    obtain ⟨i, Z, rfl, rfl, hi, HZ, hwr⟩ := hrel
    subst hwr
    have hZb : Z.length ≤ 16777216 := by rw [← HZ.out]; exact HJL.out i
    by_cases hlt : i < n
    · have hlt2 : (i : Int) < (n : Int) := by omega
      obtain ⟨p, hp⟩ : ∃ p, k[i]? = some p := ⟨_, List.getElem?_eq_getElem (by rw [HN.out]; exact hlt)⟩
      obtain ⟨g, o, rfl, y0⟩ := HS.out i p hp
      have hpb : p.length ≤ 16777216 := HPL.out p (List.mem_of_getElem? hp)
      have HJT := hid' (Pt.join_take hp)
      clear hp
      by_cases h0 : i = 0
      · have h0I : ¬ (0 : Int) < (i : Int) := by omega
        have HZ0 : Hid (Z = []) := hid' (by rw [← HZ.out, h0]; rfl)
        rw [if_pos h0] at HJT
        have k1 : ¬ 9223372036854775807 < Z.length + p.length := by omega
        clear h0
        go_wp2
        go_roundw
        case rel => exact ⟨i + 1, p, by go_num, by rw [HZ0.out]; first | rfl | (congr 1; apply ByteArray.ext; simp), by omega, hid' (by rw [HJT.out]; rfl), by trivial⟩
        case measure => simp [intOf]; omega
      · have h0I : (0 : Int) < (i : Int) := by omega
        rw [if_neg h0, HZ.out] at HJT
        have k1 : ¬ 9223372036854775807 < Z.length + 1 := by omega
        have k2 : ¬ 9223372036854775807 < Z.length + 1 + p.length := by omega
        clear h0
        go_wp2
        go_roundw
        case rel => exact ⟨i + 1, Z ++ [47] ++ p, by go_num, by first | rfl | (congr 1; apply ByteArray.ext; simp), by omega, HJT, by trivial⟩
        case measure => simp [intOf]; omega
    · have hlt2 : ¬ (i : Int) < (n : Int) := by omega
      have HE : Hid (Pt.join k = Z) := hid' (by rw [← HZ.out, List.take_of_length_le (by rw [HN.out]; omega)])
      clear hlt
      go_wp2
      go_ret
      exact ⟨by rw [HE.out]; rfl, rfl⟩

theorem infoPm18 : (Tryz.prog.info? 42).map (fun i => (i.zero, i.size, i.bytes)) = some (some (.agg #[.string ⟨#[]⟩, .string ⟨#[]⟩]), 2, 32) := by kernel_rfl
def qC18 (l : List (List UInt8 × List UInt8)) : List Value := l.flatMap fun x => [.string ⟨x.1.toArray⟩, .string ⟨x.2.toArray⟩]
theorem qC18_snoc (l : List (List UInt8 × List UInt8)) (x : List UInt8 × List UInt8) : qC18 (l ++ [x]) = qC18 l ++ [.string ⟨x.1.toArray⟩, .string ⟨x.2.toArray⟩] := by
  unfold qC18; rw [List.flatMap_append]; rfl
namespace Rt
theorem fits_at1 : ∀ {a : List Prt} {l : List T8} {i : Nat} {p : Prt}, fits a l = true → a[i]? = some p → i ≤ l.length ∧ (p.k ≠ 2 → i < l.length) := by
  intro a
  induction a with
  | nil => intro l i p _ h; simp at h
  | cons c y ih =>
    intro l i p hf ha
    rw [fits_cons] at hf
    by_cases hc : (c.k == 2) = true
    · rw [hc] at hf
      simp only [if_true] at hf
      rw [List.isEmpty_iff] at hf
      subst hf
      cases i with
      | zero => simp at ha; subst ha; exact ⟨Nat.zero_le _, fun h => absurd (eq_of_beq hc) h⟩
      | succ i => simp at ha
    · rw [Bool.not_eq_true] at hc
      rw [hc] at hf
      simp only [Bool.false_eq_true, if_false] at hf
      cases l with
      | nil => cases hf
      | cons d t =>
        simp only [Bool.and_eq_true] at hf
        cases i with
        | zero => exact ⟨Nat.zero_le _, fun _ => by simp⟩
        | succ i =>
          have := ih hf.2 (by simpa using ha)
          exact ⟨by simp; exact this.1, fun h => by simp; exact this.2 h⟩
theorem caught_step {a : List Prt} {i : Nat} {p : Prt} (h : a[i]? = some p) (l : List T8) (e : Bool) : caught (a.drop i) (l.drop i) e = (if p.k == 1 then [(p.t, (l.drop i).headD [])] else if p.k == 2 then [(p.t, Pt.join (l.drop i) ++ (if !(l.drop i).isEmpty && e then [47] else []))] else []) ++ caught (a.drop (i + 1)) (l.drop (i + 1)) e := by
  obtain ⟨h1, h2⟩ := List.getElem?_eq_some_iff.1 h
  rw [List.drop_eq_getElem_cons h1, h2, caught, List.tail_drop]
  split
  · rfl
  · split <;> rfl
theorem parts_sum (l : T8) : ((Pt.parts l).map List.length).sum + (Pt.parts l).length ≤ l.length + 1 := by
  have h := Pt.cutS_sum l
  unfold Pt.parts
  have key : ∀ (k : List T8), ((k.filter (fun p => !p.isEmpty)).map List.length).sum + (k.filter (fun p => !p.isEmpty)).length ≤ (k.map List.length).sum + k.length := by
    intro k
    induction k with
    | nil => simp
    | cons a r ih =>
      rw [List.filter_cons]
      split
      · simp only [List.map_cons, List.sum_cons, List.length_cons]; omega
      · simp only [List.map_cons, List.sum_cons, List.length_cons]; omega
  exact Nat.le_trans (key (Pt.cutS [] l)) (by omega)
theorem parts_ne {l : T8} (h : Pt.parts l ≠ []) : l ≠ [] := by
  rintro rfl
  exact h rfl
end Rt

end Go.Proofs.YtfdjimjiikeciaaGreatDoor
