/-
  MsgParts: its contract.
-/
import Derived.Test.YtcljepppdljnlabDoorMcU
import Derived.Test.YtcljepppdljnlabDoorMcW
namespace Go.Proofs.YtcljepppdljnlabDoor
open Go.RowKit

namespace Ms
def okT (f : Fd) : Bool := trail [f] == 0
theorem trail_all (l : List Fd) : (trail l == 0) = l.all okT := by
  induction l with
  | nil => rfl
  | cons f r ih =>
    rw [List.all_cons, ← ih]
    unfold okT
    rw [trail, trail]
    cases psd f.n
    · simp only [Bool.false_eq_true, if_false]
      cases (!plain f || noTr.contains f.n.toList) <;> rfl
    · rfl
theorem all_drop {l : List Fd} {i : Nat} {f : Fd} (h : l[i]? = some f) : (l.take (i + 1)).all okT = ((l.take i).all okT && okT f) := by
  rw [List.take_add_one, h]
  simp
end Ms
/-- One field of a row. -/
theorem FW.one {w : World} {B : Nat} {e : TypeId} {g n cap : Nat} {l : List Fd} (h : w.ownsRow B e 2 (.slice (some ⟨g, 0, none⟩) n cap) l.length (fC l)) (i : Nat) (f : Fd) (hf : l[i]? = some f) (c : Nat) (hc : 1 ≤ c) : FW w (.slice (some ⟨g, i * 2, none⟩) 1 c) [f] := by
  refine .inr ⟨⟨g, i * 2, none⟩, c, rfl, hc, fun j u hj => ?_⟩
  have hl : g < w.heap.size := own_lt h g rfl
  have hj2 : j < 2 := by have := (List.getElem?_eq_some_iff.1 hj).1; rw [fC_length] at this; simpa using this
  have e1 : (fC l)[i * 2 + j]? = some u := by
    rw [f_at l i f hf j hj2]
    have : (fC [f])[j]? = (fV f)[j]? := by simp [fC]
    rw [← this]; exact hj
  have := h.cells (g := g) rfl (i * 2 + j) u e1
  rw [Addr.add_mid] at this ⊢
  refine ⟨hl, ?_⟩
  rw [show 0 + (i * 2 + j) = i * 2 + j by omega] at this
  exact this

set_option maxHeartbeats 8000000 in
set_option maxRecDepth 20000 in
theorem msgParts_any (va : Value) (A : List Fd) (vb : Value) (B : List Fd) (w : World) (ha : FW w va A) (hb : FW w vb B) (hT : TB w) (lab : A.length + B.length ≤ 1048576) (sa : ∀ f ∈ A, f.n.size ≤ 1048576 ∧ f.v.size ≤ 1048576) (sb : ∀ f ∈ B, f.n.size ≤ 1048576 ∧ f.v.size ≤ 1048576) (za : Ms.size A ≤ 33554432) (zb : Ms.size B ≤ 33554432) :
    Calls Tryd.prog 4 #[va, vb] w fun e w' => e = .returned (.bool true) ∧ Below w.heap.size w w' := by
  have HFA := hid' ha
  have HFB := hid' hb
  have HTB := hid' hT
  have HSA : Hid (∀ f ∈ A, f.n.size ≤ 140737488355328 ∧ f.v.size ≤ 140737488355328) := hid' (fun f hf => ⟨by have := (sa f hf).1; omega, by have := (sa f hf).2; omega⟩)
  have HSB : Hid (∀ f ∈ B, f.n.size ≤ 140737488355328 ∧ f.v.size ≤ 140737488355328) := hid' (fun f hf => ⟨by have := (sb f hf).1; omega, by have := (sb f hf).2; omega⟩)
  obtain ⟨ao, ac, hva⟩ := ha.shape
  obtain ⟨bo, bc, hvb⟩ := hb.shape
  subst hva hvb
  have HLB := hid' lab
  obtain ⟨L, hL⟩ : ∃ L, A ++ B = L := ⟨_, rfl⟩
  obtain ⟨n, hn⟩ : ∃ n, L.length = n := ⟨_, rfl⟩
  have HN := hid' hn
  have hn2 : n ≤ 1048576 := by rw [← hn, ← hL, List.length_append]; omega
  have HSL : Hid (∀ f ∈ L, f.n.size ≤ 140737488355328 ∧ f.v.size ≤ 140737488355328) := hid' (fun f hf => by rw [← hL] at hf; rcases List.mem_append.1 hf with h | h; exact HSA.out f h; exact HSB.out f h)
  have HZL : Hid (Ms.size L = Ms.size A + Ms.size B) := hid' (by rw [← hL, Ms.size_app])
  have HAL : Hid (L.all Ms.okT = (A.all Ms.okT && B.all Ms.okT)) := hid' (by rw [← hL, List.all_append])
  have HL := hid' hL
  have HNA : Hid (A.length + B.length = n) := hid' (by rw [← hn, ← hL, List.length_append])
  clear hT sa sb ha hb hn
  go_enter Tryd.func4, Tryd.ntmps4
  go_wp2_with (at_builtin; refine wpl_appL rfl _ _ rfl w.heap.size (.slice none 0 0) 0 [] rfl (World.ownsRow_nil _ _ _ _) _ A rfl HFA.out (by have := HLB.out; omega) (Nat.le_refl _) ?_; intro v1 w1 hown1 hgrow1 _; refine Hid.out ?_)
  refine hid' ?_
  rw [Nat.zero_add, List.nil_append] at hown1
  have HO1 := hid' hown1
  have HB1 : Hid (Below w.heap.size w w1) := hid' (below_grown (v := .slice none 0 0) (n := 0) (xs := []) (Below.refl _ _) (Nat.le_refl _) (World.ownsRow_nil _ _ _ _) hgrow1)
  obtain ⟨v1o, v1c, hv1⟩ := own_shape hown1
  subst hv1
  clear hown1 hgrow1
  go_wp2_with (at_builtin; refine wpl_appL rfl _ _ rfl w.heap.size (.slice v1o A.length v1c) A.length (fC A) rfl HO1.out _ B rfl (HFB.out.keep HB1.out) (by have := HLB.out; omega) HB1.out.size ?_; intro v2 w2 hown2 hgrow2 _; refine Hid.out ?_)
  refine hid' ?_
  rw [HNA.out, ← fC_append, HL.out] at hown2
  have HO2 := hid' hown2
  have HB2 : Hid (Below w.heap.size w w2) := hid' (below_grown HB1.out HB1.out.size HO1.out hgrow2)
  obtain ⟨v2o, v2c, hv2⟩ := own_shape hown2
  subst hv2
  clear hown2 hgrow2 HO1 HB1 hL
  go_wp2
  go_loopw [6, 7] (fun s6 s7 wr => ∃ (k : Nat) (al : Bool), s7 = .int .i64 (k : Int) ∧ s6 = .bool al ∧ k ≤ n ∧ Hid ((L.take k).all Ms.okT = al) ∧ Hid (Below w2.heap.size w2 wr)) (fun _ s7 _ => n - (intOf s7).toNat)
  case atStart => exact ⟨0, true, rfl, rfl, Nat.zero_le _, hid' rfl, hid' (Below.refl _ _)⟩
  case round =>
    obtain ⟨k, al, rfl, rfl, hk, HAK, HB⟩ := hrel
    by_cases hlt : k < n
    · have hlt2 : (k : Int) < (n : Int) := by omega
      obtain ⟨p, hp⟩ : ∃ p, L[k]? = some p := ⟨_, List.getElem?_eq_getElem (by rw [HN.out]; exact hlt)⟩
      have HAD := hid' (Ms.all_drop hp)
      have HPS := hid' (HSL.out p (List.mem_of_getElem? hp))
      have HPP := hid' hp
      have hg : ∃ g, v2o = some ⟨g, 0, none⟩ ∧ n ≤ v2c := by
        rcases HO2.out.2 with ⟨_, h0⟩ | ⟨g, cap, cur, h1, _, _, h4, _⟩
        · omega
        · injection h1 with e1 _ e3
          exact ⟨g, e1, by rw [e3]; exact h4⟩
      obtain ⟨g, hg, hgc⟩ := hg
      subst hg
      have HOr : Hid (wr.ownsRow w.heap.size 28 2 (.slice (some ⟨g, 0, none⟩) n v2c) L.length (fC L)) := hid' (by rw [HN.out]; exact own_same HO2.out (fun j hj => HB.out.block j (own_lt HO2.out j hj)))
      have g1 : (k : Int) + 1 ≤ (v2c : Int) := by omega
      have g2 : (k : Int) ≤ (k : Int) + 1 := by omega
      cases al
      · have HAE : Hid ((L.take (k + 1)).all Ms.okT = false) := hid' (by rw [HAD.out, HAK.out]; rfl)
        go_wp2
        go_roundw
        case rel => exact ⟨k + 1, false, by go_num, rfl, by omega, HAE, HB⟩
        case measure => simp [intOf]; omega
      · obtain ⟨c, hc⟩ : ∃ c, Ms.trail [p] = c := ⟨_, rfl⟩
        have HAE : Hid ((L.take (k + 1)).all Ms.okT = (c == 0)) := hid' (by rw [HAD.out, HAK.out]; unfold Ms.okT; rw [hc]; rfl)
        have HTR : Hid (∀ q, 1 ≤ q → Calls Tryd.prog 11 #[.slice (some ⟨g, k * 2, none⟩) 1 q] wr fun e w' => e = .returned (.int .i64 c) ∧ Below wr.heap.size wr w') := hid' (fun q hq => ctrail14 _ [p] c hc wr (FW.one HOr.out k p HPP.out q hq) (by simp) (fun f hf => by have := List.mem_singleton.1 hf; rw [this]; exact HPS.out))
        clear hp hc
        go_wp2_with fail
        refine (HTR.out _ ?_).mono ?_
        · omega
        rintro e w5 ⟨rfl, hb5⟩
        have HB5 := hid' (below_two HB.out hb5)
        clear hb5
        go_wp2
        go_roundw
        case rel => exact ⟨k + 1, (c == 0), by go_num, rfl, by omega, HAE, HB5⟩
        case measure => simp [intOf]; omega
    · obtain rfl : k = n := by omega
      have hlt2 : ¬ (k : Int) < (k : Int) := by omega
      have HTK : Hid (L.all Ms.okT = al) := hid' (by rw [← HAK.out, List.take_of_length_le (by rw [HN.out]; exact Nat.le_refl _)])
      clear hlt
      have HBr := hid' (HB2.out.trans (HB.out.mono HB2.out.size))
      have HOr : Hid (wr.ownsRow w.heap.size 28 2 (.slice v2o k v2c) L.length (fC L)) := hid' (by rw [HN.out]; exact own_same HO2.out (fun j hj => HB.out.block j (own_lt HO2.out j hj)))
      have HFL := hid' (FW.of_own HOr.out)
      obtain ⟨ca, hca⟩ : ∃ ca, Ms.trail A = ca := ⟨_, rfl⟩
      obtain ⟨cb, hcb⟩ : ∃ cb, Ms.trail B = cb := ⟨_, rfl⟩
      obtain ⟨cl, hcl⟩ : ∃ cl, Ms.trail L = cl := ⟨_, rfl⟩
      have HCA := hid' hca
      have HCB := hid' hcb
      have HCL := hid' hcl
      have HEL : Hid ((cl == 0) = al) := hid' (by rw [← hcl, Ms.trail_all, HTK.out])
      have HEA : Hid (((ca == 0) && (cb == 0)) = al) := hid' (by rw [← hca, ← hcb, Ms.trail_all, Ms.trail_all, ← HAL.out, HTK.out])
      have HLN : Hid (L.length ≤ 1048576) := hid' (by rw [HN.out]; exact hn2)
      clear hca hcb hcl
      go_wp2_with fail
      refine (ctrail14 _ A ca HCA.out wr (HFA.out.keep HBr.out) (by have := HLB.out; omega) HSA.out).mono ?_
      rintro e w5 ⟨rfl, hb5⟩
      have HB5 := hid' (below_two HBr.out hb5)
      have HF5 := hid' (HFL.out.keep hb5)
      clear hb5 HBr HFL HOr
      obtain ⟨sl, hsl⟩ : ∃ sl, Ms.size L = sl := ⟨_, rfl⟩
      obtain ⟨sA, hsA⟩ : ∃ sA, Ms.size A = sA := ⟨_, rfl⟩
      obtain ⟨sB, hsB⟩ : ∃ sB, Ms.size B = sB := ⟨_, rfl⟩
      have hsz : sl = sA + sB := by rw [← hsl, ← hsA, ← hsB]; exact HZL.out
      have HSZ := hid' hsl
      have HSZA := hid' hsA
      have HSZB := hid' hsB
      rw [hsA] at za
      rw [hsB] at zb
      have q1 : ((sl : Int) == (sA : Int) + (sB : Int)) = true := by rw [beq_iff_eq]; omega
      have q2 : (sl : Int) = (sA : Int) + (sB : Int) := by omega
      clear hsl hsA hsB
      cases al
      · have ecl : (cl == 0) = false := HEL.out
        cases eca : (ca == 0)
        · go_wp2_with fail
          refine (ctrail14 _ L cl HCL.out w5 HF5.out HLN.out HSL.out).mono ?_
          rintro e w7 ⟨rfl, hb7⟩
          have HB7 := hid' (below_two HB5.out hb7)
          have HF7 := hid' (HF5.out.keep hb7)
          clear hb7
          go_wp2_with fail
          refine (csize14 _ L sl HSZ.out w7 HF7.out (by omega)).mono ?_
          rintro e w8 ⟨rfl, hb8⟩
          have HB8 := hid' (below_two HB7.out hb8)
          clear hb8
          go_wp2_with fail
          refine (csize14 _ A sA HSZA.out w8 (HFA.out.keep HB8.out) (by omega)).mono ?_
          rintro e w9 ⟨rfl, hb9⟩
          have HB9 := hid' (below_two HB8.out hb9)
          clear hb9
          go_wp2_with fail
          refine (csize14 _ B sB HSZB.out w9 (HFB.out.keep HB9.out) (by omega)).mono ?_
          rintro e w10 ⟨rfl, hb10⟩
          have HB10 := hid' (below_two HB9.out hb10)
          clear hb10
          go_wp2_with fail
          refine (awake14 w10 (HTB.out.keep HB10.out)).mono ?_
          rintro e w11 ⟨rfl, hb11⟩
          have HB11 := hid' (below_two HB10.out hb11)
          clear hb11
          go_wp2
          go_ret
          exact ⟨rfl, HB11.out⟩
        · have ecb : (cb == 0) = false := by have := HEA.out; rw [eca] at this; exact this
          go_wp2_with fail
          refine (ctrail14 _ B cb HCB.out w5 (HFB.out.keep HB5.out) (by have := HLB.out; omega) HSB.out).mono ?_
          rintro e w6 ⟨rfl, hb6⟩
          have HB6 := hid' (below_two HB5.out hb6)
          have HF6 := hid' (HF5.out.keep hb6)
          clear hb6
          go_wp2_with fail
          refine (ctrail14 _ L cl HCL.out w6 HF6.out HLN.out HSL.out).mono ?_
          rintro e w7 ⟨rfl, hb7⟩
          have HB7 := hid' (below_two HB6.out hb7)
          have HF7 := hid' (HF6.out.keep hb7)
          clear hb7
          go_wp2_with fail
          refine (csize14 _ L sl HSZ.out w7 HF7.out (by omega)).mono ?_
          rintro e w8 ⟨rfl, hb8⟩
          have HB8 := hid' (below_two HB7.out hb8)
          clear hb8
          go_wp2_with fail
          refine (csize14 _ A sA HSZA.out w8 (HFA.out.keep HB8.out) (by omega)).mono ?_
          rintro e w9 ⟨rfl, hb9⟩
          have HB9 := hid' (below_two HB8.out hb9)
          clear hb9
          go_wp2_with fail
          refine (csize14 _ B sB HSZB.out w9 (HFB.out.keep HB9.out) (by omega)).mono ?_
          rintro e w10 ⟨rfl, hb10⟩
          have HB10 := hid' (below_two HB9.out hb10)
          clear hb10
          go_wp2_with fail
          refine (awake14 w10 (HTB.out.keep HB10.out)).mono ?_
          rintro e w11 ⟨rfl, hb11⟩
          have HB11 := hid' (below_two HB10.out hb11)
          clear hb11
          go_wp2
          go_ret
          exact ⟨rfl, HB11.out⟩
      · have ecl : (cl == 0) = true := HEL.out
        have eca : (ca == 0) = true := by have := HEA.out; rw [Bool.and_eq_true] at this; exact this.1
        have ecb : (cb == 0) = true := by have := HEA.out; rw [Bool.and_eq_true] at this; exact this.2
        go_wp2_with fail
        refine (ctrail14 _ B cb HCB.out w5 (HFB.out.keep HB5.out) (by have := HLB.out; omega) HSB.out).mono ?_
        rintro e w6 ⟨rfl, hb6⟩
        have HB6 := hid' (below_two HB5.out hb6)
        have HF6 := hid' (HF5.out.keep hb6)
        clear hb6
        go_wp2_with fail
        refine (ctrail14 _ L cl HCL.out w6 HF6.out HLN.out HSL.out).mono ?_
        rintro e w7 ⟨rfl, hb7⟩
        have HB7 := hid' (below_two HB6.out hb7)
        have HF7 := hid' (HF6.out.keep hb7)
        clear hb7
        go_wp2_with fail
        refine (csize14 _ L sl HSZ.out w7 HF7.out (by omega)).mono ?_
        rintro e w8 ⟨rfl, hb8⟩
        have HB8 := hid' (below_two HB7.out hb8)
        clear hb8
        go_wp2_with fail
        refine (csize14 _ A sA HSZA.out w8 (HFA.out.keep HB8.out) (by omega)).mono ?_
        rintro e w9 ⟨rfl, hb9⟩
        have HB9 := hid' (below_two HB8.out hb9)
        clear hb9
        go_wp2_with fail
        refine (csize14 _ B sB HSZB.out w9 (HFB.out.keep HB9.out) (by omega)).mono ?_
        rintro e w10 ⟨rfl, hb10⟩
        have HB10 := hid' (below_two HB9.out hb10)
        clear hb10
        go_wp2_with fail
        refine (awake14 w10 (HTB.out.keep HB10.out)).mono ?_
        rintro e w11 ⟨rfl, hb11⟩
        have HB11 := hid' (below_two HB10.out hb11)
        clear hb11
        go_wp2
        go_ret
        exact ⟨rfl, HB11.out⟩

end Go.Proofs.YtcljepppdljnlabDoor
