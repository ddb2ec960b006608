/-
  The document's name, alike and Shape: by their contracts.
-/
import Derived.Test.YtfdjimjiikeciaaGreatDoorRtPl18
import Derived.Test.YtfdjimjiikeciaaGreatDoorPtAE18
import Derived.Deep.RegionHeld3
namespace Go.Proofs.YtfdjimjiikeciaaGreatDoor
open Go.RowKit

namespace Rt
def okAt (k : Nat) (c : UInt8) : Bool := isLow c || (!decide (k = 0) && isDg c)
theorem name_bad {l : T8} {k : Nat} {c : UInt8} (h : l[k]? = some c) (hc : okAt k c = false) : nameB l = false := by
  cases l with
  | nil => simp at h
  | cons a r =>
    unfold okAt at hc
    rw [Bool.or_eq_false_iff] at hc
    rw [nameB]
    cases k with
    | zero => simp at h; subst h; rw [hc.1]; rfl
    | succ k =>
      have hm : c ∈ r := List.mem_of_getElem? (by simpa using h)
      have h2 := hc.2
      rw [show decide (k + 1 = 0) = false by simp, Bool.not_false, Bool.true_and] at h2
      have : r.all (fun d => isLow d || isDg d) = false := by
        rw [Bool.eq_false_iff]
        intro ht
        have := List.all_eq_true.1 ht c hm
        rw [hc.1, h2] at this; cases this
      rw [this, Bool.and_false]
theorem name_all {l : T8} (h : ∀ k c, l[k]? = some c → okAt k c = true) : nameB l = !l.isEmpty := by
  cases l with
  | nil => rfl
  | cons a r =>
    rw [nameB]
    have h0 : isLow a = true := by
      have := h 0 a rfl
      unfold okAt at this
      simpa using this
    have h1 : r.all (fun d => isLow d || isDg d) = true := by
      rw [List.all_eq_true]
      intro d hd
      obtain ⟨k, hk, hkd⟩ := List.mem_iff_getElem.1 hd
      have := h (k + 1) d (by rw [List.getElem?_cons_succ, List.getElem?_eq_getElem hk, hkd])
      unfold okAt at this
      simpa using this
    rw [h0, h1]; rfl
theorem low_t {c : UInt8} (h1 : (97 : Int) ≤ (c.toNat : Int)) (h2 : (c.toNat : Int) ≤ 122) : isLow c = true := by
  unfold isLow; rw [decide_eq_true (show 97 ≤ c.toNat by omega), decide_eq_true (show c.toNat ≤ 122 by omega)]; rfl
theorem low_f {c : UInt8} (h : ¬ ((97 : Int) ≤ (c.toNat : Int) ∧ (c.toNat : Int) ≤ 122)) : isLow c = false := by
  unfold isLow
  cases hq : (decide (97 ≤ c.toNat) && decide (c.toNat ≤ 122))
  · rfl
  · rw [Bool.and_eq_true, decide_eq_true_iff, decide_eq_true_iff] at hq
    exact absurd ⟨by omega, by omega⟩ h
theorem dg_f {c : UInt8} (h : ¬ ((48 : Int) ≤ (c.toNat : Int) ∧ (c.toNat : Int) ≤ 57)) : isDg c = false := by
  unfold isDg
  cases hq : (decide (48 ≤ c.toNat) && decide (c.toNat ≤ 57))
  · rfl
  · rw [Bool.and_eq_true, decide_eq_true_iff, decide_eq_true_iff] at hq
    exact absurd ⟨by omega, by omega⟩ h
theorem dg_t {c : UInt8} (h1 : (48 : Int) ≤ (c.toNat : Int)) (h2 : (c.toNat : Int) ≤ 57) : isDg c = true := by
  unfold isDg; rw [decide_eq_true (show 48 ≤ c.toNat by omega), decide_eq_true (show c.toNat ≤ 57 by omega)]; rfl
end Rt

set_option maxHeartbeats 2000000 in
set_option maxRecDepth 20000 in
theorem rname18 (s : ByteArray) (l : List UInt8) (hl : s.data.toList = l) (w : World) (hs : s.size ≤ 4194304) :
    Calls Tryz.prog 57 #[.string s] w fun e w' => e = .returned (.bool (Rt.nameB l)) ∧ w' = w := by
  have HSZ : Hid (s.size = l.length) := hid' (by rw [Lib.size_eq, hl])
  have HGB : Hid (∀ k (h : k < s.size), l[k]? = some s[k]) := hid' (fun k h => by rw [← hl]; exact Tx.get_byte s k h)
  have hse : s.toList.isEmpty = l.isEmpty := by rw [Lib.toList_data, hl]
  have HSE := hid' hse
  clear hl hse
  go_enter Tryz.func57, Tryz.ntmps57
  go_wp2
  go_loopw [3] (fun s3 wr => ∃ k : Nat, s3 = .int .i64 (k : Int) ∧ k ≤ s.size ∧ Hid (∀ j c, l[j]? = some c → j < k → Rt.okAt j c = true) ∧ Hid (wr = w)) (fun s3 _ => s.size - (intOf s3).toNat)
  case atStart => exact ⟨0, rfl, Nat.zero_le _, hid' (fun j _ _ h => absurd h (Nat.not_lt_zero _)), hid' rfl⟩
  case round =>
    obtain ⟨k, rfl, hk, HV, HW⟩ := hrel
    obtain rfl := HW.out
    by_cases hlt : k < s.size
    · have hlt2 : (k : Int) < (s.size : Int) := by omega
      have HBD : Hid (Rt.okAt k s[k] = false → Rt.nameB l = false) := hid' (fun h => Rt.name_bad (HGB.out k hlt) h)
      have HGO : Hid (Rt.okAt k s[k] = true → ∀ j c, l[j]? = some c → j < k + 1 → Rt.okAt j c = true) := hid' (fun h j c hc hj => by
        by_cases hjk : j = k
        · subst hjk
          rw [HGB.out j hlt] at hc
          injection hc with hc
          rw [← hc]; exact h
        · exact HV.out j c hc (by omega))
      by_cases a1 : (97 : Int) ≤ (s[k].toNat : Int)
      · by_cases a2 : (s[k].toNat : Int) ≤ 122
        · have HN := hid' (HGO.out (by unfold Rt.okAt; rw [Rt.low_t a1 a2]; rfl))
          go_wp2
          go_roundw
          case rel => exact ⟨k + 1, by go_num, by omega, HN, hid' (by trivial)⟩
          case measure => simp [intOf]; omega
        · have HF := hid' (HBD.out (by unfold Rt.okAt; rw [Rt.low_f (by omega), Rt.dg_f (by omega), Bool.and_false]; rfl))
          have a3 : ¬ (s[k].toNat : Int) < 48 := by omega
          have a4 : (57 : Int) < (s[k].toNat : Int) := by omega
          cases k0 : ((k : Int) == 0)
          · go_wp2
            go_ret
            exact ⟨by rw [HF.out]; rfl, rfl⟩
          · go_wp2
            go_ret
            exact ⟨by rw [HF.out]; rfl, rfl⟩
      · cases k0 : ((k : Int) == 0)
        · have hk0 : ¬ k = 0 := by have := beq_eq_false_iff_ne.1 k0; omega
          by_cases a3 : (s[k].toNat : Int) < 48
          · have HF := hid' (HBD.out (by unfold Rt.okAt; rw [Rt.low_f (by omega), Rt.dg_f (by omega), Bool.and_false]; rfl))
            clear hk0
            go_wp2
            go_ret
            exact ⟨by rw [HF.out]; rfl, rfl⟩
          · by_cases a4 : (57 : Int) < (s[k].toNat : Int)
            · have HF := hid' (HBD.out (by unfold Rt.okAt; rw [Rt.low_f (by omega), Rt.dg_f (by omega), Bool.and_false]; rfl))
              clear hk0
              go_wp2
              go_ret
              exact ⟨by rw [HF.out]; rfl, rfl⟩
            · have HN := hid' (HGO.out (by unfold Rt.okAt; rw [Rt.dg_t (by omega) (by omega), decide_eq_false hk0]; simp))
              clear hk0
              go_wp2
              go_roundw
              case rel => exact ⟨k + 1, by go_num, by omega, HN, hid' (by trivial)⟩
              case measure => simp [intOf]; omega
        · have hk0 : k = 0 := by have := eq_of_beq k0; omega
          have HF := hid' (HBD.out (by unfold Rt.okAt; rw [Rt.low_f (by omega), decide_eq_true hk0]; rfl))
          clear hk0
          go_wp2
          go_ret
          exact ⟨by rw [HF.out]; rfl, rfl⟩
    · have hlt2 : ¬ (k : Int) < (s.size : Int) := by omega
      have HE : Hid (Rt.nameB l = !l.isEmpty) := hid' (Rt.name_all (fun j c hc => HV.out j c hc (by
        have := (List.getElem?_eq_some_iff.1 hc).1
        have := HSZ.out
        omega)))
      have hse := HSE.out
      clear hlt
      cases hle : l.isEmpty
      · rw [hle] at hse HE
        go_wp2
        go_ret
        exact ⟨by rw [HE.out]; rfl, rfl⟩
      · rw [hle] at hse HE
        go_wp2
        go_ret
        exact ⟨by rw [HE.out]; rfl, rfl⟩

/-- A part as cells. -/
def pV18 (p : Rt.Prt) : List Value := [.int .i64 (p.k : Int), .string ⟨p.t.toArray⟩]
def pC18 (l : List Rt.Prt) : List Value := l.flatMap pV18
theorem pC18_app (l m : List Rt.Prt) : pC18 (l ++ m) = pC18 l ++ pC18 m := by simp [pC18]
theorem pC18_length (l : List Rt.Prt) : (pC18 l).length = l.length * 2 := by
  induction l with
  | nil => rfl
  | cons a r ih => simp only [pC18, List.flatMap_cons, List.length_append, List.length_cons] at *; simp [pV18] at *; omega
theorem p_at18 (l : List Rt.Prt) (i : Nat) (p : Rt.Prt) (h : l[i]? = some p) : ∀ j, j < 2 → (pC18 l)[i * 2 + j]? = (pV18 p)[j]? := by
  induction l generalizing i with
  | nil => simp at h
  | cons a r ih =>
    intro j hj
    rw [show pC18 (a :: r) = pV18 a ++ pC18 r from rfl]
    cases i with
    | zero => simp at h; subst h; rw [List.getElem?_append_left (by simp [pV18]; omega)]; congr 1; omega
    | succ i =>
      rw [List.getElem?_append_right (by simp [pV18]; omega), show (i + 1) * 2 + j - (pV18 a).length = i * 2 + j by simp [pV18]; omega]
      exact ih i (by simpa using h) j hj
/-- A row of parts that can be read. -/
def PR18 (w : World) (ao : Option Addr) (ps : List Rt.Prt) : Prop := ∀ i p, ps[i]? = some p → ∃ g, ao = some ⟨g, 0, none⟩ ∧ g < w.heap.size ∧ w.cell? ⟨g, i * 2, none⟩ = some (.int .i64 (p.k : Int)) ∧ w.cell? ⟨g, i * 2 + 1, none⟩ = some (.string ⟨p.t.toArray⟩)
theorem PR18.below {w w' : World} {ao : Option Addr} {ps : List Rt.Prt} (h : PR18 w ao ps) (hb : Below w.heap.size w w') : PR18 w' ao ps := fun i p hp => by
  obtain ⟨g, h1, h2, h3, h4⟩ := h i p hp
  exact ⟨g, h1, Nat.lt_of_lt_of_le h2 hb.size, (hb.cell (p := ⟨g, i * 2, none⟩) h2).trans h3, (hb.cell (p := ⟨g, i * 2 + 1, none⟩) h2).trans h4⟩
theorem PR18.own {w : World} {B : Nat} {e : TypeId} {ao : Option Addr} {n m cap : Nat} {l : List Rt.Prt} (h : w.ownsRow B e 2 (.slice ao n cap) m (pC18 l)) : PR18 w ao l := fun i p hp => by
  have hlt : i * 2 < (pC18 l).length := by rw [pC18_length]; have := (List.getElem?_eq_some_iff.1 hp).1; omega
  rcases h.2 with ⟨_, h0⟩ | ⟨g, cap', cur, h1, h2⟩
  · rw [h.1, h0] at hlt; omega
  · injection h1 with h1 h3 h4
    subst h1
    have key : ∀ j u, j < 2 → (pV18 p)[j]? = some u → w.cell? ⟨g, i * 2 + j, none⟩ = some u := fun j u hj hu => by
      have := h.cells (g := g) rfl _ u ((p_at18 l i p hp j hj).trans hu)
      rwa [Addr.add_mid, Nat.zero_add] at this
    exact ⟨g, rfl, own_lt h g rfl, key 0 _ (by omega) rfl, key 1 _ (by omega) rfl⟩

set_option maxHeartbeats 1000000 in
theorem ralike18 (a b : Rt.Prt) (w : World) :
    Calls Tryz.prog 44 #[.agg #[.int .i64 (a.k : Int), .string ⟨a.t.toArray⟩], .agg #[.int .i64 (b.k : Int), .string ⟨b.t.toArray⟩]] w fun e w' => e = .returned (.bool (Rt.alike a b)) ∧ Below w.heap.size w w' := by
  obtain ⟨ak, at'⟩ := a
  obtain ⟨bk, bt⟩ := b
  have HE : Hid (Rt.alike ⟨ak, at'⟩ ⟨bk, bt⟩ = (ak == bk && (!(ak == 0) || at' == bt))) := hid' rfl
  obtain ⟨x, hx⟩ : ∃ x : ByteArray, (⟨at'.toArray⟩ : ByteArray) = x := ⟨_, rfl⟩
  obtain ⟨y, hy⟩ : ∃ x : ByteArray, (⟨bt.toArray⟩ : ByteArray) = x := ⟨_, rfl⟩
  have hxy : (x.toList == y.toList) = (at' == bt) := by rw [← hx, ← hy, Lib.toList_data, Lib.toList_data]
  have e1 : ((ak : Int) == (bk : Int)) = (ak == bk) := by rw [Bool.eq_iff_iff, beq_iff_eq, beq_iff_eq]; omega
  have e2 : ((ak : Int) != 0) = !(ak == 0) := by unfold bne; congr 1; rw [Bool.eq_iff_iff, beq_iff_eq, beq_iff_eq]; omega
  have HB := hid' (below_two (bl_alloc17 w (.cells #[.int .i64 (ak : Int), .string x] 49)) (bl_alloc17 _ (.cells #[.int .i64 (bk : Int), .string y] 49)))
  simp only
  rw [hx, hy]
  clear hx hy
  cases q1 : (ak == bk)
  · rw [q1] at e1 HE
    go_enter Tryz.func44, Tryz.ntmps44
    go_wp2
    go_ret
    exact ⟨by rw [HE.out]; rfl, HB.out⟩
  · rw [q1] at e1 HE
    cases q2 : (ak == 0)
    · rw [q2] at e2 HE
      have e2 : ((ak : Int) != 0) = true := e2
      go_enter Tryz.func44, Tryz.ntmps44
      go_wp2
      go_ret
      exact ⟨by rw [HE.out]; rfl, HB.out⟩
    · rw [q2] at e2 HE
      have e2 : ((ak : Int) != 0) = false := e2
      cases q3 : (at' == bt)
      · rw [q3] at hxy HE
        go_enter Tryz.func44, Tryz.ntmps44
        go_wp2
        go_ret
        exact ⟨by rw [HE.out]; rfl, HB.out⟩
      · rw [q3] at hxy HE
        go_enter Tryz.func44, Tryz.ntmps44
        go_wp2
        go_ret
        exact ⟨by rw [HE.out]; rfl, HB.out⟩

end Go.Proofs.YtfdjimjiikeciaaGreatDoor
