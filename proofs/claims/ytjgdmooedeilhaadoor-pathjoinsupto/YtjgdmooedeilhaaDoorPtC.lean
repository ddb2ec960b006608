/-
  The document's cut, Join and Parts: by their contracts.
-/
import Derived.Test.YtjgdmooedeilhaaDoorPtA
namespace Go.Proofs.YtjgdmooedeilhaaDoor
open Go.RowKit

def sC17 (l : List (List UInt8)) : List Value := l.map fun x => .string ⟨x.toArray⟩
theorem sC17_app (a b : List (List UInt8)) : sC17 (a ++ b) = sC17 a ++ sC17 b := by unfold sC17; rw [List.map_append]
theorem own_str17 {w : World} {B : Nat} {e : TypeId} {ao : Option Addr} {n m cap : Nat} {l : List (List UInt8)} (h : w.ownsRow B e 1 (.slice ao n cap) m (sC17 l)) (i : Nat) (p : List UInt8) (hp : l[i]? = some p) : ∃ g, ao = some ⟨g, 0, none⟩ ∧ w.cell? ⟨g, i, none⟩ = some (.string ⟨p.toArray⟩) := by
  have hx : (sC17 l)[i]? = some (.string ⟨p.toArray⟩) := by unfold sC17; rw [List.getElem?_map, hp]; rfl
  have hlt := (List.getElem?_eq_some_iff.1 hx).1
  rcases h.2 with ⟨_, h0⟩ | ⟨g, cap', cur, h1, h2⟩
  · rw [h.1, h0] at hlt; omega
  · injection h1 with h1 h3 h4
    subst h1
    have := h.cells (g := g) rfl i _ hx
    rw [Addr.add_mid, Nat.zero_add] at this
    exact ⟨g, rfl, this⟩
/-- A row of texts that can be read. -/
def SR17 (w : World) (ao : Option Addr) (l : List (List UInt8)) : Prop := ∀ i p, l[i]? = some p → ∃ g, ao = some ⟨g, 0, none⟩ ∧ g < w.heap.size ∧ w.cell? ⟨g, i, none⟩ = some (.string ⟨p.toArray⟩)
theorem SR17.own {w : World} {B : Nat} {e : TypeId} {ao : Option Addr} {n m cap : Nat} {l : List (List UInt8)} (h : w.ownsRow B e 1 (.slice ao n cap) m (sC17 l)) : SR17 w ao l := fun i p hp => by
  obtain ⟨g, rfl, h1⟩ := own_str17 h i p hp
  exact ⟨g, rfl, own_lt h g rfl, h1⟩
theorem SR17.below {w w' : World} {ao : Option Addr} {l : List (List UInt8)} (h : SR17 w ao l) (hb : Below w.heap.size w w') : SR17 w' ao l := fun i p hp => by
  obtain ⟨g, h1, h2, h3⟩ := h i p hp
  exact ⟨g, h1, Nat.lt_of_lt_of_le h2 hb.size, (hb.cell (p := ⟨g, i, none⟩) h2).trans h3⟩
namespace Pt
theorem take_c {l : T8} {f k : Nat} {c : UInt8} (hf : f ≤ k) (hc : l[k]? = some c) : (l.drop f).take (k + 1 - f) = (l.drop f).take (k - f) ++ [c] := by
  rw [show k + 1 - f = (k - f) + 1 by omega, List.take_add_one, List.getElem?_drop, show f + (k - f) = k by omega, hc]
  rfl
theorem cutS_len (l : T8) : (cutS [] l).length ≤ l.length + 1 := by
  have key : ∀ (r cur : T8), (cutS cur r).length ≤ r.length + 1 := by
    intro r
    induction r with
    | nil => intro cur; simp [cutS]
    | cons c r ih =>
      intro cur
      rw [cutS]
      split
      · have := ih []; simp; omega
      · have := ih (cur ++ [c]); simp; omega
  exact key l []
theorem cutS_size (l : T8) : ∀ p ∈ cutS [] l, p.length ≤ l.length := by
  have key : ∀ (r cur : T8), ∀ q ∈ cutS cur r, q.length ≤ cur.length + r.length := by
    intro r
    induction r with
    | nil => intro cur q hq; simp [cutS] at hq; subst hq; simp
    | cons c r ih =>
      intro cur q hq
      rw [cutS] at hq
      split at hq
      · rcases List.mem_cons.1 hq with rfl | hq
        · simp
        · have := ih [] q hq; simp at this ⊢; omega
      · have := ih _ q hq; simp at this ⊢; omega
  intro p hp
  have := key l [] p hp
  simpa using this
/-- All that is kept of a text, with its slashes, is no longer than it. -/
theorem cutS_sum (l : T8) : ((cutS [] l).map List.length).sum + (cutS [] l).length = l.length + 1 := by
  have key : ∀ (r cur : T8), ((cutS cur r).map List.length).sum + (cutS cur r).length = cur.length + r.length + 1 := by
    intro r
    induction r with
    | nil => intro cur; simp [cutS]
    | cons c r ih =>
      intro cur
      rw [cutS]
      split
      · have := ih []
        simp only [List.map_cons, List.sum_cons, List.length_cons] at *
        simp at this
        omega
      · have := ih (cur ++ [c])
        simp only [List.length_append, List.length_cons, List.length_nil] at *
        omega
  have := key l []
  simpa using this
theorem join_len : ∀ (k : List T8), (join k).length ≤ (k.map List.length).sum + k.length := by
  intro k
  induction k with
  | nil => simp [join]
  | cons p k ih =>
    cases k with
    | nil => simp [join]
    | cons q k =>
      rw [join]
      simp only [List.length_append, List.length_cons, List.map_cons, List.sum_cons] at *
      omega
theorem join_snoc : ∀ (k : List T8) (p : T8), k ≠ [] → join (k ++ [p]) = join k ++ 47 :: p := by
  intro k
  induction k with
  | nil => intro p h; exact absurd rfl h
  | cons a r ih =>
    intro p _
    cases r with
    | nil => rfl
    | cons b r =>
      have := ih p (by simp)
      rw [List.cons_append, List.cons_append, join, join, ← List.cons_append, this]
      simp
theorem join_take {k : List T8} {i : Nat} {p : T8} (h : k[i]? = some p) : join (k.take (i + 1)) = (if i = 0 then [] else join (k.take i) ++ [47]) ++ p := by
  rw [List.take_add_one, h]
  simp only [Option.toList_some]
  by_cases h0 : i = 0
  · rw [if_pos h0, h0]; rfl
  · rw [if_neg h0, join_snoc _ _ (fun e => ?_)]
    · simp
    · have h1 := (List.getElem?_eq_some_iff.1 h).1
      have h2 : (k.take i).length = 0 := by rw [e]; rfl
      rw [List.length_take] at h2
      omega
end Pt
theorem List.single_le_sum17 {l : List Nat} {a : Nat} (h : a ∈ l) : a ≤ l.sum := by
  induction l with
  | nil => simp at h
  | cons b r ih =>
    rcases List.mem_cons.1 h with rfl | h
    · simp
    · have := ih h; simp; omega
theorem u47 (s : ByteArray) (k : Nat) (h : k < s.size) : (s[k] == 47) = ((s[k].toNat : Int) == 47) := by
  rw [Bool.eq_iff_iff, beq_iff_eq, beq_iff_eq]
  constructor
  · intro e; rw [e]; rfl
  · intro e; apply UInt8.toNat_inj.1; simp; omega

set_option maxHeartbeats 1600000 in
set_option maxRecDepth 20000 in
theorem rcut17 (s : ByteArray) (l : List UInt8) (hl : s.data.toList = l) (w : World) (hs : s.size ≤ 4194304) :
    Calls Tryd.prog 20 #[.string s] w fun e w' => (∃ m ro rc, e = .returned (.slice ro m rc) ∧ (Pt.cutS [] l).length = m ∧ w'.ownsRow w.heap.size 9 1 (.slice ro m rc) m (sC17 (Pt.cutS [] l))) ∧ Below w.heap.size w w' := by
  obtain ⟨i0, hi0, hz0, hz1, hz2⟩ := minfo17 infoS17
  have HI := hid' hi0
  have HZ0 := hid' hz0
  have HZ1 := hid' hz1
  have HZ2 := hid' hz2
  clear hi0 hz0 hz1 hz2
  have HSZ : Hid (s.size = l.length) := hid' (by rw [Lib.size_eq, hl])
  have HGB : Hid (∀ k (h : k < s.size), l[k]? = some s[k]) := hid' (fun k h => by rw [← hl]; exact Tx.get_byte s k h)
  have HL := hid' hl
  clear hl
  go_enter Tryd.func20, Tryd.ntmps20
  go_wp2
  go_loopw [3, 4, 5] (fun s3 s4 s5 wr => ∃ (k f m : Nat) (ps : List Pt.T8) (ro : Option Addr) (rc : Nat), s5 = .int .i64 (k : Int) ∧ s4 = .int .i64 (f : Int) ∧ s3 = .slice ro m rc ∧ f ≤ k ∧ k ≤ s.size + 1 ∧ m ≤ k ∧ Hid (ps.length = m) ∧ Hid ((k ≤ s.size ∧ Pt.cutS [] l = ps ++ Pt.cutS ((l.drop f).take (k - f)) (l.drop k)) ∨ (k = s.size + 1 ∧ Pt.cutS [] l = ps)) ∧ Hid (wr.ownsRow w.heap.size 9 1 (.slice ro m rc) m (sC17 ps)) ∧ Hid (Below w.heap.size w wr)) (fun _ _ s5 _ => s.size + 1 - (intOf s5).toNat)
  case atStart => exact ⟨0, 0, 0, [], none, 0, rfl, rfl, rfl, Nat.le_refl _, Nat.zero_le _, Nat.le_refl _, hid' rfl, hid' (.inl ⟨Nat.zero_le _, by simp⟩), hid' (World.ownsRow_nil _ _ _ _), hid' (Below.refl _ _)⟩
  case round =>
    obtain ⟨k, f, m, ps, ro, rc, rfl, rfl, rfl, hf, hk, hm, HML, HC, HO, HB⟩ := hrel
    by_cases hle : k ≤ s.size
    · have hle2 : (k : Int) ≤ (s.size : Int) := by omega
      have HC1 : Hid (Pt.cutS [] l = ps ++ Pt.cutS ((l.drop f).take (k - f)) (l.drop k)) := hid' (by rcases HC.out with ⟨_, h⟩ | ⟨h, _⟩; exact h; omega)
      have hfk : (f : Int) ≤ (k : Int) := by omega
      obtain ⟨cu, hcu⟩ : ∃ cu, (l.drop f).take (k - f) = cu := ⟨_, rfl⟩
      have hex : s.extract f k = ⟨cu.toArray⟩ := by rw [ext_td17, HL.out, hcu]
      obtain ⟨y, hy⟩ : ∃ y : ByteArray, (⟨cu.toArray⟩ : ByteArray) = y := ⟨_, rfl⟩
      have HYS : Hid (sC17 [cu] = [.string y]) := hid' (by unfold sC17; rw [← hy]; rfl)
      rw [hy] at hex
      rw [hcu] at HC1
      have HCU := hid' hcu
      clear hcu hy HC
      by_cases hke : k = s.size
      · have hkE : ((k : Int) == (s.size : Int)) = true := by rw [beq_iff_eq]; omega
        have HKE := hid' hke
        clear hke
        have HCN : Hid ((k + 1 ≤ s.size ∧ Pt.cutS [] l = (ps ++ [cu]) ++ Pt.cutS ((l.drop (k + 1)).take (k + 1 - (k + 1))) (l.drop (k + 1))) ∨ (k + 1 = s.size + 1 ∧ Pt.cutS [] l = ps ++ [cu])) := hid' (.inr ⟨by have := HKE.out; omega, by rw [HC1.out, List.drop_eq_nil_of_le (by have := HSZ.out; have := HKE.out; omega), Pt.cutS]⟩)
        have HA : Hid ((wr.alloc (.cells #[.string y] 9)).ownsRow w.heap.size 9 1 (.slice ro m rc) m (sC17 ps)) := hid' (HO.out.alloc _)
        go_wp2_with (at_builtin; refine wpList_append_own_at _ rfl _ _ 25 rfl w.heap.size 9 i0 (.string ⟨#[]⟩) 1 16 Tryd.underlying25 HI.out HZ0.out HZ1.out HZ2.out rfl (by decide) (.slice ro m rc) m (sC17 ps) rfl HA.out ⟨wr.heap.size, 0, none⟩ 1 1 [.string y] rfl rfl (one_cell17 _ _ _) (by simp [Value.oneCell']) (by unfold maxLen; omega) (by omega) (by simp; have := HB.out.size; omega) ?_; intro v3 w3 hown3 hgrow3 _ _; refine Hid.out ?_)
        refine hid' ?_
        have e : sC17 ps ++ [Value.string y] = sC17 (ps ++ [cu]) := by rw [sC17_app, HYS.out]
        rw [e] at hown3
        obtain ⟨v3o, v3c, hv3⟩ := own_shape17 hown3
        subst hv3
        have HO3 := hid' hown3
        have HB3 : Hid (Below w.heap.size w w3) := hid' ((HB.out.alloc HB.out.size _).grown hgrow3 (by simp; have := HB.out.size; omega) (fun k hk => (HA.out.lt k hk).1))
        clear hown3 hgrow3 e
        go_wp2
        go_roundw
        case rel => exact ⟨k + 1, k + 1, m + 1, ps ++ [cu], v3o, v3c, by go_num, by go_num, rfl, Nat.le_refl _, by omega, by omega, hid' (by rw [List.length_append, HML.out]; rfl), HCN, HO3, HB3⟩
        case measure => simp [intOf]; omega
      · have hkE : ((k : Int) == (s.size : Int)) = false := by rw [beq_eq_false_iff_ne]; omega
        have hlt : k < s.size := by omega
        have hlt2 : (k : Int) < (s.size : Int) := by omega
        have hc := HGB.out k hlt
        cases h47 : ((s[k].toNat : Int) == 47)
        · have HCN : Hid ((k + 1 ≤ s.size ∧ Pt.cutS [] l = ps ++ Pt.cutS ((l.drop f).take (k + 1 - f)) (l.drop (k + 1))) ∨ (k + 1 = s.size + 1 ∧ Pt.cutS [] l = ps)) := hid' (.inl ⟨by omega, by
            rw [HC1.out, Pt.drop_c hc, Pt.take_c hf hc, HCU.out, Pt.cutS, if_neg (by rw [u47 s k hlt, h47]; decide)]⟩)
          clear hc hex
          go_wp2
          go_roundw
          case rel => exact ⟨k + 1, f, m, ps, ro, rc, by go_num, rfl, rfl, by omega, by omega, by omega, HML, HCN, HO, HB⟩
          case measure => simp [intOf]; omega
        · have hcc : s[k] = 47 := eq_of_beq ((u47 s k hlt).trans h47)
          rw [hcc] at hc
          have HDC := hid' (Pt.drop_c hc)
          clear hc hcc
          have HCN : Hid ((k + 1 ≤ s.size ∧ Pt.cutS [] l = (ps ++ [cu]) ++ Pt.cutS ((l.drop (k + 1)).take (k + 1 - (k + 1))) (l.drop (k + 1))) ∨ (k + 1 = s.size + 1 ∧ Pt.cutS [] l = ps ++ [cu])) := hid' (.inl ⟨by omega, by rw [HC1.out, HDC.out, Pt.cutS, if_pos (by decide)]; simp⟩)
          have HA : Hid ((wr.alloc (.cells #[.string y] 9)).ownsRow w.heap.size 9 1 (.slice ro m rc) m (sC17 ps)) := hid' (HO.out.alloc _)
          go_wp2_with (at_builtin; refine wpList_append_own_at _ rfl _ _ 25 rfl w.heap.size 9 i0 (.string ⟨#[]⟩) 1 16 Tryd.underlying25 HI.out HZ0.out HZ1.out HZ2.out rfl (by decide) (.slice ro m rc) m (sC17 ps) rfl HA.out ⟨wr.heap.size, 0, none⟩ 1 1 [.string y] rfl rfl (one_cell17 _ _ _) (by simp [Value.oneCell']) (by unfold maxLen; omega) (by omega) (by simp; have := HB.out.size; omega) ?_; intro v3 w3 hown3 hgrow3 _ _; refine Hid.out ?_)
          refine hid' ?_
          have e : sC17 ps ++ [Value.string y] = sC17 (ps ++ [cu]) := by rw [sC17_app, HYS.out]
          rw [e] at hown3
          obtain ⟨v3o, v3c, hv3⟩ := own_shape17 hown3
          subst hv3
          have HO3 := hid' hown3
          have HB3 : Hid (Below w.heap.size w w3) := hid' ((HB.out.alloc HB.out.size _).grown hgrow3 (by simp; have := HB.out.size; omega) (fun k hk => (HA.out.lt k hk).1))
          clear hown3 hgrow3 e
          go_wp2
          go_roundw
          case rel => exact ⟨k + 1, k + 1, m + 1, ps ++ [cu], v3o, v3c, by go_num, by go_num, rfl, Nat.le_refl _, by omega, by omega, hid' (by rw [List.length_append, HML.out]; rfl), HCN, HO3, HB3⟩
          case measure => simp [intOf]; omega
    · obtain rfl : k = s.size + 1 := by omega
      have hle2 : ¬ ((s.size + 1 : Nat) : Int) ≤ (s.size : Int) := by omega
      have HE : Hid (Pt.cutS [] l = ps) := hid' (by rcases HC.out with ⟨h, _⟩ | ⟨_, h⟩; omega; exact h)
      clear hle
      go_wp2
      go_ret
      exact ⟨⟨m, ro, rc, rfl, by rw [HE.out]; exact HML.out, by rw [HE.out]; exact HO.out⟩, HB.out⟩

set_option maxHeartbeats 1600000 in
theorem rjoin17 (ao : Option Addr) (n cap : Nat) (k : List (List UInt8)) (hn : k.length = n) (w : World) (h : SR17 w ao k) (hnb : n ≤ 4194305) (hsz : (k.map List.length).sum + k.length ≤ 16777216) :
    Calls Tryd.prog 21 #[.slice ao n cap] w fun e w' => e = .returned (.string ⟨(Pt.join k).toArray⟩) ∧ w' = w := by
  have HS := hid' h
  have HN := hid' hn
  have HSZ := hid' hsz
  have HJL : Hid (∀ i, (Pt.join (k.take i)).length ≤ 16777216) := hid' (fun i => by
    have h1 := Pt.join_len (k.take i)
    have h2 : ((k.take i).map List.length).sum ≤ (k.map List.length).sum := by
      conv => rhs; rw [← List.take_append_drop i k, List.map_append, List.sum_append]
      omega
    have h3 : (k.take i).length ≤ k.length := by rw [List.length_take]; omega
    omega)
  have HPL : Hid (∀ p ∈ k, p.length ≤ 16777216) := hid' (fun p hp => by
    have := List.single_le_sum17 (List.mem_map_of_mem (f := List.length) hp)
    omega)
  clear h hn hsz
  go_enter Tryd.func21, Tryd.ntmps21
  go_wp2
  go_loopw [3, 4] (fun s3 s4 wr => ∃ (i : Nat) (Z : List UInt8), s4 = .int .i64 (i : Int) ∧ s3 = .string ⟨Z.toArray⟩ ∧ i ≤ n ∧ Hid (Pt.join (k.take i) = Z) ∧ wr = w) (fun _ s4 _ => n - (intOf s4).toNat)
  case atStart => exact ⟨0, [], rfl, rfl, Nat.zero_le _, hid' rfl, rfl⟩
  case round =>
    obtain ⟨i, Z, rfl, rfl, hi, HZ, hwr⟩ := hrel
    subst hwr
    have hZb : Z.length ≤ 16777216 := by rw [← HZ.out]; exact HJL.out i
    by_cases hlt : i < n
    · have hlt2 : (i : Int) < (n : Int) := by omega
      obtain ⟨p, hp⟩ : ∃ p, k[i]? = some p := ⟨_, List.getElem?_eq_getElem (by rw [HN.out]; exact hlt)⟩
      obtain ⟨g, rfl, _, y0⟩ := HS.out i p hp
      have hpb : p.length ≤ 16777216 := HPL.out p (List.mem_of_getElem? hp)
      have HJT := hid' (Pt.join_take hp)
      clear hp
      by_cases h0 : i = 0
      · have h0I : ¬ (0 : Int) < (i : Int) := by omega
        have HZ0 : Hid (Z = []) := hid' (by rw [← HZ.out, h0]; rfl)
        rw [if_pos h0] at HJT
        have k1 : ¬ 9223372036854775807 < Z.length + p.length := by omega
        clear h0
        go_wp2
        go_roundw
        case rel => exact ⟨i + 1, p, by go_num, by rw [HZ0.out]; first | rfl | (congr 1; apply ByteArray.ext; simp), by omega, hid' (by rw [HJT.out]; rfl), by trivial⟩
        case measure => simp [intOf]; omega
      · have h0I : (0 : Int) < (i : Int) := by omega
        rw [if_neg h0, HZ.out] at HJT
        have k1 : ¬ 9223372036854775807 < Z.length + 1 := by omega
        have k2 : ¬ 9223372036854775807 < Z.length + 1 + p.length := by omega
        clear h0
        go_wp2
        go_roundw
        case rel => exact ⟨i + 1, Z ++ [47] ++ p, by go_num, by first | rfl | (congr 1; apply ByteArray.ext; simp), by omega, HJT, by trivial⟩
        case measure => simp [intOf]; omega
    · have hlt2 : ¬ (i : Int) < (n : Int) := by omega
      have HE : Hid (Pt.join k = Z) := hid' (by rw [← HZ.out, List.take_of_length_le (by rw [HN.out]; omega)])
      clear hlt
      go_wp2
      go_ret
      exact ⟨by rw [HE.out]; rfl, rfl⟩

end Go.Proofs.YtjgdmooedeilhaaDoor
