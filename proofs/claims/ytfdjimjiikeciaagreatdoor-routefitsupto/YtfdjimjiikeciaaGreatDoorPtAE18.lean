/-
  The document's undo: by its contract.
  The document's cut, Join and Parts: by their contracts.
  The document's Parts and Clean: by their contracts.
  The document's Clean: by its contract.
-/
import Derived.Test.YtfdjimjiikeciaaGreatDoorPtA
namespace Go.Proofs.YtfdjimjiikeciaaGreatDoor
open Go.RowKit

def udV17 : Option (List UInt8) → Value
  | some t => .tuple #[.string ⟨t.toArray⟩, .bool true]
  | none => .tuple #[.string ⟨#[]⟩, .bool false]

end Go.Proofs.YtfdjimjiikeciaaGreatDoor

namespace Go.Proofs.YtfdjimjiikeciaaGreatDoor
open Go.RowKit

def sC17 (l : List (List UInt8)) : List Value := l.map fun x => .string ⟨x.toArray⟩
theorem sC17_app (a b : List (List UInt8)) : sC17 (a ++ b) = sC17 a ++ sC17 b := by unfold sC17; rw [List.map_append]
theorem own_str17 {w : World} {B : Nat} {e : TypeId} {ao : Option Addr} {n m cap : Nat} {l : List (List UInt8)} (h : w.ownsRow B e 1 (.slice ao n cap) m (sC17 l)) (i : Nat) (p : List UInt8) (hp : l[i]? = some p) : ∃ g, ao = some ⟨g, 0, none⟩ ∧ w.cell? ⟨g, i, none⟩ = some (.string ⟨p.toArray⟩) := by
  have hx : (sC17 l)[i]? = some (.string ⟨p.toArray⟩) := by unfold sC17; rw [List.getElem?_map, hp]; rfl
  have hlt := (List.getElem?_eq_some_iff.1 hx).1
  rcases h.2 with ⟨_, h0⟩ | ⟨g, cap', cur, h1, h2⟩
  · rw [h.1, h0] at hlt; omega
  · injection h1 with h1 h3 h4
    subst h1
    have := h.cells (g := g) rfl i _ hx
    rw [Addr.add_mid, Nat.zero_add] at this
    exact ⟨g, rfl, this⟩
/-- A row of texts that can be read. -/
def SR17 (w : World) (ao : Option Addr) (l : List (List UInt8)) : Prop := ∀ i p, l[i]? = some p → ∃ g, ao = some ⟨g, 0, none⟩ ∧ g < w.heap.size ∧ w.cell? ⟨g, i, none⟩ = some (.string ⟨p.toArray⟩)
theorem SR17.own {w : World} {B : Nat} {e : TypeId} {ao : Option Addr} {n m cap : Nat} {l : List (List UInt8)} (h : w.ownsRow B e 1 (.slice ao n cap) m (sC17 l)) : SR17 w ao l := fun i p hp => by
  obtain ⟨g, rfl, h1⟩ := own_str17 h i p hp
  exact ⟨g, rfl, own_lt h g rfl, h1⟩
theorem SR17.below {w w' : World} {ao : Option Addr} {l : List (List UInt8)} (h : SR17 w ao l) (hb : Below w.heap.size w w') : SR17 w' ao l := fun i p hp => by
  obtain ⟨g, h1, h2, h3⟩ := h i p hp
  exact ⟨g, h1, Nat.lt_of_lt_of_le h2 hb.size, (hb.cell (p := ⟨g, i, none⟩) h2).trans h3⟩
namespace Pt
theorem take_c {l : T8} {f k : Nat} {c : UInt8} (hf : f ≤ k) (hc : l[k]? = some c) : (l.drop f).take (k + 1 - f) = (l.drop f).take (k - f) ++ [c] := by
  rw [show k + 1 - f = (k - f) + 1 by omega, List.take_add_one, List.getElem?_drop, show f + (k - f) = k by omega, hc]
  rfl
theorem cutS_len (l : T8) : (cutS [] l).length ≤ l.length + 1 := by
  have key : ∀ (r cur : T8), (cutS cur r).length ≤ r.length + 1 := by
    intro r
    induction r with
    | nil => intro cur; simp [cutS]
    | cons c r ih =>
      intro cur
      rw [cutS]
      split
      · have := ih []; simp; omega
      · have := ih (cur ++ [c]); simp; omega
  exact key l []
theorem cutS_size (l : T8) : ∀ p ∈ cutS [] l, p.length ≤ l.length := by
  have key : ∀ (r cur : T8), ∀ q ∈ cutS cur r, q.length ≤ cur.length + r.length := by
    intro r
    induction r with
    | nil => intro cur q hq; simp [cutS] at hq; subst hq; simp
    | cons c r ih =>
      intro cur q hq
      rw [cutS] at hq
      split at hq
      · rcases List.mem_cons.1 hq with rfl | hq
        · simp
        · have := ih [] q hq; simp at this ⊢; omega
      · have := ih _ q hq; simp at this ⊢; omega
  intro p hp
  have := key l [] p hp
  simpa using this
/-- All that is kept of a text, with its slashes, is no longer than it. -/
theorem cutS_sum (l : T8) : ((cutS [] l).map List.length).sum + (cutS [] l).length = l.length + 1 := by
  have key : ∀ (r cur : T8), ((cutS cur r).map List.length).sum + (cutS cur r).length = cur.length + r.length + 1 := by
    intro r
    induction r with
    | nil => intro cur; simp [cutS]
    | cons c r ih =>
      intro cur
      rw [cutS]
      split
      · have := ih []
        simp only [List.map_cons, List.sum_cons, List.length_cons] at *
        simp at this
        omega
      · have := ih (cur ++ [c])
        simp only [List.length_append, List.length_cons, List.length_nil] at *
        omega
  have := key l []
  simpa using this
theorem join_len : ∀ (k : List T8), (join k).length ≤ (k.map List.length).sum + k.length := by
  intro k
  induction k with
  | nil => simp [join]
  | cons p k ih =>
    cases k with
    | nil => simp [join]
    | cons q k =>
      rw [join]
      simp only [List.length_append, List.length_cons, List.map_cons, List.sum_cons] at *
      omega
theorem join_snoc : ∀ (k : List T8) (p : T8), k ≠ [] → join (k ++ [p]) = join k ++ 47 :: p := by
  intro k
  induction k with
  | nil => intro p h; exact absurd rfl h
  | cons a r ih =>
    intro p _
    cases r with
    | nil => rfl
    | cons b r =>
      have := ih p (by simp)
      rw [List.cons_append, List.cons_append, join, join, ← List.cons_append, this]
      simp
theorem join_take {k : List T8} {i : Nat} {p : T8} (h : k[i]? = some p) : join (k.take (i + 1)) = (if i = 0 then [] else join (k.take i) ++ [47]) ++ p := by
  rw [List.take_add_one, h]
  simp only [Option.toList_some]
  by_cases h0 : i = 0
  · rw [if_pos h0, h0]; rfl
  · rw [if_neg h0, join_snoc _ _ (fun e => ?_)]
    · simp
    · have h1 := (List.getElem?_eq_some_iff.1 h).1
      have h2 : (k.take i).length = 0 := by rw [e]; rfl
      rw [List.length_take] at h2
      omega
end Pt
theorem List.single_le_sum17 {l : List Nat} {a : Nat} (h : a ∈ l) : a ≤ l.sum := by
  induction l with
  | nil => simp at h
  | cons b r ih =>
    rcases List.mem_cons.1 h with rfl | h
    · simp
    · have := ih h; simp; omega
theorem u47 (s : ByteArray) (k : Nat) (h : k < s.size) : (s[k] == 47) = ((s[k].toNat : Int) == 47) := by
  rw [Bool.eq_iff_iff, beq_iff_eq, beq_iff_eq]
  constructor
  · intro e; rw [e]; rfl
  · intro e; apply UInt8.toNat_inj.1; simp; omega

set_option maxHeartbeats 1600000 in
set_option maxRecDepth 20000 in
theorem rcut17 (s : ByteArray) (l : List UInt8) (hl : s.data.toList = l) (w : World) (hs : s.size ≤ 4194304) :
    Calls Tryz.prog 35 #[.string s] w fun e w' => (∃ m ro rc, e = .returned (.slice ro m rc) ∧ (Pt.cutS [] l).length = m ∧ w'.ownsRow w.heap.size 9 1 (.slice ro m rc) m (sC17 (Pt.cutS [] l))) ∧ Below w.heap.size w w' := by
  obtain ⟨i0, hi0, hz0, hz1, hz2⟩ := minfo17 infoS17
  have HI := hid' hi0
  have HZ0 := hid' hz0
  have HZ1 := hid' hz1
  have HZ2 := hid' hz2
  clear hi0 hz0 hz1 hz2
  have HSZ : Hid (s.size = l.length) := hid' (by rw [Lib.size_eq, hl])
  have HGB : Hid (∀ k (h : k < s.size), l[k]? = some s[k]) := hid' (fun k h => by rw [← hl]; exact Tx.get_byte s k h)
  have HL := hid' hl
  clear hl
  go_enter Tryz.func35, Tryz.ntmps35
  go_wp2
  go_loopw [3, 4, 5] (fun s3 s4 s5 wr => ∃ (k f m : Nat) (ps : List Pt.T8) (ro : Option Addr) (rc : Nat), s5 = .int .i64 (k : Int) ∧ s4 = .int .i64 (f : Int) ∧ s3 = .slice ro m rc ∧ f ≤ k ∧ k ≤ s.size + 1 ∧ m ≤ k ∧ Hid (ps.length = m) ∧ Hid ((k ≤ s.size ∧ Pt.cutS [] l = ps ++ Pt.cutS ((l.drop f).take (k - f)) (l.drop k)) ∨ (k = s.size + 1 ∧ Pt.cutS [] l = ps)) ∧ Hid (wr.ownsRow w.heap.size 9 1 (.slice ro m rc) m (sC17 ps)) ∧ Hid (Below w.heap.size w wr)) (fun _ _ s5 _ => s.size + 1 - (intOf s5).toNat)
  case atStart => exact ⟨0, 0, 0, [], none, 0, rfl, rfl, rfl, Nat.le_refl _, Nat.zero_le _, Nat.le_refl _, hid' rfl, hid' (.inl ⟨Nat.zero_le _, by simp⟩), hid' (World.ownsRow_nil _ _ _ _), hid' (Below.refl _ _)⟩
  case round =>
    obtain ⟨k, f, m, ps, ro, rc, rfl, rfl, rfl, hf, hk, hm, HML, HC, HO, HB⟩ := hrel
    by_cases hle : k ≤ s.size
    · have hle2 : (k : Int) ≤ (s.size : Int) := by omega
      have HC1 : Hid (Pt.cutS [] l = ps ++ Pt.cutS ((l.drop f).take (k - f)) (l.drop k)) := hid' (by rcases HC.out with ⟨_, h⟩ | ⟨h, _⟩; exact h; omega)
      have hfk : (f : Int) ≤ (k : Int) := by omega
      obtain ⟨cu, hcu⟩ : ∃ cu, (l.drop f).take (k - f) = cu := ⟨_, rfl⟩
      have hex : s.extract f k = ⟨cu.toArray⟩ := by rw [ext_td17, HL.out, hcu]
      obtain ⟨y, hy⟩ : ∃ y : ByteArray, (⟨cu.toArray⟩ : ByteArray) = y := ⟨_, rfl⟩
      have HYS : Hid (sC17 [cu] = [.string y]) := hid' (by unfold sC17; rw [← hy]; rfl)
      rw [hy] at hex
      rw [hcu] at HC1
      have HCU := hid' hcu
      clear hcu hy HC
      by_cases hke : k = s.size
      · have hkE : ((k : Int) == (s.size : Int)) = true := by rw [beq_iff_eq]; omega
        have HKE := hid' hke
        clear hke
        have HCN : Hid ((k + 1 ≤ s.size ∧ Pt.cutS [] l = (ps ++ [cu]) ++ Pt.cutS ((l.drop (k + 1)).take (k + 1 - (k + 1))) (l.drop (k + 1))) ∨ (k + 1 = s.size + 1 ∧ Pt.cutS [] l = ps ++ [cu])) := hid' (.inr ⟨by have := HKE.out; omega, by rw [HC1.out, List.drop_eq_nil_of_le (by have := HSZ.out; have := HKE.out; omega), Pt.cutS]⟩)
        have HA : Hid ((wr.alloc (.cells #[.string y] 9)).ownsRow w.heap.size 9 1 (.slice ro m rc) m (sC17 ps)) := hid' (HO.out.alloc _)
        go_wp2_with (at_builtin; refine wpList_append_own_at _ rfl _ _ 47 rfl w.heap.size 9 i0 (.string ⟨#[]⟩) 1 16 Tryz.underlying47 HI.out HZ0.out HZ1.out HZ2.out rfl (by decide) (.slice ro m rc) m (sC17 ps) rfl HA.out ⟨wr.heap.size, 0, none⟩ 1 1 [.string y] rfl rfl (one_cell17 _ _ _) (by simp [Value.oneCell']) (by unfold maxLen; omega) (by omega) (by simp; have := HB.out.size; omega) ?_; intro v3 w3 hown3 hgrow3 _ _; refine Hid.out ?_)
        refine hid' ?_
        have e : sC17 ps ++ [Value.string y] = sC17 (ps ++ [cu]) := by rw [sC17_app, HYS.out]
        rw [e] at hown3
        obtain ⟨v3o, v3c, hv3⟩ := own_shape17 hown3
        subst hv3
        have HO3 := hid' hown3
        have HB3 : Hid (Below w.heap.size w w3) := hid' ((HB.out.alloc HB.out.size _).grown hgrow3 (by simp; have := HB.out.size; omega) (fun k hk => (HA.out.lt k hk).1))
        clear hown3 hgrow3 e
        go_wp2
        go_roundw
        case rel => exact ⟨k + 1, k + 1, m + 1, ps ++ [cu], v3o, v3c, by go_num, by go_num, rfl, Nat.le_refl _, by omega, by omega, hid' (by rw [List.length_append, HML.out]; rfl), HCN, HO3, HB3⟩
        case measure => simp [intOf]; omega
      · have hkE : ((k : Int) == (s.size : Int)) = false := by rw [beq_eq_false_iff_ne]; omega
        have hlt : k < s.size := by omega
        have hlt2 : (k : Int) < (s.size : Int) := by omega
        have hc := HGB.out k hlt
        cases h47 : ((s[k].toNat : Int) == 47)
        · have HCN : Hid ((k + 1 ≤ s.size ∧ Pt.cutS [] l = ps ++ Pt.cutS ((l.drop f).take (k + 1 - f)) (l.drop (k + 1))) ∨ (k + 1 = s.size + 1 ∧ Pt.cutS [] l = ps)) := hid' (.inl ⟨by omega, by
            rw [HC1.out, Pt.drop_c hc, Pt.take_c hf hc, HCU.out, Pt.cutS, if_neg (by rw [u47 s k hlt, h47]; decide)]⟩)
          clear hc hex
          go_wp2
          go_roundw
          case rel => exact ⟨k + 1, f, m, ps, ro, rc, by go_num, rfl, rfl, by omega, by omega, by omega, HML, HCN, HO, HB⟩
          case measure => simp [intOf]; omega
        · have hcc : s[k] = 47 := eq_of_beq ((u47 s k hlt).trans h47)
          rw [hcc] at hc
          have HDC := hid' (Pt.drop_c hc)
          clear hc hcc
          have HCN : Hid ((k + 1 ≤ s.size ∧ Pt.cutS [] l = (ps ++ [cu]) ++ Pt.cutS ((l.drop (k + 1)).take (k + 1 - (k + 1))) (l.drop (k + 1))) ∨ (k + 1 = s.size + 1 ∧ Pt.cutS [] l = ps ++ [cu])) := hid' (.inl ⟨by omega, by rw [HC1.out, HDC.out, Pt.cutS, if_pos (by decide)]; simp⟩)
          have HA : Hid ((wr.alloc (.cells #[.string y] 9)).ownsRow w.heap.size 9 1 (.slice ro m rc) m (sC17 ps)) := hid' (HO.out.alloc _)
          go_wp2_with (at_builtin; refine wpList_append_own_at _ rfl _ _ 47 rfl w.heap.size 9 i0 (.string ⟨#[]⟩) 1 16 Tryz.underlying47 HI.out HZ0.out HZ1.out HZ2.out rfl (by decide) (.slice ro m rc) m (sC17 ps) rfl HA.out ⟨wr.heap.size, 0, none⟩ 1 1 [.string y] rfl rfl (one_cell17 _ _ _) (by simp [Value.oneCell']) (by unfold maxLen; omega) (by omega) (by simp; have := HB.out.size; omega) ?_; intro v3 w3 hown3 hgrow3 _ _; refine Hid.out ?_)
          refine hid' ?_
          have e : sC17 ps ++ [Value.string y] = sC17 (ps ++ [cu]) := by rw [sC17_app, HYS.out]
          rw [e] at hown3
          obtain ⟨v3o, v3c, hv3⟩ := own_shape17 hown3
          subst hv3
          have HO3 := hid' hown3
          have HB3 : Hid (Below w.heap.size w w3) := hid' ((HB.out.alloc HB.out.size _).grown hgrow3 (by simp; have := HB.out.size; omega) (fun k hk => (HA.out.lt k hk).1))
          clear hown3 hgrow3 e
          go_wp2
          go_roundw
          case rel => exact ⟨k + 1, k + 1, m + 1, ps ++ [cu], v3o, v3c, by go_num, by go_num, rfl, Nat.le_refl _, by omega, by omega, hid' (by rw [List.length_append, HML.out]; rfl), HCN, HO3, HB3⟩
          case measure => simp [intOf]; omega
    · obtain rfl : k = s.size + 1 := by omega
      have hle2 : ¬ ((s.size + 1 : Nat) : Int) ≤ (s.size : Int) := by omega
      have HE : Hid (Pt.cutS [] l = ps) := hid' (by rcases HC.out with ⟨h, _⟩ | ⟨_, h⟩; omega; exact h)
      clear hle
      go_wp2
      go_ret
      exact ⟨⟨m, ro, rc, rfl, by rw [HE.out]; exact HML.out, by rw [HE.out]; exact HO.out⟩, HB.out⟩

set_option maxHeartbeats 1600000 in
theorem rjoin17 (ao : Option Addr) (n cap : Nat) (k : List (List UInt8)) (hn : k.length = n) (w : World) (h : SR17 w ao k) (hnb : n ≤ 4194305) (hsz : (k.map List.length).sum + k.length ≤ 16777216) :
    Calls Tryz.prog 16 #[.slice ao n cap] w fun e w' => e = .returned (.string ⟨(Pt.join k).toArray⟩) ∧ w' = w := by
  have HS := hid' h
  have HN := hid' hn
  have HSZ := hid' hsz
  have HJL : Hid (∀ i, (Pt.join (k.take i)).length ≤ 16777216) := hid' (fun i => by
    have h1 := Pt.join_len (k.take i)
    have h2 : ((k.take i).map List.length).sum ≤ (k.map List.length).sum := by
      conv => rhs; rw [← List.take_append_drop i k, List.map_append, List.sum_append]
      omega
    have h3 : (k.take i).length ≤ k.length := by rw [List.length_take]; omega
    omega)
  have HPL : Hid (∀ p ∈ k, p.length ≤ 16777216) := hid' (fun p hp => by
    have := List.single_le_sum17 (List.mem_map_of_mem (f := List.length) hp)
    omega)
  clear h hn hsz
  go_enter Tryz.func16, Tryz.ntmps16
  go_wp2
  go_loopw [3, 4] (fun s3 s4 wr => ∃ (i : Nat) (Z : List UInt8), s4 = .int .i64 (i : Int) ∧ s3 = .string ⟨Z.toArray⟩ ∧ i ≤ n ∧ Hid (Pt.join (k.take i) = Z) ∧ wr = w) (fun _ s4 _ => n - (intOf s4).toNat)
  case atStart => exact ⟨0, [], rfl, rfl, Nat.zero_le _, hid' rfl, rfl⟩
  case round =>
    obtain ⟨i, Z, rfl, rfl, hi, HZ, hwr⟩ := hrel
    subst hwr
    have hZb : Z.length ≤ 16777216 := by rw [← HZ.out]; exact HJL.out i
    by_cases hlt : i < n
    · have hlt2 : (i : Int) < (n : Int) := by omega
      obtain ⟨p, hp⟩ : ∃ p, k[i]? = some p := ⟨_, List.getElem?_eq_getElem (by rw [HN.out]; exact hlt)⟩
      obtain ⟨g, rfl, _, y0⟩ := HS.out i p hp
      have hpb : p.length ≤ 16777216 := HPL.out p (List.mem_of_getElem? hp)
      have HJT := hid' (Pt.join_take hp)
      clear hp
      by_cases h0 : i = 0
      · have h0I : ¬ (0 : Int) < (i : Int) := by omega
        have HZ0 : Hid (Z = []) := hid' (by rw [← HZ.out, h0]; rfl)
        rw [if_pos h0] at HJT
        have k1 : ¬ 9223372036854775807 < Z.length + p.length := by omega
        clear h0
        go_wp2
        go_roundw
        case rel => exact ⟨i + 1, p, by go_num, by rw [HZ0.out]; first | rfl | (congr 1; apply ByteArray.ext; simp), by omega, hid' (by rw [HJT.out]; rfl), by trivial⟩
        case measure => simp [intOf]; omega
      · have h0I : (0 : Int) < (i : Int) := by omega
        rw [if_neg h0, HZ.out] at HJT
        have k1 : ¬ 9223372036854775807 < Z.length + 1 := by omega
        have k2 : ¬ 9223372036854775807 < Z.length + 1 + p.length := by omega
        clear h0
        go_wp2
        go_roundw
        case rel => exact ⟨i + 1, Z ++ [47] ++ p, by go_num, by first | rfl | (congr 1; apply ByteArray.ext; simp), by omega, HJT, by trivial⟩
        case measure => simp [intOf]; omega
    · have hlt2 : ¬ (i : Int) < (n : Int) := by omega
      have HE : Hid (Pt.join k = Z) := hid' (by rw [← HZ.out, List.take_of_length_le (by rw [HN.out]; omega)])
      clear hlt
      go_wp2
      go_ret
      exact ⟨by rw [HE.out]; rfl, rfl⟩

end Go.Proofs.YtfdjimjiikeciaaGreatDoor

namespace Go.Proofs.YtfdjimjiikeciaaGreatDoor
open Go.RowKit

theorem own_base17 {w : World} {B B' : Nat} {e : TypeId} {s : Nat} {v : Value} {n : Nat} {xs : List Value} (h : w.ownsRow B e s v n xs) (hB : B' ≤ B) : w.ownsRow B' e s v n xs := by
  refine ⟨h.1, ?_⟩
  rcases h.2 with h1 | ⟨g, cap, cur, h1, h2, h3⟩
  · exact .inl h1
  · exact .inr ⟨g, cap, cur, h1, Nat.le_trans hB h2, h3⟩
/-- A row without its last text. -/
theorem own_cut17 {w : World} {B : Nat} {e : TypeId} {ao : Option Addr} {n cap : Nat} {l : List (List UInt8)} (h : w.ownsRow B e 1 (.slice ao (n + 1) cap) (n + 1) (sC17 l)) : w.ownsRow B e 1 (.slice ao n cap) n (sC17 l.dropLast) ∧ n + 1 ≤ cap ∧ cap ≤ maxLen ∧ ∃ g, ao = some ⟨g, 0, none⟩ := by
  have hl : l.length = n + 1 := by have := h.1; unfold sC17 at this; simpa using this
  rcases h.2 with ⟨_, h0⟩ | ⟨g, c, cur, h1, hB, hg, hn, hm, hs, ht⟩
  · omega
  · injection h1 with h1 _ h3
    subst h1 h3
    refine ⟨⟨by unfold sC17; simp [hl], .inr ⟨g, cap, cur, rfl, hB, hg, by omega, hm, hs, ?_⟩⟩, hn, hm, g, rfl⟩
    rw [Nat.mul_one] at ht ⊢
    have e1 : sC17 l.dropLast = (sC17 l).take n := by
      unfold sC17
      rw [List.dropLast_eq_take, hl, ← List.map_take]
      rfl
    rw [e1, ← ht, List.take_take]
    congr 1
    omega

set_option maxHeartbeats 1600000 in
set_option maxRecDepth 20000 in
theorem rparts17 (s : ByteArray) (l : List UInt8) (hl : s.data.toList = l) (w : World) (hs : s.size ≤ 4194304) :
    Calls Tryz.prog 15 #[.string s] w fun e w' => (∃ m ro rc, e = .returned (.slice ro m rc) ∧ (Pt.parts l).length = m ∧ w'.ownsRow w.heap.size 9 1 (.slice ro m rc) m (sC17 (Pt.parts l))) ∧ Below w.heap.size w w' := by
  obtain ⟨i0, hi0, hz0, hz1, hz2⟩ := minfo17 infoS17
  have HI := hid' hi0
  have HZ0 := hid' hz0
  have HZ1 := hid' hz1
  have HZ2 := hid' hz2
  clear hi0 hz0 hz1 hz2
  have HCU := hid' (rcut17 s l hl w hs)
  have HPD : Hid (Pt.parts l = (Pt.cutS [] l).filter (fun p => !p.isEmpty)) := hid' rfl
  have hpl : (Pt.cutS [] l).length ≤ 4194305 := by have := Pt.cutS_len l; rw [← hl, ← Lib.size_eq] at this; rw [← hl]; omega
  obtain ⟨ps, hps⟩ : ∃ ps, Pt.cutS [] l = ps := ⟨_, rfl⟩
  rw [hps] at HCU HPD hpl
  clear hl hps
  go_enter Tryz.func15, Tryz.ntmps15
  go_wp2_with fail
  refine HCU.out.mono ?_
  rintro e w1 ⟨⟨m, po, pc, rfl, hm, hown⟩, hb1⟩
  have HM := hid' hm
  have HSR := hid' (SR17.own hown)
  have HB1 := hid' hb1
  rw [hm] at hpl
  clear hm hown hb1 HCU
  go_wp2
  go_loopw [3, 5] (fun s3 s5 wr => ∃ (k c : Nat) (ro : Option Addr) (rc : Nat), s5 = .int .i64 (k : Int) ∧ s3 = .slice ro c rc ∧ k ≤ m ∧ c ≤ k ∧ Hid (((ps.take k).filter (fun p => !p.isEmpty)).length = c) ∧ Hid (wr.ownsRow w1.heap.size 9 1 (.slice ro c rc) c (sC17 ((ps.take k).filter (fun p => !p.isEmpty)))) ∧ Hid (Below w1.heap.size w1 wr)) (fun _ s5 _ => m - (intOf s5).toNat)
  case atStart => exact ⟨0, 0, none, 0, rfl, rfl, Nat.zero_le _, Nat.le_refl _, hid' rfl, hid' (World.ownsRow_nil _ _ _ _), hid' (Below.refl _ _)⟩
  case round =>
    obtain ⟨k, c, ro, rc, rfl, rfl, hk, hck, HCL, HO, HB⟩ := hrel
    by_cases hlt : k < m
    · have hlt2 : (k : Int) < (m : Int) := by omega
      obtain ⟨p, hp⟩ : ∃ p, ps[k]? = some p := ⟨_, List.getElem?_eq_getElem (by rw [HM.out]; exact hlt)⟩
      obtain ⟨g, rfl, _, y0⟩ := (HSR.out.below HB.out) k p hp
      have HFT : Hid ((ps.take (k + 1)).filter (fun p => !p.isEmpty) = (ps.take k).filter (fun p => !p.isEmpty) ++ (if !p.isEmpty then [p] else [])) := hid' (by rw [List.take_add_one, hp, List.filter_append]; congr 1; simp [List.filter_cons])
      obtain ⟨y, hy⟩ : ∃ y : ByteArray, (⟨p.toArray⟩ : ByteArray) = y := ⟨_, rfl⟩
      have hye : y.toList.isEmpty = p.isEmpty := by rw [← hy, Lib.toList_data]
      have HYS : Hid (sC17 [p] = [.string y]) := hid' (by unfold sC17; rw [← hy]; rfl)
      rw [hy] at y0
      clear hp hy
      cases pe : p.isEmpty
      · rw [pe] at hye HFT
        have HF2 : Hid ((ps.take (k + 1)).filter (fun p => !p.isEmpty) = (ps.take k).filter (fun p => !p.isEmpty) ++ [p]) := hid' HFT.out
        have HA : Hid ((wr.alloc (.cells #[.string y] 9)).ownsRow w1.heap.size 9 1 (.slice ro c rc) c (sC17 ((ps.take k).filter (fun p => !p.isEmpty)))) := hid' (HO.out.alloc _)
        go_wp2_with (at_builtin; refine wpList_append_own_at _ rfl _ _ 47 rfl w1.heap.size 9 i0 (.string ⟨#[]⟩) 1 16 Tryz.underlying47 HI.out HZ0.out HZ1.out HZ2.out rfl (by decide) (.slice ro c rc) c (sC17 ((ps.take k).filter (fun p => !p.isEmpty))) rfl HA.out ⟨wr.heap.size, 0, none⟩ 1 1 [.string y] rfl rfl (one_cell17 _ _ _) (by simp [Value.oneCell']) (by unfold maxLen; omega) (by omega) (by simp; have := HB.out.size; omega) ?_; intro v3 w3 hown3 hgrow3 _ _; refine Hid.out ?_)
        refine hid' ?_
        have e : sC17 ((ps.take k).filter (fun p => !p.isEmpty)) ++ [Value.string y] = sC17 ((ps.take (k + 1)).filter (fun p => !p.isEmpty)) := by rw [HF2.out, sC17_app, HYS.out]
        rw [e] at hown3
        obtain ⟨v3o, v3c, hv3⟩ := own_shape17 hown3
        subst hv3
        have HO3 := hid' hown3
        have HB3 : Hid (Below w1.heap.size w1 w3) := hid' ((HB.out.alloc HB.out.size _).grown hgrow3 (by simp; have := HB.out.size; omega) (fun k hk => (HA.out.lt k hk).1))
        clear hown3 hgrow3 e
        go_wp2
        go_roundw
        case rel => exact ⟨k + 1, c + 1, v3o, v3c, by go_num, rfl, by omega, by omega, hid' (by rw [HF2.out, List.length_append, HCL.out]; rfl), HO3, HB3⟩
        case measure => simp [intOf]; omega
      · rw [pe] at hye HFT
        have HF2 : Hid ((ps.take (k + 1)).filter (fun p => !p.isEmpty) = (ps.take k).filter (fun p => !p.isEmpty)) := hid' (by rw [HFT.out]; simp)
        go_wp2
        go_roundw
        case rel => exact ⟨k + 1, c, ro, rc, by go_num, rfl, by omega, by omega, hid' (by rw [HF2.out]; exact HCL.out), hid' (by rw [HF2.out]; exact HO.out), HB⟩
        case measure => simp [intOf]; omega
    · have hlt2 : ¬ (k : Int) < (m : Int) := by omega
      have HTk : Hid (ps.take k = ps) := hid' (List.take_of_length_le (by rw [HM.out]; omega))
      rw [HTk.out, ← HPD.out] at HCL HO
      clear hlt
      go_wp2
      go_ret
      exact ⟨⟨c, ro, rc, rfl, HCL.out, own_base17 HO.out HB1.out.size⟩, below_two HB1.out HB.out⟩

end Go.Proofs.YtfdjimjiikeciaaGreatDoor

namespace Go.Proofs.YtfdjimjiikeciaaGreatDoor
open Go.RowKit

namespace Pt
theorem pre_at {l : T8} {k : Nat} (h : k < (pre l).length) : ∃ c, l[k]? = some c ∧ (c == 63) = false := by
  unfold pre at h
  induction l generalizing k with
  | nil => simp at h
  | cons x r ih =>
    rw [List.takeWhile_cons] at h
    cases hx : (x == 63)
    · rw [hx] at h
      cases k with
      | zero => exact ⟨x, rfl, hx⟩
      | succ k => simpa using ih (by simpa using h)
    · rw [hx] at h; simp at h
theorem pre_stop {l : T8} (h : (pre l).length < l.length) : l[(pre l).length]? = some 63 := by
  unfold pre at *
  induction l with
  | nil => simp at h
  | cons x r ih =>
    rw [List.takeWhile_cons] at h ⊢
    cases hx : (x == 63)
    · rw [hx] at h
      simp only [Bool.not_false, if_true, List.length_cons] at h ⊢
      rw [List.getElem?_cons_succ]
      exact ih (by omega)
    · simp only [Bool.not_true, Bool.false_eq_true, if_false, List.length_nil, List.getElem?_cons_zero]
      rw [eq_of_beq hx]
theorem pre_le (l : T8) : (pre l).length ≤ l.length := (List.takeWhile_prefix _).length_le
theorem pre_take (l : T8) : l.take (pre l).length = pre l := (List.prefix_iff_eq_take.1 (List.takeWhile_prefix _)).symm
theorem undo_len : ∀ (n : Nat) (l s : T8), l.length ≤ n → undo l = some s → s.length ≤ l.length := by
  intro n
  induction n with
  | zero =>
    intro l s hl h
    obtain rfl : l = [] := List.eq_nil_of_length_eq_zero (by omega)
    simp [undo] at h
    subst h; simp
  | succ n ih =>
    intro l s hl h
    cases l with
    | nil => simp [undo] at h; subst h; simp
    | cons a r =>
      cases ha : (a == 37)
      · rw [undo_plain ha] at h
        cases hu : undo r with
        | none => rw [hu] at h; cases h
        | some s' =>
          rw [hu] at h
          simp only [Option.map_some, Option.some.injEq] at h
          subst h
          have := ih r s' (by simp at hl; omega) hu
          simp; omega
      · obtain rfl : a = 37 := eq_of_beq ha
        match r, hl, h with
        | [], _, h => simp [undo] at h
        | [d], _, h => simp [undo] at h
        | b :: d :: t, hl, h =>
          cases hq : (decide (0 ≤ hx b) && (decide (0 ≤ hx d) && okb (byt b d)))
          · rw [undo_bad hq] at h; cases h
          · rw [undo_esc hq] at h
            cases hu : undo t with
            | none => rw [hu] at h; cases h
            | some s' =>
              rw [hu] at h
              simp only [Option.map_some, Option.some.injEq] at h
              subst h
              have := ih t s' (by simp at hl; omega) hu
              simp; omega
theorem keep_step {ps k : List T8} {i : Nat} {p : T8} (h : ps[i]? = some p) : keep k (ps.drop i) = match step k p with | none => none | some k' => keep k' (ps.drop (i + 1)) := by
  obtain ⟨h1, h2⟩ := List.getElem?_eq_some_iff.1 h
  rw [List.drop_eq_getElem_cons h1, h2, keep]
  cases step k p <;> rfl
theorem keep_sum : ∀ (ps k k' : List T8), keep k ps = some k' → (k'.map List.length).sum + k'.length ≤ (k.map List.length).sum + k.length + (ps.map List.length).sum + ps.length := by
  intro ps
  induction ps with
  | nil => intro k k' h; simp [keep] at h; subst h; simp
  | cons p r ih =>
    intro k k' h
    rw [keep] at h
    cases hs : step k p with
    | none => rw [hs] at h; cases h
    | some k1 =>
      rw [hs] at h
      have h1 := ih k1 k' h
      have h2 : (k1.map List.length).sum + k1.length ≤ (k.map List.length).sum + k.length + p.length + 1 := by
        unfold step at hs
        split at hs
        · split at hs
          · cases hs
          · injection hs with hs
            subst hs
            have : k = [] ∨ ∃ a, k = k.dropLast ++ [a] := by
              cases hk : k with
              | nil => exact .inl rfl
              | cons a b => exact .inr ⟨(a :: b).getLast (by simp), (List.dropLast_concat_getLast (by simp)).symm⟩
            rcases this with h0 | ⟨a, ha⟩
            · rw [h0]; simp
            · conv => rhs; rw [ha]
              simp
              omega
        · split at hs
          · injection hs with hs; subst hs; omega
          · injection hs with hs
            subst hs
            simp
            omega
      simp only [List.map_cons, List.sum_cons, List.length_cons]
      omega
theorem core_len (l : T8) : (core l).1.length ≤ l.length + 3 := by
  unfold core
  split
  · cases hu : undo l with
    | none => simp
    | some s =>
      simp only
      cases hk : keep [] (cutS [] s) with
      | none => simp
      | some k =>
        simp only
        have h1 := undo_len _ l s (Nat.le_refl _) hu
        have h2 := keep_sum _ _ _ hk
        have h3 := cutS_sum s
        have h4 := join_len k
        simp at h2
        unfold out
        rw [List.length_cons, List.length_append]
        split
        · simp only [List.length_cons, List.length_nil]; omega
        · simp only [List.length_nil]; omega
  · simp
end Pt
def clV17 (q : List UInt8 × List UInt8 × Int) : Value := .tuple #[.string ⟨q.1.toArray⟩, .string ⟨q.2.1.toArray⟩, .int .i64 q.2.2]
theorem dots_at17 (y : ByteArray) (p : List UInt8) (h : y.data.toList = p) : (y.toList == [46, 46]) = (p == Pt.dots) ∧ (y.toList == [46]) = (p == Pt.dot) ∧ y.toList.isEmpty = p.isEmpty := by
  rw [Lib.toList_data, h]; exact ⟨rfl, rfl, rfl⟩

end Go.Proofs.YtfdjimjiikeciaaGreatDoor
