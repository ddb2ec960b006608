/-
  The document's Parts and Clean: by their contracts.
-/
import Derived.Test.YtjgdmooedeilhaaDoorPtB
import Derived.Test.YtjgdmooedeilhaaDoorPtC
namespace Go.Proofs.YtjgdmooedeilhaaDoor
open Go.RowKit

theorem own_base17 {w : World} {B B' : Nat} {e : TypeId} {s : Nat} {v : Value} {n : Nat} {xs : List Value} (h : w.ownsRow B e s v n xs) (hB : B' ≤ B) : w.ownsRow B' e s v n xs := by
  refine ⟨h.1, ?_⟩
  rcases h.2 with h1 | ⟨g, cap, cur, h1, h2, h3⟩
  · exact .inl h1
  · exact .inr ⟨g, cap, cur, h1, Nat.le_trans hB h2, h3⟩
/-- A row without its last text. -/
theorem own_cut17 {w : World} {B : Nat} {e : TypeId} {ao : Option Addr} {n cap : Nat} {l : List (List UInt8)} (h : w.ownsRow B e 1 (.slice ao (n + 1) cap) (n + 1) (sC17 l)) : w.ownsRow B e 1 (.slice ao n cap) n (sC17 l.dropLast) ∧ n + 1 ≤ cap ∧ cap ≤ maxLen ∧ ∃ g, ao = some ⟨g, 0, none⟩ := by
  have hl : l.length = n + 1 := by have := h.1; unfold sC17 at this; simpa using this
  rcases h.2 with ⟨_, h0⟩ | ⟨g, c, cur, h1, hB, hg, hn, hm, hs, ht⟩
  · omega
  · injection h1 with h1 _ h3
    subst h1 h3
    refine ⟨⟨by unfold sC17; simp [hl], .inr ⟨g, cap, cur, rfl, hB, hg, by omega, hm, hs, ?_⟩⟩, hn, hm, g, rfl⟩
    rw [Nat.mul_one] at ht ⊢
    have e1 : sC17 l.dropLast = (sC17 l).take n := by
      unfold sC17
      rw [List.dropLast_eq_take, hl, ← List.map_take]
      rfl
    rw [e1, ← ht, List.take_take]
    congr 1
    omega

set_option maxHeartbeats 1600000 in
set_option maxRecDepth 20000 in
theorem rparts17 (s : ByteArray) (l : List UInt8) (hl : s.data.toList = l) (w : World) (hs : s.size ≤ 4194304) :
    Calls Tryd.prog 11 #[.string s] w fun e w' => (∃ m ro rc, e = .returned (.slice ro m rc) ∧ (Pt.parts l).length = m ∧ w'.ownsRow w.heap.size 9 1 (.slice ro m rc) m (sC17 (Pt.parts l))) ∧ Below w.heap.size w w' := by
  obtain ⟨i0, hi0, hz0, hz1, hz2⟩ := minfo17 infoS17
  have HI := hid' hi0
  have HZ0 := hid' hz0
  have HZ1 := hid' hz1
  have HZ2 := hid' hz2
  clear hi0 hz0 hz1 hz2
  have HCU := hid' (rcut17 s l hl w hs)
  have HPD : Hid (Pt.parts l = (Pt.cutS [] l).filter (fun p => !p.isEmpty)) := hid' rfl
  have hpl : (Pt.cutS [] l).length ≤ 4194305 := by have := Pt.cutS_len l; rw [← hl, ← Lib.size_eq] at this; rw [← hl]; omega
  obtain ⟨ps, hps⟩ : ∃ ps, Pt.cutS [] l = ps := ⟨_, rfl⟩
  rw [hps] at HCU HPD hpl
  clear hl hps
  go_enter Tryd.func11, Tryd.ntmps11
  go_wp2_with fail
  refine HCU.out.mono ?_
  rintro e w1 ⟨⟨m, po, pc, rfl, hm, hown⟩, hb1⟩
  have HM := hid' hm
  have HSR := hid' (SR17.own hown)
  have HB1 := hid' hb1
  rw [hm] at hpl
  clear hm hown hb1 HCU
  go_wp2
  go_loopw [3, 5] (fun s3 s5 wr => ∃ (k c : Nat) (ro : Option Addr) (rc : Nat), s5 = .int .i64 (k : Int) ∧ s3 = .slice ro c rc ∧ k ≤ m ∧ c ≤ k ∧ Hid (((ps.take k).filter (fun p => !p.isEmpty)).length = c) ∧ Hid (wr.ownsRow w1.heap.size 9 1 (.slice ro c rc) c (sC17 ((ps.take k).filter (fun p => !p.isEmpty)))) ∧ Hid (Below w1.heap.size w1 wr)) (fun _ s5 _ => m - (intOf s5).toNat)
  case atStart => exact ⟨0, 0, none, 0, rfl, rfl, Nat.zero_le _, Nat.le_refl _, hid' rfl, hid' (World.ownsRow_nil _ _ _ _), hid' (Below.refl _ _)⟩
  case round =>
    obtain ⟨k, c, ro, rc, rfl, rfl, hk, hck, HCL, HO, HB⟩ := hrel
    by_cases hlt : k < m
    · have hlt2 : (k : Int) < (m : Int) := by omega
      obtain ⟨p, hp⟩ : ∃ p, ps[k]? = some p := ⟨_, List.getElem?_eq_getElem (by rw [HM.out]; exact hlt)⟩
      obtain ⟨g, rfl, _, y0⟩ := (HSR.out.below HB.out) k p hp
      have HFT : Hid ((ps.take (k + 1)).filter (fun p => !p.isEmpty) = (ps.take k).filter (fun p => !p.isEmpty) ++ (if !p.isEmpty then [p] else [])) := hid' (by rw [List.take_add_one, hp, List.filter_append]; congr 1; simp [List.filter_cons])
      obtain ⟨y, hy⟩ : ∃ y : ByteArray, (⟨p.toArray⟩ : ByteArray) = y := ⟨_, rfl⟩
      have hye : y.toList.isEmpty = p.isEmpty := by rw [← hy, Lib.toList_data]
      have HYS : Hid (sC17 [p] = [.string y]) := hid' (by unfold sC17; rw [← hy]; rfl)
      rw [hy] at y0
      clear hp hy
      cases pe : p.isEmpty
      · rw [pe] at hye HFT
        have HF2 : Hid ((ps.take (k + 1)).filter (fun p => !p.isEmpty) = (ps.take k).filter (fun p => !p.isEmpty) ++ [p]) := hid' HFT.out
        have HA : Hid ((wr.alloc (.cells #[.string y] 9)).ownsRow w1.heap.size 9 1 (.slice ro c rc) c (sC17 ((ps.take k).filter (fun p => !p.isEmpty)))) := hid' (HO.out.alloc _)
        go_wp2_with (at_builtin; refine wpList_append_own_at _ rfl _ _ 25 rfl w1.heap.size 9 i0 (.string ⟨#[]⟩) 1 16 Tryd.underlying25 HI.out HZ0.out HZ1.out HZ2.out rfl (by decide) (.slice ro c rc) c (sC17 ((ps.take k).filter (fun p => !p.isEmpty))) rfl HA.out ⟨wr.heap.size, 0, none⟩ 1 1 [.string y] rfl rfl (one_cell17 _ _ _) (by simp [Value.oneCell']) (by unfold maxLen; omega) (by omega) (by simp; have := HB.out.size; omega) ?_; intro v3 w3 hown3 hgrow3 _ _; refine Hid.out ?_)
        refine hid' ?_
        have e : sC17 ((ps.take k).filter (fun p => !p.isEmpty)) ++ [Value.string y] = sC17 ((ps.take (k + 1)).filter (fun p => !p.isEmpty)) := by rw [HF2.out, sC17_app, HYS.out]
        rw [e] at hown3
        obtain ⟨v3o, v3c, hv3⟩ := own_shape17 hown3
        subst hv3
        have HO3 := hid' hown3
        have HB3 : Hid (Below w1.heap.size w1 w3) := hid' ((HB.out.alloc HB.out.size _).grown hgrow3 (by simp; have := HB.out.size; omega) (fun k hk => (HA.out.lt k hk).1))
        clear hown3 hgrow3 e
        go_wp2
        go_roundw
        case rel => exact ⟨k + 1, c + 1, v3o, v3c, by go_num, rfl, by omega, by omega, hid' (by rw [HF2.out, List.length_append, HCL.out]; rfl), HO3, HB3⟩
        case measure => simp [intOf]; omega
      · rw [pe] at hye HFT
        have HF2 : Hid ((ps.take (k + 1)).filter (fun p => !p.isEmpty) = (ps.take k).filter (fun p => !p.isEmpty)) := hid' (by rw [HFT.out]; simp)
        go_wp2
        go_roundw
        case rel => exact ⟨k + 1, c, ro, rc, by go_num, rfl, by omega, by omega, hid' (by rw [HF2.out]; exact HCL.out), hid' (by rw [HF2.out]; exact HO.out), HB⟩
        case measure => simp [intOf]; omega
    · have hlt2 : ¬ (k : Int) < (m : Int) := by omega
      have HTk : Hid (ps.take k = ps) := hid' (List.take_of_length_le (by rw [HM.out]; omega))
      rw [HTk.out, ← HPD.out] at HCL HO
      clear hlt
      go_wp2
      go_ret
      exact ⟨⟨c, ro, rc, rfl, HCL.out, own_base17 HO.out HB1.out.size⟩, below_two HB1.out HB.out⟩

end Go.Proofs.YtjgdmooedeilhaaDoor
