/-
  The document's Strip, goes, decimal: by their contracts.
-/
import Derived.Test.YtbpdhcfmdkmoiabDoorMsB
import Derived.Maps.AppendAt
namespace Go.Proofs.YtbpdhcfmdkmoiabDoor
open Go.RowKit

theorem minfo_parts {P : Program} {t : TypeId} {z : Option Value} {s b : Nat} (h : (P.info? t).map (fun i => (i.zero, i.size, i.bytes)) = some (z, s, b)) : ∃ i, P.info? t = some i ∧ i.zero = z ∧ i.size = s ∧ i.bytes = b := by
  cases hq : P.info? t with
  | none => simp [hq] at h
  | some i => simp [hq] at h; exact ⟨i, rfl, h.1, h.2.1, h.2.2⟩
theorem infoF14 : (Tryd.prog.info? 45).map (fun i => (i.zero, i.size, i.bytes)) = some (some (.agg #[.string ⟨#[]⟩, .string ⟨#[]⟩]), 2, 32) := by kernel_rfl
theorem own_shape {w : World} {B : Nat} {e : TypeId} {s : Nat} {v : Value} {n : Nat} {xs : List Value} (h : w.ownsRow B e s v n xs) : ∃ ao cap, v = .slice ao n cap := by
  rcases h.2 with ⟨h1, rfl⟩ | ⟨g, cap, cur, h1, _⟩
  · exact ⟨none, 0, h1⟩
  · exact ⟨_, cap, h1⟩
theorem two_new (w : World) (T : TypeId) (x0 x1 : Value) : ∀ j v, [x0, x1][j]? = some v → (w.alloc (.cells #[x0, x1] T)).cell? ((⟨w.heap.size, 0, none⟩ : Addr).add j) = some v := by
  intro j v h
  rw [Addr.add_mid, Nat.zero_add]
  have hA : Ar (w.alloc (.cells #[x0, x1] T)) w.heap.size T #[x0, x1] := heap_alloc_last w _
  exact hA.cell j v (by simpa using h)

set_option maxHeartbeats 2000000 in
set_option maxRecDepth 20000 in
theorem rstrip14 (v : Value) (l : List Fd) (w : World) (h : FW w v l) (hl : l.length ≤ 1048576) (hs : ∀ f ∈ l, f.n.size ≤ 140737488355328) :
    Calls Tryd.prog 17 #[v] w fun e w' => (∃ m ro rc, e = .returned (.slice ro m rc) ∧ (Ms.strip l).length = m ∧ w'.ownsRow w.heap.size 45 2 (.slice ro m rc) m (fC (Ms.strip l))) ∧ Below w.heap.size w w' := by
  obtain ⟨i0, hi0, hz0, hz1, hz2⟩ := minfo_parts infoF14
  have HI := hid' hi0
  have HZ0 := hid' hz0
  have HZ1 := hid' hz1
  have HZ2 := hid' hz2
  clear hi0 hz0 hz1 hz2
  obtain ⟨ao, cap, hv⟩ := h.shape
  subst hv
  obtain ⟨n, hn⟩ : ∃ n, l.length = n := ⟨_, rfl⟩
  rw [hn] at h hl ⊢
  have H := hid' h
  have HN := hid' hn
  have HS := hid' hs
  clear h hn hs
  go_enter Tryd.func17, Tryd.ntmps17
  go_wp2
  go_loopw [3, 4] (fun s3 s4 wr => ∃ (k m : Nat) (ro : Option Addr) (rc : Nat), s4 = .int .i64 (k : Int) ∧ s3 = .slice ro m rc ∧ k ≤ n ∧ m ≤ k ∧ Hid ((Ms.strip (l.take k)).length = m) ∧ Hid (wr.ownsRow w.heap.size 45 2 (.slice ro m rc) m (fC (Ms.strip (l.take k)))) ∧ Hid (Below w.heap.size w wr)) (fun _ s4 _ => n - (intOf s4).toNat)
  case atStart => exact ⟨0, 0, none, 0, rfl, rfl, Nat.zero_le _, Nat.zero_le _, hid' rfl, hid' (World.ownsRow_nil _ _ _ _), hid' (Below.refl _ _)⟩
  case round =>
    obtain ⟨k, m, ro, rc, rfl, rfl, hk, hmk, HML, HO, HB⟩ := hrel
    by_cases hlt : k < n
    · have hlt2 : (k : Int) < (n : Int) := by omega
      obtain ⟨p, hp⟩ : ∃ p, l[k]? = some p := ⟨_, List.getElem?_eq_getElem (by rw [HN.out]; exact hlt)⟩
      obtain ⟨a, hao, y0, y1⟩ := (H.out.keep HB.out).two k p hp
      subst hao
      have hrt := Ms.strip_take hp
      obtain ⟨d, hd⟩ : ∃ d, Ms.bnd p.n = d := ⟨_, rfl⟩
      rw [hd] at hrt
      have HD := hid' hd
      have HPS := hid' (HS.out p (List.mem_of_getElem? hp))
      have HPP := hid' hp
      clear hp hd
      go_wp2_with fail
      refine (rbnd14 p.n d HD.out wr HPS.out).mono ?_
      rintro e wq ⟨rfl, hbq⟩
      have HBq := hid' (below_two HB.out hbq)
      have HOq := hid' (own_same HO.out (fun j hj => hbq.block j (own_lt HO.out j hj)))
      clear hbq y0 y1 HO HB
      cases d
      · simp only [Bool.false_eq_true, if_false] at hrt
        have HRT := hid' hrt
        obtain ⟨_, hao, y0, y1⟩ := (H.out.keep HBq.out).two k p HPP.out
        injection hao with hao
        subst hao
        have HA : Hid ((wq.alloc (.cells #[.string p.n, .string p.v] 45)).ownsRow w.heap.size 45 2 (.slice ro m rc) m (fC (Ms.strip (l.take k)))) := hid' (HOq.out.alloc _)
        clear hrt
        go_wp2_with (at_builtin; refine wpList_append_own_at _ rfl _ _ 22 rfl w.heap.size 45 i0 (.agg #[.string ⟨#[]⟩, .string ⟨#[]⟩]) 2 32 Tryd.underlying22 HI.out HZ0.out HZ1.out HZ2.out rfl (by decide) (.slice ro m rc) m (fC (Ms.strip (l.take k))) rfl HA.out ⟨wq.heap.size, 0, none⟩ 1 1 [.string p.n, .string p.v] rfl rfl (two_new _ _ _ _) (by simp [Value.oneCell']) (by unfold maxLen; omega) (by omega) (by simp; have := HBq.out.size; omega) ?_; intro v3 w3 hown3 hgrow3 _ _; refine Hid.out ?_)
        refine hid' ?_
        have e : fC (Ms.strip (l.take k)) ++ [Value.string p.n, .string p.v] = fC (Ms.strip (l.take (k + 1))) := by rw [HRT.out, fC_append]; simp [fV, fC]
        rw [e] at hown3
        obtain ⟨v3o, v3c, hv3⟩ := own_shape hown3
        subst hv3
        have HO3 := hid' hown3
        have HB3 : Hid (Below w.heap.size w w3) := hid' ((HBq.out.alloc HBq.out.size _).grown hgrow3 (by simp; have := HBq.out.size; omega) (fun k hk => (HA.out.lt k hk).1))
        clear hown3 hgrow3 e y0 y1
        go_wp2
        go_roundw
        case rel => exact ⟨k + 1, m + 1, v3o, v3c, by go_num, rfl, by omega, by omega, hid' (by rw [HRT.out, List.length_append, HML.out]; rfl), HO3, HB3⟩
        case measure => simp [intOf]; omega
      · simp only [if_true, List.append_nil] at hrt
        have HRT := hid' hrt
        clear hrt
        go_wp2
        go_roundw
        case rel => exact ⟨k + 1, m, ro, rc, by go_num, rfl, by omega, by omega, hid' (by rw [HRT.out]; exact HML.out), hid' (by rw [HRT.out]; exact HOq.out), HBq⟩
        case measure => simp [intOf]; omega
    · obtain rfl : k = n := by omega
      have hlt2 : ¬ (k : Int) < (k : Int) := by omega
      have HT : Hid (l.take k = l) := hid' (List.take_of_length_le (by rw [HN.out]; exact Nat.le_refl _))
      clear hlt
      go_wp2
      go_ret
      refine ⟨⟨m, ro, rc, rfl, ?_, ?_⟩, HB.out⟩
      · have := HML.out; rwa [HT.out] at this
      · have := HO.out; rwa [HT.out] at this

theorem drop1 (L : List UInt8) (k : Nat) (c : UInt8) (hc : L[k]? = some c) : L.drop k = c :: L.drop (k + 1) := by
  obtain ⟨h1, h2⟩ := List.getElem?_eq_some_iff.1 hc
  rw [List.drop_eq_getElem_cons h1, h2]
theorem u8_is {c : UInt8} {n : Nat} (hn : n < 256) : (c == UInt8.ofNat n) = ((c.toNat : Int) == (n : Int)) := by
  rw [Bool.eq_iff_iff, beq_iff_eq, beq_iff_eq]
  constructor
  · rintro rfl; rw [UInt8.toNat_ofNat', Nat.mod_eq_of_lt hn]
  · intro h
    apply UInt8.toNat_inj.1
    rw [UInt8.toNat_ofNat', Nat.mod_eq_of_lt hn]; omega
theorem head_at {x : ByteArray} (h : 0 < x.size) (n : Nat) (hn : n < 256) : ((Ms.tx x).head? == some (UInt8.ofNat n)) = ((x[0].toNat : Int) == (n : Int)) := by
  have h1 : (Ms.tx x).head? = some x[0] := by
    unfold Ms.tx
    rw [List.head?_eq_getElem?, List.getElem?_eq_getElem (by rw [← Lib.size_eq]; exact h)]
    rfl
  rw [h1, ← u8_is hn]
  rfl

end Go.Proofs.YtbpdhcfmdkmoiabDoor
