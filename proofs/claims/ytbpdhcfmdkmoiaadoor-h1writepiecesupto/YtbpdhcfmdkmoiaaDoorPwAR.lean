/-
  The code's chunks: by its contract.
  What both Pieces stand on.
  Slices of bytes that a call builds by append: as texts.
-/
import Derived.Test.YtbpdhcfmdkmoiaaDoorPwAQ
import Derived.Test.YtbpdhcfmdkmoiaaDoorPwAJ
namespace Go.Proofs.YtbpdhcfmdkmoiaaDoor
open Go.RowKit

/-- A response's cells. -/
def rp22 (s : Int) (fv : Value) (b : ByteArray) (tv : Value) : Array Value := #[.int .i64 s, fv, .string b, tv]
namespace Hw
theorem ck_cat (H P : T8) : ((((⟨H.toArray⟩ : ByteArray) ++ ⟨#[13, 10]⟩) ++ ⟨P.toArray⟩) ++ ⟨#[13, 10]⟩) = ⟨(H ++ [13, 10] ++ P ++ [13, 10]).toArray⟩ := by
  apply ByteArray.ext; simp [ByteArray.data_append]
theorem fin_cat (T : T8) : (((⟨#[48, 13, 10]⟩ : ByteArray) ++ ⟨T.toArray⟩) ++ ⟨#[13, 10]⟩) = ⟨([48, 13, 10] ++ T ++ crlf).toArray⟩ := by
  apply ByteArray.ext; simp [ByteArray.data_append, crlf]
theorem hex_len : ∀ (m n : Nat), n ≤ m → (hex n).length ≤ m + 1
  | 0, n, h => by rw [hex_one n (by omega)]; simp
  | m + 1, n, h => by
    by_cases h1 : n < 16
    · rw [hex_one n h1]; simp
    · rw [hex_step n h1, List.length_append]
      have := hex_len m (n / 16) (by omega)
      simp; omega
theorem sC_at {l : List T8} {k : Nat} {t : T8} (h : l[k]? = some t) : (sC l)[k]? = some (.string ⟨t.toArray⟩) := by unfold sC; rw [List.getElem?_map, h]; rfl
/-- What the loop over the parts has done. -/
def half (L : List T8) (k : Nat) : List T8 := (L.take k).map chunk ++ L.drop k
theorem half_zero (L : List T8) : half L 0 = L := rfl
theorem half_all (L : List T8) : half L L.length = L.map chunk := by unfold half; rw [List.take_length, List.drop_length, List.append_nil]
theorem half_at {L : List T8} {k : Nat} {p : T8} (h : L[k]? = some p) : (half L k)[k]? = some p := by
  have hk := (List.getElem?_eq_some_iff.1 h).1
  unfold half
  rw [List.getElem?_append_right (by rw [List.length_map, List.length_take]; omega), List.length_map, List.length_take, Nat.min_eq_left (by omega), Nat.sub_self, List.getElem?_drop, Nat.add_zero, h]
theorem half_set {L : List T8} {k : Nat} {p : T8} (h : L[k]? = some p) : (sC (half L k)).set k (.string ⟨(chunk p).toArray⟩) = sC (half L (k + 1)) := by
  have hk := (List.getElem?_eq_some_iff.1 h).1
  unfold sC
  rw [show (Value.string ⟨(chunk p).toArray⟩) = (fun t : T8 => Value.string ⟨t.toArray⟩) (chunk p) from rfl, ← List.map_set]
  congr 1
  unfold half
  rw [List.set_append_right _ _ (by rw [List.length_map, List.length_take]; omega), List.length_map, List.length_take, Nat.min_eq_left (by omega), Nat.sub_self, List.drop_eq_getElem_cons hk, List.set_cons_zero, List.take_add_one, h, List.map_append, List.append_assoc]
  rfl
end Hw

set_option maxHeartbeats 8000000 in
set_option maxRecDepth 20000 in
theorem cchunks22 (s : Int) (fv : Value) (b : ByteArray) (tv : Value) (ts : List Fd) (w : World) (h : FW w tv ts) (hl : ts.length ≤ 1048576) (hs : ∀ f ∈ ts, f.n.size ≤ 140737488355328) (hz : (Hw.lns ts).length ≤ 70368744177664) (hb : b.size ≤ 1073741824) (hT : TZ w) (L : List (List UInt8)) (hL : (Hw.parts b.data.toList).map Hw.chunk ++ [Hw.fin ts] = L) :
    Calls Tryd.prog 29 #[.agg (rp22 s fv b tv)] w fun e w' => (∃ ao cap, e = .returned (.slice ao L.length cap) ∧ w'.ownsRow w.heap.size 9 1 (.slice ao L.length cap) L.length (sC L)) ∧ Below w.heap.size w w' := by
  obtain ⟨i0, hi0, hz0, hz1, hz2⟩ := minfo_parts infoS22
  have HI := hid' hi0
  have HZ0 := hid' hz0
  have HZ1 := hid' hz1
  have HZ2 := hid' hz2
  obtain ⟨P, hP⟩ : ∃ P, Hw.parts b.data.toList = P := ⟨_, rfl⟩
  have HPL : Hid (P.length ≤ 65537) := hid' (by rw [← hP, Hw.parts_len]; unfold Hw.pn; rw [← Lib.size_eq]; omega)
  have HPS : Hid (∀ (k : Nat) (p : List UInt8), P[k]? = some p → 1 ≤ p.length ∧ p.length ≤ 16384) := hid' (fun k p hk => by
    rw [← hP] at hk
    have h1 := (List.getElem?_eq_some_iff.1 hk).1
    rw [Hw.parts_len] at h1
    rw [Hw.parts_at _ _ h1] at hk
    injection hk with hk
    subst hk
    exact ⟨Hw.part_pos _ _ h1, Hw.part_len _ _⟩)
  have HCP := hid' (fun W => cparts22 b b.data.toList rfl W (by rw [← Lib.size_eq]; exact hb))
  have HFW := hid' (fun W (hw : Below w.heap.size w W) => cflds22 tv ts W (h.keep hw) hl hs hz)
  have HTZ := hid' hT
  obtain ⟨F, hF⟩ : ∃ F, Hw.lns ts = F := ⟨_, rfl⟩
  rw [hP] at hL HCP
  rw [hF] at hz HFW
  have HL : Hid (P.map Hw.chunk ++ [Hw.fin ts] = L) := hid' hL
  have HF : Hid (Hw.fin ts = [48, 13, 10] ++ F ++ Hw.crlf) := hid' (by unfold Hw.fin; rw [hF])
  have f1 : ¬ 9223372036854775807 < 3 + F.length := by omega
  have f2 : ¬ 9223372036854775807 < 3 + F.length + 2 := by omega
  have HX := hid' (show Ar (w.alloc (.cells (rp22 s fv b tv) 24)) w.heap.size 24 (rp22 s fv b tv) from heap_alloc_last w _)
  have HB1 := hid' (bl_alloc w (.cells (rp22 s fv b tv) 24))
  clear h hl hs hz hb hT hL hF hP hi0 hz0 hz1 hz2
  unfold rp22 at *
  go_enter Tryd.func29, Tryd.ntmps29
  go_wp2_with fail
  obtain ⟨xb, hxb⟩ : ∃ xb, w.heap.size = xb := ⟨_, rfl⟩
  rw [hxb] at HX ⊢
  generalize w.alloc (.cells #[.int .i64 s, fv, .string b, tv] 24) = w1 at *
  clear hxb
  refine (HCP.out _).mono ?_
  rintro e w2 ⟨⟨ao, cap, rfl, ho⟩, hb2⟩
  have HO2 := hid' ho
  have HB2 := hid' (below_two HB1.out hb2)
  have HX2 := hid' (HX.out.keep hb2)
  obtain ⟨m, hm⟩ : ∃ m, P.length = m := ⟨_, rfl⟩
  rw [hm] at HO2 HPL ⊢
  have HM := hid' hm
  have hm9 : m ≤ 65537 := HPL.out
  clear ho hb2 hm
  go_wp2
  go_loopw [4, 5, 11] (fun s4 s5 s11 wr => ∃ k : Nat, s11 = .int .i64 (k : Int) ∧ k ≤ m ∧ Hid (wr.ownsRow w1.heap.size 9 1 (.slice ao m cap) m (sC (Hw.half P k))) ∧ Hid (Below w.heap.size w wr) ∧ Hid (Ar wr xb 24 #[.int .i64 s, fv, .string b, tv])) (fun _ _ s11 _ => m - (intOf s11).toNat)
  case atStart => exact ⟨0, rfl, Nat.zero_le _, hid' (by rw [Hw.half_zero]; exact HO2.out), HB2, HX2⟩
  case round =>
    obtain ⟨k, rfl, hk, HO, HB, HA⟩ := hrel
    by_cases hlt : k < m
    · have hlt2 : (k : Int) < (m : Int) := by omega
      have HLT := hid' hlt
      obtain ⟨p, hp⟩ : ∃ p, P[k]? = some p := ⟨_, List.getElem?_eq_getElem (by rw [HM.out]; exact hlt)⟩
      have HPP := hid' hp
      have hps := HPS.out k p hp
      obtain ⟨g, rfl⟩ : ∃ g, ao = some ⟨g, 0, none⟩ := by
        rcases HO.out.2 with ⟨h1, h2⟩ | ⟨g, cp, cur, h1, _⟩
        · omega
        · injection h1 with h1 _ _; exact ⟨g, h1⟩
      have y0 : wr.cell? ⟨g, k, none⟩ = some (.string ⟨p.toArray⟩) := by
        have h1 := HO.out.cells (g := g) rfl k _ (Hw.sC_at (Hw.half_at hp))
        rwa [Addr.add_mid, Nat.zero_add] at h1
      obtain ⟨H, hH⟩ : ∃ H, Hw.hex p.length = H := ⟨_, rfl⟩
      have hHl : H.length ≤ 16385 := by rw [← hH]; exact Hw.hex_len 16384 _ hps.2
      have HCK : Hid (Hw.chunk p = H ++ [13, 10] ++ p ++ [13, 10]) := hid' (by unfold Hw.chunk; rw [hH]; rfl)
      have HFM : Hid (∀ W, TZ W → Calls Tryd.prog 49 #[.int .i64 (p.length : Int), .int .i64 16] W fun e w' => e = .returned (.string ⟨H.toArray⟩) ∧ Below W.heap.size W w') := hid' (fun W hW => by have := cfmt22 p.length hps.1 hps.2 W hW; rwa [hH] at this)
      have k1 : ¬ 9223372036854775807 < H.length + 2 := by omega
      have k2 : ¬ 9223372036854775807 < H.length + 2 + p.length := by omega
      have k3 : ¬ 9223372036854775807 < H.length + 2 + p.length + 2 := by omega
      clear hp hps hH hHl
      go_wp2_with fail
      refine (HFM.out _ (HTZ.out.keep HB.out)).mono ?_
      rintro e w3 ⟨rfl, hb3⟩
      have HO3 := hid' (own_same HO.out (fun j hj => hb3.block j (own_lt HO.out j hj)))
      have HB3 := hid' (below_two HB.out hb3)
      have HA3 := hid' (HA.out.keep hb3)
      have z0 : w3.cell? ⟨g, k, none⟩ = some (.string ⟨p.toArray⟩) := (hb3.cell (cell_lt y0)).trans y0
      have z1 : w3.frozen? ⟨g, k, none⟩ = false := HO3.out.frozenAt _
      have HGB : Hid (w.heap.size ≤ g) := hid' (by have h1 := (own_le21 HO3.out g rfl); have := HB1.out.size; omega)
      clear hb3 y0
      go_wp2_with fail
      go_roundw
      case rel =>
        refine ⟨k + 1, by go_num, by have := HLT.out; omega, hid' ?_, hid' ?_, hid' ?_⟩
        · have h1 := HO3.out.stored k (.string ⟨(Hw.chunk p).toArray⟩)
          rw [Hw.half_set HPP.out, HCK.out, ← Hw.ck_cat] at h1
          exact h1.1
        · exact HB3.out.setCell (p := ⟨g, k, none⟩) HGB.out _
        · exact HA3.out.other (fun e => by
            have h1 := own_ty HO3.out g rfl
            obtain ⟨_, cs, hc⟩ := h1
            have h2 := HA3.out
            unfold Ar at h2
            rw [← e, hc] at h2
            injection h2 with h2
            injection h2 with _ h2 _
            exact absurd h2 (by decide)) k _
      case measure => have := HLT.out; simp [intOf]; omega
    · obtain rfl : k = m := by omega
      have hlt2 : ¬ (k : Int) < (k : Int) := by omega
      have HOE : Hid (wr.ownsRow w1.heap.size 9 1 (.slice ao k cap) k (sC (P.map Hw.chunk))) := hid' (by have := HO.out; rwa [show Hw.half P k = P.map Hw.chunk by rw [← HM.out]; exact Hw.half_all P] at this)
      have x3 := HA.out.cell 3 _ rfl
      clear hlt
      go_wp2_with fail
      refine (HFW.out _ HB.out).mono ?_
      rintro e w3 ⟨rfl, hb3⟩
      have HO3 := hid' (own_base21 (B := w.heap.size) (own_same HOE.out (fun j hj => hb3.block j (own_lt HOE.out j hj))) HB1.out.size)
      have HB3 := hid' (below_two HB.out hb3)
      clear hb3 x3
      go_wp2_with (at_builtin; refine wpl_appk21 rfl _ _ 28 rfl w.heap.size 9 i0 (.string ⟨#[]⟩) 1 16 Tryd.underlying28 HI.out HZ0.out HZ1.out HZ2.out rfl (by decide) (.slice ao k cap) k _ rfl (HO3.out.alloc _) ⟨w3.heap.size, 0, none⟩ 1 1 [.string (((⟨#[48, 13, 10]⟩ : ByteArray) ++ ⟨F.toArray⟩) ++ ⟨#[13, 10]⟩)] rfl rfl (new_s22 _ _) (fun u hu => by rw [List.mem_singleton.1 hu]; rfl) (by unfold maxLen; omega) (by omega) (by simp; have := HB3.out.size; omega) ?_; intro v3 w9 hown3 _ hgrow3 hblk3; refine Hid.out ?_)
      refine hid' ?_
      have HB9 : Hid (Below w.heap.size w w9) := hid' ((HB3.out.alloc HB3.out.size _).grown hgrow3 (by simp; have := HB3.out.size; omega) (fun k hk => (HO3.out.lt k hk).1))
      obtain ⟨v3o, v3c, hv3⟩ := own_shape hown3
      subst hv3
      rw [Hw.fin_cat, ← HF.out, show ([Value.string ⟨(Hw.fin ts).toArray⟩] : List Value) = sC [Hw.fin ts] from rfl, ← Hw.sC_app, HL.out] at hown3
      have HO9 := hid' hown3
      have HLL : Hid (L.length = k + 1) := hid' (by rw [← HL.out, List.length_append, List.length_map, HM.out]; rfl)
      clear hown3 hgrow3 hblk3
      go_wp2
      go_ret
      refine ⟨⟨v3o, v3c, ?_, ?_⟩, HB9.out⟩
      · rw [HLL.out]; rfl
      · rw [HLL.out]; exact HO9.out

end Go.Proofs.YtbpdhcfmdkmoiaaDoor

namespace Go.Proofs.YtbpdhcfmdkmoiaaDoor
open Go.RowKit

theorem own_one22 (w : World) (x : Value) : (w.alloc (.cells #[x] 9)).ownsRow w.heap.size 9 1 (.slice (some ⟨w.heap.size, 0, none⟩) 1 1) 1 [x] :=
  ⟨rfl, .inr ⟨w.heap.size, 1, #[x], rfl, Nat.le_refl _, heap_alloc_last w _, Nat.le_refl _, by decide, rfl, rfl⟩⟩
theorem one_sC22 (l : List (List UInt8)) : ∀ u ∈ sC l, u.oneCell' = true := fun u hu => by
  obtain ⟨t, _, rfl⟩ := List.mem_map.1 hu
  rfl
/-- What a client's fields may be. -/
structure FO22 (l : List Fd) : Prop where
  len : l.length ≤ 1048576
  sz : ∀ f ∈ l, f.n.size ≤ 140737488355328 ∧ f.v.size ≤ 140737488355328
  lns : (Hw.lns l).length ≤ 70368744177664

end Go.Proofs.YtbpdhcfmdkmoiaaDoor

namespace Go.Proofs.YtbpdhcfmdkmoiaaDoor
open Go.RowKit

/-- The cells of a text's bytes. -/
def byteCells (l : List UInt8) : List Value := l.map fun c => .int .u8 (c.toNat : Int)

theorem own_below {w w' : World} {B e n : Nat} {v : Value} {xs : List Value} (h : w.ownsRow B e 1 v n xs) (hb : Below w.heap.size w w') : w'.ownsRow B e 1 v n xs :=
  h.kept (row := none) ⟨hb.os, hb.tape, hb.output, hb.size, fun k hk _ => hb.block k hk⟩ (by cases hv : v.ownBlock <;> simp)

end Go.Proofs.YtbpdhcfmdkmoiaaDoor
