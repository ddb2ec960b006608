/-
  The document's Path, Begins: by their contracts.
  The document's disk in memory; at: by its contract.
  The document's Put: by its contract.
  The document's Put where it is done, Remove: by their contracts.
  The document's Remove, Get: by their contracts.
  Files compared; the document's List, Same: by their contracts.
  A script of calls that came in: each is a change of a disk.
  The laws' body: by its contract.
-/
import Derived.Test.YtgbnelglhkfdfaaGreatDoorFtG
import Derived.Test.YtgbnelglhkfdfaaGreatDoorFtA
import Derived.Lib.Strings
import Derived.Laws.Cover1
import Derived.Laws.OwnMore
import Derived.Great.BuildSlice
import Derived.Deep.QuietTactic
import Derived.BigQuiet
import Derived.Deep.CutRange
import Derived.Maps.AppendAt
import Derived.Laws.StructEq
import Derived.Test.YtgbnelglhkfdfaaGreatDoorProg
import Derived.Deep.Slices
import Derived.Deep.Strs
import Derived.SizedLaws
import Derived.RowKit
import Derived.ProofKit
import Derived.OpenShut
import Derived.BigRegion
import Derived.Laws.MakeOwn
namespace Go.Proofs.YtgbnelglhkfdfaaGreatDoor
open Go.RowKit

theorem du8_eq {c : UInt8} {n : Nat} (h : ((c.toNat : Int) == (n : Int)) = true) (hn : n < 256) : c = UInt8.ofNat n := by
  rw [beq_iff_eq] at h
  apply UInt8.toNat_inj.1
  rw [UInt8.toNat_ofNat', Nat.mod_eq_of_lt hn]; omega
theorem du8_ne {c : UInt8} {n : Nat} (h : ((c.toNat : Int) == (n : Int)) = false) (hn : n < 256) : c ≠ UInt8.ofNat n := by
  rw [beq_eq_false_iff_ne] at h
  intro e; apply h; rw [e, UInt8.toNat_ofNat', Nat.mod_eq_of_lt hn]
theorem dret_bool {a b : Bool} (h : a = b) : Ending.returned (.bool a) = .returned (.bool b) := by rw [h]
theorem path_long (L : List UInt8) (h : 255 < L.length) : Dk.path L = false := by
  cases L with
  | nil => rfl
  | cons c r => simp only [Dk.path]; rw [decide_eq_false (by simp at h; omega)]; rfl
theorem path_short (L : List UInt8) (h : L.length < 2) : Dk.path L = false := by
  match L, h with
  | [], _ => rfl
  | [c], _ => simp [Dk.path, Dk.pOk, Dk.good]
theorem take_one (L : List UInt8) (f k : Nat) (c : UInt8) (hf : f ≤ k) (hc : L[k]? = some c) : (L.drop f).take (k + 1 - f) = (L.drop f).take (k - f) ++ [c] := by
  rw [show k + 1 - f = (k - f) + 1 by omega, List.take_add_one, List.getElem?_drop, show f + (k - f) = k by omega, hc]
  rfl
theorem drop_one (L : List UInt8) (k : Nat) (c : UInt8) (hc : L[k]? = some c) : L.drop k = c :: L.drop (k + 1) := by
  obtain ⟨h1, h2⟩ := List.getElem?_eq_some_iff.1 hc
  rw [List.drop_eq_getElem_cons h1, h2]

set_option maxHeartbeats 2000000 in
set_option maxRecDepth 20000 in
theorem rpath (s : ByteArray) (b : Bool) (hb : Dk.path s.data.toList = b) (w : World) (hs : s.size ≤ 9223372036854775807) : Calls Tryz.prog 58 #[.string s] w fun e w' => e = .returned (.bool b) ∧ w' = w := by
  have HB := hid' hb
  clear hb
  have hsz : s.data.toList.length = s.size := by rw [← Lib.size_eq]
  by_cases h1 : 255 < s.size
  · have HF : Hid (b = false) := hid' (by rw [← HB.out]; exact path_long _ (by omega))
    have h1' : (255 : Int) < (s.size : Int) := by omega
    clear hsz
    go_enter Tryz.func58, Tryz.ntmps58
    go_wp2
    go_ret
    exact ⟨by rw [HF.out]; rfl, rfl⟩
  have h1' : ¬ (255 : Int) < (s.size : Int) := by omega
  by_cases h2 : s.size < 2
  · have HF : Hid (b = false) := hid' (by rw [← HB.out]; exact path_short _ (by omega))
    have h2' : (s.size : Int) < 2 := by omega
    clear hsz
    go_enter Tryz.func58, Tryz.ntmps58
    go_wp2
    go_ret
    exact ⟨by rw [HF.out]; rfl, rfl⟩
  have h2' : ¬ (s.size : Int) < 2 := by omega
  have h0 : 0 < s.size := by omega
  obtain ⟨L, hL⟩ : ∃ L, s.data.toList = L := ⟨_, rfl⟩
  have HL := hid' hL
  rw [hL] at hsz HB
  have HSZ := hid' hsz
  have hc0 : L[0]? = some s[0] := by rw [← hL, List.getElem?_eq_getElem (by rw [hL]; omega)]; rfl
  by_cases c0' : ((s[0].toNat : Int) == 47) = false
  · have HF : Hid (b = false) := hid' (by
      rw [← HB.out]
      have := drop_one L 0 _ hc0
      rw [List.drop_zero] at this
      rw [this]
      have hne := du8_ne c0' (by decide)
      have : (s[0] == 47) = false := beq_false_of_ne hne
      simp only [Dk.path, this, Bool.false_and, Bool.and_false])
    clear hsz hL hc0
    go_enter Tryz.func58, Tryz.ntmps58
    go_wp2
    go_ret
    exact ⟨by rw [HF.out]; rfl, rfl⟩
  have c0 : ((s[0].toNat : Int) == 47) = true := by simpa using c0'
  clear c0'
  have HP : Hid (b = Dk.pOk [] (L.drop 1)) := hid' (by
    rw [← HB.out]
    have := drop_one L 0 _ hc0
    rw [List.drop_zero] at this
    have hne := du8_eq c0 (by decide)
    have e47 : (s[0] == 47) = true := by rw [hne]; rfl
    have hlen : (L.drop (0 + 1)).length + 1 ≤ 255 := by rw [List.length_drop]; omega
    rw [this]
    simp only [Dk.path, e47, Bool.true_and, decide_eq_true hlen, List.drop_succ_cons, List.drop_zero])
  clear hsz hL hc0
  go_enter Tryz.func58, Tryz.ntmps58
  go_wp2
  go_loopw [3, 4, 5] (fun s3 s4 _ wr => ∃ f k : Nat, s3 = .int .i64 (f : Int) ∧ s4 = .int .i64 (k : Int) ∧ k ≤ s.size + 1 ∧ f ≤ k ∧ wr = w ∧ Hid ((k ≤ s.size → b = Dk.pOk ((L.drop f).take (k - f)) (L.drop k)) ∧ (k = s.size + 1 → b = true))) (fun _ s4 _ _ => s.size + 1 - (intOf s4).toNat)
  case atStart => exact ⟨1, 1, rfl, rfl, by omega, Nat.le_refl _, rfl, hid' ⟨fun _ => by rw [HP.out]; simp, fun h => by omega⟩⟩
  case round =>
    obtain ⟨f, k, rfl, rfl, hk, hfk, hwr, HR⟩ := hrel
    subst wr
    by_cases hlt : k < s.size
    · have hlt2 : (k : Int) < (s.size : Int) := by omega
      have hle2 : (k : Int) ≤ (s.size : Int) := by omega
      have hck : L[k]? = some s[k] := by rw [← HL.out, List.getElem?_eq_getElem (by rw [← Lib.size_eq]; exact hlt)]; rfl
      have hdr := drop_one L k _ hck
      have HB2 : Hid (b = Dk.pOk ((L.drop f).take (k - f)) (s[k] :: L.drop (k + 1))) := hid' (by rw [← hdr]; exact HR.out.1 (by omega))
      have HTK : Hid ((L.drop f).take (k + 1 - f) = (L.drop f).take (k - f) ++ [s[k]]) := hid' (take_one L f k _ hfk hck)
      clear hck hdr HR
      by_cases ck : ((s[k].toNat : Int) == 47) = true
      · have HK : Hid (s[k] = 47) := hid' (du8_eq ck (by decide))
        obtain ⟨p, hp⟩ : ∃ p, s.extract f k = p := ⟨_, rfl⟩
        have HPL : Hid (p.toList = (L.drop f).take (k - f)) := hid' (by rw [← hp, Lib.toList_data, Lib.extract_data, HL.out])
        have HB3 : Hid (b = (Dk.good p.toList && Dk.pOk [] (L.drop (k + 1)))) := hid' (by rw [HB2.out, HPL.out, Dk.pOk, if_pos HK.out])
        clear HB2 HK
        by_cases g1 : (p.toList == []) = true
        · have HF : Hid (b = false) := hid' (by rw [HB3.out]; simp only [Dk.good, g1]; rfl)
          go_wp2
          go_ret
          exact ⟨by rw [HF.out]; rfl, rfl⟩
        have g1' : (p.toList == []) = false := by simpa using g1
        by_cases g2 : (p.toList == [46]) = true
        · have HF : Hid (b = false) := hid' (by rw [HB3.out]; simp only [Dk.good, g2]; simp)
          clear g1
          go_wp2
          go_ret
          exact ⟨by rw [HF.out]; rfl, rfl⟩
        have g2' : (p.toList == [46]) = false := by simpa using g2
        by_cases g3 : (p.toList == [46, 46]) = true
        · have HF : Hid (b = false) := hid' (by rw [HB3.out]; simp only [Dk.good, g3]; simp)
          clear g1 g2
          go_wp2
          go_ret
          exact ⟨by rw [HF.out]; rfl, rfl⟩
        have g3' : (p.toList == [46, 46]) = false := by simpa using g3
        have HN : Hid (b = Dk.pOk ((L.drop (k + 1)).take (k + 1 - (k + 1))) (L.drop (k + 1))) := hid' (by
          rw [HB3.out]
          have : Dk.good p.toList = true := by unfold Dk.good; rw [g1', g2', g3']; rfl
          rw [this]; simp)
        clear g1 g2 g3
        go_wp2
        go_roundw
        case rel => exact ⟨k + 1, k + 1, by go_num, by go_num, by omega, Nat.le_refl _, by first | rfl | trivial, hid' ⟨fun _ => HN.out, fun h => by omega⟩⟩
        case measure => simp [intOf]; omega
      · have ck' : ((s[k].toNat : Int) == 47) = false := by simpa using ck
        have HK : Hid (¬ s[k] = 47) := hid' (du8_ne ck' (by decide))
        have HB3 : Hid (b = ((decide (32 ≤ s[k].toNat) && decide (s[k].toNat ≤ 126)) && Dk.pOk ((L.drop f).take (k - f) ++ [s[k]]) (L.drop (k + 1)))) := hid' (by rw [HB2.out, Dk.pOk, if_neg HK.out])
        clear HB2 HK ck
        by_cases d1 : s[k].toNat < 32
        · have HF : Hid (b = false) := hid' (by rw [HB3.out, decide_eq_false (by omega)]; rfl)
          have d1' : (s[k].toNat : Int) < 32 := by omega
          go_wp2
          go_ret
          exact ⟨by rw [HF.out]; rfl, rfl⟩
        have d1' : ¬ (s[k].toNat : Int) < 32 := by omega
        by_cases d2 : 126 < s[k].toNat
        · have HF : Hid (b = false) := hid' (by rw [HB3.out, decide_eq_false (show ¬ s[k].toNat ≤ 126 by omega)]; simp)
          have d2' : (126 : Int) < (s[k].toNat : Int) := by omega
          go_wp2
          go_ret
          exact ⟨by rw [HF.out]; rfl, rfl⟩
        have d2' : ¬ (126 : Int) < (s[k].toNat : Int) := by omega
        have HN : Hid (b = Dk.pOk ((L.drop f).take (k + 1 - f)) (L.drop (k + 1))) := hid' (by
          rw [HB3.out, HTK.out, decide_eq_true (by omega), decide_eq_true (by omega)]; rfl)
        go_wp2
        go_roundw
        case rel => exact ⟨f, k + 1, rfl, by go_num, by omega, by omega, by first | rfl | trivial, hid' ⟨fun _ => HN.out, fun h => by omega⟩⟩
        case measure => simp [intOf]; omega
    · by_cases hke : k = s.size
      · have hlt2 : ¬ (k : Int) < (s.size : Int) := by omega
        have hle2 : (k : Int) ≤ (s.size : Int) := by omega
        obtain ⟨p, hp⟩ : ∃ p, s.extract f k = p := ⟨_, rfl⟩
        have HPL : Hid (p.toList = (L.drop f).take (k - f)) := hid' (by rw [← hp, Lib.toList_data, Lib.extract_data, HL.out])
        have HB3 : Hid (b = Dk.good p.toList) := hid' (by
          rw [HR.out.1 (by omega), HPL.out, List.drop_of_length_le (i := k) (by rw [HSZ.out]; omega)]; rfl)
        have HKE := hid' hke
        have hks : k ≤ s.size := by omega
        clear hke HR hlt
        by_cases g1 : (p.toList == []) = true
        · have HF : Hid (b = false) := hid' (by rw [HB3.out]; simp only [Dk.good, g1]; rfl)
          go_wp2
          go_ret
          exact ⟨by rw [HF.out]; rfl, rfl⟩
        have g1' : (p.toList == []) = false := by simpa using g1
        by_cases g2 : (p.toList == [46]) = true
        · have HF : Hid (b = false) := hid' (by rw [HB3.out]; simp only [Dk.good, g2]; simp)
          clear g1
          go_wp2
          go_ret
          exact ⟨by rw [HF.out]; rfl, rfl⟩
        have g2' : (p.toList == [46]) = false := by simpa using g2
        by_cases g3 : (p.toList == [46, 46]) = true
        · have HF : Hid (b = false) := hid' (by rw [HB3.out]; simp only [Dk.good, g3]; simp)
          clear g1 g2
          go_wp2
          go_ret
          exact ⟨by rw [HF.out]; rfl, rfl⟩
        have g3' : (p.toList == [46, 46]) = false := by simpa using g3
        have HN : Hid (b = true) := hid' (by rw [HB3.out]; unfold Dk.good; rw [g1', g2', g3']; rfl)
        clear g1 g2 g3
        go_wp2
        go_roundw
        case rel => exact ⟨k + 1, k + 1, by go_num, by go_num, by have := HKE.out; omega, Nat.le_refl _, by first | rfl | trivial, hid' ⟨fun h => by have := HKE.out; omega, fun _ => HN.out⟩⟩
        case measure => simp [intOf]; omega
      · have hle2 : ¬ (k : Int) ≤ (s.size : Int) := by omega
        have HN : Hid (b = true) := hid' (HR.out.2 (by omega))
        clear hke hlt HR
        go_wp2
        go_ret
        exact ⟨by rw [HN.out]; rfl, rfl⟩

theorem rbegins (s h : ByteArray) (b : Bool) (hb : h.data.toList.isPrefixOf s.data.toList = b) (w : World) : Calls Tryz.prog 18 #[.string s, .string h] w fun e w' => e = .returned (.bool b) ∧ w' = w := by
  by_cases hl : h.size ≤ s.size
  · have hl2 : (h.size : Int) ≤ (s.size : Int) := by omega
    obtain ⟨p, hp⟩ : ∃ p, s.extract 0 h.size = p := ⟨_, rfl⟩
    have HE : Hid ((p.toList == h.toList) = b) := hid' (by
      rw [← hb, ← hp, Lib.toList_data, Lib.toList_data, Lib.extract_data, List.drop_zero, Nat.sub_zero, Lib.size_eq]
      rw [Bool.eq_iff_iff, List.isPrefixOf_iff_prefix, List.prefix_iff_eq_take, beq_iff_eq]
      exact eq_comm)
    have he := HE.out
    clear hb HE
    go_enter Tryz.func18, Tryz.ntmps18
    go_wp2
    go_ret
    exact ⟨rfl, rfl⟩
  · have hl2 : ¬ (h.size : Int) ≤ (s.size : Int) := by omega
    have HF : Hid (b = false) := hid' (by
      rw [← hb]
      cases hq : h.data.toList.isPrefixOf s.data.toList
      · rfl
      · have := (List.isPrefixOf_iff_prefix.1 hq).length_le
        rw [← Lib.size_eq, ← Lib.size_eq] at this
        omega)
    clear hb hl
    go_enter Tryz.func18, Tryz.ntmps18
    go_wp2
    go_ret
    exact ⟨by rw [HF.out]; rfl, rfl⟩

end Go.Proofs.YtgbnelglhkfdfaaGreatDoor

namespace Go.Proofs.YtgbnelglhkfdfaaGreatDoor
open Go.RowKit

def enV (e : Dk.En) : List Value := [.string e.path, .string e.body, .int .i64 e.time, .int .i64 e.seq]
def enC (es : List Dk.En) : List Value := es.flatMap enV
theorem enC_append (l m : List Dk.En) : enC (l ++ m) = enC l ++ enC m := by simp [enC]
theorem enC_cons (p : Dk.En) (m : List Dk.En) : enC (p :: m) = enV p ++ enC m := by simp [enC]
theorem enC_length (l : List Dk.En) : (enC l).length = l.length * 4 := by
  induction l with
  | nil => rfl
  | cons a r ih => rw [enC_cons]; simp [enV]; omega
theorem en_at (l : List Dk.En) (i : Nat) (p : Dk.En) (h : l[i]? = some p) : ∀ j, j < 4 → (enC l)[i * 4 + j]? = (enV p)[j]? := by
  induction l generalizing i with
  | nil => simp at h
  | cons a r ih =>
    intro j hj
    rw [enC_cons]
    cases i with
    | zero => simp at h; subst h; rw [List.getElem?_append_left (by simp [enV]; omega)]; congr 1; omega
    | succ i =>
      rw [List.getElem?_append_right (by simp [enV]; omega), show (i + 1) * 4 + j - (enV a).length = i * 4 + j by simp [enV]; omega]
      exact ih i (by simpa using h) j hj
theorem en_take (l : List Dk.En) (i : Nat) : enC (l.take i) = (enC l).take (i * 4) := by
  induction l generalizing i with
  | nil => simp [enC]
  | cons a r ih =>
    cases i with
    | zero => simp [enC]
    | succ i =>
      have : (i + 1) * 4 = (enV a).length + i * 4 := by simp [enV]; omega
      rw [List.take_succ_cons, enC_cons, enC_cons, ih, this, List.take_append, List.take_of_length_le (l := enV a) (by omega), Nat.add_sub_cancel_left]
theorem en_drop (l : List Dk.En) (i : Nat) : enC (l.drop i) = (enC l).drop (i * 4) := by
  induction l generalizing i with
  | nil => simp [enC]
  | cons a r ih =>
    cases i with
    | zero => simp
    | succ i =>
      have : (i + 1) * 4 = (enV a).length + i * 4 := by simp [enV]; omega
      rw [List.drop_succ_cons, enC_cons, ih, this, List.drop_append, List.drop_of_length_le (l := enV a) (by omega), Nat.add_sub_cancel_left, List.nil_append]
theorem en_one (l : List Dk.En) : ∀ u ∈ enC l, u.oneCell' = true := by
  intro u hu
  simp only [enC, List.mem_flatMap] at hu
  obtain ⟨p, _, hp⟩ := hu
  simp only [enV, List.mem_cons, List.not_mem_nil, or_false] at hp
  rcases hp with rfl | rfl | rfl | rfl <;> rfl

/-- A row of files that can be read. -/
def RE (w : World) (v : Value) (n : Nat) (xs : List Value) : Prop :=
  (v = .slice none 0 0 ∧ n = 0) ∨ ∃ a cap, v = .slice (some a) n cap ∧ ∀ j u, xs[j]? = some u → (a.add j).block < w.heap.size ∧ w.cell? (a.add j) = some u
theorem RE.keep {w w' : World} {v : Value} {n : Nat} {xs : List Value} (h : RE w v n xs) (hb : Below w.heap.size w w') : RE w' v n xs := by
  rcases h with h | ⟨a, cap, hv, hc⟩
  · exact .inl h
  · exact .inr ⟨a, cap, hv, fun j u hj => ⟨Nat.lt_of_lt_of_le (hc j u hj).1 hb.size, (hb.cell (hc j u hj).1).trans (hc j u hj).2⟩⟩
theorem RE.of_own {w : World} {B : Nat} {e : TypeId} {s : Nat} {v : Value} {n : Nat} {xs : List Value} (h : w.ownsRow B e s v n xs) : RE w v n xs := by
  rcases h.2 with ⟨hv, hn⟩ | ⟨g, cap, cur, hv, _, h3, _⟩
  · exact .inl ⟨hv, hn⟩
  · refine .inr ⟨⟨g, 0, none⟩, cap, hv, fun j u hj => ⟨?_, ?_⟩⟩
    · have := (Array.getElem?_eq_some_iff.1 h3).1
      unfold Addr.add
      split <;> exact this
    · exact h.cells (g := g) (by rw [hv]; rfl) j u hj
theorem RE.shape {w : World} {v : Value} {n : Nat} {xs : List Value} (h : RE w v n xs) : ∃ ao cap, v = .slice ao n cap := by
  rcases h with ⟨h, rfl⟩ | ⟨a, cap, h, _⟩
  · exact ⟨none, 0, h⟩
  · exact ⟨some a, cap, h⟩
theorem RE.four {w : World} {ao : Option Addr} {n n' cap : Nat} {l : List Dk.En} (h : RE w (.slice ao n cap) n' (enC l)) (hn : n' = l.length) (i : Nat) (p : Dk.En) (hp : l[i]? = some p) : ∃ a, ao = some a ∧ w.cell? (a.add (i * 4)) = some (.string p.path) ∧ w.cell? ⟨(a.add (i * 4)).block, (a.add (i * 4)).off + 1, none⟩ = some (.string p.body) ∧ w.cell? ⟨(a.add (i * 4)).block, (a.add (i * 4)).off + 2, none⟩ = some (.int .i64 p.time) ∧ w.cell? ⟨(a.add (i * 4)).block, (a.add (i * 4)).off + 3, none⟩ = some (.int .i64 p.seq) := by
  rcases h with ⟨_, rfl⟩ | ⟨a, cap', hv, hc⟩
  · have := (List.getElem?_eq_some_iff.1 hp).1; omega
  · injection hv with h1 _ _
    have key : ∀ j u, j < 4 → (enV p)[j]? = some u → w.cell? (a.add (i * 4 + j)) = some u := fun j u hj hu => (hc _ _ ((en_at l i p hp j hj).trans hu)).2
    have k0 := key 0 _ (by omega) rfl
    have k1 := key 1 _ (by omega) rfl
    have k2 := key 2 _ (by omega) rfl
    have k3 := key 3 _ (by omega) rfl
    rw [← Addr.add_add] at k0 k1 k2 k3
    refine ⟨a, h1, ?_, ?_, ?_, ?_⟩
    · simpa [Addr.add] using k0
    · simpa [Addr.add] using k1
    · simpa [Addr.add] using k2
    · simpa [Addr.add] using k3

/-- The document's disk in memory. -/
structure RD (w : World) (B b : Nat) (v : Value) (q : Int) (es : List Dk.En) : Prop where
  ge : B ≤ b
  obj : Ar w b 50 #[v, .int .i64 q]
  row : w.ownsRow B 48 4 v es.length (enC es)
  ok : Dk.Ok es
  le : es.length ≤ 1024
/-- Its blocks. -/
def DS13 (b : Nat) (v : Value) (k : Nat) : Prop := k = b ∨ v.ownBlock = some k
theorem RD.lb {w : World} {B b : Nat} {v : Value} {q : Int} {es : List Dk.En} (h : RD w B b v q es) : B ≤ w.heap.size := Nat.le_trans h.ge (Nat.le_of_lt h.obj.lt)
theorem RD.rs {w : World} {B b : Nat} {v : Value} {q : Int} {es : List Dk.En} (h : RD w B b v q es) : ∀ k, DS13 b v k → B ≤ k ∧ k < w.heap.size := by
  rintro k (rfl | hk)
  · exact ⟨h.ge, h.obj.lt⟩
  · exact ⟨(own_ty h.row k hk).1, own_lt h.row k hk⟩
theorem RD.other {S : Nat → Prop} {w w' : World} {B b : Nat} {v : Value} {q : Int} {es : List Dk.En} (h : RD w B b v q es) (hf : LF S w w') (hs : ∀ k, DS13 b v k → ¬ S k) : RD w' B b v q es :=
  ⟨h.ge, hf.ar h.obj (hs b (.inl rfl)), own_same h.row (fun k hk => hf.block k (own_lt h.row k hk) (hs k (.inr hk))), h.ok, h.le⟩
theorem RD.keep {w w' : World} {B b : Nat} {v : Value} {q : Int} {es : List Dk.En} (h : RD w B b v q es) (hb : Below w.heap.size w w') : RD w' B b v q es :=
  h.other (LF.of_below (S := fun _ => False) hb) (fun _ _ => id)
theorem RD.drewN {w : World} {B b : Nat} {v : Value} {q : Int} {es : List Dk.En} (h : RD w B b v q es) (m : Nat) : RD (w.drewN m) B b v q es := h.keep ⟨rfl, rfl, rfl, Nat.le_refl _, fun _ _ => rfl⟩
theorem down_shape {w : World} {B : Nat} {e : TypeId} {s : Nat} {v : Value} {n : Nat} {xs : List Value} (h : w.ownsRow B e s v n xs) : ∃ ao cap, v = .slice ao n cap := by
  rcases h.2 with ⟨h, h0⟩ | ⟨g, cap, cur, h, _⟩
  · exact ⟨none, 0, by rw [h, h0]⟩
  · exact ⟨_, _, h⟩

set_option maxHeartbeats 2000000 in
set_option maxRecDepth 20000 in
theorem dat (B b : Nat) (v : Value) (q : Int) (es : List Dk.En) (x : ByteArray) (i : Nat) (d : Bool) (hi : Dk.at' x.data.toList es = i) (hd : Dk.has x.data.toList es = d) (w : World) (h : RD w B b v q es) :
    Calls Tryz.prog 59 #[.pointer (some ⟨b, 0, none⟩), .string x] w fun e w' => e = .returned (.tuple #[.int .i64 (i : Int), .bool d]) ∧ ∃ m, w' = w.drewN m := by
  have c0 := h.obj.cell 0 _ rfl
  obtain ⟨ao, cap, hv⟩ := down_shape h.row
  subst hv
  have HR := hid' (RE.of_own h.row)
  have hl := h.le
  have HIL : Hid (i ≤ es.length) := hid' (by rw [← hi]; exact Dk.at_le _ _)
  have HBE : Hid (∀ t p, t < i → es[t]? = some p → Dk.key p < x.data.toList) := hid' (fun t p ht hp => Dk.pl_below x.data.toList (Dk.ks es) t (Dk.key p) (by rw [← hi] at ht; exact ht) (by simp [Dk.ks, hp]))
  have HAT : Hid (∀ p, es[i]? = some p → ¬ Dk.key p < x.data.toList) := hid' (fun p hp => Dk.pl_at x.data.toList (Dk.ks es) (Dk.key p) (by rw [← hi] at hp; simp only [Dk.ks, List.getElem?_map]; unfold Dk.at' Dk.ks at hp; rw [hp]; rfl))
  have HM : Hid (x.data.toList ∈ Dk.ks es ↔ (Dk.ks es)[i]? = some x.data.toList) := hid' (by rw [← hi]; exact Dk.mem_iff _ _ h.ok)
  have HD := hid' hd
  obtain ⟨n, hn⟩ : ∃ n, es.length = n := ⟨_, rfl⟩
  have HN := hid' hn
  rw [hn] at HR c0 hl HIL
  clear h hn hi hd
  go_enter Tryz.func59, Tryz.ntmps59
  go_wp2
  go_loopw [6] (fun s6 wr => ∃ k : Nat, s6 = .int .i64 (k : Int) ∧ k ≤ i ∧ wr = w) (fun s6 _ => n - (intOf s6).toNat)
  case atStart => exact ⟨0, rfl, Nat.zero_le _, rfl⟩
  case round =>
    obtain ⟨k, rfl, hk, hwr⟩ := hrel
    subst wr
    have hin := HIL.out
    by_cases hlt : k < n
    · have hlt2 : (k : Int) < (n : Int) := by omega
      obtain ⟨p, hp⟩ : ∃ p, es[k]? = some p := ⟨_, List.getElem?_eq_getElem (by rw [HN.out]; exact hlt)⟩
      obtain ⟨a, hao, y0, y1, y2, y3⟩ := HR.out.four HN.out.symm k p hp
      subst hao
      clear y1 y2 y3
      by_cases hki : k < i
      · have hpx : Op.bytesLess p.path.toList x.toList = true := by
          rw [bytesLess_eq, Lib.toList_data, Lib.toList_data]
          exact decide_eq_true (HBE.out k p hki hp)
        clear hp
        go_wp2
        go_roundw
        case rel => exact ⟨k + 1, by go_num, by omega, by first | rfl | trivial⟩
        case measure => simp [intOf]; omega
      · obtain rfl : k = i := by omega
        have hpx : Op.bytesLess p.path.toList x.toList = false := by
          rw [bytesLess_eq, Lib.toList_data, Lib.toList_data]
          exact decide_eq_false (HAT.out p hp)
        have hde : (p.path.toList == x.toList) = d := by
          rw [← HD.out, Lib.toList_data, Lib.toList_data]
          have h1 := HM.out
          have h2 : (Dk.ks es)[k]? = some (Dk.key p) := by simp [Dk.ks, hp]
          rw [h2] at h1
          unfold Dk.has
          by_cases e : Dk.key p = x.data.toList
          · rw [decide_eq_true (h1.2 (by rw [e]))]; exact beq_iff_eq.2 e
          · rw [decide_eq_false (fun hm => e (by have := h1.1 hm; injection this))]; exact beq_false_of_ne e
        clear hp hin
        go_wp2
        go_quiet (fail)
        go_wp2
        go_ret2
        exact ⟨rfl, _, rfl⟩
    · have hlt2 : ¬ (k : Int) < (n : Int) := by omega
      obtain rfl : k = n := by omega
      obtain rfl : i = k := by omega
      have HDE : Hid (d = false) := hid' (by
        rw [← HD.out]
        refine decide_eq_false fun hm => ?_
        have h1 := HM.out.1 hm
        rw [List.getElem?_eq_none (by rw [Dk.ks_len, HN.out]; exact Nat.le_refl _)] at h1
        cases h1)
      clear hin hlt
      go_wp2
      go_ret2
      exact ⟨by rw [HDE.out]; rfl, 0, rfl⟩

end Go.Proofs.YtgbnelglhkfdfaaGreatDoor

namespace Go.Proofs.YtgbnelglhkfdfaaGreatDoor
open Go.RowKit

theorem dinfo_parts {P : Program} {t : TypeId} {z : Option Value} {s b : Nat} (h : (P.info? t).map (fun i => (i.zero, i.size, i.bytes)) = some (z, s, b)) : ∃ i, P.info? t = some i ∧ i.zero = z ∧ i.size = s ∧ i.bytes = b := by
  cases hq : P.info? t with
  | none => simp [hq] at h
  | some i => simp [hq] at h; exact ⟨i, rfl, h.1, h.2.1, h.2.2⟩
theorem dinfoE : (Tryz.prog.info? 48).map (fun i => (i.zero, i.size, i.bytes)) = some (some (.agg #[.string ⟨#[]⟩, .string ⟨#[]⟩, .int .i64 0, .int .i64 0]), 4, 48) := by kernel_rfl
theorem down_le {w : World} {B B' : Nat} {e : TypeId} {s : Nat} {v : Value} {n : Nat} {xs : List Value} (h : w.ownsRow B e s v n xs) (hB : B' ≤ B) : w.ownsRow B' e s v n xs := by
  refine ⟨h.1, ?_⟩
  rcases h.2 with h0 | ⟨g, cap, cur, hv, hb, r⟩
  · exact .inl h0
  · exact .inr ⟨g, cap, cur, hv, Nat.le_trans hB hb, r⟩
theorem down_cell {w : World} {B : Nat} {e : TypeId} {s g n cap : Nat} {xs : List Value} (h : w.ownsRow B e s (.slice (some ⟨g, 0, none⟩) n cap) n xs) (j : Nat) (u : Value) (hj : xs[j]? = some u) : w.cell? ⟨g, j, none⟩ = some u := by
  have := h.cells (g := g) rfl j u hj
  rwa [Addr.add_mid, Nat.zero_add] at this
theorem down_form {w : World} {B : Nat} {e : TypeId} {s n : Nat} {v : Value} {xs : List Value} (h : w.ownsRow B e s v n xs) (hn : 0 < n) : ∃ g cap, v = .slice (some ⟨g, 0, none⟩) n cap ∧ n ≤ cap ∧ cap ≤ maxLen := by
  rcases h.2 with ⟨_, h0⟩ | ⟨g, cap, cur, hv, _, _, h1, h2, _⟩
  · omega
  · exact ⟨g, cap, hv, h1, h2⟩
/-- What Put and Remove answer, and what becomes of the files. -/
def PutOf13 (es : List Dk.En) (q : Int) (x y : ByteArray) (t : Int) (c : Int) (es' : List Dk.En) (q' : Int) : Prop :=
  (c = 130 ∧ Dk.path x.data.toList = false ∧ es' = es ∧ q' = q) ∨
  (c = 3 ∧ (Dk.path x.data.toList = true ∧ 65536 < y.size) ∧ es' = es ∧ q' = q) ∨
  (c = 5 ∧ (Dk.path x.data.toList = true ∧ y.size ≤ 65536 ∧ (t < 0 ∨ 253402300799 < t)) ∧ es' = es ∧ q' = q) ∨
  (c = 4 ∧ (Dk.path x.data.toList = true ∧ y.size ≤ 65536 ∧ (0 ≤ t ∧ t ≤ 253402300799) ∧ Dk.has x.data.toList es = false ∧ 1024 ≤ es.length) ∧ es' = es ∧ q' = q) ∨
  (c = 0 ∧ (Dk.path x.data.toList = true ∧ y.size ≤ 65536 ∧ (0 ≤ t ∧ t ≤ 253402300799) ∧ (Dk.has x.data.toList es = true ∨ es.length < 1024)) ∧ es' = Dk.put ⟨x, y, t, q + 1⟩ es ∧ q' = q + 1)
theorem putOf13_ex (es : List Dk.En) (q : Int) (x y : ByteArray) (t : Int) : ∃ c es' q', PutOf13 es q x y t c es' q' := by
  cases h1 : Dk.path x.data.toList
  · exact ⟨130, _, _, .inl ⟨rfl, h1, rfl, rfl⟩⟩
  by_cases h2 : 65536 < y.size
  · exact ⟨3, _, _, .inr (.inl ⟨rfl, ⟨h1, h2⟩, rfl, rfl⟩)⟩
  by_cases h3 : t < 0 ∨ 253402300799 < t
  · exact ⟨5, _, _, .inr (.inr (.inl ⟨rfl, ⟨h1, by omega, h3⟩, rfl, rfl⟩))⟩
  by_cases h4 : Dk.has x.data.toList es = false ∧ 1024 ≤ es.length
  · exact ⟨4, _, _, .inr (.inr (.inr (.inl ⟨rfl, ⟨h1, by omega, by omega, h4.1, h4.2⟩, rfl, rfl⟩)))⟩
  · refine ⟨0, _, _, .inr (.inr (.inr (.inr ⟨rfl, ⟨h1, by omega, by omega, ?_⟩, rfl, rfl⟩)))⟩
    cases h5 : Dk.has x.data.toList es
    · exact .inr (by have : ¬ 1024 ≤ es.length := fun h => h4 ⟨h5, h⟩; omega)
    · exact .inl rfl

set_option maxHeartbeats 2000000 in
set_option maxRecDepth 20000 in
theorem dput_no (B b : Nat) (v : Value) (q : Int) (es : List Dk.En) (x y : ByteArray) (t : Int) (w : World) (h : RD w B b v q es) (hx : x.size ≤ 9223372036854775807) (c : Int)
    (hc : (c = 130 ∧ Dk.path x.data.toList = false) ∨ (c = 3 ∧ (Dk.path x.data.toList = true ∧ 65536 < y.size)) ∨ (c = 5 ∧ (Dk.path x.data.toList = true ∧ y.size ≤ 65536 ∧ (t < 0 ∨ 253402300799 < t))) ∨ (c = 4 ∧ (Dk.path x.data.toList = true ∧ y.size ≤ 65536 ∧ (0 ≤ t ∧ t ≤ 253402300799) ∧ Dk.has x.data.toList es = false ∧ 1024 ≤ es.length))) :
    Calls Tryz.prog 34 #[.pointer (some ⟨b, 0, none⟩), .string x, .string y, .int .i64 t] w fun e w' => e = .returned (.int .i64 c) ∧ ∃ m, w' = w.drewN m := by
  rcases hc with ⟨rfl, h1⟩ | ⟨rfl, h1, h2⟩ | ⟨rfl, h1, h2, h3⟩ | ⟨rfl, h1, h2, h3, h4, h5⟩
  · have HP := hid' (rpath x false h1 w hx)
    clear h h1
    go_enter Tryz.func34, Tryz.ntmps34
    go_wp2_with fail
    refine HP.out.mono ?_
    rintro e w1 ⟨rfl, rfl⟩
    go_wp2
    go_ret
    exact ⟨rfl, 0, rfl⟩
  · have HP := hid' (rpath x true h1 w hx)
    have h2' : (65536 : Int) < (y.size : Int) := by omega
    clear h h1
    go_enter Tryz.func34, Tryz.ntmps34
    go_wp2_with fail
    refine HP.out.mono ?_
    rintro e w1 ⟨rfl, rfl⟩
    go_wp2
    go_ret
    exact ⟨rfl, 0, rfl⟩
  · have HP := hid' (rpath x true h1 w hx)
    have h2' : ¬ (65536 : Int) < (y.size : Int) := by omega
    clear h h1
    rcases h3 with h3 | h3
    · go_enter Tryz.func34, Tryz.ntmps34
      go_wp2_with fail
      refine HP.out.mono ?_
      rintro e w1 ⟨rfl, rfl⟩
      go_wp2
      go_ret
      exact ⟨rfl, 0, rfl⟩
    · have h4 : ¬ t < 0 := by omega
      go_enter Tryz.func34, Tryz.ntmps34
      go_wp2_with fail
      refine HP.out.mono ?_
      rintro e w1 ⟨rfl, rfl⟩
      go_wp2
      go_ret
      exact ⟨rfl, 0, rfl⟩
  · have HP := hid' (rpath x true h1 w hx)
    have h2' : ¬ (65536 : Int) < (y.size : Int) := by omega
    have h3' : ¬ t < 0 := by omega
    have h3'' : ¬ 253402300799 < t := by omega
    have HA := hid' (dat B b v q es x _ false rfl h4 w h)
    have c0 : ∀ m, (w.drewN m).cell? ⟨b, 0, none⟩ = some v := fun m => h.obj.cell 0 _ rfl
    obtain ⟨ao, cap, hv⟩ := down_shape h.row
    obtain ⟨n, hn⟩ : ∃ n, es.length = n := ⟨_, rfl⟩
    rw [hn] at hv h5
    subst hv
    have hge : (1024 : Int) ≤ (n : Int) := by omega
    clear h h1 h3 h4 hn
    go_enter Tryz.func34, Tryz.ntmps34
    go_wp2_with fail
    refine HP.out.mono ?_
    rintro e w1 ⟨rfl, rfl⟩
    go_wp2_with fail
    refine HA.out.mono ?_
    rintro e w2 ⟨rfl, m, hw2⟩
    have c0' := c0 m
    rw [← hw2] at c0'
    have HW := hid' hw2
    clear hw2 c0
    go_wp2
    go_ret
    exact ⟨rfl, m, HW.out⟩

end Go.Proofs.YtgbnelglhkfdfaaGreatDoor

namespace Go.Proofs.YtgbnelglhkfdfaaGreatDoor
open Go.RowKit

theorem four_new (w : World) (t : TypeId) (x y z u : Value) : ∀ j v, ([x, y, z, u] : List Value)[j]? = some v → (w.alloc (.cells #[x, y, z, u] t)).cell? ((⟨w.heap.size, 0, none⟩ : Addr).add j) = some v := by
  intro j v hj
  match j, hj with
  | 0, hj => simp at hj; subst hj; simp [Addr.add]
  | 1, hj => simp at hj; subst hj; simp [Addr.add]
  | 2, hj => simp at hj; subst hj; simp [Addr.add]
  | 3, hj => simp at hj; subst hj; simp [Addr.add]
/-- What the disk is when a number and a new row are laid into it. -/
theorem RD.put {w w1 w' : World} {B b : Nat} {v v' : Value} {q q' : Int} {es es' : List Dk.En} (h : RD w B b v q es) (h1 : LF (· = b) w w1) (ha : Ar w1 b 50 #[v, .int .i64 q']) (hb : Below w1.heap.size w1 w') (hr : w'.ownsRow w.heap.size 48 4 v' es'.length (enC es')) (h3 : Dk.Ok es') (h4 : es'.length ≤ 1024) :
    RD (w'.setCell ⟨b, 0, none⟩ v') B b v' q' es' ∧ LF (DS13 b v) w (w'.setCell ⟨b, 0, none⟩ v') ∧ ∀ k, v'.ownBlock = some k → v.ownBlock = some k ∨ w.heap.size ≤ k := by
  refine ⟨⟨h.ge, by have := (ha.keep hb).set 0 v'; simpa using this, ?_, h3, h4⟩, ?_, fun k hk => .inr (own_ty hr k hk).1⟩
  · refine own_same (down_le hr h.lb) (fun k hk => (upd_setCell w' b 0 v').block k (fun e => ?_))
    have := (own_ty hr k hk).1
    have := h.obj.lt
    omega
  · have l1 : LF (DS13 b v) w w1 := ⟨h1.os, h1.tape, h1.output, h1.size, fun k hk hs => h1.block k hk (fun e => hs (.inl e))⟩
    exact (l1.trans (LF.of_below (S := DS13 b v) hb) (fun _ _ h => h)).trans (LF.of_upd (b := b) (upd_setCell w' b 0 v') (.inl rfl)) (fun _ _ h => h)
theorem RD.nil {w : World} {B b : Nat} {v : Value} {q : Int} {es : List Dk.En} (h : RD w B b v q es) (hv : v = .slice none 0 0) : es = [] := by
  have := h.row
  rcases this.2 with ⟨_, h0⟩ | ⟨g, cap, cur, h1, _⟩
  · exact List.eq_nil_of_length_eq_zero h0
  · rw [hv] at h1; cases h1

set_option maxHeartbeats 8000000 in
set_option maxRecDepth 20000 in
theorem dput_new (B b g cap : Nat) (q : Int) (es : List Dk.En) (x y : ByteArray) (t : Int) (w : World) (h : RD w B b (.slice (some ⟨g, 0, none⟩) es.length cap) q es) (hx : x.size ≤ 9223372036854775807) (hp : Dk.path x.data.toList = true) (hy : y.size ≤ 65536) (ht : 0 ≤ t ∧ t ≤ 253402300799) (hh : Dk.has x.data.toList es = false) (hmm : es.length < 1024) (hnc : es.length ≤ cap) (hcm : cap ≤ maxLen) (hq0 : 0 ≤ q) (hq : q ≤ 9223372036854775806) :
    Calls Tryz.prog 34 #[.pointer (some ⟨b, 0, none⟩), .string x, .string y, .int .i64 t] w fun e w' => e = .returned (.int .i64 0) ∧ ∃ v', RD w' B b v' (q + 1) (Dk.put ⟨x, y, t, q + 1⟩ es) ∧ LF (DS13 b (.slice (some ⟨g, 0, none⟩) es.length cap)) w w' ∧ ∀ k, v'.ownBlock = some k → (Value.slice (some ⟨g, 0, none⟩) es.length cap).ownBlock = some k ∨ w.heap.size ≤ k := by
  obtain ⟨i0, hi0, hz0, hz1, hz2⟩ := dinfo_parts dinfoE
  have HI := hid' hi0
  have HZ0 := hid' hz0
  have HZ1 := hid' hz1
  have HZ2 := hid' hz2
  clear hi0 hz0 hz1 hz2
  obtain ⟨i, hi⟩ : ∃ i, Dk.at' x.data.toList es = i := ⟨_, rfl⟩
  obtain ⟨j, hj⟩ : ∃ j, j = i := ⟨_, rfl⟩
  have HP := hid' (rpath x true hp w hx)
  have HA := hid' (dat B b _ q es x i false hi hh w h)
  have hil : i ≤ es.length := by rw [← hi]; exact Dk.at_le _ _
  have hjl : j ≤ es.length := by
    omega
  have H := hid' h
  have HOK := hid' (Dk.put_ok es ⟨x, y, t, q + 1⟩ h.ok)
  have HPE : Hid (Dk.put ⟨x, y, t, q + 1⟩ es = es.take i ++ ⟨x, y, t, q + 1⟩ :: es.drop j) := hid' (by
    unfold Dk.put
    have hk : Dk.key ⟨x, y, t, q + 1⟩ = x.data.toList := rfl
    rw [hk, hi, hh, hj]
    simp)
  have HTA : Hid (enC (Dk.put ⟨x, y, t, q + 1⟩ es) = enC (es.take i) ++ [.string x, .string y, .int .i64 t, .int .i64 (q + 1)] ++ enC (es.drop j)) := hid' (by rw [HPE.out, enC_append, enC_cons]; simp [enV])
  obtain ⟨n, hn2⟩ : ∃ n, es.length = n := ⟨_, rfl⟩
  have HN := hid' hn2
  have HLE : Hid ((Dk.put ⟨x, y, t, q + 1⟩ es).length = i + 1 + (n - j)) := hid' (by rw [HPE.out]; simp [hn2]; omega)
  have HLM : Hid (i + 1 + (n - j) ≤ 1024) := hid' (by have := h.le; omega)
  have HL1 : Hid ((enC (es.take i)).length = i * 4) := hid' (by rw [enC_length, List.length_take]; omega)
  have HL2 : Hid ((enC (es.drop j)).length = (n - j) * 4) := hid' (by rw [enC_length, List.length_drop, hn2])
  have HSRC : Hid (∀ W, LF (· = b) w W → ∀ s u, (enC (es.drop j))[s]? = some u → W.cell? ⟨g, j * 4 + s, none⟩ = some u) := hid' (fun W hW s u hu => by
    rw [World.cell?_of_block (a := ⟨g, j * 4 + s, none⟩) (hW.block g (own_lt h.row g rfl) (own_apart h.row h.obj (by decide) g rfl))]
    rw [en_drop, List.getElem?_drop] at hu
    exact down_cell h.row _ _ hu)
  have HSR1 : Hid (∀ W, LF (· = b) w W → ∀ s u, (enC (es.take i))[s]? = some u → W.cell? ((⟨g, 0, none⟩ : Addr).add s) = some u) := hid' (fun W hW s u hu => by
    rw [Addr.add_lit, Nat.zero_add, World.cell?_of_block (a := ⟨g, s, none⟩) (hW.block g (own_lt h.row g rfl) (own_apart h.row h.obj (by decide) g rfl))]
    rw [en_take, List.getElem?_take] at hu
    split at hu
    · exact down_cell h.row _ _ hu
    · cases hu)
  have hy2 : ¬ (65536 : Int) < (y.size : Int) := by omega
  have ht1 : ¬ t < 0 := by omega
  have ht2 : ¬ 253402300799 < t := by omega
  have hle4 := h.le
  rw [hn2] at hil hnc H hle4 hjl hmm ⊢
  have hlt : ¬ (1024 : Int) ≤ (n : Int) := by omega
  have hic : i ≤ cap := by omega
  have hjc : j ≤ cap := by omega
  have hji : i = j := by omega
  have HJ := hid' hj
  have hcap : (cap : Int) ≤ 9223372036854775807 := by unfold maxLen at hcm; omega
  clear h hi hn2 hcm hh hp ht hj hy hmm
  subst hji
  go_enter Tryz.func34, Tryz.ntmps34
  go_wp2_with fail
  refine HP.out.mono ?_
  rintro e w0 ⟨rfl, hw0⟩
  subst w0
  go_wp2_with fail
  refine HA.out.mono ?_
  rintro e w1 ⟨rfl, m, hw1⟩
  have hb1 : Below w.heap.size w w1 := by rw [hw1]; exact ⟨rfl, rfl, rfl, Nat.le_refl _, fun _ _ => rfl⟩
  have HO1 := hid' (H.out.obj.keep hb1)
  have HZ1w : Hid (w1.heap.size = w.heap.size) := hid' (by rw [hw1]; rfl)
  have HL0 : Hid (LF (· = b) w w1) := hid' (LF.of_below hb1)
  have c0 := HO1.out.cell 0 _ rfl
  have c1 := HO1.out.cell 1 _ rfl
  have f1 := HO1.out.free 1
  clear hw1 hb1
  go_upto_region 11 with fail
  have HO2 : Hid (Ar (w1.setCell ⟨b, 1, none⟩ (.int .i64 (q + 1))) b 50 #[.slice (some ⟨g, 0, none⟩) n cap, .int .i64 (q + 1)]) := hid' (by have := HO1.out.set 1 (.int .i64 (q + 1)); simpa using this)
  have HL2' : Hid (LF (· = b) w (w1.setCell ⟨b, 1, none⟩ (.int .i64 (q + 1)))) := hid' (HL0.out.trans (LF.of_upd (S := (· = b)) (b := b) (upd_setCell w1 b 1 _) rfl) (fun _ _ h => h))
  have HZW : Hid ((w1.setCell ⟨b, 1, none⟩ (.int .i64 (q + 1))).heap.size = w.heap.size) := hid' (by rw [(upd_setCell w1 b 1 _).size]; exact HZ1w.out)
  generalize w1.setCell ⟨b, 1, none⟩ (.int .i64 (q + 1)) = w2 at *
  have d0 := HO2.out.cell 0 _ rfl
  have d1 := HO2.out.cell 1 _ rfl
  clear c0 c1 f1 HO1 HL0
  go_upto_region 12 with fail
  obtain ⟨xb, hxb⟩ : ∃ xb, w2.heap.size = xb := ⟨_, rfl⟩
  have HX3 : Hid (Ar (w2.alloc (.cells #[.string x, .string y, .int .i64 t, .int .i64 (q + 1)] 48)) xb 48 #[.string x, .string y, .int .i64 t, .int .i64 (q + 1)]) := hid' (by rw [← hxb]; exact heap_alloc_last w2 _)
  have HB3 : Hid (Below w2.heap.size w2 (w2.alloc (.cells #[.string x, .string y, .int .i64 t, .int .i64 (q + 1)] 48))) := hid' ((Below.refl _ _).alloc (Nat.le_refl _) _)
  have HXB := hid' hxb
  rw [hxb]
  generalize w2.alloc (.cells #[.string x, .string y, .int .i64 t, .int .i64 (q + 1)] 48) = w3 at *
  have d0' := (HO2.out.keep HB3.out).cell 0 _ rfl
  have HL3 : Hid (LF (· = b) w w3) := hid' (HL2'.out.trans (LF.of_below (S := (· = b)) HB3.out) (fun _ _ h => h))
  clear d0 d1 hxb
  obtain ⟨A, hA, HSA⟩ : ∃ A : Addr, (if cap = i then some (⟨g, 0, none⟩ : Addr) else some ⟨g, i * 4, none⟩) = some A ∧ Hid (∀ W, LF (· = b) w W → ∀ s u, (enC (es.drop i))[s]? = some u → W.cell? (A.add s) = some u) := by
    by_cases hc : cap = i
    · refine ⟨⟨g, 0, none⟩, by simp [hc], hid' (fun W hW s u hu => ?_)⟩
      rw [List.drop_of_length_le (by rw [HN.out]; omega)] at hu
      simp [enC] at hu
    · refine ⟨⟨g, i * 4, none⟩, by simp [hc], hid' (fun W hW s u hu => ?_)⟩
      rw [Addr.add_lit]
      exact HSRC.out W hW s u hu

  go_wp2_with (at_builtin; refine wpList_append_own_at _ rfl _ _ 44 rfl w.heap.size 48 i0 (.agg #[.string ⟨#[]⟩, .string ⟨#[]⟩, .int .i64 0, .int .i64 0]) 4 48 Tryz.underlying44 HI.out HZ0.out HZ1.out HZ2.out rfl (by decide) (.slice none 0 0) 0 [] rfl (World.ownsRow_nil _ _ _ _) ⟨g, 0, none⟩ i cap (enC (es.take i)) rfl HL1.out (HSR1.out _ HL3.out) (en_one _) (by unfold maxLen; omega) (by omega) HL3.out.size ?_; intro v4 w4 hown4 hgrow4 _ _; refine Hid.out ?_)
  refine hid' ?_
  rw [Nat.zero_add, List.nil_append] at hown4
  obtain ⟨o4, k4, hv4⟩ := down_shape hown4
  subst hv4
  have hg4 : Below w3.heap.size w3 w4 := (Below.refl w3.heap.size w3).grown hgrow4 (Nat.le_refl _) (fun k hk => by simp [Value.ownBlock] at hk)
  have e0 := (HX3.out.keep hg4).cell 0 _ rfl
  have e1 := (HX3.out.keep hg4).cell 1 _ rfl
  have e2 := (HX3.out.keep hg4).cell 2 _ rfl
  have e3 := (HX3.out.keep hg4).cell 3 _ rfl
  have HB4 := hid' (below_two HB3.out hg4)
  have HA4 : Hid ((w4.alloc (.cells #[.string x, .string y, .int .i64 t, .int .i64 (q + 1)] 48)).ownsRow w.heap.size 48 4 (.slice o4 i k4) i (enC (es.take i))) := hid' (hown4.alloc _)
  have HW4 : Hid (w.heap.size ≤ w4.heap.size) := hid' (Nat.le_trans HL3.out.size hg4.size)
  clear hown4 hgrow4 hg4 d0'
  go_wp2_with (at_builtin; refine wpList_append_own_at _ rfl _ _ 44 rfl w.heap.size 48 i0 (.agg #[.string ⟨#[]⟩, .string ⟨#[]⟩, .int .i64 0, .int .i64 0]) 4 48 Tryz.underlying44 HI.out HZ0.out HZ1.out HZ2.out rfl (by decide) (.slice o4 i k4) i (enC (es.take i)) rfl HA4.out ⟨w4.heap.size, 0, none⟩ 1 1 [.string x, .string y, .int .i64 t, .int .i64 (q + 1)] rfl rfl (four_new _ _ _ _ _ _) (by simp [Value.oneCell']) (by unfold maxLen; omega) (by omega) (by simp; have := HW4.out; omega) ?_; intro v5 w5 hown5 hgrow5 _ _; refine Hid.out ?_)
  refine hid' ?_
  obtain ⟨g5, k5, hv5, _, _⟩ := down_form hown5 (by omega)
  subst hv5
  have hb5 : Below w2.heap.size w2 w5 := (HB4.out.alloc HB4.out.size _).grown hgrow5 (by simp; have := HB4.out.size; omega) (fun k hk => by
    have := (HA4.out.lt k hk).1
    rw [HZW.out]; exact this)
  have HO5 := hid' hown5
  have HB5 := hid' hb5
  have HL5 : Hid (LF (· = b) w w5) := hid' (HL2'.out.trans (LF.of_below (S := (· = b)) hb5) (fun _ _ h => h))
  clear hown5 hgrow5 hb5 e0 e1 e2 e3 HB4 HA4
  go_wp2_with (at_builtin; refine wpList_append_own_at _ rfl _ _ 44 rfl w.heap.size 48 i0 (.agg #[.string ⟨#[]⟩, .string ⟨#[]⟩, .int .i64 0, .int .i64 0]) 4 48 Tryz.underlying44 HI.out HZ0.out HZ1.out HZ2.out rfl (by decide) (.slice (some ⟨g5, 0, none⟩) (i + 1) k5) (i + 1) (enC (es.take i) ++ [.string x, .string y, .int .i64 t, .int .i64 (q + 1)]) rfl HO5.out A (n - i) (cap - i) (enC (es.drop i)) rfl HL2.out (HSA.out _ HL5.out) (en_one _) (by unfold maxLen; omega) (by omega) HL5.out.size ?_; intro v6 w6 hown6 hgrow6 _ _; refine Hid.out ?_)
  refine hid' ?_
  obtain ⟨g6, k6, hv6, _, _⟩ := down_form hown6 (by omega)
  subst hv6
  have hb6 : Below w2.heap.size w2 w6 := HB5.out.grown hgrow6 HB5.out.size (fun k hk => by
    have := (HO5.out.lt k hk).1
    rw [HZW.out]; exact this)
  rw [← HTA.out] at hown6
  have HE := hid' (H.out.put (v' := .slice (some ⟨g6, 0, none⟩) (i + 1 + (n - i)) k6) HL2'.out HO2.out hb6 (by rw [HLE.out]; exact hown6) HOK.out (by rw [HLE.out]; exact HLM.out))
  have c6 := (HO2.out.keep hb6).cell 0 _ rfl
  have f6 := (HO2.out.keep hb6).free 0
  clear hown6 hgrow6 hb6 HO5 HB5 HL5
  go_wp2
  go_ret
  exact ⟨rfl, _, HE.out⟩

set_option maxHeartbeats 8000000 in
set_option maxRecDepth 20000 in
theorem dput_yes (B b g cap : Nat) (q : Int) (es : List Dk.En) (x y : ByteArray) (t : Int) (w : World) (h : RD w B b (.slice (some ⟨g, 0, none⟩) es.length cap) q es) (hx : x.size ≤ 9223372036854775807) (hp : Dk.path x.data.toList = true) (hy : y.size ≤ 65536) (ht : 0 ≤ t ∧ t ≤ 253402300799) (hh : Dk.has x.data.toList es = true) (hnc : es.length ≤ cap) (hcm : cap ≤ maxLen) (hq0 : 0 ≤ q) (hq : q ≤ 9223372036854775806) :
    Calls Tryz.prog 34 #[.pointer (some ⟨b, 0, none⟩), .string x, .string y, .int .i64 t] w fun e w' => e = .returned (.int .i64 0) ∧ ∃ v', RD w' B b v' (q + 1) (Dk.put ⟨x, y, t, q + 1⟩ es) ∧ LF (DS13 b (.slice (some ⟨g, 0, none⟩) es.length cap)) w w' ∧ ∀ k, v'.ownBlock = some k → (Value.slice (some ⟨g, 0, none⟩) es.length cap).ownBlock = some k ∨ w.heap.size ≤ k := by
  obtain ⟨i0, hi0, hz0, hz1, hz2⟩ := dinfo_parts dinfoE
  have HI := hid' hi0
  have HZ0 := hid' hz0
  have HZ1 := hid' hz1
  have HZ2 := hid' hz2
  clear hi0 hz0 hz1 hz2
  obtain ⟨i, hi⟩ : ∃ i, Dk.at' x.data.toList es = i := ⟨_, rfl⟩
  obtain ⟨j, hj⟩ : ∃ j, j = i + 1 := ⟨_, rfl⟩
  have HP := hid' (rpath x true hp w hx)
  have HA := hid' (dat B b _ q es x i true hi hh w h)
  have hil : i ≤ es.length := by rw [← hi]; exact Dk.at_le _ _
  have hjl : j ≤ es.length := by
    obtain ⟨e, he, _⟩ := Dk.has_lt _ es h.ok hh; rw [hi] at he; have := (List.getElem?_eq_some_iff.1 he).1; omega
  have H := hid' h
  have HOK := hid' (Dk.put_ok es ⟨x, y, t, q + 1⟩ h.ok)
  have HPE : Hid (Dk.put ⟨x, y, t, q + 1⟩ es = es.take i ++ ⟨x, y, t, q + 1⟩ :: es.drop j) := hid' (by
    unfold Dk.put
    have hk : Dk.key ⟨x, y, t, q + 1⟩ = x.data.toList := rfl
    rw [hk, hi, hh, hj]
    simp)
  have HTA : Hid (enC (Dk.put ⟨x, y, t, q + 1⟩ es) = enC (es.take i) ++ [.string x, .string y, .int .i64 t, .int .i64 (q + 1)] ++ enC (es.drop j)) := hid' (by rw [HPE.out, enC_append, enC_cons]; simp [enV])
  obtain ⟨n, hn2⟩ : ∃ n, es.length = n := ⟨_, rfl⟩
  have HN := hid' hn2
  have HLE : Hid ((Dk.put ⟨x, y, t, q + 1⟩ es).length = i + 1 + (n - j)) := hid' (by rw [HPE.out]; simp [hn2]; omega)
  have HLM : Hid (i + 1 + (n - j) ≤ 1024) := hid' (by have := h.le; omega)
  have HL1 : Hid ((enC (es.take i)).length = i * 4) := hid' (by rw [enC_length, List.length_take]; omega)
  have HL2 : Hid ((enC (es.drop j)).length = (n - j) * 4) := hid' (by rw [enC_length, List.length_drop, hn2])
  have HSRC : Hid (∀ W, LF (· = b) w W → ∀ s u, (enC (es.drop j))[s]? = some u → W.cell? ⟨g, j * 4 + s, none⟩ = some u) := hid' (fun W hW s u hu => by
    rw [World.cell?_of_block (a := ⟨g, j * 4 + s, none⟩) (hW.block g (own_lt h.row g rfl) (own_apart h.row h.obj (by decide) g rfl))]
    rw [en_drop, List.getElem?_drop] at hu
    exact down_cell h.row _ _ hu)
  have HSR1 : Hid (∀ W, LF (· = b) w W → ∀ s u, (enC (es.take i))[s]? = some u → W.cell? ((⟨g, 0, none⟩ : Addr).add s) = some u) := hid' (fun W hW s u hu => by
    rw [Addr.add_lit, Nat.zero_add, World.cell?_of_block (a := ⟨g, s, none⟩) (hW.block g (own_lt h.row g rfl) (own_apart h.row h.obj (by decide) g rfl))]
    rw [en_take, List.getElem?_take] at hu
    split at hu
    · exact down_cell h.row _ _ hu
    · cases hu)
  have hy2 : ¬ (65536 : Int) < (y.size : Int) := by omega
  have ht1 : ¬ t < 0 := by omega
  have ht2 : ¬ 253402300799 < t := by omega
  have hle4 := h.le
  rw [hn2] at hil hnc H hle4 hjl ⊢
  skip
  have hic : i ≤ cap := by omega
  have hjc : j ≤ cap := by omega
  have hji : (i : Int) + 1 = (j : Int) := by omega
  have HJ := hid' hj
  have hcap : (cap : Int) ≤ 9223372036854775807 := by unfold maxLen at hcm; omega
  clear h hi hn2 hcm hh hp ht hj hy 
  
  go_enter Tryz.func34, Tryz.ntmps34
  go_wp2_with fail
  refine HP.out.mono ?_
  rintro e w0 ⟨rfl, hw0⟩
  subst w0
  go_wp2_with fail
  refine HA.out.mono ?_
  rintro e w1 ⟨rfl, m, hw1⟩
  have hb1 : Below w.heap.size w w1 := by rw [hw1]; exact ⟨rfl, rfl, rfl, Nat.le_refl _, fun _ _ => rfl⟩
  have HO1 := hid' (H.out.obj.keep hb1)
  have HZ1w : Hid (w1.heap.size = w.heap.size) := hid' (by rw [hw1]; rfl)
  have HL0 : Hid (LF (· = b) w w1) := hid' (LF.of_below hb1)
  have c0 := HO1.out.cell 0 _ rfl
  have c1 := HO1.out.cell 1 _ rfl
  have f1 := HO1.out.free 1
  clear hw1 hb1
  go_upto_region 11 with fail
  have HO2 : Hid (Ar (w1.setCell ⟨b, 1, none⟩ (.int .i64 (q + 1))) b 50 #[.slice (some ⟨g, 0, none⟩) n cap, .int .i64 (q + 1)]) := hid' (by have := HO1.out.set 1 (.int .i64 (q + 1)); simpa using this)
  have HL2' : Hid (LF (· = b) w (w1.setCell ⟨b, 1, none⟩ (.int .i64 (q + 1)))) := hid' (HL0.out.trans (LF.of_upd (S := (· = b)) (b := b) (upd_setCell w1 b 1 _) rfl) (fun _ _ h => h))
  have HZW : Hid ((w1.setCell ⟨b, 1, none⟩ (.int .i64 (q + 1))).heap.size = w.heap.size) := hid' (by rw [(upd_setCell w1 b 1 _).size]; exact HZ1w.out)
  generalize w1.setCell ⟨b, 1, none⟩ (.int .i64 (q + 1)) = w2 at *
  have d0 := HO2.out.cell 0 _ rfl
  have d1 := HO2.out.cell 1 _ rfl
  clear c0 c1 f1 HO1 HL0
  go_upto_region 12 with fail
  obtain ⟨xb, hxb⟩ : ∃ xb, w2.heap.size = xb := ⟨_, rfl⟩
  have HX3 : Hid (Ar (w2.alloc (.cells #[.string x, .string y, .int .i64 t, .int .i64 (q + 1)] 48)) xb 48 #[.string x, .string y, .int .i64 t, .int .i64 (q + 1)]) := hid' (by rw [← hxb]; exact heap_alloc_last w2 _)
  have HB3 : Hid (Below w2.heap.size w2 (w2.alloc (.cells #[.string x, .string y, .int .i64 t, .int .i64 (q + 1)] 48))) := hid' ((Below.refl _ _).alloc (Nat.le_refl _) _)
  have HXB := hid' hxb
  rw [hxb]
  generalize w2.alloc (.cells #[.string x, .string y, .int .i64 t, .int .i64 (q + 1)] 48) = w3 at *
  have d0' := (HO2.out.keep HB3.out).cell 0 _ rfl
  have HL3 : Hid (LF (· = b) w w3) := hid' (HL2'.out.trans (LF.of_below (S := (· = b)) HB3.out) (fun _ _ h => h))
  clear d0 d1 hxb
  obtain ⟨A, hA, HSA⟩ : ∃ A : Addr, (if cap = j then some (⟨g, 0, none⟩ : Addr) else some ⟨g, j * 4, none⟩) = some A ∧ Hid (∀ W, LF (· = b) w W → ∀ s u, (enC (es.drop j))[s]? = some u → W.cell? (A.add s) = some u) := by
    by_cases hc : cap = j
    · refine ⟨⟨g, 0, none⟩, by simp [hc], hid' (fun W hW s u hu => ?_)⟩
      rw [List.drop_of_length_le (by rw [HN.out]; omega)] at hu
      simp [enC] at hu
    · refine ⟨⟨g, j * 4, none⟩, by simp [hc], hid' (fun W hW s u hu => ?_)⟩
      rw [Addr.add_lit]
      exact HSRC.out W hW s u hu
  have hci : ¬ cap = i := by omega
  go_wp2_with (at_builtin; refine wpList_append_own_at _ rfl _ _ 44 rfl w.heap.size 48 i0 (.agg #[.string ⟨#[]⟩, .string ⟨#[]⟩, .int .i64 0, .int .i64 0]) 4 48 Tryz.underlying44 HI.out HZ0.out HZ1.out HZ2.out rfl (by decide) (.slice none 0 0) 0 [] rfl (World.ownsRow_nil _ _ _ _) ⟨g, 0, none⟩ i cap (enC (es.take i)) rfl HL1.out (HSR1.out _ HL3.out) (en_one _) (by unfold maxLen; omega) (by omega) HL3.out.size ?_; intro v4 w4 hown4 hgrow4 _ _; refine Hid.out ?_)
  refine hid' ?_
  rw [Nat.zero_add, List.nil_append] at hown4
  obtain ⟨o4, k4, hv4⟩ := down_shape hown4
  subst hv4
  have hg4 : Below w3.heap.size w3 w4 := (Below.refl w3.heap.size w3).grown hgrow4 (Nat.le_refl _) (fun k hk => by simp [Value.ownBlock] at hk)
  have e0 := (HX3.out.keep hg4).cell 0 _ rfl
  have e1 := (HX3.out.keep hg4).cell 1 _ rfl
  have e2 := (HX3.out.keep hg4).cell 2 _ rfl
  have e3 := (HX3.out.keep hg4).cell 3 _ rfl
  have HB4 := hid' (below_two HB3.out hg4)
  have HA4 : Hid ((w4.alloc (.cells #[.string x, .string y, .int .i64 t, .int .i64 (q + 1)] 48)).ownsRow w.heap.size 48 4 (.slice o4 i k4) i (enC (es.take i))) := hid' (hown4.alloc _)
  have HW4 : Hid (w.heap.size ≤ w4.heap.size) := hid' (Nat.le_trans HL3.out.size hg4.size)
  clear hown4 hgrow4 hg4 d0'
  go_wp2_with (at_builtin; refine wpList_append_own_at _ rfl _ _ 44 rfl w.heap.size 48 i0 (.agg #[.string ⟨#[]⟩, .string ⟨#[]⟩, .int .i64 0, .int .i64 0]) 4 48 Tryz.underlying44 HI.out HZ0.out HZ1.out HZ2.out rfl (by decide) (.slice o4 i k4) i (enC (es.take i)) rfl HA4.out ⟨w4.heap.size, 0, none⟩ 1 1 [.string x, .string y, .int .i64 t, .int .i64 (q + 1)] rfl rfl (four_new _ _ _ _ _ _) (by simp [Value.oneCell']) (by unfold maxLen; omega) (by omega) (by simp; have := HW4.out; omega) ?_; intro v5 w5 hown5 hgrow5 _ _; refine Hid.out ?_)
  refine hid' ?_
  obtain ⟨g5, k5, hv5, _, _⟩ := down_form hown5 (by omega)
  subst hv5
  have hb5 : Below w2.heap.size w2 w5 := (HB4.out.alloc HB4.out.size _).grown hgrow5 (by simp; have := HB4.out.size; omega) (fun k hk => by
    have := (HA4.out.lt k hk).1
    rw [HZW.out]; exact this)
  have HO5 := hid' hown5
  have HB5 := hid' hb5
  have HL5 : Hid (LF (· = b) w w5) := hid' (HL2'.out.trans (LF.of_below (S := (· = b)) hb5) (fun _ _ h => h))
  clear hown5 hgrow5 hb5 e0 e1 e2 e3 HB4 HA4
  go_wp2_with (at_builtin; refine wpList_append_own_at _ rfl _ _ 44 rfl w.heap.size 48 i0 (.agg #[.string ⟨#[]⟩, .string ⟨#[]⟩, .int .i64 0, .int .i64 0]) 4 48 Tryz.underlying44 HI.out HZ0.out HZ1.out HZ2.out rfl (by decide) (.slice (some ⟨g5, 0, none⟩) (i + 1) k5) (i + 1) (enC (es.take i) ++ [.string x, .string y, .int .i64 t, .int .i64 (q + 1)]) rfl HO5.out A (n - j) (cap - j) (enC (es.drop j)) rfl HL2.out (HSA.out _ HL5.out) (en_one _) (by unfold maxLen; omega) (by omega) HL5.out.size ?_; intro v6 w6 hown6 hgrow6 _ _; refine Hid.out ?_)
  refine hid' ?_
  obtain ⟨g6, k6, hv6, _, _⟩ := down_form hown6 (by omega)
  subst hv6
  have hb6 : Below w2.heap.size w2 w6 := HB5.out.grown hgrow6 HB5.out.size (fun k hk => by
    have := (HO5.out.lt k hk).1
    rw [HZW.out]; exact this)
  rw [← HTA.out] at hown6
  have HE := hid' (H.out.put (v' := .slice (some ⟨g6, 0, none⟩) (i + 1 + (n - j)) k6) HL2'.out HO2.out hb6 (by rw [HLE.out]; exact hown6) HOK.out (by rw [HLE.out]; exact HLM.out))
  have c6 := (HO2.out.keep hb6).cell 0 _ rfl
  have f6 := (HO2.out.keep hb6).free 0
  clear hown6 hgrow6 hb6 HO5 HB5 HL5
  go_wp2
  go_ret
  exact ⟨rfl, _, HE.out⟩

set_option maxHeartbeats 8000000 in
set_option maxRecDepth 20000 in
theorem dput_nil (B b : Nat) (q : Int) (x y : ByteArray) (t : Int) (w : World) (h : RD w B b (.slice none 0 0) q []) (hx : x.size ≤ 9223372036854775807) (hp : Dk.path x.data.toList = true) (hy : y.size ≤ 65536) (ht : 0 ≤ t ∧ t ≤ 253402300799) (hq0 : 0 ≤ q) (hq : q ≤ 9223372036854775806) :
    Calls Tryz.prog 34 #[.pointer (some ⟨b, 0, none⟩), .string x, .string y, .int .i64 t] w fun e w' => e = .returned (.int .i64 0) ∧ ∃ v', RD w' B b v' (q + 1) (Dk.put ⟨x, y, t, q + 1⟩ []) ∧ LF (DS13 b (.slice none 0 0)) w w' ∧ ∀ k, v'.ownBlock = some k → (Value.slice none 0 0).ownBlock = some k ∨ w.heap.size ≤ k := by
  obtain ⟨i0, hi0, hz0, hz1, hz2⟩ := dinfo_parts dinfoE
  have HI := hid' hi0
  have HZ0 := hid' hz0
  have HZ1 := hid' hz1
  have HZ2 := hid' hz2
  clear hi0 hz0 hz1 hz2
  have HP := hid' (rpath x true hp w hx)
  have HA := hid' (dat B b (.slice none 0 0) q [] x 0 false rfl rfl w h)
  have H := hid' h
  have hy2 : ¬ (65536 : Int) < (y.size : Int) := by omega
  have ht1 : ¬ t < 0 := by omega
  have ht2 : ¬ 253402300799 < t := by omega
  clear h hp ht hy
  go_enter Tryz.func34, Tryz.ntmps34
  go_wp2_with fail
  refine HP.out.mono ?_
  rintro e w0 ⟨rfl, hw0⟩
  subst w0
  go_wp2_with fail
  refine HA.out.mono ?_
  rintro e w1 ⟨rfl, m, hw1⟩
  have hb1 : Below w.heap.size w w1 := by rw [hw1]; exact ⟨rfl, rfl, rfl, Nat.le_refl _, fun _ _ => rfl⟩
  have HO1 := hid' (H.out.obj.keep hb1)
  have HZ1w : Hid (w1.heap.size = w.heap.size) := hid' (by rw [hw1]; rfl)
  have HL0 : Hid (LF (· = b) w w1) := hid' (LF.of_below hb1)
  have c0 := HO1.out.cell 0 _ rfl
  have c1 := HO1.out.cell 1 _ rfl
  have f1 := HO1.out.free 1
  clear hw1 hb1
  go_upto_region 11 with fail
  have HO2 : Hid (Ar (w1.setCell ⟨b, 1, none⟩ (.int .i64 (q + 1))) b 50 #[.slice none 0 0, .int .i64 (q + 1)]) := hid' (by have := HO1.out.set 1 (.int .i64 (q + 1)); simpa using this)
  have HL2' : Hid (LF (· = b) w (w1.setCell ⟨b, 1, none⟩ (.int .i64 (q + 1)))) := hid' (HL0.out.trans (LF.of_upd (S := (· = b)) (b := b) (upd_setCell w1 b 1 _) rfl) (fun _ _ h => h))
  have HZW : Hid ((w1.setCell ⟨b, 1, none⟩ (.int .i64 (q + 1))).heap.size = w.heap.size) := hid' (by rw [(upd_setCell w1 b 1 _).size]; exact HZ1w.out)
  generalize w1.setCell ⟨b, 1, none⟩ (.int .i64 (q + 1)) = w2 at *
  have d0 := HO2.out.cell 0 _ rfl
  have d1 := HO2.out.cell 1 _ rfl
  clear c0 c1 f1 HO1 HL0
  go_upto_region 12 with fail
  obtain ⟨xb, hxb⟩ : ∃ xb, w2.heap.size = xb := ⟨_, rfl⟩
  have HX3 : Hid (Ar (w2.alloc (.cells #[.string x, .string y, .int .i64 t, .int .i64 (q + 1)] 48)) xb 48 #[.string x, .string y, .int .i64 t, .int .i64 (q + 1)]) := hid' (by rw [← hxb]; exact heap_alloc_last w2 _)
  have HB3 : Hid (Below w2.heap.size w2 (w2.alloc (.cells #[.string x, .string y, .int .i64 t, .int .i64 (q + 1)] 48))) := hid' ((Below.refl _ _).alloc (Nat.le_refl _) _)
  rw [hxb]
  generalize w2.alloc (.cells #[.string x, .string y, .int .i64 t, .int .i64 (q + 1)] 48) = w3 at *
  have d0' := (HO2.out.keep HB3.out).cell 0 _ rfl
  have e0 := HX3.out.cell 0 _ rfl
  have e1 := HX3.out.cell 1 _ rfl
  have e2 := HX3.out.cell 2 _ rfl
  have e3 := HX3.out.cell 3 _ rfl
  have HW3 : Hid (w.heap.size ≤ w3.heap.size) := hid' (Nat.le_trans HL2'.out.size HB3.out.size)
  clear d0 d1 hxb
  go_wp2_with (at_builtin; refine wpList_append_own_at _ rfl _ _ 44 rfl w.heap.size 48 i0 (.agg #[.string ⟨#[]⟩, .string ⟨#[]⟩, .int .i64 0, .int .i64 0]) 4 48 Tryz.underlying44 HI.out HZ0.out HZ1.out HZ2.out rfl (by decide) (.slice none 0 0) 0 [] rfl (World.ownsRow_nil _ _ _ _) ⟨w3.heap.size, 0, none⟩ 1 1 [.string x, .string y, .int .i64 t, .int .i64 (q + 1)] rfl rfl (four_new _ _ _ _ _ _) (by simp [Value.oneCell']) (by unfold maxLen; omega) (by omega) (by simp; have := HW3.out; omega) ?_; intro v5 w5 hown5 hgrow5 _ _; refine Hid.out ?_)
  refine hid' ?_
  rw [Nat.zero_add, List.nil_append] at hown5
  obtain ⟨g5, k5, hv5, _, _⟩ := down_form hown5 (by omega)
  subst hv5
  have hb5 : Below w2.heap.size w2 w5 := (HB3.out.alloc HB3.out.size _).grown hgrow5 (by simp; have := HB3.out.size; omega) (fun k hk => by simp [Value.ownBlock] at hk)
  have HE := hid' (H.out.put (v' := .slice (some ⟨g5, 0, none⟩) 1 k5) (es' := Dk.put ⟨x, y, t, q + 1⟩ []) HL2'.out HO2.out hb5 hown5 (Dk.put_ok [] _ H.out.ok) (by simp [Dk.put]))
  have c6 := (HO2.out.keep hb5).cell 0 _ rfl
  have f6 := (HO2.out.keep hb5).free 0
  clear hown5 hgrow5 hb5 e0 e1 e2 e3 HB3 HX3 d0'
  go_wp2
  go_ret
  exact ⟨rfl, _, HE.out⟩

theorem dput {es es' : List Dk.En} {q q' t c : Int} {x y : ByteArray} (ho : PutOf13 es q x y t c es' q') (B b : Nat) (v : Value) (w : World) (h : RD w B b v q es) (hx : x.size ≤ 9223372036854775807) (hq0 : 0 ≤ q) (hq : q ≤ 9223372036854775806) :
    Calls Tryz.prog 34 #[.pointer (some ⟨b, 0, none⟩), .string x, .string y, .int .i64 t] w fun e w' => e = .returned (.int .i64 c) ∧ ∃ v', RD w' B b v' q' es' ∧ LF (DS13 b v) w w' ∧ ∀ k, v'.ownBlock = some k → v.ownBlock = some k ∨ w.heap.size ≤ k := by
  have no : ∀ c, ((c = 130 ∧ Dk.path x.data.toList = false) ∨ (c = 3 ∧ (Dk.path x.data.toList = true ∧ 65536 < y.size)) ∨ (c = 5 ∧ (Dk.path x.data.toList = true ∧ y.size ≤ 65536 ∧ (t < 0 ∨ 253402300799 < t))) ∨ (c = 4 ∧ (Dk.path x.data.toList = true ∧ y.size ≤ 65536 ∧ (0 ≤ t ∧ t ≤ 253402300799) ∧ Dk.has x.data.toList es = false ∧ 1024 ≤ es.length))) →
      Calls Tryz.prog 34 #[.pointer (some ⟨b, 0, none⟩), .string x, .string y, .int .i64 t] w fun e w' => e = .returned (.int .i64 c) ∧ ∃ v', RD w' B b v' q es ∧ LF (DS13 b v) w w' ∧ ∀ k, v'.ownBlock = some k → v.ownBlock = some k ∨ w.heap.size ≤ k := fun c hc =>
    (dput_no B b v q es x y t w h hx c hc).mono fun e w' ⟨a1, m, a2⟩ => ⟨a1, v, by rw [a2]; exact h.drewN m, by rw [a2]; exact ⟨rfl, rfl, rfl, Nat.le_refl _, fun _ _ _ => rfl⟩, fun k hk => .inl hk⟩
  rcases ho with ⟨rfl, h1, rfl, rfl⟩ | ⟨rfl, h1, rfl, rfl⟩ | ⟨rfl, h1, rfl, rfl⟩ | ⟨rfl, h1, rfl, rfl⟩ | ⟨rfl, ⟨h1, h2, h3, h4⟩, rfl, rfl⟩
  · exact no _ (.inl ⟨rfl, h1⟩)
  · exact no _ (.inr (.inl ⟨rfl, h1⟩))
  · exact no _ (.inr (.inr (.inl ⟨rfl, h1⟩)))
  · exact no _ (.inr (.inr (.inr ⟨rfl, h1⟩)))
  · rcases h.row.2 with ⟨hv, _⟩ | ⟨g, cap, cur, rfl, _, _, h6, h7, _⟩
    · obtain rfl := h.nil hv
      subst hv
      exact dput_nil B b q x y t w h hx h1 h2 h3 hq0 hq
    · cases h5 : Dk.has x.data.toList es
      · exact dput_new B b g cap q es x y t w h hx h1 h2 h3 h5 (h4.resolve_left (by rw [h5]; simp)) h6 h7 hq0 hq
      · exact dput_yes B b g cap q es x y t w h hx h1 h2 h3 h5 h6 h7 hq0 hq

end Go.Proofs.YtgbnelglhkfdfaaGreatDoor

namespace Go.Proofs.YtgbnelglhkfdfaaGreatDoor
open Go.RowKit

def RemOf13 (es : List Dk.En) (q : Int) (x : ByteArray) (t : Bool) (es' : List Dk.En) (q' : Int) : Prop :=
  (t = true ∧ Dk.has x.data.toList es = true ∧ es' = Dk.rem x.data.toList es ∧ q' = q + 1) ∨ (t = false ∧ Dk.has x.data.toList es = false ∧ es' = es ∧ q' = q)
theorem remOf13_ex (es : List Dk.En) (q : Int) (x : ByteArray) : ∃ t es' q', RemOf13 es q x t es' q' := by
  cases h : Dk.has x.data.toList es
  · exact ⟨false, _, _, .inr ⟨rfl, h, rfl, rfl⟩⟩
  · exact ⟨true, _, _, .inl ⟨rfl, h, rfl, rfl⟩⟩

theorem bl_dn13 {B : Nat} {w w' : World} (h : Below B w w') (q : Nat) : Below B w (w'.drewN q) := ⟨h.os, h.tape, h.output, h.size, h.block⟩
/-- What Get answers. -/
def fileV : Option Dk.En → Value
  | some e => .agg #[.string e.body, .int .i64 e.time, .int .i64 e.seq]
  | none => .agg #[.string ⟨#[]⟩, .int .i64 0, .int .i64 0]

theorem dzeroF : (Tryz.prog.info? 31).map (fun i => i.zero) = some (some (.agg #[.string ⟨#[]⟩, .int .i64 0, .int .i64 0])) := by kernel_rfl
theorem dsizeF : (Tryz.prog.info? 31).map (·.size) = some 3 := by kernel_rfl
theorem dldF {w : World} {b : Nat} {x0 x1 x2 : Value} (h : Ar w b 31 #[x0, x1, x2]) : (loadVar 31 ⟨b, 0, none⟩).run Tryz.prog w = .ok (.agg #[x0, x1, x2]) w :=
  run_loadVar_row (P := Tryz.prog) w b 31 31 _ (0, 0) _ h Tryz.underlying31 rfl dsizeF

end Go.Proofs.YtgbnelglhkfdfaaGreatDoor

namespace Go.Proofs.YtgbnelglhkfdfaaGreatDoor
open Go.RowKit

theorem noStandE : Tryz.prog.stoodInHeld 48 = false := by kernel_rfl
theorem noGuardE : Tryz.prog.eqGuardType Tryz.prog.depth 48 = false := by kernel_rfl
theorem fieldsOfE : Tryz.prog.underlying 48 = some (.struct (Tryz.prog.fieldsOf 48)) := by kernel_rfl
theorem noStandFi : Tryz.prog.stoodInHeld 31 = false := by kernel_rfl
theorem noGuardFi : Tryz.prog.eqGuardType Tryz.prog.depth 31 = false := by kernel_rfl
theorem fieldsOfFi : Tryz.prog.underlying 31 = some (.struct (Tryz.prog.fieldsOf 31)) := by kernel_rfl
set_option maxRecDepth 20000 in
theorem eqIn_file (d : Nat) (s s' : ByteArray) (i j i' j' : Int) (w : World) : (Op.equalIn (d + 1 + 1) 31 (.agg #[.string s, .int .i64 i, .int .i64 j]) (.agg #[.string s', .int .i64 i', .int .i64 j'])).run Tryz.prog w = .ok (s.toList == s'.toList && i == i' && j == j') w := by
  rw [run_equalIn_agg w (d + 1) 31 _ _ fieldsOfFi noStandFi]
  simp only [Program.fieldsOf, Tryz.underlying31]
  go_simp
  by_cases h1 : s.toList = s'.toList <;> by_cases h2 : i = i' <;> by_cases h3 : j = j' <;> simp [h1, h2, h3]
set_option maxRecDepth 20000 in
theorem neq_entry (e : Dk.En) (w : World) : (binOp .neq 48 (.agg (enV e).toArray) (.agg (enV e).toArray)).run Tryz.prog w = .ok (.bool false) w := by
  simp only [enV]
  rw [run_neq_struct, show (10000 : Nat) = 9999 + 1 by rfl, run_equalIn_agg w 9999 48 _ _ fieldsOfE noStandE]
  simp only [Program.fieldsOf, Tryz.underlying48]
  go_simp

set_option maxRecDepth 20000 in
theorem neq_file (s s' : ByteArray) (i j i' j' : Int) (w : World) : (binOp .neq 31 (.agg #[.string s, .int .i64 i, .int .i64 j]) (.agg #[.string s', .int .i64 i', .int .i64 j'])).run Tryz.prog w = .ok (.bool (!(s.toList == s'.toList && i == i' && j == j'))) w := by
  rw [run_neq_struct, show (10000 : Nat) = 9998 + 1 + 1 by rfl, eqIn_file 9998]
  rfl
set_option maxRecDepth 20000 in
theorem eq_file (s s' : ByteArray) (i j i' j' : Int) (w : World) : (binOp .eql 31 (.agg #[.string s, .int .i64 i, .int .i64 j]) (.agg #[.string s', .int .i64 i', .int .i64 j'])).run Tryz.prog w = .ok (.bool (s.toList == s'.toList && i == i' && j == j')) w := by
  rw [run_eql_struct, show (10000 : Nat) = 9998 + 1 + 1 by rfl, eqIn_file 9998]
  rfl

theorem lst_take (pre : List UInt8) (es : List Dk.En) (k : Nat) (p : Dk.En) (hp : es[k]? = some p) : Dk.lst pre (es.take (k + 1)) = Dk.lst pre (es.take k) ++ if pre.isPrefixOf (Dk.key p) then [p] else [] := by
  unfold Dk.lst
  rw [List.take_add_one, hp, List.filter_append]
  simp only [Option.toList, List.filter_cons, List.filter_nil]
theorem lst_le (pre : List UInt8) (es : List Dk.En) : (Dk.lst pre es).length ≤ es.length := List.length_filter_le _ _

end Go.Proofs.YtgbnelglhkfdfaaGreatDoor

namespace Go.Proofs.YtgbnelglhkfdfaaGreatDoor
open Go.RowKit Go.ChangeShapes Go.WideShapes Go.ChangeAt Go.Deep

/-- One thing that happens. -/
structure Cl13 where
  take : Bool
  path : ByteArray
  body : ByteArray
  time : Int
  long : Int
/-- One change's cells. -/
def Op13At (w : World) (p : Addr) (c : Cl13) : Prop :=
  w.cell? p = some (.bool c.take) ∧ w.cell? ⟨p.block, p.off + 1, none⟩ = some (.string c.path) ∧ w.cell? ⟨p.block, p.off + 2, none⟩ = some (.string c.body) ∧ w.cell? ⟨p.block, p.off + 3, none⟩ = some (.int .i64 c.time) ∧ w.cell? ⟨p.block, p.off + 4, none⟩ = some (.int .i64 c.long)
/-- A script in memory. -/
def Scr13 (w : World) (v : Value) (cs : List Cl13) : Prop :=
  (v = .slice none 0 0 ∧ cs = []) ∨ ∃ a cap, v = .slice (some a) cs.length cap ∧ ∀ i c, cs[i]? = some c → (a.add (i * 5)).block < w.heap.size ∧ Op13At w (a.add (i * 5)) c
/-- What a step reads as. -/
def clD13 {H : Type} (c : Cl13) : DataW H := .agg [.lit (.bool c.take), .lit (.string c.path.data.toList), .lit (.string c.body.data.toList), .lit (.int .i64 c.time), .lit (.int .i64 c.long)]

theorem cells513 {w : World} {p : Addr} {cs : List Value} (h : w.cells? 0 p 5 = some cs) : ∃ v0 v1 v2 v3 v4, cs = [v0, v1, v2, v3, v4] ∧ w.cell? p = some v0 ∧ w.cell? ⟨p.block, p.off + 1, none⟩ = some v1 ∧ w.cell? ⟨p.block, p.off + 2, none⟩ = some v2 ∧ w.cell? ⟨p.block, p.off + 3, none⟩ = some v3 ∧ w.cell? ⟨p.block, p.off + 4, none⟩ = some v4 := by
  obtain ⟨_, hl, hc⟩ := World.cells?_some h
  match cs, hl with
  | [v0, v1, v2, v3, v4], _ =>
    refine ⟨v0, v1, v2, v3, v4, rfl, ?_, ?_, ?_, ?_, ?_⟩
    · simpa [Addr.add] using hc 0 (by omega)
    · simpa [Addr.add] using hc 1 (by omega)
    · simpa [Addr.add] using hc 2 (by omega)
    · simpa [Addr.add] using hc 3 (by omega)
    · simpa [Addr.add] using hc 4 (by omega)
theorem trod_struct5 {H : Type} {enc : TypeId × Value → H} {P : Program} {w : World} {base : Nat} {spare : Nat → Bool} {held : Bool} {t : TypeId} {f0 f1 f2 f3 f4 : Field} {fuel : Nat} {cs : List Value} {x : DataW H × List MemPlace} (ht : P.underlying t = some (.struct #[f0, f1, f2, f3, f4])) (h : DataW.trod enc P w base spare held fuel t cs = some x) :
    ∃ y0 y1 y2 y3 y4 n, x.1 = .agg [y0.1, y1.1, y2.1, y3.1, y4.1] ∧ DataW.trod enc P w base spare held n f0.type ((cs.drop f0.offset).take (P.cellsOf f0.type)) = some y0 ∧ DataW.trod enc P w base spare held n f1.type ((cs.drop f1.offset).take (P.cellsOf f1.type)) = some y1 ∧
      DataW.trod enc P w base spare held n f2.type ((cs.drop f2.offset).take (P.cellsOf f2.type)) = some y2 ∧ DataW.trod enc P w base spare held n f3.type ((cs.drop f3.offset).take (P.cellsOf f3.type)) = some y3 ∧ DataW.trod enc P w base spare held n f4.type ((cs.drop f4.offset).take (P.cellsOf f4.type)) = some y4 := by
  obtain ⟨xs, n, _, rfl, hl, hlen, hf⟩ := DataW.trod_struct ht h
  match xs, hlen with
  | [y0, y1, y2, y3, y4], _ => exact ⟨y0, y1, y2, y3, y4, n, by simp, by simpa using hf 0 f0 rfl, by simpa using hf 1 f1 rfl, by simpa using hf 2 f2 rfl, by simpa using hf 3 f3 rfl, by simpa using hf 4 f4 rfl⟩

theorem Scr13.shape {w : World} {v : Value} {cs : List Cl13} (h : Scr13 w v cs) : ∃ ao cap, v = .slice ao cs.length cap := by
  rcases h with ⟨h, rfl⟩ | ⟨a, cap, h, _⟩
  · exact ⟨none, 0, h⟩
  · exact ⟨some a, cap, h⟩
theorem Scr13.at {w w' : World} {ao : Option Addr} {n cap : Nat} {cs : List Cl13} (h : Scr13 w (.slice ao n cap) cs) (hb : Below w.heap.size w w') (i : Nat) (c : Cl13) (hc : cs[i]? = some c) : ∃ a, ao = some a ∧ Op13At w' (a.add (i * 5)) c := by
  rcases h with ⟨_, rfl⟩ | ⟨a, cap', hv, hcs⟩
  · simp at hc
  · injection hv with h1 _ _
    obtain ⟨hl, c0, c1, c2, c3, c4⟩ := hcs i c hc
    refine ⟨a, h1, (hb.cell hl).trans c0, (hb.cell (p := ⟨(a.add (i * 5)).block, (a.add (i * 5)).off + 1, none⟩) hl).trans c1, (hb.cell (p := ⟨(a.add (i * 5)).block, (a.add (i * 5)).off + 2, none⟩) hl).trans c2, (hb.cell (p := ⟨(a.add (i * 5)).block, (a.add (i * 5)).off + 3, none⟩) hl).trans c3, (hb.cell (p := ⟨(a.add (i * 5)).block, (a.add (i * 5)).off + 4, none⟩) hl).trans c4⟩

end Go.Proofs.YtgbnelglhkfdfaaGreatDoor

namespace Go.Proofs.YtgbnelglhkfdfaaGreatDoor
open Go.RowKit

/-- A change's body, made longer. -/
def noughts (m : Nat) : ByteArray := ⟨(List.replicate m (0 : UInt8)).toArray⟩
def bodyOf (c : Cl13) : ByteArray := if c.long ≤ 0 ∨ 70000 < c.long then c.body else c.body ++ noughts c.long.toNat

theorem fold_noughts (m : Nat) : ∀ r : ByteArray, (List.replicate m (0 : Int)).foldl (fun r n => r.push (UInt8.ofNat n.toNat)) r = ⟨r.data ++ (List.replicate m (0 : UInt8)).toArray⟩ := by
  induction m with
  | zero => intro r; simp
  | succ m ih =>
    intro r
    rw [List.replicate_succ, List.foldl_cons, ih, List.replicate_succ]
    have e : (r.push (UInt8.ofNat (0 : Int).toNat)).data = r.data.push 0 := rfl
    rw [e]
    congr 1
    apply Array.ext'
    simp
theorem noughts_size (m : Nat) : (noughts m).size = m := by simp [noughts, ByteArray.size]
theorem made_list13 (v : Value) (m : Nat) : (madeCells #[v] m).toList = List.replicate m v := by
  apply List.ext_getElem
  · simp [size_madeCells]
  · intro i h1 h2
    simp [madeCells, Nat.mod_one]
theorem run_noughts (W : World) (b m : Nat) (h : Ar W b 5 (madeCells #[.int .u8 0] m)) : (convert 73 9 (.slice (some ⟨b, 0, none⟩) m m)).run Tryz.prog W = .ok (.string (noughts m)) W := by
  have hl : (loadCells ⟨b, 0, none⟩ m).run Tryz.prog W = .ok ((List.replicate m (0 : Int)).map (Value.int .u8)).toArray W := by
    have := run_loadCells_list (P := Tryz.prog) W ⟨b, 0, none⟩ ((List.replicate m (0 : Int)).map (Value.int .u8)) (fun j v hv => by
      rw [Addr.add_mid, Nat.zero_add]
      refine h.cell j v ?_
      rw [← Array.getElem?_toList, made_list13]
      simpa using hv)
    simpa using this
  rw [run_convert_bytes_string W 73 9 5 _ m m Tryz.underlying73 Tryz.underlying5 Tryz.underlying9, run_bytesToString W ⟨b, 0, none⟩ m m _ hl, fold_noughts]
  simp [noughts, ByteArray.empty, ByteArray.emptyWithCapacity]
  rfl

end Go.Proofs.YtgbnelglhkfdfaaGreatDoor
