/-
  strings.Builder.WriteString and String at this program, a frame by types, and the code's writeLine: by their contracts.
-/
import Derived.Test.YtdbldompjhienaaDoorHuffB
import Derived.Test.YtdbldompjhienaaDoorRhAC
namespace Go.Proofs.YtdbldompjhienaaDoor
open Go.RowKit

/-- All blocks but one, and but rows of bytes, are as they were. -/
structure UF (b : Nat) (w w' : World) : Prop where
  size : w.heap.size ≤ w'.heap.size
  block : ∀ k, k < w.heap.size → k ≠ b → (∀ cs fz, w.heap[k]? ≠ some (.cells cs 5 fz)) → w'.heap[k]? = w.heap[k]?
theorem UF.of_below {b : Nat} {w w' : World} (h : Below w.heap.size w w') : UF b w w' := ⟨h.size, fun k hk _ _ => h.block k hk⟩
theorem UF.of_set (b i : Nat) (v : Value) (w : World) : UF b w (w.setCell ⟨b, i, none⟩ v) := ⟨by simp [World.setCell], fun k _ hb _ => (upd_setCell w b i v).block k hb⟩
theorem UF.trans {b : Nat} {w w1 w2 : World} (h1 : UF b w w1) (h2 : UF b w1 w2) : UF b w w2 :=
  ⟨Nat.le_trans h1.size h2.size, fun k hk hb hn => (h2.block k (Nat.lt_of_lt_of_le hk h1.size) hb (fun cs fz hc => hn cs fz (by rw [← h1.block k hk hb hn]; exact hc))).trans (h1.block k hk hb hn)⟩
theorem UF.ar {b c : Nat} {w w' : World} {T : TypeId} {cs : Array Value} (h : UF b w w') (ha : Ar w c T cs) (hb : c ≠ b) (hT : T ≠ 5) : Ar w' c T cs := by
  have := h.block c ha.lt hb (fun ds fz hd => by unfold Ar at ha; rw [ha] at hd; injection hd with hd; injection hd with _ h2 _; exact hT h2)
  unfold Ar at *
  rw [this]; exact ha
theorem bld_obj {w : World} {B b : Nat} {l : List UInt8} (h : Bld w B b l) : ∃ p q, Ar w b 58 #[p, q] := by
  rcases h with ⟨_, v, hbk, _⟩ | ⟨_, v, hbk, _⟩
  · exact ⟨_, v, hbk⟩
  · exact ⟨_, v, hbk⟩
set_option maxHeartbeats 2000000 in
set_option maxRecDepth 100000 in
theorem writeString_cells (B b : Nat) (bs : List Value) (s : ByteArray) (w : World) (h : Lib.IsBuilder 58 5 B b bs w) (hlen : bs.length + s.size ≤ 140737488355328) (hBw : B ≤ w.heap.size) :
    Calls Tryd.prog 43 #[.pointer (some ⟨b, 0, none⟩), .string s] w fun e w' => e = .returned (.tuple #[.int .i64 (s.size : Int), .nilIface]) ∧ (Lib.IsBuilder 58 5 B b (bs ++ Lib.strCells s) w' ∧ Below B w w' ∧ UF b w w') := by
  obtain ⟨i0, hi, hz0, hz1, hz2⟩ := info_parts infoByte
  have HU : Hid (∀ w1, Lib.BuilderAt 58 5 B b (.pointer (some ⟨b, 0, none⟩)) bs w1 ∧ (w1 = w ∨ w1 = w.setCell ⟨b, 0, none⟩ (.pointer (some ⟨b, 0, none⟩))) → UF b w w1) := hid' fun w1 ⟨_, hw⟩ => by
    rcases hw with rfl | rfl
    · exact UF.of_below (Below.refl _ _)
    · exact UF.of_set _ _ _ _
  have hcc : Calls Tryd.prog 53 #[.pointer (some ⟨b, 0, none⟩)] w fun e w' => e = .returned (.tuple #[]) ∧ (Lib.BuilderAt 58 5 B b (.pointer (some ⟨b, 0, none⟩)) bs w' ∧ Below B w w' ∧ UF b w w') := by
    rcases h with h | h
    · refine (copyCheck_fresh b w h.cell0 h.shape h.frozen0).mono ?_
      rintro e w' ⟨rfl, rfl⟩
      exact ⟨rfl, h.used _, (Below.refl B w).setCell (p := ⟨b, 0, none⟩) h.1 _, UF.of_set _ _ _ _⟩
    · refine (copyCheck_used b w h.cell0).mono ?_
      rintro e w' ⟨rfl, rfl⟩
      exact ⟨rfl, h, Below.refl B _, UF.of_below (Below.refl _ _)⟩
  have HCC := hid' hcc
  clear hcc HU h
  go_enter Tryd.func43, Tryd.ntmps43
  go_wp2_with fail
  refine HCC.out.mono ?_
  rintro e w1 ⟨rfl, h1, hb1, hu1⟩
  clear HCC
  obtain ⟨hB, v, hbk, hown, hne⟩ := h1
  have c0 : w1.cell? ⟨b, 0, none⟩ = some (.pointer (some ⟨b, 0, none⟩)) := by rw [Lib.cell_of_heap hbk]; rfl
  have c1 : w1.cell? ⟨b, 1, none⟩ = some v := by rw [Lib.cell_of_heap hbk]; rfl
  go_wp2_with (at_builtin; refine Lib.wpList_append_own_string _ rfl _ _ 56 9 rfl B 5 i0 Tryd.underlying56 Tryd.underlying9 hi hz0 hz1 hz2 _ _ _ rfl hown s rfl ?c3 ?c4 ?c5 ?_)
  case c3 => unfold maxLen; omega
  case c4 => omega
  case c5 => have := hb1.size; omega
  intro v' w2 hown' hgrow _
  have hlt : b < w1.heap.size := (Array.getElem?_eq_some_iff.1 hbk).1
  have hb2 : w2.heap[b]? = some (.cells #[.pointer (some ⟨b, 0, none⟩), v] 58 (0, 0)) := by
    rw [hgrow.block b (by omega) (fun e => hne e.symm)]
    exact hbk
  have d1 : w2.cell? ⟨b, 1, none⟩ = some v := by rw [Lib.cell_of_heap hb2]; rfl
  have f1 : w2.frozen? ⟨b, 1, none⟩ = false := Lib.frozen_of_heap hb2 1
  obtain ⟨ao, n', cap, rfl⟩ : ∃ ao n' cap, v' = .slice ao n' cap := by
    rcases hown'.2 with ⟨h, _⟩ | ⟨g, cap, cur, hv, _⟩
    · exact ⟨_, _, _, h⟩
    · exact ⟨_, _, _, hv⟩
  have HUG : Hid (UF b w1 w2) := hid' ⟨hgrow.size, fun k hk _ hn => hgrow.block k hk (fun e => by
    rcases hown.2 with ⟨rfl, _⟩ | ⟨g, cap, cur, rfl, _, hg, _⟩
    · simp [Value.ownBlock] at e
    · simp [Value.ownBlock] at e
      subst e
      exact hn cur (0, 0) hg)⟩
  have HU1 := hid' hu1
  clear hu1
  go_wp2
  go_ret2
  refine ⟨rfl, ?_, ?_, (HU1.out.trans HUG.out).trans (UF.of_set _ _ _ _)⟩
  · exact .inr (Lib.BuilderAt.put (T := 58) (e := 5) hB hb2 (bs' := bs ++ Lib.strCells s) (by simpa [Lib.strCells_length] using hown') (by decide))
  · exact (hb1.grown hgrow (by have := hb1.size; omega) (fun k hk => (hown.lt k hk).1)).setCell (p := ⟨b, 1, none⟩) hB _

theorem writeString_any (B b : Nat) (l s : List UInt8) (w : World) (h : Bld w B b l) (hlen : l.length + s.length ≤ 140737488355328) (hBw : B ≤ w.heap.size) :
    Calls Tryd.prog 43 #[.pointer (some ⟨b, 0, none⟩), .string ⟨s.toArray⟩] w fun e w' => e = .returned (.tuple #[.int .i64 (s.length : Int), .nilIface]) ∧ (Bld w' B b (l ++ s) ∧ Below B w w' ∧ UF b w w') := by
  refine (writeString_cells B b (Lib.byteCells l) ⟨s.toArray⟩ w h (by rw [Lib.byteCells_length, size_l16]; exact hlen) hBw).mono ?_
  rintro e w' ⟨rfl, h1, h2⟩
  refine ⟨by rw [size_l16], ?_, h2⟩
  have : Lib.byteCells (l ++ s) = Lib.byteCells l ++ Lib.strCells ⟨s.toArray⟩ := by simp [Lib.byteCells, Lib.strCells]
  unfold Bld
  rw [this]
  exact h1

theorem string_any (B b : Nat) (l : List UInt8) (w : World) (h : Bld w B b l) (hBw : B ≤ w.heap.size) :
    Calls Tryd.prog 33 #[.pointer (some ⟨b, 0, none⟩)] w fun e w' => e = .returned (.string ⟨l.toArray⟩) ∧ Below B w w' ∧ UF b w w' := by
  refine (Tryd.Builder_String_any_k B b l w (Lib.IsBuilderF.of h) hBw).mono ?_
  rintro e w' ⟨rfl, _, hb, ho⟩
  refine ⟨rfl, hb, hb.size, fun k hk hne hn => ?_⟩
  obtain ⟨o, hk'⟩ : ∃ o, w.heap[k]? = some o := ⟨_, Array.getElem?_eq_getElem hk⟩
  rw [ho k o hk' (by simpa using hne) (fun c fz e => hn c fz (by rw [hk', e])), hk']

theorem ar_ne16 {w : World} {a b : Nat} {T T' : TypeId} {c c' : Array Value} (h : Ar w a T c) (h' : Ar w b T' c') (hT : T ≠ T') : a ≠ b := fun e => by
  unfold Ar at h h'
  rw [e, h'] at h
  injection h with h
  injection h with _ h _
  exact hT h.symm
/-- A row of texts in a block of its own, or none. -/
def TR16 (w : World) (ao : Option Addr) (ts : List (List UInt8)) : Prop := (ts = [] ∧ ao = none) ∨ ∃ g, ao = some ⟨g, 0, none⟩ ∧ Ar w g 9 (sC16 ts).toArray
theorem TR16.uf {b : Nat} {w w' : World} {ao : Option Addr} {ts : List (List UInt8)} {p q : Value} (h : TR16 w ao ts) (hu : UF b w w') (hb : Ar w b 58 #[p, q]) : TR16 w' ao ts := by
  rcases h with h | ⟨g, h1, h2⟩
  · exact .inl h
  · exact .inr ⟨g, h1, hu.ar h2 (ar_ne16 h2 hb (by decide)) (by decide)⟩
theorem TR16.at {w : World} {ao : Option Addr} {ts : List (List UInt8)} (h : TR16 w ao ts) (i : Nat) (t : List UInt8) (ht : ts[i]? = some t) : ∃ g, ao = some ⟨g, 0, none⟩ ∧ w.cell? ⟨g, i, none⟩ = some (.string ⟨t.toArray⟩) := by
  rcases h with ⟨rfl, _⟩ | ⟨g, h1, h2⟩
  · simp at ht
  · exact ⟨g, h1, h2.cell i _ (by unfold sC16; rw [List.getElem?_toArray, List.getElem?_map, ht]; rfl)⟩

set_option maxHeartbeats 1600000 in
set_option maxRecDepth 20000 in
theorem cwline16 (B b n cap : Nat) (ao : Option Addr) (l : List UInt8) (ts : List (List UInt8)) (hn : ts.length = n) (hnb : n ≤ 1048576) (w : World) (hb : Bld w B b l) (ht : TR16 w ao ts) (hlen : l.length + ts.flatten.length + 2 ≤ 140737488355328) (hBw : B ≤ w.heap.size) :
    Calls Tryd.prog 32 #[.pointer (some ⟨b, 0, none⟩), .slice ao n cap] w fun e w' => e = .returned (.tuple #[]) ∧ Bld w' B b (l ++ ts.flatten ++ [13, 10]) ∧ Below B w w' ∧ UF b w w' := by
  have HBd := hid' hb
  have HTR := hid' ht
  have HN := hid' hn
  have HLEN := hid' hlen
  have HBW := hid' hBw
  have HOB := hid' (bld_obj hb)
  clear hb ht hn hlen hBw
  go_enter Tryd.func32, Tryd.ntmps32
  go_wp2
  go_loopw [8] (fun s8 wr => ∃ i : Nat, s8 = .int .i64 (i : Int) ∧ i ≤ n ∧ Hid (Bld wr B b (l ++ (ts.take i).flatten)) ∧ Hid (TR16 wr ao ts) ∧ Hid (Below B w wr) ∧ Hid (UF b w wr)) (fun s8 _ => n - (intOf s8).toNat)
  case atStart => exact ⟨0, rfl, Nat.zero_le _, hid' (by simpa using HBd.out), HTR, hid' (Below.refl _ _), hid' (UF.of_below (Below.refl _ _))⟩
  case round =>
    obtain ⟨i, rfl, hi, HB, HT, HBe, HU⟩ := hrel
    by_cases hlt : i < n
    · have hlt2 : (i : Int) < (n : Int) := by omega
      obtain ⟨t, htt⟩ : ∃ t, ts[i]? = some t := ⟨_, List.getElem?_eq_getElem (by rw [HN.out]; exact hlt)⟩
      obtain ⟨g, rfl, y0⟩ := HT.out.at i t htt
      have HTK : Hid ((ts.take (i + 1)).flatten = (ts.take i).flatten ++ t) := hid' (by rw [List.take_add_one, htt]; simp)
      have HFL : Hid ((ts.take (i + 1)).flatten.length ≤ ts.flatten.length) := hid' (by
        conv => rhs; rw [← List.take_append_drop (i + 1) ts, List.flatten_append, List.length_append]
        omega)
      have HWS := hid' (fun W (h : Bld W B b (l ++ (ts.take i).flatten)) (hW : B ≤ W.heap.size) => writeString_any B b (l ++ (ts.take i).flatten) t W h (by
        have h1 := HFL.out
        have h2 := HLEN.out
        rw [HTK.out, List.length_append] at h1
        rw [List.length_append]
        omega) hW)
      clear htt
      go_wp2_with fail
      refine (HWS.out _ HB.out (Nat.le_trans HBW.out HBe.out.size)).mono ?_
      rintro e w2 ⟨rfl, h1, h2, h3⟩
      have HB2 : Hid (Bld w2 B b (l ++ (ts.take (i + 1)).flatten)) := hid' (by rw [HTK.out, ← List.append_assoc]; exact h1)
      have HBe2 := hid' (HBe.out.trans h2)
      have HU2 := hid' (HU.out.trans h3)
      have HT2 : Hid (TR16 w2 (some ⟨g, 0, none⟩) ts) := hid' (by obtain ⟨p, q, hpq⟩ := bld_obj HB.out; exact HT.out.uf h3 hpq)
      clear h1 h2 h3 y0
      go_wp2
      go_roundw
      case rel => exact ⟨i + 1, by go_num, by omega, HB2, HT2, HBe2, HU2⟩
      case measure => simp [intOf]; omega
    · have hlt2 : ¬ (i : Int) < (n : Int) := by omega
      have HTK : Hid (ts.take i = ts) := hid' (List.take_of_length_le (by rw [HN.out]; omega))
      rw [HTK.out] at HB
      clear hlt
      have HWS := hid' (fun W (h : Bld W B b (l ++ ts.flatten)) (hW : B ≤ W.heap.size) => writeString_any B b (l ++ ts.flatten) [13, 10] W h (by rw [List.length_append]; exact HLEN.out) hW)
      go_wp2_with fail
      refine (HWS.out _ HB.out (Nat.le_trans HBW.out HBe.out.size)).mono ?_
      rintro e w2 ⟨rfl, h1, h2, h3⟩
      have HB2 := hid' h1
      have HBe2 := hid' (HBe.out.trans h2)
      have HU2 := hid' (HU.out.trans h3)
      clear h1 h2 h3
      go_wp2
      go_end0
      exact ⟨rfl, HB2.out, HBe2.out, HU2.out⟩

end Go.Proofs.YtdbldompjhienaaDoor
