/-
  strings.Builder's WriteString and String at this program, a frame by types: by their contracts.
-/
import Derived.Test.YtbpdhcfmdkmoiabDoorHuffB
import Derived.Test.YtbpdhcfmdkmoiabDoorMsC
namespace Go.Proofs.YtbpdhcfmdkmoiabDoor
open Go.RowKit

theorem size_l22 (l : List UInt8) : (⟨l.toArray⟩ : ByteArray).size = l.length := by simp [ByteArray.size]
theorem zeroBd22 : (Tryd.prog.info? 61).map (fun i => i.zero) = some (some (.agg #[.pointer none, .slice none 0 0])) := by kernel_rfl
/-- All blocks but one, and but rows of bytes, are as they were. -/
structure UF (b : Nat) (w w' : World) : Prop where
  size : w.heap.size ≤ w'.heap.size
  block : ∀ k, k < w.heap.size → k ≠ b → (∀ cs fz, w.heap[k]? ≠ some (.cells cs 5 fz)) → w'.heap[k]? = w.heap[k]?
theorem UF.of_below {b : Nat} {w w' : World} (h : Below w.heap.size w w') : UF b w w' := ⟨h.size, fun k hk _ _ => h.block k hk⟩
theorem UF.of_set (b i : Nat) (v : Value) (w : World) : UF b w (w.setCell ⟨b, i, none⟩ v) := ⟨by simp [World.setCell], fun k _ hb _ => (upd_setCell w b i v).block k hb⟩
theorem UF.trans {b : Nat} {w w1 w2 : World} (h1 : UF b w w1) (h2 : UF b w1 w2) : UF b w w2 :=
  ⟨Nat.le_trans h1.size h2.size, fun k hk hb hn => (h2.block k (Nat.lt_of_lt_of_le hk h1.size) hb (fun cs fz hc => hn cs fz (by rw [← h1.block k hk hb hn]; exact hc))).trans (h1.block k hk hb hn)⟩
theorem UF.ar {b c : Nat} {w w' : World} {T : TypeId} {cs : Array Value} (h : UF b w w') (ha : Ar w c T cs) (hb : c ≠ b) (hT : T ≠ 5) : Ar w' c T cs := by
  have := h.block c ha.lt hb (fun ds fz hd => by unfold Ar at ha; rw [ha] at hd; injection hd with hd; injection hd with _ h2 _; exact hT h2)
  unfold Ar at *
  rw [this]; exact ha
theorem bld_obj {w : World} {B b : Nat} {l : List UInt8} (h : Bld w B b l) : ∃ p q, Ar w b 61 #[p, q] := by
  rcases h with ⟨_, v, hbk, _⟩ | ⟨_, v, hbk, _⟩
  · exact ⟨_, v, hbk⟩
  · exact ⟨_, v, hbk⟩
set_option maxHeartbeats 2000000 in
set_option maxRecDepth 100000 in
theorem writeString_cells (B b : Nat) (bs : List Value) (s : ByteArray) (w : World) (h : Lib.IsBuilder 61 5 B b bs w) (hlen : bs.length + s.size ≤ 140737488355328) (hBw : B ≤ w.heap.size) :
    Calls Tryd.prog 35 #[.pointer (some ⟨b, 0, none⟩), .string s] w fun e w' => e = .returned (.tuple #[.int .i64 (s.size : Int), .nilIface]) ∧ (Lib.IsBuilder 61 5 B b (bs ++ Lib.strCells s) w' ∧ Below B w w' ∧ UF b w w') := by
  obtain ⟨i0, hi, hz0, hz1, hz2⟩ := minfo_parts infoByte
  have HU : Hid (∀ w1, Lib.BuilderAt 61 5 B b (.pointer (some ⟨b, 0, none⟩)) bs w1 ∧ (w1 = w ∨ w1 = w.setCell ⟨b, 0, none⟩ (.pointer (some ⟨b, 0, none⟩))) → UF b w w1) := hid' fun w1 ⟨_, hw⟩ => by
    rcases hw with rfl | rfl
    · exact UF.of_below (Below.refl _ _)
    · exact UF.of_set _ _ _ _
  have hcc : Calls Tryd.prog 46 #[.pointer (some ⟨b, 0, none⟩)] w fun e w' => e = .returned (.tuple #[]) ∧ (Lib.BuilderAt 61 5 B b (.pointer (some ⟨b, 0, none⟩)) bs w' ∧ Below B w w' ∧ UF b w w') := by
    rcases h with h | h
    · refine (copyCheck_fresh b w h.cell0 h.shape h.frozen0).mono ?_
      rintro e w' ⟨rfl, rfl⟩
      exact ⟨rfl, h.used _, (Below.refl B w).setCell (p := ⟨b, 0, none⟩) h.1 _, UF.of_set _ _ _ _⟩
    · refine (copyCheck_used b w h.cell0).mono ?_
      rintro e w' ⟨rfl, rfl⟩
      exact ⟨rfl, h, Below.refl B _, UF.of_below (Below.refl _ _)⟩
  have HCC := hid' hcc
  clear hcc HU h
  go_enter Tryd.func35, Tryd.ntmps35
  go_wp2_with fail
  refine HCC.out.mono ?_
  rintro e w1 ⟨rfl, h1, hb1, hu1⟩
  clear HCC
  obtain ⟨hB, v, hbk, hown, hne⟩ := h1
  have c0 : w1.cell? ⟨b, 0, none⟩ = some (.pointer (some ⟨b, 0, none⟩)) := by rw [Lib.cell_of_heap hbk]; rfl
  have c1 : w1.cell? ⟨b, 1, none⟩ = some v := by rw [Lib.cell_of_heap hbk]; rfl
  go_wp2_with (at_builtin; refine Lib.wpList_append_own_string _ rfl _ _ 55 9 rfl B 5 i0 Tryd.underlying55 Tryd.underlying9 hi hz0 hz1 hz2 _ _ _ rfl hown s rfl ?c3 ?c4 ?c5 ?_)
  case c3 => unfold maxLen; omega
  case c4 => omega
  case c5 => have := hb1.size; omega
  intro v' w2 hown' hgrow _
  have hlt : b < w1.heap.size := (Array.getElem?_eq_some_iff.1 hbk).1
  have hb2 : w2.heap[b]? = some (.cells #[.pointer (some ⟨b, 0, none⟩), v] 61 (0, 0)) := by
    rw [hgrow.block b (by omega) (fun e => hne e.symm)]
    exact hbk
  have d1 : w2.cell? ⟨b, 1, none⟩ = some v := by rw [Lib.cell_of_heap hb2]; rfl
  have f1 : w2.frozen? ⟨b, 1, none⟩ = false := Lib.frozen_of_heap hb2 1
  obtain ⟨ao, n', cap, rfl⟩ : ∃ ao n' cap, v' = .slice ao n' cap := by
    rcases hown'.2 with ⟨h, _⟩ | ⟨g, cap, cur, hv, _⟩
    · exact ⟨_, _, _, h⟩
    · exact ⟨_, _, _, hv⟩
  have HUG : Hid (UF b w1 w2) := hid' ⟨hgrow.size, fun k hk _ hn => hgrow.block k hk (fun e => by
    rcases hown.2 with ⟨rfl, _⟩ | ⟨g, cap, cur, rfl, _, hg, _⟩
    · simp [Value.ownBlock] at e
    · simp [Value.ownBlock] at e
      subst e
      exact hn cur (0, 0) hg)⟩
  have HU1 := hid' hu1
  clear hu1
  go_wp2
  go_ret2
  refine ⟨rfl, ?_, ?_, (HU1.out.trans HUG.out).trans (UF.of_set _ _ _ _)⟩
  · exact .inr (Lib.BuilderAt.put (T := 61) (e := 5) hB hb2 (bs' := bs ++ Lib.strCells s) (by simpa [Lib.strCells_length] using hown') (by decide))
  · exact (hb1.grown hgrow (by have := hb1.size; omega) (fun k hk => (hown.lt k hk).1)).setCell (p := ⟨b, 1, none⟩) hB _

theorem writeString_any (B b : Nat) (l s : List UInt8) (w : World) (h : Bld w B b l) (hlen : l.length + s.length ≤ 140737488355328) (hBw : B ≤ w.heap.size) :
    Calls Tryd.prog 35 #[.pointer (some ⟨b, 0, none⟩), .string ⟨s.toArray⟩] w fun e w' => e = .returned (.tuple #[.int .i64 (s.length : Int), .nilIface]) ∧ (Bld w' B b (l ++ s) ∧ Below B w w' ∧ UF b w w') := by
  refine (writeString_cells B b (Lib.byteCells l) ⟨s.toArray⟩ w h (by rw [Lib.byteCells_length, size_l22]; exact hlen) hBw).mono ?_
  rintro e w' ⟨rfl, h1, h2⟩
  refine ⟨by rw [size_l22], ?_, h2⟩
  have : Lib.byteCells (l ++ s) = Lib.byteCells l ++ Lib.strCells ⟨s.toArray⟩ := by simp [Lib.byteCells, Lib.strCells]
  unfold Bld
  rw [this]
  exact h1

theorem string_any (B b : Nat) (l : List UInt8) (w : World) (h : Bld w B b l) (hBw : B ≤ w.heap.size) :
    Calls Tryd.prog 36 #[.pointer (some ⟨b, 0, none⟩)] w fun e w' => e = .returned (.string ⟨l.toArray⟩) ∧ Below B w w' ∧ UF b w w' := by
  refine (Tryd.Builder_String_any_k B b l w (Lib.IsBuilderF.of h) hBw).mono ?_
  rintro e w' ⟨rfl, _, hb, ho⟩
  refine ⟨rfl, hb, hb.size, fun k hk hne hn => ?_⟩
  obtain ⟨o, hk'⟩ : ∃ o, w.heap[k]? = some o := ⟨_, Array.getElem?_eq_getElem hk⟩
  rw [ho k o hk' (by simpa using hne) (fun c fz e => hn c fz (by rw [hk', e])), hk']

theorem ar_ne22 {w : World} {a b : Nat} {T T' : TypeId} {c c' : Array Value} (h : Ar w a T c) (h' : Ar w b T' c') (hT : T ≠ T') : a ≠ b := fun e => by
  unfold Ar at h h'
  rw [e, h'] at h
  injection h with h
  injection h with _ h _
  exact hT h.symm

end Go.Proofs.YtbpdhcfmdkmoiabDoor
