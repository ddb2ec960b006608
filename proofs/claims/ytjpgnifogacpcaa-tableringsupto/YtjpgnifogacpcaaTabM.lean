/-
  The document's table in memory; ostlerref05.Weight, New, Size: by their contracts.
-/
import Derived.Test.YtjpgnifogacpcaaProg
import Derived.Test.YtjpgnifogacpcaaHuffM
import Derived.Test.YtjpgnifogacpcaaTabP
import Derived.Laws.OwnMore
import Derived.Great.BuildSlice
import Derived.OneCell
namespace Go.Proofs.Ytjpgnifogacpcaa
open Go.RowKit

theorem ret_int {k : IntKind} {a b : Int} (h : a = b) : Ending.returned (.int k a) = .returned (.int k b) := by rw [h]

/-- The document's table: its room, and its fields, in a row of its own. -/
structure RT (w : World) (B b : Nat) (v : Value) (M : Int) (fs : List (List UInt8 × List UInt8)) : Prop where
  ge : B ≤ b
  obj : Ar w b 44 #[.int .i64 M, v]
  row : w.ownsRow B 32 2 v fs.length (Tb.cells fs)
theorem own_ne {w : World} {B s : Nat} {e T : TypeId} {v : Value} {n : Nat} {xs : List Value} {b : Nat} {cs : Array Value} (hown : w.ownsRow B e s v n xs) (hb : Ar w b T cs) (hTe : T ≠ e) : v.ownBlock ≠ some b := by
  rcases hown.2 with ⟨rfl, _⟩ | ⟨g, cap, cur, rfl, _, hg, _⟩
  · simp [Value.ownBlock]
  · intro h
    simp [Value.ownBlock] at h
    subst h
    unfold Ar at hb
    rw [hg] at hb
    injection hb with hb
    injection hb with _ h2 _
    exact hTe h2.symm
theorem RT.grown {w w' : World} {B b k : Nat} {v : Value} {M : Int} {fs : List (List UInt8 × List UInt8)} (h : RT w B b v M fs) (hg : w.grownBy w' (some k)) (h1 : k ≠ b) (h2 : v.ownBlock ≠ some k) : RT w' B b v M fs :=
  ⟨h.ge, by have := h.obj; unfold Ar at *; rw [hg.block b (Array.getElem?_eq_some_iff.1 this).1 (by simpa using fun e => h1 e.symm)]; exact this, h.row.kept hg (.inr h2)⟩
theorem grown_of_below {w w' : World} (h : Below w.heap.size w w') (row : Option Nat) : w.grownBy w' row := ⟨h.os, h.tape, h.output, h.size, fun k hk _ => h.block k hk⟩
theorem RT.keep {w w' : World} {B b : Nat} {v : Value} {M : Int} {fs : List (List UInt8 × List UInt8)} (h : RT w B b v M fs) (hb : Below w.heap.size w w') : RT w' B b v M fs :=
  ⟨h.ge, h.obj.keep hb, h.row.kept (row := none) (grown_of_below hb _) (by cases v.ownBlock <;> simp)⟩
theorem RT.drew {w : World} {B b : Nat} {v : Value} {M : Int} {fs : List (List UInt8 × List UInt8)} (h : RT w B b v M fs) : RT w.drew B b v M fs := ⟨h.ge, h.obj, h.row⟩
theorem RT.ne {w : World} {B b : Nat} {v : Value} {M : Int} {fs : List (List UInt8 × List UInt8)} (h : RT w B b v M fs) : v.ownBlock ≠ some b := own_ne h.row h.obj (by decide)

theorem gb_refl (w : World) (row : Option Nat) : w.grownBy w row := ⟨rfl, rfl, rfl, Nat.le_refl _, fun _ _ _ => rfl⟩
theorem gb_trans {w w1 w2 : World} {row : Option Nat} (h1 : w.grownBy w1 row) (h2 : w1.grownBy w2 row) : w.grownBy w2 row :=
  ⟨h2.os.trans h1.os, h2.tape.trans h1.tape, h2.output.trans h1.output, Nat.le_trans h1.size h2.size, fun k hk hn => (h2.block k (Nat.lt_of_lt_of_le hk h1.size) hn).trans (h1.block k hk hn)⟩
theorem gb_below {w w1 w2 : World} {row : Option Nat} (h1 : w.grownBy w1 row) (h2 : Below w1.heap.size w1 w2) : w.grownBy w2 row := gb_trans h1 (grown_of_below h2 _)
theorem gb_set (w : World) (b i : Nat) (v : Value) : w.grownBy (w.setCell ⟨b, i, none⟩ v) (some b) :=
  have h := upd_setCell w b i v
  ⟨h.os, h.tape, h.output, by rw [h.size]; exact Nat.le_refl _, fun k _ hn => h.block k (fun e => hn (by rw [e]))⟩
theorem gb_drew {w w1 : World} {row : Option Nat} (h : w.grownBy w1 row) : w.grownBy w1.drew row := ⟨h.os, h.tape, h.output, h.size, h.block⟩
theorem RT.setRow {w : World} {B b : Nat} {v v' : Value} {M : Int} {fs fs' : List (List UInt8 × List UInt8)} (h : RT w B b v M fs) (hr : w.ownsRow B 32 2 v' fs'.length (Tb.cells fs')) (hne : v'.ownBlock ≠ some b) : RT (w.setCell ⟨b, 1, none⟩ v') B b v' M fs' :=
  ⟨h.ge, h.obj.set 1 v', ownsRow_setCell_other hr hne v'⟩
theorem RT.setMost {w : World} {B b : Nat} {v : Value} {M : Int} {fs : List (List UInt8 × List UInt8)} (h : RT w B b v M fs) (N : Int) : RT (w.setCell ⟨b, 0, none⟩ (.int .i64 N)) B b v N fs :=
  ⟨h.ge, h.obj.set 0 _, ownsRow_setCell_other h.row h.ne _⟩

theorem weight_at (n v : List UInt8) (k : Nat) (hk : Tb.wt (n, v) = k) (hs : k ≤ 1152921504606846976) (w : World) :
    Calls Try.prog 24 #[.agg #[.string ⟨n.toArray⟩, .string ⟨v.toArray⟩]] w fun e w' => e = .returned (.int .i64 (k : Int)) ∧ w' = w.alloc (.cells #[.string ⟨n.toArray⟩, .string ⟨v.toArray⟩] 32) := by
  have HK := hid' hk
  have h1 : n.length ≤ 1152921504606846976 := by unfold Tb.wt at hk; simp only at hk; omega
  have h2 : v.length ≤ 1152921504606846976 := by unfold Tb.wt at hk; simp only at hk; omega
  clear hk
  go_enter Try.func24, Try.ntmps24
  go_wp2
  go_ret
  exact ⟨ret_int (by have := HK.out; unfold Tb.wt at this; simp only at this; omega), rfl⟩

theorem rnew_no (most : Int) (h : most < 0 ∨ 65536 < most) (w : World) : Calls Try.prog 9 #[.int .i64 most] w fun e w' => e = .returned (.tuple #[.pointer none, .int .i64 5]) ∧ w' = w := by
  by_cases h0 : most < 0
  · clear h
    go_enter Try.func9, Try.ntmps9
    go_wp2
    go_ret2
    exact ⟨rfl, rfl⟩
  · have h1 : 65536 < most := by omega
    clear h
    go_enter Try.func9, Try.ntmps9
    go_wp2
    go_ret2
    exact ⟨rfl, rfl⟩

theorem rnew_yes (most : Int) (h0 : 0 ≤ most) (h1 : most ≤ 65536) (B : Nat) (w : World) (hB : B ≤ w.heap.size) : Calls Try.prog 9 #[.int .i64 most] w fun e w' => e = .returned (.tuple #[.pointer (some ⟨w.heap.size, 0, none⟩), .int .i64 0]) ∧ RT w' B w.heap.size (.slice none 0 0) most [] ∧ Below w.heap.size w w' := by
  have hd0 : decide (most < 0) = false := decide_eq_false (by omega)
  have hd1 : decide (65536 < most) = false := decide_eq_false (by omega)
  go_enter Try.func9, Try.ntmps9
  go_wp2
  go_ret2
  exact ⟨rfl, ⟨hB, heap_alloc_last w _, World.ownsRow_nil _ _ _ _⟩, (Below.refl _ _).alloc (Nat.le_refl _) _⟩

set_option maxHeartbeats 1000000 in
theorem rsize_any (B b : Nat) (v : Value) (M : Int) (fs : List (List UInt8 × List UInt8)) (w : World) (h : RT w B b v M fs) (hs : Tb.size fs ≤ 1152921504606846976) :
    Calls Try.prog 20 #[.pointer (some ⟨b, 0, none⟩)] w fun e w' => e = .returned (.int .i64 (Tb.size fs : Int)) ∧ Below w.heap.size w w' := by
  have H := hid' h
  have hfl : fs.length ≤ 1152921504606846976 := by have := Tb.size_len fs; omega
  have hc0 := h.obj.cell 0 _ rfl
  have hc1 := h.obj.cell 1 _ rfl
  obtain ⟨ao, cap, rfl⟩ : ∃ ao cap, v = .slice ao fs.length cap := by
    rcases h.row.2 with ⟨hv, h0⟩ | ⟨g, cap, cur, hv, _⟩
    · exact ⟨none, 0, by rw [hv, h0]⟩
    · exact ⟨_, _, hv⟩
  clear h
  go_enter Try.func20, Try.ntmps20
  go_wp2
  go_loopw [3, 4] (fun s3 s4 wr => ∃ i k : Nat, s4 = .int .i64 (i : Int) ∧ s3 = .int .i64 (k : Int) ∧ i ≤ fs.length ∧ Hid (k = Tb.size (fs.take i)) ∧ Hid (Below w.heap.size w wr)) (fun _ s4 _ => fs.length - (intOf s4).toNat)
  case atStart => exact ⟨0, 0, rfl, rfl, Nat.zero_le _, hid' rfl, hid' (Below.refl _ _)⟩
  case round =>
    clear hc0 hc1
    obtain ⟨i, k, rfl, rfl, hi, HK, HB⟩ := hrel
    have hR := H.out.keep HB.out
    have hc1 := hR.obj.cell 1 _ rfl
    by_cases hlt : i < fs.length
    · have hlt2 : decide ((i : Int) < (fs.length : Int)) = true := decide_eq_true (by omega)
      obtain ⟨f, hf⟩ : ∃ f, fs[i]? = some f := ⟨_, List.getElem?_eq_getElem hlt⟩
      obtain ⟨n, v⟩ := f
      obtain ⟨g, rfl⟩ : ∃ g, ao = some ⟨g, 0, none⟩ := by
        rcases hR.row.2 with ⟨hv, h0⟩ | ⟨g, _, _, hv, _⟩
        · omega
        · exact ⟨g, by simp at hv; exact hv.1⟩
      obtain ⟨e0, e1⟩ := Tb.cells_at fs i (n, v) hf
      have c0 := hR.row.cellAt (i * 2) (by omega)
      have c1 := hR.row.cellAt (i * 2 + 1) (by omega)
      rw [e0] at c0
      rw [e1] at c1
      obtain ⟨m, hm⟩ : ∃ m, Tb.wt (n, v) = m := ⟨_, rfl⟩
      have HM := hid' hm
      have hst := Tb.size_take fs i (n, v) hf
      have hsl := Tb.size_take_le fs (i + 1)
      rw [hm, ← HK.out] at hst
      have hkm : k + m ≤ 1152921504606846976 := by omega
      have HST := hid' hst
      clear e0 e1 hf hm hst hsl hR
      go_wp2_with fail
      refine (weight_at n v m HM.out (by omega) _).mono ?_
      rintro e w1 ⟨rfl, rfl⟩
      have HB1 : Hid (Below w.heap.size w (wr.alloc (.cells #[.string ⟨n.toArray⟩, .string ⟨v.toArray⟩] 32))) := hid' (HB.out.alloc HB.out.size _)
      go_wp2
      go_roundw
      case rel => exact ⟨i + 1, k + m, by go_num, by go_num, by omega, hid' HST.out.symm, HB1⟩
      case measure => simp [intOf]; omega
    · have hlt2 : decide ((i : Int) < (fs.length : Int)) = false := decide_eq_false (by omega)
      have hk : k = Tb.size fs := by rw [HK.out, List.take_of_length_le (by omega)]
      have HK2 := hid' hk
      clear hk hR
      go_wp2
      go_ret
      exact ⟨ret_int (by rw [HK2.out]), HB.out⟩

end Go.Proofs.Ytjpgnifogacpcaa
