/-
  frame.appendNumber, by its contract.
-/
import Derived.Test.YthbidfcfkjamdaaFrW
import Derived.Lib.AppendStr
import Derived.Lib.UnsafeStr
namespace Go.Proofs.Ythbidfcfkjamdaa
open Go.RowKit

/-- What lies below is as it was, and so is all that is no row of bytes. -/
structure NB (B : Nat) (w w' : World) : Prop where
  bel : Below B w w'
  ar : ∀ k T c, T ≠ 5 → Ar w k T c → Ar w' k T c
theorem NB.refl (B : Nat) (w : World) : NB B w w := ⟨Below.refl _ _, fun _ _ _ _ h => h⟩
theorem NB.trans {B : Nat} {w w1 w2 : World} (h1 : NB B w w1) (h2 : NB B w1 w2) : NB B w w2 := ⟨h1.bel.trans h2.bel, fun k T c hT h => h2.ar k T c hT (h1.ar k T c hT h)⟩
theorem NB.of_below {B : Nat} {w w' : World} (h : Below w.heap.size w w') (hB : B ≤ w.heap.size) : NB B w w' := ⟨h.mono hB, fun _ _ _ _ ha => ha.keep h⟩
theorem NB.of_grown {B : Nat} {w w' : World} {v : Value} {n : Nat} {xs : List Value} (h : w.ownsRow B 5 1 v n xs) (hg : w.grownBy w' v.ownBlock) (hB : B ≤ w.heap.size) : NB B w w' :=
  ⟨Below.of_grown hg (fun k hk => (h.lt k hk).1) hB, fun _ _ _ hT ha => ar_grown ha hg (own_apart h ha hT)⟩
theorem bytes_snoc (l : List UInt8) (x : UInt8) : Lib.byteCells (l ++ [x]) = Lib.byteCells l ++ [.int .u8 (x.toNat : Int)] := by simp [Lib.byteCells]
theorem bytes_app (l m : List UInt8) : Lib.byteCells (l ++ m) = Lib.byteCells l ++ Lib.byteCells m := by simp [Lib.byteCells]
theorem bytes_len (l : List UInt8) : (Lib.byteCells l).length = l.length := by simp [Lib.byteCells]
theorem one_newb (w : World) (t : TypeId) (x : Value) : ∀ j u, ([x] : List Value)[j]? = some u → (w.alloc (.cells #[x] t)).cell? ((⟨w.heap.size, 0, none⟩ : Addr).add j) = some u := by
  intro j u hj
  match j, hj with
  | 0, hj => simp at hj; subst hj; simp [Addr.add]
/-- A row of bytes of one's own. -/
def BR (w : World) (B : Nat) (v : Value) (l : List UInt8) : Prop := w.ownsRow B 5 1 v l.length (Lib.byteCells l)

set_option maxHeartbeats 4000000 in
set_option maxRecDepth 20000 in
theorem cappend_any (B : Nat) (v : Value) (pre : List UInt8) (n : Int) (wd : Nat) (w : World) (hw4 : wd ≤ 4) (h : BR w B v pre) (hB : B ≤ w.heap.size) (hp : pre.length ≤ 4294967296) :
    Calls Try.prog 45 #[v, .int .i64 n, .int .i64 (wd : Int)] w fun e w' => (∃ v', e = .returned v' ∧ Hid (BR w' B v' (pre ++ Fm.enc wd n))) ∧ NB B w w' := by
  obtain ⟨i0, hi, hz0, hz1, hz2⟩ := info_parts' infoByte'
  have HI := hid' hi
  have HZ0 := hid' hz0
  have HZ1 := hid' hz1
  have HZ2 := hid' hz2
  have HW := hid' h
  have HB := hid' hB
  have HP := hid' hp
  clear hi hz0 hz1 hz2 h hB hp
  go_enter Try.func45, Try.ntmps45
  go_wp2
  go_loopw [0, 7] (fun s0 s7 wr => ∃ j : Nat, s7 = .int .i64 ((j : Int) - 1) ∧ j ≤ 4 ∧ Hid (∃ acc, acc ++ Fm.enc j n = pre ++ Fm.enc wd n ∧ BR wr B s0 acc ∧ NB B w wr)) (fun _ s7 _ => (intOf s7 + 1).toNat)
  case atStart => exact ⟨wd, by go_num, hw4, hid' ⟨pre, rfl, HW.out, NB.refl _ _⟩⟩
  case round =>
    clear HW
    obtain ⟨j, rfl, hj, HX⟩ := hrel
    by_cases hj0 : j = 0
    · subst hj0
      have HX2 : Hid (BR wr B u0 (pre ++ Fm.enc wd n) ∧ NB B w wr) := hid' (by
        obtain ⟨acc, h1, h2, h3⟩ := HX.out
        have : acc = pre ++ Fm.enc wd n := by rw [← h1]; simp [Fm.enc]
        rw [← this]; exact ⟨h2, h3⟩)
      clear HX
      go_wp2
      go_ret
      exact ⟨⟨_, rfl, HX2.out.1⟩, HX2.out.2⟩
    · obtain ⟨i, rfl⟩ : ∃ i, j = i + 1 := ⟨j - 1, by omega⟩
      obtain ⟨acc, HE, HO, HNB, HL⟩ : ∃ acc, Hid (acc ++ Fm.enc (i + 1) n = pre ++ Fm.enc wd n) ∧ Hid (wr.ownsRow B 5 1 u0 acc.length (Lib.byteCells acc)) ∧ Hid (NB B w wr) ∧ Hid (acc.length ≤ 4294967300) := by
        obtain ⟨acc, h1, h2, h3⟩ := HX.out
        refine ⟨acc, h1, h2, h3, ?_⟩
        have e := congrArg List.length h1
        rw [List.length_append, List.length_append, Fm.enc_length, Fm.enc_length] at e
        have := HP.out
        show _ ≤ _
        omega
      obtain ⟨x, hx⟩ : ∃ x, Fm.byt (n / 256 ^ i) = x := ⟨_, rfl⟩
      have HE2 : Hid ((acc ++ [x]) ++ Fm.enc i n = pre ++ Fm.enc wd n) := hid' (by rw [← HE.out, ← hx]; simp [Fm.enc])
      have hxv := Fm.byt_cast (n / 256 ^ i)
      rw [hx] at hxv
      obtain ⟨xs, hxs⟩ : ∃ xs, Lib.byteCells acc = xs := ⟨_, rfl⟩
      obtain ⟨np, hnp⟩ : ∃ np, acc.length = np := ⟨_, rfl⟩
      rw [hxs, hnp] at HO
      rw [hnp] at HL
      have hnb := HL.out
      have HXX := hid' hxs
      have HNP := hid' hnp
      clear HX HE hxs hnp hx HL hj0
      have hi4 : i = 0 ∨ i = 1 ∨ i = 2 ∨ i = 3 := by omega
      clear hj
      rcases hi4 with rfl | rfl | rfl | rfl
      all_goals
        simp at hxv
        replace hxv := hxv.symm
        go_wp2_with (at_builtin; refine wpList_append_own _ rfl _ _ 66 rfl B 5 i0 (.int .u8 0) 1 1 Try.underlying66 HI.out HZ0.out HZ1.out HZ2.out rfl (by decide) _ _ _ rfl (World.ownsRow.alloc HO.out _) ⟨wr.heap.size, 0, none⟩ 1 1 [.int .u8 (x.toNat : Int)] rfl rfl (one_newb _ _ _) (fun u hu => by simp at hu; subst hu; rfl) ?a1 ?a2 ?a3 ?_)
        case a1 => unfold maxLen; omega
        case a2 => omega
        case a3 => have := HNB.out.bel.size; have := HB.out; simp; omega
        intro vx w5 hown hgrow _
        have hsz := HNB.out.bel.size
        have hNB5 := HNB.out.trans (NB.of_grown HO.out (Fr_alloc hgrow) (Nat.le_trans HB.out hsz))
        have HS5 : Hid (∃ acc, acc ++ Fm.enc _ n = pre ++ Fm.enc wd n ∧ BR w5 B vx acc ∧ NB B w w5) := hid' (by
          refine ⟨acc ++ [x], HE2.out, ?_, hNB5⟩
          unfold BR
          rw [bytes_snoc, HXX.out, List.length_append, HNP.out]; exact hown)
        clear hown hgrow hNB5 hsz
        go_wp2
        go_roundw
        case rel => exact ⟨_, by go_num, by omega, HS5⟩
        case measure => simp [intOf]

end Go.Proofs.Ythbidfcfkjamdaa
