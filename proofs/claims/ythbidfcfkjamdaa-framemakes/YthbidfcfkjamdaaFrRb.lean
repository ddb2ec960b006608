/-
  ostlerref07.written, by its contract.
-/
import Derived.Test.YthbidfcfkjamdaaFrO
namespace Go.Proofs.Ythbidfcfkjamdaa
open Go.RowKit

/-- Bytes as cells. -/
def byA (l : List UInt8) : Array Value := (l.map (fun x => Value.int .u8 (x.toNat : Int))).toArray
theorem byA_at {l : List UInt8} {i : Nat} {x : UInt8} (h : l[i]? = some x) : (byA l)[i]? = some (.int .u8 (x.toNat : Int)) := by simp [byA, h]
theorem byA_set (l : List UInt8) (i : Nat) (x : UInt8) : (byA l).setIfInBounds i (.int .u8 (x.toNat : Int)) = byA (l.set i x) := by simp [byA, List.map_set]
theorem Ar.byte {w : World} {b : Nat} {l : List UInt8} (h : Ar w b 5 (byA l)) (i : Nat) (x : UInt8) : Ar (w.setCell ⟨b, i, none⟩ (.int .u8 (x.toNat : Int))) b 5 (byA (l.set i x)) := by rw [← byA_set]; exact h.set i _
theorem byA_zero (m : Nat) : byA (List.replicate m 0) = madeCells #[.int .u8 0] m := by
  apply Array.ext'
  rw [toList_madeCells_one]
  simp [byA]
theorem ar_str {w : World} {b cap : Nat} {l : List UInt8} (h : Ar w b 5 (byA l)) : (convert 66 9 (.slice (some ⟨b, 0, none⟩) l.length cap)).run Try.prog w = .ok (.string ⟨l.toArray⟩) w := by
  refine run_convert_bytes_back w _ _ 5 ⟨b, 0, none⟩ cap l Try.underlying66 Try.underlying5 Try.underlying9 fun j hj => ?_
  rw [Addr.add_mid, Nat.zero_add]
  exact h.cell j _ (byA_at (List.getElem?_eq_getElem hj))
section
variable {ops : Array Oper} {rest : List Oper} {o : Oper} {a : Act} {w : World} {Q : Exit → Act → World → Prop}
theorem wpl_makeB (x y : Operand) (ho : o.op = .makeSlice 66 x y) (hgd : o.guard = none) (m : Nat) (hm : m ≤ 1048576) (hx : a.eval x = .int .i64 (m : Int)) (hy : a.eval y = .int .i64 (m : Int))
    (h : ∀ b w', w.heap.size ≤ b → Ar w' b 5 (byA (List.replicate m 0)) → Below w.heap.size w w' → wpList Try.prog ops Q rest (a.put o.dst (.slice (some ⟨b, 0, none⟩) m m)) w') : wpList Try.prog ops Q (o :: rest) a w := by
  obtain ⟨i, hi, hz0, hz1, hz2⟩ := info_parts' infoByte'
  refine wpList_plain hgd fun _ hK => ?_
  have hr := run_make (P := Try.prog) w 66 5 i (.int .u8 0) Try.underlying66 hi hz0 .i64 .i64 (m : Int) (m : Int) (by omega) (by omega) (by rw [hz2]; omega) (by omega)
  rw [hz1, Int.toNat_natCast, Nat.mul_one] at hr
  unfold Oper.wp execOp
  simp only [ho, hx, hy, Sem.run_bind, Sem.run_pure, hr, Result.andThen_ok]
  refine hK _ _ (h _ _ (Nat.le_refl _) ?_ ((Below.refl _ w).alloc (Nat.le_refl _) _))
  rw [byA_zero]; exact heap_alloc_last w _
end
theorem Fm.enc_at (w i : Nat) (n : Int) (h : i < w) : (Fm.enc w n)[i]? = some (Fm.byt (n / 256 ^ (w - 1 - i))) := by
  induction w generalizing i with
  | zero => omega
  | succ w ih =>
    cases i with
    | zero => simp [Fm.enc]
    | succ i =>
      simp only [Fm.enc, List.getElem?_cons_succ]
      rw [ih i (by omega), show w + 1 - 1 - (i + 1) = w - 1 - i by omega]
theorem drop_set_eq {L E : List UInt8} {i : Nat} {x : UInt8} (hl : i < L.length) (hL : L.drop (i + 1) = E.drop (i + 1)) (hx : E[i]? = some x) : (L.set i x).drop i = E.drop i := by
  have he : i < E.length := (List.getElem?_eq_some_iff.1 hx).1
  have hx' : E[i] = x := (List.getElem?_eq_some_iff.1 hx).2
  rw [List.drop_eq_getElem_cons (by simpa using hl), List.drop_eq_getElem_cons he, List.getElem_set_self, hx']
  congr 1
  rw [← hL, List.drop_set_of_lt (by omega)]

set_option maxHeartbeats 8000000 in
set_option maxRecDepth 20000 in
theorem rwritten_any (m wd : Int) (h0 : 0 ≤ m) (h1 : m ≤ 9223372036854775807) (hw : wd = 1 ∨ wd = 2 ∨ wd = 3 ∨ wd = 4) (w : World) : Calls Try.prog 50 #[.int .i64 m, .int .i64 wd] w fun e w' => e = .returned (.string ⟨(Fm.enc wd.toNat m).toArray⟩) ∧ Below w.heap.size w w' := by
  obtain ⟨W, hW⟩ : ∃ W : Nat, wd = (W : Int) := ⟨wd.toNat, by omega⟩
  subst hW
  rw [Int.toNat_natCast]
  have hW4 : W ≤ 4 := by omega
  obtain ⟨E, hE⟩ : ∃ E, Fm.enc W m = E := ⟨_, rfl⟩
  have HE := hid' hE
  have HEL : Hid (E.length = W) := hid' (by rw [← hE]; exact Fm.enc_length _ _)
  rw [hE]
  have hwi : (0 : Int) ≤ (W : Int) := by omega
  have hwi2 : (W : Int) ≤ 4 := by omega
  clear hE hw
  go_enter Try.func50, Try.ntmps50
  go_wp2_with (refine wpl_makeB _ _ rfl rfl W (by omega) (by kernel_rfl) (by kernel_rfl) ?_)
  intro b w0 hg ha hb
  have HS0 : Hid (∃ L : List UInt8, L.length = W ∧ L.drop W = E.drop W ∧ Ar w0 b 5 (byA L) ∧ Below w.heap.size w w0) := hid' ⟨List.replicate W 0, by simp, by rw [List.drop_of_length_le (by simp), List.drop_of_length_le (by rw [HEL.out]; exact Nat.le_refl _)], ha, hb⟩
  have HG := hid' hg
  clear hg ha hb
  go_wp2
  go_loopw [0, 6] (fun s0 s6 wr => ∃ (q : Int) (j : Nat), s0 = .int .i64 q ∧ s6 = .int .i64 ((j : Int) - 1) ∧ j ≤ W ∧ 0 ≤ q ∧ q ≤ 9223372036854775807 ∧ Hid (q = m / 256 ^ (W - j)) ∧ Hid (∃ L : List UInt8, L.length = W ∧ L.drop j = E.drop j ∧ Ar wr b 5 (byA L) ∧ Below w.heap.size w wr)) (fun _ s6 _ => (intOf s6 + 1).toNat)
  case atStart => exact ⟨m, W, rfl, by go_num, Nat.le_refl _, h0, h1, hid' (by simp), HS0⟩
  case round =>
    clear HS0 h0 h1
    obtain ⟨q, j, rfl, rfl, hj, hq0, hq1, HQ, HX⟩ := hrel
    by_cases hj0 : j = 0
    · subst hj0
      obtain ⟨HA, HB⟩ : Hid (Ar wr b 5 (byA E)) ∧ Hid (Below w.heap.size w wr) := by
        obtain ⟨L, h1, h2, h3, h4⟩ := HX.out
        have : L = E := by simpa using h2
        rw [← this]; exact ⟨h3, h4⟩
      have hcv := ar_str (cap := W) HA.out
      rw [HEL.out] at hcv
      clear HX
      go_wp2
      go_ret
      exact ⟨rfl, HB.out⟩
    · obtain ⟨i, rfl⟩ : ∃ i, j = i + 1 := ⟨j - 1, by omega⟩
      obtain ⟨L, HL, HD, HA, HB⟩ : ∃ L : List UInt8, Hid (L.length = W) ∧ Hid (L.drop (i + 1) = E.drop (i + 1)) ∧ Hid (Ar wr b 5 (byA L)) ∧ Hid (Below w.heap.size w wr) := by
        obtain ⟨L, h1, h2, h3, h4⟩ := HX.out
        exact ⟨L, h1, h2, h3, h4⟩
      obtain ⟨x, hx⟩ : ∃ x, Fm.byt q = x := ⟨_, rfl⟩
      have hxv := (Fm.byt_cast q).symm
      rw [hx] at hxv
      have x256 := UInt8.toNat_lt x
      have HEX : Hid (E[i]? = some x) := hid' (by
        rw [← HE.out, Fm.enc_at W i m (by omega), ← hx, HQ.out, show W - 1 - i = W - (i + 1) by omega])
      have hil : i < L.length := by rw [HL.out]; omega
      have z := HA.out.cell i _ (byA_at (List.getElem?_eq_getElem hil))
      have f := HA.out.free i
      have HA2 := hid' (HA.out.byte i x)
      have HD2 : Hid ((L.set i x).drop i = E.drop i) := hid' (drop_set_eq hil HD.out HEX.out)
      have HQ2 : Hid (q / 256 = m / 256 ^ (W - i)) := hid' (by
        rw [HQ.out, Int.ediv_ediv_of_nonneg (Int.pow_nonneg (by decide)), show W - i = (W - (i + 1)) + 1 by omega, Int.pow_succ])
      have hq4 : q.tmod 256 = q % 256 := Int.tmod_eq_emod_of_nonneg hq0
      have hq5 : q.tdiv 256 = q / 256 := Int.tdiv_eq_ediv_of_nonneg hq0
      have hiW : i < W := by omega
      have hii : (i : Int) < (W : Int) := by omega
      have HLS : Hid ((L.set i x).length = W) := hid' (by rw [List.length_set]; exact HL.out)
      have HG2 := hid' (Nat.le_refl w.heap.size)
      have HB2 := hid' (HB.out.setCell (p := ⟨b, i, none⟩) HG.out (.int .u8 (x.toNat : Int)))
      clear HX hx hj0
      have hi4 : i = 0 ∨ i = 1 ∨ i = 2 ∨ i = 3 := by omega
      rcases hi4 with rfl | rfl | rfl | rfl
      all_goals
        go_wp2
        go_roundw
        case rel => exact ⟨q / 256, _, by go_num, by go_num, by omega, by omega, by omega, HQ2, hid' ⟨_, HLS.out, HD2.out, HA2.out, HB2.out⟩⟩
        case measure => simp [intOf]

end Go.Proofs.Ythbidfcfkjamdaa
