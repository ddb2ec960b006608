/-
  The law HuffDecodes, by its contract.
-/
import Derived.Test.YtojfbeldoemmoaaHuffVF
namespace Go.Proofs.Ytojfbeldoemmoaa
open Go.RowKit

set_option maxHeartbeats 1000000 in
theorem huffDecodes_any (s : ByteArray) (most : Int) (w : World) (hs : s.size ≤ 1048576) :
    Calls Try.prog 4 #[.string s, .int .i64 most] w fun e w' => e = .returned (.bool true) ∧ Below w.heap.size w w' := by
  obtain ⟨M, hM⟩ : ∃ M : Nat, max most 0 = (M : Int) := ⟨(max most 0).toNat, by omega⟩
  have H1 : Hid (∀ w, Calls Try.prog 13 #[.string s, .int .i64 most] w fun e w' => e = .returned (Hf.resV (Hf.dec M (Hf.unp s.data.toList) 0 0 [])) ∧ Below w.heap.size w w') := hid' (fun w => decode_any s (by omega) most M hM w)
  have H2 : Hid (∀ w, Calls Try.prog 14 #[.string s, .int .i64 most] w fun e w' => e = .returned (Hf.resV (Hf.dec M (Hf.unp s.data.toList) 0 0 [])) ∧ Below w.heap.size w w') := hid' (fun w => rdecode_any s hs most M hM w)
  clear hM
  generalize Hf.dec M (Hf.unp s.data.toList) 0 0 [] = R at H1 H2
  cases R with
  | ok t =>
    have hq : (t == t) = true := by simp
    go_enter Try.func4, Try.ntmps4
    go_wp2_with fail
    refine (H1.out _).mono ?_
    rintro e w1 ⟨rfl, hb1⟩
    have HB1 := hid' hb1
    clear hb1
    simp only [Hf.resV]
    go_wp2_with fail
    refine (H2.out _).mono ?_
    rintro e w2 ⟨rfl, hb2⟩
    have HB2 := hid' (below_two HB1.out hb2)
    clear hb2 HB1
    simp only [Hf.resV]
    go_wp2_with fail
    refine (awake_any _).mono ?_
    rintro e w3 ⟨rfl, hb3⟩
    have HB3 := hid' (below_two HB2.out hb3)
    clear hb3 HB2
    go_wp2
    go_ret
    exact ⟨rfl, HB3.out⟩
  | _ =>
    go_enter Try.func4, Try.ntmps4
    go_wp2_with fail
    refine (H1.out _).mono ?_
    rintro e w1 ⟨rfl, hb1⟩
    have HB1 := hid' hb1
    clear hb1
    simp only [Hf.resV]
    go_wp2_with fail
    refine (H2.out _).mono ?_
    rintro e w2 ⟨rfl, hb2⟩
    have HB2 := hid' (below_two HB1.out hb2)
    clear hb2 HB1
    simp only [Hf.resV]
    go_wp2_with fail
    refine (awake_any _).mono ?_
    rintro e w3 ⟨rfl, hb3⟩
    have HB3 := hid' (below_two HB2.out hb3)
    clear hb3 HB2
    go_wp2
    go_ret
    exact ⟨rfl, HB3.out⟩

end Go.Proofs.Ytojfbeldoemmoaa
