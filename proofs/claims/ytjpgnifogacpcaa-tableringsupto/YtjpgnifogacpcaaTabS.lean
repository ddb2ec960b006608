/-
  The document's table: shrink, by its contract.
-/
import Derived.Test.YtjpgnifogacpcaaTabM
import Derived.WalkSmall
import Derived.BigRegion
namespace Go.Proofs.Ytjpgnifogacpcaa
open Go.RowKit

set_option maxHeartbeats 1000000 in
theorem rshrink_any (B b : Nat) (v : Value) (M : Int) (fs : List (List UInt8 × List UInt8)) (m : Nat) (w : World) (h : RT w B b v M fs) (hs : Tb.size fs ≤ 1152921504606846976) :
    Calls Try.prog 42 #[.pointer (some ⟨b, 0, none⟩), .int .i64 (m : Int)] w fun e w' => e = .returned (.tuple #[]) ∧ ∃ v', RT w' B b v' M (Tb.shr m fs) ∧ v'.ownBlock = v.ownBlock ∧ w.grownBy w' (some b) := by
  have HS0 : Hid (∃ v' fs', RT w B b v' M fs' ∧ v'.ownBlock = v.ownBlock ∧ Tb.shr m fs' = Tb.shr m fs ∧ Tb.size fs' ≤ 1152921504606846976 ∧ w.grownBy w (some b)) := hid' ⟨v, fs, h, rfl, rfl, hs, ⟨rfl, rfl, rfl, Nat.le_refl _, fun _ _ _ => rfl⟩⟩
  go_enter Try.func42, Try.ntmps42
  go_wp2
  go_loopw [4] (fun _ wr => Hid (∃ v' fs', RT wr B b v' M fs' ∧ v'.ownBlock = v.ownBlock ∧ Tb.shr m fs' = Tb.shr m fs ∧ Tb.size fs' ≤ 1152921504606846976 ∧ w.grownBy wr (some b))) (fun _ wr => match wr.cell? ⟨b, 1, none⟩ with | some (.slice _ n _) => n | _ => 0)
  case atStart => exact HS0
  case round =>
    clear HS0
    obtain ⟨v', fs', hR, hv, hsh, hsz, hg⟩ := Hid.out hrel
    have HSH := hid' hsh
    have HV := hid' hv
    have HG := hid' hg
    have hRS := hid' hR
    clear hsh hv hg hrel
    by_cases hlt : m < Tb.size fs'
    · have hlt2 : decide ((m : Int) < (Tb.size fs' : Int)) = true := decide_eq_true (by omega)
      have hlt3 : decide (m < Tb.size fs') = true := decide_eq_true hlt
      obtain ⟨a, f, rfl⟩ : ∃ a f, fs' = a ++ [f] := by
        rcases List.eq_nil_or_concat fs' with h0 | ⟨a, f, h0⟩
        · subst h0; simp [Tb.size] at hlt
        · exact ⟨a, f, by simpa using h0⟩
      have hal : a.length ≤ 1152921504606846976 := by have := Tb.size_len (a ++ [f]); simp at this; omega
      obtain ⟨g, cap, rfl⟩ : ∃ g cap, v' = .slice (some ⟨g, 0, none⟩) (a.length + 1) cap := by
        rcases hR.row.2 with ⟨hv, h0⟩ | ⟨g, cap, cur, hv, _⟩
        · simp at h0
        · exact ⟨g, cap, by simpa using hv⟩
      have hcap : a.length + 1 ≤ cap := by
        rcases hR.row.2 with ⟨hv, h0⟩ | ⟨g', cap', cur, hv, _, _, hn, _⟩
        · simp at h0
        · simp at hv; obtain ⟨_, rfl⟩ := hv; simpa using hn
      have hgb : g ≠ b := fun e => hR.ne (by rw [e]; rfl)
      have HC : Hid (wr.cell? ⟨b, 1, none⟩ = some (.slice (some ⟨g, 0, none⟩) (a.length + 1) cap)) := hid' (hR.obj.cell 1 _ rfl)
      obtain ⟨S, hS⟩ : ∃ S, Tb.size (a ++ [f]) = S := ⟨_, rfl⟩
      have HS := hid' hS
      have HLT := hid' hlt
      clear hR
      go_wp2_with fail
      refine (rsize_any B b _ M _ _ hRS.out hsz).mono ?_
      rintro e w1 ⟨rfl, hb1⟩
      have hR1 := hRS.out.keep hb1
      have hc1 : w1.cell? ⟨b, 1, none⟩ = some (.slice (some ⟨g, 0, none⟩) (a.length + 1) cap) := hR1.obj.cell 1 _ rfl
      have hf1 := hR1.obj.free 1
      have HR1 := hid' hR1
      have HB1 := hid' hb1
      clear hR1 hb1 hlt hS
      go_wp2
      go_region
      go_wp2
      go_roundw
      case rel =>
        have hrow : w1.ownsRow B 32 2 (.slice (some ⟨g, 0, none⟩) a.length cap) a.length (Tb.cells a) := by
          have := HR1.out.row
          rw [Tb.cells_append] at this
          exact ownsRow_pop (Tb.cells_length a) (by simpa using this)
        have hsz2 : Tb.size a ≤ 1152921504606846976 := by have e := Tb.size_append a [f]; omega
        exact hid' ⟨_, a, (HR1.out.setRow hrow (by simpa [Value.ownBlock] using hgb)).drew, HV.out, by rw [← HSH.out, Tb.shr_snoc a f m HLT.out], hsz2, gb_drew (gb_trans (gb_below HG.out HB1.out) (gb_set _ _ _ _))⟩
      case measure =>
        rw [HC.out]
        have e : (w1.setCell ⟨b, 1, none⟩ (.slice (some ⟨g, 0, none⟩) a.length cap)).drew.cell? ⟨b, 1, none⟩ = some (.slice (some ⟨g, 0, none⟩) a.length cap) := (HR1.out.obj.set 1 _).cell 1 _ rfl
        rw [e]
        simp
    · have hlt2 : decide ((m : Int) < (Tb.size fs' : Int)) = false := decide_eq_false (by omega)
      have hlt3 : decide (m < Tb.size fs') = false := decide_eq_false hlt
      have HE : Hid (Tb.shr m fs = fs') := hid' (by rw [← HSH.out, Tb.shr_all fs' m (by omega)])
      clear hR
      go_wp2_with fail
      refine (rsize_any B b v' M fs' _ hRS.out hsz).mono ?_
      rintro e w1 ⟨rfl, hb1⟩
      have HR1 := hid' (hRS.out.keep hb1)
      have HG1 : Hid (w.grownBy w1 (some b)) := hid' ⟨hb1.os.trans HG.out.os, hb1.tape.trans HG.out.tape, hb1.output.trans HG.out.output, Nat.le_trans HG.out.size hb1.size, fun k hk hn => (hb1.block k (Nat.lt_of_lt_of_le hk HG.out.size)).trans (HG.out.block k hk hn)⟩
      clear hb1
      go_wp2
      go_end0
      exact ⟨rfl, v', by rw [HE.out]; exact HR1.out, HV.out, HG1.out⟩

end Go.Proofs.Ytjpgnifogacpcaa
