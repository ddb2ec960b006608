/-
  FrameBack, by its contract.
-/
import Derived.Test.YtfccbeijibhnhabFrX
import Derived.Deep.RegionHeld3
namespace Go.Proofs.Ytfccbeijibhnhab
open Go.RowKit

namespace Fm
theorem byt_small (n : Int) (h0 : 0 ≤ n) (h1 : n ≤ 255) : ((byt n).toNat : Int) = n := by rw [byt_cast]; omega
/-- What is written is read as the same, whatever stands behind. -/
theorem back (k fl st : Int) (l r : List UInt8) (hm : may k fl st = true) (hl : l.length ≤ 16777215) :
    ((((wr k fl st l ++ r).getD 3 0).toNat : Nat) : Int) = k ∧ ((((wr k fl st l ++ r).getD 4 0).toNat : Nat) : Int) = fl ∧ ((idn ((wr k fl st l ++ r).drop 5) : Nat) : Int) = st ∧ ((wr k fl st l ++ r).drop 9).take (num ((wr k fl st l ++ r).take 3)) = l := by
  have hmm := of_decide_eq_true hm
  rw [wr_num _ _ _ _ _ hl]
  have e : wr k fl st l ++ r = byt ((l.length : Int) / 65536) :: byt ((l.length : Int) / 256) :: byt (l.length : Int) :: byt k :: byt fl :: (enc 4 st ++ (l ++ r)) := by
    simp [wr, enc3]
  rw [e]
  refine ⟨byt_small k (by omega) (by omega), byt_small fl (by omega) (by omega), ?_, ?_⟩
  · show ((idn (enc 4 st ++ (l ++ r)) : Nat) : Int) = st
    unfold idn
    rw [List.take_left' (enc_length 4 st)]
    have := num_enc4 st
    omega
  · show ((enc 4 st ++ (l ++ r)).drop 4).take l.length = l
    rw [List.drop_left' (enc_length 4 st), List.take_left']
    rfl
theorem back_e (k fl st : Int) (l r : List UInt8) (most : Int) (hl : l.length ≤ 16777215) (hm : (l.length : Int) ≤ most) : nextE (wr k fl st l ++ r) most = 0 := by
  have h9 := wr_length k fl st l
  unfold nextE
  rw [wr_num _ _ _ _ _ hl, if_neg (by rw [List.length_append]; omega), if_neg (by omega), if_neg (by rw [List.length_append]; omega)]
theorem back_short (k fl st : Int) (l : List UInt8) (c : Nat) (hl : l.length ≤ 16777215) (hc : c < (wr k fl st l).length) : nextE ((wr k fl st l).take c) (l.length : Int) = 40 := by
  have h9 := wr_length k fl st l
  unfold nextE
  by_cases h3 : c < 3
  · rw [if_pos (by rw [List.length_take]; omega)]
  · have e : ((wr k fl st l).take c).take 3 = (wr k fl st l).take 3 := by rw [List.take_take, Nat.min_eq_left (by omega)]
    have hn := wr_num k fl st l [] hl
    rw [List.append_nil] at hn
    rw [if_neg (by rw [List.length_take]; omega), e, hn, if_neg (by omega), if_pos (by rw [List.length_take]; omega)]
theorem back_long (k fl st : Int) (l : List UInt8) (hl : l.length ≤ 16777215) : nextE (wr k fl st l) ((l.length : Int) - 1) = 3 := by
  have h9 := wr_length k fl st l
  have hn := wr_num k fl st l [] hl
  rw [List.append_nil] at hn
  unfold nextE
  rw [hn, if_neg (by omega), if_pos (by omega)]
end Fm
theorem back_nx (k fl st : Int) (l r : List UInt8) (hm : Fm.may k fl st = true) (hl : l.length ≤ 16777215) : nxC (Fm.wr k fl st l ++ r) = frC k fl st l := by
  obtain ⟨h1, h2, h3, h4⟩ := Fm.back k fl st l r hm hl
  unfold nxC
  rw [h1, h2, h3, h4]

end Go.Proofs.Ytfccbeijibhnhab
