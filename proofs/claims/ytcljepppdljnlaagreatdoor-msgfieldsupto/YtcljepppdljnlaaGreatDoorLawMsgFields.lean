/-
  MsgFields: its contract.
-/
import Derived.Test.YtcljepppdljnlaaGreatDoorMcZ
import Derived.Test.YtcljepppdljnlaaGreatDoorNumN
namespace Go.Proofs.YtcljepppdljnlaaGreatDoor
open Go.RowKit

set_option maxHeartbeats 8000000 in
set_option maxRecDepth 20000 in
theorem msgFields_any (v : Value) (l : List Fd) (nm : ByteArray) (w : World) (h : FW w v l) (hT : TB w) (hl : l.length ≤ 1048576) (hs : ∀ f ∈ l, f.n.size ≤ 1048576 ∧ f.v.size ≤ 1048576) (hz : Ms.size l ≤ 33554432) (hnm : nm.size ≤ 1048576) :
    Calls Tryz.prog 5 #[v, .string nm] w fun e w' => e = .returned (.bool true) ∧ Below w.heap.size w w' := by
  have H := hid' h
  have HTB := hid' hT
  have HS : Hid (∀ f ∈ l, f.n.size ≤ 140737488355328 ∧ f.v.size ≤ 140737488355328) := hid' (fun f hf => ⟨by have := (hs f hf).1; omega, by have := (hs f hf).2; omega⟩)
  have HL := hid' hl
  obtain ⟨o, ho⟩ : ∃ o, Ms.lenGo none l = o := ⟨_, rfl⟩
  obtain ⟨sz, hsz⟩ : ∃ sz, Ms.size l = sz := ⟨_, rfl⟩
  obtain ⟨bd, hbd⟩ : ∃ bd, Ms.bnd nm = bd := ⟨_, rfl⟩
  obtain ⟨tr, htr⟩ : ∃ tr, Ms.trail l = tr := ⟨_, rfl⟩
  have HO := hid' ho
  have HSZ := hid' hsz
  have HBD := hid' hbd
  have HTR := hid' htr
  rw [hsz] at hz
  obtain ⟨ao, ac, hv⟩ := h.shape
  subst hv
  clear h hT hs ho hsz hbd htr
  go_enter Tryz.func5, Tryz.ntmps5
  go_wp2_with fail
  refine (lent14 _ l w H.out HL.out).mono ?_
  rintro e w1 ⟨⟨g, cap, rfl, hln⟩, hb1⟩
  have HLN1 := hid' hln
  have HB1 := hid' hb1
  clear hln hb1
  go_wp2_with fail
  refine (cstrip14 _ l w1 HLN1.out.fw HL.out (fun f hf => (HS.out f hf).1)).mono ?_
  rintro e w2 ⟨⟨m, ro, rc, rfl, hm, hown⟩, hb2⟩
  have HM := hid' hm
  have HA2 := hid' hown
  have HLN2 := hid' (HLN1.out.keep hb2)
  have HB2 := hid' (below_two HB1.out hb2)
  have HW1 : Hid (w.heap.size ≤ w1.heap.size) := hid' HB1.out.size
  have HW2 : Hid (w1.heap.size ≤ w2.heap.size) := hid' hb2.size
  have HGL : Hid (g < w1.heap.size) := hid' (own_lt HLN1.out.own g rfl)
  have hmb : m ≤ 1048576 := by rw [← hm]; exact Nat.le_trans (Ms.strip_le l) HL.out
  clear hm hown hb2 HLN1 HB1
  go_wp2_with fail
  refine (clen14 _ l o HO.out w2 HLN2.out.fw (HTB.out.keep HB2.out) HL.out HS.out).mono ?_
  rintro e w3 ⟨he3, hb3⟩
  have HA3 := hid' (own_same HA2.out (fun k hk => hb3.block k (own_lt HA2.out k hk)))
  have HLN3 := hid' (HLN2.out.keep hb3)
  have HB3 := hid' (below_two HB2.out hb3)
  have HW3 : Hid (w1.heap.size ≤ w3.heap.size) := hid' (Nat.le_trans HW2.out hb3.size)
  subst he3
  clear hb3 HA2 HLN2 HB2
  obtain ⟨ln, sd, er, hlv⟩ : ∃ (ln : Int) (sd : Bool) (er : Int), Ms.lenV o = .tuple #[.int .i64 ln, .bool sd, .int .i64 er] := by
    rcases o with _ | _ | x
    · exact ⟨_, _, _, rfl⟩
    · exact ⟨_, _, _, rfl⟩
    · exact ⟨_, _, _, rfl⟩
  have HLV := hid' hlv
  rw [hlv]
  clear hlv
  go_wp2_with fail
  refine (rlen14 rNumber_any _ l o HO.out w3 (H.out.keep HB3.out) HL.out HS.out).mono ?_
  rw [HLV.out]
  rintro e w4 ⟨rfl, hb4⟩
  have HA4 := hid' (own_same HA3.out (fun k hk => hb4.block k (own_lt HA3.out k hk)))
  have HLN4 := hid' (HLN3.out.keep hb4)
  have HB4 := hid' (below_two HB3.out hb4)
  have HW4 : Hid (w1.heap.size ≤ w4.heap.size) := hid' (Nat.le_trans HW3.out hb4.size)
  clear hb4 HA3 HLN3 HB3
  go_wp2_with fail
  refine (csize14 _ l sz HSZ.out w4 HLN4.out.fw (by omega)).mono ?_
  rintro e w5 ⟨rfl, hb5⟩
  have HA5 := hid' (own_same HA4.out (fun k hk => hb5.block k (own_lt HA4.out k hk)))
  have HLN5 := hid' (HLN4.out.keep hb5)
  have HB5 := hid' (below_two HB4.out hb5)
  have HW5 : Hid (w1.heap.size ≤ w5.heap.size) := hid' (Nat.le_trans HW4.out hb5.size)
  clear hb5 HA4 HLN4 HB4
  go_wp2_with fail
  refine (rsize14 _ l sz HSZ.out w5 (H.out.keep HB5.out) (by omega)).mono ?_
  rintro e w6 ⟨rfl, nq, hw6⟩
  have hb6 : Below w5.heap.size w5 w6 := by rw [hw6]; exact below_drewN _ _
  have HA6 := hid' (own_same HA5.out (fun k hk => hb6.block k (own_lt HA5.out k hk)))
  have HLN6 := hid' (HLN5.out.keep hb6)
  have HB6 := hid' (below_two HB5.out hb6)
  have HW6 : Hid (w1.heap.size ≤ w6.heap.size) := hid' (Nat.le_trans HW5.out hb6.size)
  have qz : ((sz : Int) == (sz : Int)) = true := by simp
  clear hw6 hb6 HA5 HLN5 HB5
  go_wp2_with fail
  refine (cbnd14 nm bd HBD.out w6 (by omega)).mono ?_
  rintro e w7 ⟨rfl, hb7⟩
  have HA7 := hid' (own_same HA6.out (fun k hk => hb7.block k (own_lt HA6.out k hk)))
  have HLN7 := hid' (HLN6.out.keep hb7)
  have HB7 := hid' (below_two HB6.out hb7)
  have HW7 : Hid (w1.heap.size ≤ w7.heap.size) := hid' (Nat.le_trans HW6.out hb7.size)
  clear hb7 HA6 HLN6 HB6
  go_wp2_with fail
  refine (rbnd14 nm bd HBD.out w7 (by omega)).mono ?_
  rintro e w8 ⟨rfl, hb8⟩
  have HA8 := hid' (own_same HA7.out (fun k hk => hb8.block k (own_lt HA7.out k hk)))
  have HLN8 := hid' (HLN7.out.keep hb8)
  have HB8 := hid' (below_two HB7.out hb8)
  have HW8 : Hid (w1.heap.size ≤ w8.heap.size) := hid' (Nat.le_trans HW7.out hb8.size)
  have qb : (bd == bd) = true := by simp
  clear hb8 HA7 HLN7 HB7
  go_wp2_with fail
  refine (rstrip14 _ l w8 (H.out.keep HB8.out) HL.out (fun f hf => (HS.out f hf).1)).mono ?_
  rintro e w9 ⟨⟨m2, so, sc, rfl, hm2, hown⟩, hb9⟩
  obtain rfl : m2 = m := by rw [← hm2]; exact HM.out
  have HR9 := hid' (FW.of_own (l := Ms.strip l) (by rw [hm2]; exact hown))
  have HA9 := hid' (own_same HA8.out (fun k hk => hb9.block k (own_lt HA8.out k hk)))
  have HLN9 := hid' (HLN8.out.keep hb9)
  have HB9 := hid' (below_two HB8.out hb9)
  have HW9 : Hid (w1.heap.size ≤ w9.heap.size) := hid' (Nat.le_trans HW8.out hb9.size)
  have HFA9 : Hid (FW w9 (.slice ro m2 rc) (Ms.strip l)) := hid' (FW.of_own (l := Ms.strip l) (by rw [hm2]; exact HA9.out))
  clear hown hb9 HA8 HLN8 HB8
  go_wp2_with fail
  refine (rsame14 _ _ (Ms.strip l) w9 HFA9.out HR9.out (by rw [hm2]; omega)).mono ?_
  rintro e w10 ⟨rfl, hw10⟩
  have hb10 : Below w9.heap.size w9 w10 := by first | exact hw10 | exact hw10 ▸ Below.refl _ _ | (obtain ⟨q, hq⟩ := hw10; rw [hq]; exact below_drewN _ _)
  have HA10 := hid' (own_same HA9.out (fun k hk => hb10.block k (own_lt HA9.out k hk)))
  have HLN10 := hid' (HLN9.out.keep hb10)
  have HB10 := hid' (below_two HB9.out hb10)
  have HW10 : Hid (w1.heap.size ≤ w10.heap.size) := hid' (Nat.le_trans HW9.out hb10.size)
  clear hw10 hb10 HA9 HLN9 HB9 HFA9 HR9
  go_wp2_with fail
  refine (ctrail14 _ l tr HTR.out w10 HLN10.out.fw HL.out HS.out).mono ?_
  rintro e w11 ⟨rfl, hb11⟩
  have HA11 := hid' (own_same HA10.out (fun k hk => hb11.block k (own_lt HA10.out k hk)))
  have HLN11 := hid' (HLN10.out.keep hb11)
  have HB11 := hid' (below_two HB10.out hb11)
  have HW11 : Hid (w1.heap.size ≤ w11.heap.size) := hid' (Nat.le_trans HW10.out hb11.size)
  clear hb11 HA10 HLN10 HB10
  go_wp2_with fail
  refine (rtrail14 _ l tr HTR.out w11 (H.out.keep HB11.out) HL.out HS.out).mono ?_
  rintro e w12 ⟨rfl, hb12⟩
  have HA12 := hid' (own_same HA11.out (fun k hk => hb12.block k (own_lt HA11.out k hk)))
  have HLN12 := hid' (HLN11.out.keep hb12)
  have HB12 := hid' (below_two HB11.out hb12)
  have HW12 : Hid (w1.heap.size ≤ w12.heap.size) := hid' (Nat.le_trans HW11.out hb12.size)
  have q1 : (tr == tr) = true := by simp
  have q2 : (ln == ln) = true := by simp
  have q3 : (sd == sd) = true := by simp
  have q4 : (er == er) = true := by simp
  clear hb12 HA11 HLN11 HB11
  go_wp2_with fail
  refine (spoil14 w1.heap.size _ m2 _ w12 HA12.out HW12.out (by omega)).mono ?_
  rintro e w13 ⟨rfl, hsp⟩
  have HLN13 := hid' (hsp.ln HLN12.out (fun e => by have := (own_ty HA12.out g e).1; have := HGL.out; omega))
  have HB13 : Hid (Below w.heap.size w w13) := hid' (hsp.low HB12.out HB12.out.size (fun k hk => by have := (own_ty HA12.out k hk).1; have := HW1.out; omega))
  clear hsp
  go_wp2_with fail
  refine (kept14 _ g cap _ l w13 HLN13.out (H.out.keep HB13.out) HL.out).mono ?_
  rintro e w14 ⟨rfl, hb14⟩
  have HB14 := hid' (below_two HB13.out hb14)
  clear hb14
  go_wp2_with fail
  refine (awake14 w14 (HTB.out.keep HB14.out)).mono ?_
  rintro e w15 ⟨rfl, hb15⟩
  have HB15 := hid' (below_two HB14.out hb15)
  clear hb15
  go_wp2
  go_ret
  exact ⟨rfl, HB15.out⟩

end Go.Proofs.YtcljepppdljnlaaGreatDoor
