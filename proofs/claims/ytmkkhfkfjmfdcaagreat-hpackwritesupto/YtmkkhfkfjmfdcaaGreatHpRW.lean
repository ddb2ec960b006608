/-
  Decoder.Read of a decoder that has refused nothing: by its contract.
  Package hpack: newEnd, NewDecoder, NewEncoder, Limit, Size of both; Read of a decoder that has refused, or of none: by their contracts.
  strings.Builder.WriteString at this program; a frame by types; hpack.head, Encoder.updates, kind, Limit: by their contracts.
-/
import Derived.Test.YtmkkhfkfjmfdcaaGreatHpN
import Derived.Test.YtmkkhfkfjmfdcaaGreatHuffB
namespace Go.Proofs.YtmkkhfkfjmfdcaaGreat
open Go.RowKit

theorem kept_nil (list : Int) : kept list [] = [] := by unfold kept; split <;> rfl
/-- What Read leaves: refused (er is not 0), or read: too much, or the fields. -/
def ReadPost (w w' : World) (B d b : Nat) (v : Value) (list : Int) (lim : Nat) (fs : List (List UInt8 × List UInt8)) (er : Nat) (D : Hp.D) (e : Ending) : Prop :=
  (er ≠ 0 ∧ e = .returned (.tuple #[.slice none 0 0, .int .i64 (er : Int)]) ∧ CX w' d list lim er (Tb.size fs)) ∨
  (er = 0 ∧ ∃ v', CD w' B d b v' list lim D.room D.fs ∧ (∀ k, v'.ownBlock = some k → v.ownBlock = some k ∨ w.heap.size ≤ k) ∧
    ((list < (Tb.size D.out : Int) ∧ e = .returned (.tuple #[.slice none 0 0, .int .i64 61])) ∨
     ((Tb.size D.out : Int) ≤ list ∧ ∃ gv, e = .returned (.tuple #[gv, .int .i64 0]) ∧ Sl w' w.heap.size 54 2 gv D.out.length (Tb.cells D.out) ∧ ∀ k, v'.ownBlock = some k → gv.ownBlock ≠ some k)))
def RSet (d b : Nat) (v : Value) : Nat → Prop := fun k => k = d ∨ k = b ∨ v.ownBlock = some k
def RInv (w wr : World) (B d b : Nat) (v : Value) (list : Int) (lim c g : Nat) (n er : Nat) (Df : Hp.D) : Prop :=
  ∃ v' gv' D l, NS wr B d b v' list lim (Hp.D.room D) D.fs c l w.heap.size g gv' D.out ∧ (∀ k, v'.ownBlock = some k → v.ownBlock = some k ∨ w.heap.size ≤ k) ∧ Fr (RSet d b v) w wr ∧ D.room ≤ 65536 ∧ Tb.size D.fs ≤ D.room ∧ Tb.size D.out + 70000 * l.length ≤ 70000 * n ∧ l.length ≤ n ∧ ∃ m, l.length ≤ m ∧ Hp.run Hp.rs lim m D l = (er, Df)

set_option maxHeartbeats 2000000 in
set_option maxRecDepth 20000 in
theorem read_any (B d b : Nat) (v : Value) (list : Int) (lim M : Nat) (fs : List (List UInt8 × List UInt8)) (bl : List UInt8) (w : World) (h : CD w B d b v list lim M fs) (hbl : bl.length ≤ 1073741824) (hlim : lim ≤ 65536) (hM : M ≤ 65536) (hs : Tb.size fs ≤ M) (hB : B ≤ w.heap.size) (er : Nat) (Df : Hp.D) (hrun : Hp.read Hp.rs lim ⟨M, fs, []⟩ bl = (er, Df)) :
    Calls Tryz.prog 30 #[.pointer (some ⟨d, 0, none⟩), .string ⟨bl.toArray⟩] w fun e w' => Hid (ReadPost w w' B d b v list lim fs er Df e) ∧ Fr (RSet d b v) w w' := by
  obtain ⟨S, hS⟩ : ∃ S, Tb.size fs = S := ⟨_, rfl⟩
  have HS := hid' hS
  have h0 := h.obj.cell 0 _ rfl
  have h1 := h.obj.cell 1 _ rfl
  have h3 := h.obj.cell 3 _ rfl
  have H := hid' h
  have HBL := hid' hbl
  have HLIM := hid' hlim
  have HB := hid' hB
  have hb1 : Below w.heap.size w (w.alloc (.cells #[.string ⟨bl.toArray⟩] 88)) := (Below.refl _ _).alloc (Nat.le_refl _) _
  have hb2 : Below w.heap.size w ((w.alloc (.cells #[.string ⟨bl.toArray⟩] 88)).alloc (.cells #[.slice none 0 0, .int .i64 0, .int .i64 list] 90)) := hb1.alloc (by simp) _
  have hc2 : Ar ((w.alloc (.cells #[.string ⟨bl.toArray⟩] 88)).alloc (.cells #[.slice none 0 0, .int .i64 0, .int .i64 list] 90)) w.heap.size 88 #[.string ⟨bl.toArray⟩] := Ar.keep (heap_alloc_last w _) ((Below.refl _ _).alloc (Nat.le_refl _) _)
  have hg2 : Ar ((w.alloc (.cells #[.string ⟨bl.toArray⟩] 88)).alloc (.cells #[.slice none 0 0, .int .i64 0, .int .i64 list] 90)) (w.heap.size + 1) 90 #[.slice none 0 0, .int .i64 0, .int .i64 list] := by
    have := heap_alloc_last (w.alloc (.cells #[.string ⟨bl.toArray⟩] 88)) (.cells #[.slice none 0 0, .int .i64 0, .int .i64 list] 90)
    simpa [Ar] using this
  have HI : Hid (RInv w ((w.alloc (.cells #[.string ⟨bl.toArray⟩] 88)).alloc (.cells #[.slice none 0 0, .int .i64 0, .int .i64 list] 90)) B d b v list lim w.heap.size (w.heap.size + 1) bl.length er Df) :=
    hid' ⟨v, .slice none 0 0, ⟨M, fs, []⟩, bl, ⟨h.keep hb2, hc2, ⟨by omega, hg2, by rw [kept_nil]; exact sl_nil _ _ _ _, by simp [Value.ownBlock]⟩, fun k _ => by simp [Value.ownBlock]⟩, fun k hk => .inl hk, Fr.of_below hb2, hM, hs, by simp [Tb.size], Nat.le_refl _, bl.length, Nat.le_refl _, hrun⟩
  clear h hS hbl hlim hM hs hB hrun hb1 hb2 hc2 hg2
  go_enter Tryz.func30, Tryz.ntmps30
  go_wp2_with fail
  refine (esize_at B b v M fs S HS.out d _ h0 H.out.tab).mono ?_
  rintro e w1 ⟨rfl, hw1⟩
  subst w1
  go_wp2
  obtain ⟨c, hc⟩ : ∃ c, w.heap.size = c := ⟨_, rfl⟩
  obtain ⟨g, hg⟩ : ∃ g, w.heap.size + 1 = g := ⟨_, rfl⟩
  have HC := hid' hc
  have HG := hid' hg
  rw [hg] at HI ⊢
  generalize ((w.alloc (.cells #[.string ⟨bl.toArray⟩] 88)).alloc (.cells #[.slice none 0 0, .int .i64 0, .int .i64 list] 90)) = w2 at *
  have HI2 : Hid (RInv w w2 B d b v list lim c g bl.length er Df) := hid' (by rw [← hc]; exact HI.out)
  rw [hc]
  clear hc hg HI h0 h1 h3
  go_loopw [] (fun wr => Hid (RInv w wr B d b v list lim c g bl.length er Df)) (fun wr => match wr.cell? ⟨c, 0, none⟩ with | some (.string s) => s.size | _ => 0)
  case atStart => exact HI2
  case round =>
    clear HI2
    obtain ⟨v', gv', D, l, hN, hv, hF, hR, hsz, hsum, hln, m, hm, hrun⟩ := Hid.out hrel
    clear hrel
    have HN := hid' hN
    have HV := hid' hv
    have HF := hid' hF
    have HR := hid' hR
    have HSZ := hid' hsz
    have HSUM := hid' hsum
    have HLN := hid' hln
    have c0 := hN.cur.cell 0 _ rfl
    clear hv hF hR hsz hsum hln hN
    cases l with
    | nil =>
      have HRUN : Hid (er = 0 ∧ D = Df) := hid' (by cases m <;> (simp only [Hp.run] at hrun; injection hrun with a b; exact ⟨a.symm, b⟩))
      clear hm hrun
      by_cases hlt : list < (Tb.size D.out : Int)
      · have HL := hid' hlt
        clear hlt
        go_wp2_with fail
        refine (tooMuch_at w.heap.size g gv' (Tb.size D.out : Int) list _ _ true (decide_eq_true HL.out) _ HN.out.ga).mono ?_
        rintro e w3 ⟨rfl, m3, rfl⟩
        clear c0
        go_wp2
        go_ret2
        obtain ⟨he, hD⟩ := HRUN.out
        subst hD
        exact ⟨hid' (.inr ⟨he, v', (HN.out.drewN m3).cd, HV.out, .inl ⟨HL.out, rfl⟩⟩), HF.out.drewN m3⟩
      · have HL : Hid ((Tb.size D.out : Int) ≤ list) := hid' (by omega)
        clear hlt
        go_wp2_with fail
        refine (tooMuch_at w.heap.size g gv' (Tb.size D.out : Int) list _ _ false (decide_eq_false (by have := HL.out; omega)) _ HN.out.ga).mono ?_
        rintro e w3 ⟨rfl, m3, rfl⟩
        clear c0
        have c1 : (wr.drewN m3).cell? ⟨g, 0, none⟩ = some gv' := (RG.obj HN.out.ga).cell 0 _ rfl
        go_wp2
        go_ret2
        obtain ⟨he, hD⟩ := HRUN.out
        subst hD
        have hrow := RG.row (HN.out.drewN m3).ga
        have hk : kept list D.out = D.out := by unfold kept; rw [if_pos HL.out]
        rw [hk] at hrow
        exact ⟨hid' (.inr ⟨he, v', (HN.out.drewN m3).cd, HV.out, .inr ⟨HL.out, gv', rfl, hrow, HN.out.apart⟩⟩), HF.out.drewN m3⟩
    | cons x l =>
      obtain ⟨m, rfl⟩ : ∃ m', m = m' + 1 := ⟨m - 1, by rw [List.length_cons] at hm; omega⟩
      rw [List.length_cons] at hm
      have HM : Hid (l.length ≤ m) := hid' (by omega)
      have HMS : Hid (wr.cell? ⟨c, 0, none⟩ = some (.string ⟨(x :: l).toArray⟩)) := hid' c0
      have hl0 : l.length ≤ 1073741823 := by have h1 := HLN.out; have h2 := HBL.out; rw [List.length_cons] at h1; omega
      have HL0 := hid' hl0
      have HS2 : Hid (Tb.size D.fs ≤ 65536) := hid' (Nat.le_trans HSZ.out HR.out)
      have HO2 : Hid (Tb.size D.out + 70000 * (l.length + 1) ≤ 140737488355328) := hid' (by have h1 := HSUM.out; have h2 := HBL.out; rw [List.length_cons] at h1; omega)
      clear hm hl0
      simp only [Hp.run] at hrun
      generalize hst : Hp.step Hp.rs lim D x l = q at hrun
      cases q with
      | err e' =>
        simp only at hrun
        injection hrun with ha hb
        subst ha
        have HST := hid' hst
        have hpos := (Hp.step_err lim D x l e' hst).1
        have he1 : ((e' : Int) == 0) = false := beq_false_of_ne (by omega)
        have he2 : (e' == 0) = false := beq_false_of_ne (by omega)
        have HP := hid' (Hp.step_err lim D x l e' hst).1
        clear hst hb hpos
        go_wp2_with fail
        refine (next_er B d b v' list lim D.room D.fs c x l w.heap.size g gv' D.out _ HN.out (by have := HS2.out; omega) (by have := HL0.out; omega) e' HST.out).mono ?_
        rintro e w3 ⟨rfl, hf3⟩
        have HF3 := hid' hf3
        have HD3 := hid' (hf3.ar HN.out.cd.obj (HN.out.cd.obj.ne HN.out.cur (by decide)))
        clear hf3 c0 HSUM HLN HO2 HM HMS HBL HL0 HS2 HSZ HR HST
        go_wp2_with fail
        refine (refuse_at d _ list lim e' S _ _ _ HD3.out).mono ?_
        rintro e w4 ⟨rfl, hX4, hf4⟩
        have HX4 := hid' hX4
        have HF4 := hid' hf4
        clear hX4 hf4
        go_wp2
        go_ret2
        refine ⟨hid' (.inl ⟨by have := HP.out; omega, rfl, by rw [HS.out]; exact HX4.out⟩), ?_⟩
        exact (HF.out.trans HF3.out (fun k hk => .inr (Nat.le_of_eq (HC.out.trans (Eq.symm hk))))).and (HF4.out.mono (fun k hk => .inl hk))
      | go D' rest =>
        simp only at hrun
        have HRUN := hid' hrun
        have HST := hid' hst
        have HLE := hid' (Hp.step_le 65536 lim (Nat.le_refl _) HLIM.out D x l D' rest HR.out HSZ.out hst)
        clear hrun hst
        have hszr : w.heap.size ≤ wr.heap.size := HF.out.size
        have HSR := hid' hszr
        clear hszr
        go_wp2_with fail
        refine (next_go B d b v' list lim D.room D.fs c x l w.heap.size g gv' D.out _ HN.out HLIM.out HR.out HS2.out (by have := HL0.out; omega) (Nat.le_trans HB.out HSR.out) HSR.out HO2.out D' rest HST.out).mono ?_
        rintro e w3 ⟨rfl, v3, gv3, hN3, hv3, hg3, hF3⟩
        have HN3 := hid' hN3
        have HE : Hid (w3.cell? ⟨c, 0, none⟩ = some (.string ⟨rest.toArray⟩)) := hid' (hN3.cur.cell 0 _ rfl)
        have HV3 : Hid (∀ k, v3.ownBlock = some k → v.ownBlock = some k ∨ w.heap.size ≤ k) := hid' fun k hk => by
          rcases hv3 k hk with h | h
          · exact HV.out k h
          · exact .inr (Nat.le_trans HSR.out h)
        have HF3 : Hid (Fr (RSet d b v) w w3) := hid' (HF.out.trans hF3 fun k hk => by
          rcases hk with h | h | h | h | h
          · exact .inr (Nat.le_of_eq (HC.out.trans h.symm))
          · exact .inr (by have := HG.out; omega)
          · exact .inr ((RG.row HN.out.ga).lt k h).1
          · exact .inl (.inr (.inl h))
          · rcases HV.out k h with h1 | h1
            · exact .inl (.inr (.inr h1))
            · exact .inr h1)
        clear hN3 hv3 hg3 hF3 c0
        go_wp2
        go_roundw
        case rel =>
          obtain ⟨a1, a2, a3, a4⟩ := HLE.out
          have h1 := HSUM.out
          have h2 := HLN.out
          rw [List.length_cons] at h1 h2
          exact hid' ⟨v3, gv3, D', rest, HN3.out, HV3.out, HF3.out, a1, a2, by omega, by omega, m, by have := HM.out; omega, HRUN.out⟩
        case measure =>
          rw [HMS.out, HE.out]
          have := HLE.out.2.2.1
          simp [ByteArray.size]
          omega

end Go.Proofs.YtmkkhfkfjmfdcaaGreat

namespace Go.Proofs.YtmkkhfkfjmfdcaaGreat
open Go.RowKit

theorem newEnd_any (B : Nat) (w : World) (hB : B ≤ w.heap.size) : Calls Tryz.prog 15 #[] w fun e w' => e = .returned (.agg #[.pointer (some ⟨w.heap.size + 1, 0, none⟩)]) ∧ CT w' B (w.heap.size + 1) (.slice none 0 0) 4096 [] ∧ Below w.heap.size w w' := by
  have hb0 : Below w.heap.size w (w.alloc (.cells #[.pointer none] 41)) := (Below.refl _ _).alloc (Nat.le_refl _) _
  have hA : Ar (w.alloc (.cells #[.pointer none] 41)) w.heap.size 41 #[.pointer none] := heap_alloc_last w _
  have hz : (w.alloc (.cells #[.pointer none] 41)).heap.size = w.heap.size + 1 := by simp
  have HB := hid' hB
  have HA := hid' hA
  have HB0 := hid' hb0
  have HZ := hid' hz
  clear hB hA hb0 hz
  go_enter Tryz.func15, Tryz.ntmps15
  go_wp2_with fail
  obtain ⟨rb, hrb⟩ : ∃ rb, w.heap.size = rb := ⟨_, rfl⟩
  rw [hrb] at HA HZ ⊢
  generalize (w.alloc (.cells #[.pointer none] 41)) = w0 at *
  refine (cnew_yes 4096 (by omega) B w0 (Nat.le_trans HB.out HB0.out.size)).mono ?_
  rintro e w1 ⟨rfl, hC, hb1⟩
  have hA1 := HA.out.keep hb1
  have r0 := hA1.cell 0 _ rfl
  have q0 := hA1.free 0
  have HA1 := hid' hA1
  have HC := hid' hC
  have HB1 := hid' (below_two HB0.out hb1)
  rw [HZ.out] at HC ⊢
  clear hA1 hC hb1
  go_wp2
  have hA2 := HA1.out.set 0 (.pointer (some ⟨rb + 1, 0, none⟩))
  have e0 := hA2.cell 0 (.pointer (some ⟨rb + 1, 0, none⟩)) rfl
  clear r0 q0 hA2
  refine bodyPost_ret (v := .agg #[.pointer (some ⟨rb + 1, 0, none⟩)]) (by simp [results, Tryz.results15, go_sem, e0]) rfl ⟨by rw [hrb], ?_, ?_⟩
  · rw [hrb]
    exact (Fr.of_set (S := (· = rb)) rb 0 _ w1 rfl).ct HC.out (by omega) (fun k hk => by simp [Value.ownBlock] at hk)
  · exact HB1.out.setCell (p := ⟨rb, 0, none⟩) (Nat.le_of_eq hrb) _

theorem newDec_no (list : Int) (h : list < 1) (w : World) : Calls Tryz.prog 29 #[.int .i64 list] w fun e w' => e = .returned (.tuple #[.pointer none, .int .i64 1]) ∧ w' = w := by
  have hd : decide (list < 1) = true := decide_eq_true h
  clear h
  go_enter Tryz.func29, Tryz.ntmps29
  go_wp2
  go_ret2
  exact ⟨rfl, rfl⟩

theorem newDec_yes (list : Int) (h : 1 ≤ list) (B : Nat) (w : World) (hB : B ≤ w.heap.size) : Calls Tryz.prog 29 #[.int .i64 list] w fun e w' => ∃ d, e = .returned (.tuple #[.pointer (some ⟨d, 0, none⟩), .int .i64 0]) ∧ ∃ b, CD w' B d b (.slice none 0 0) list 4096 4096 [] ∧ Below w.heap.size w w' := by
  have hd : decide (list < 1) = false := decide_eq_false (by omega)
  have HB := hid' hB
  clear h hB
  go_enter Tryz.func29, Tryz.ntmps29
  go_wp2_with fail
  refine (newEnd_any B w HB.out).mono ?_
  rintro e w1 ⟨rfl, hC, hb1⟩
  have HC := hid' hC
  have HB1 := hid' hb1
  clear hC hb1
  go_wp2
  go_ret2
  have hb2 : Below w1.heap.size w1 (w1.alloc (.cells #[.pointer (some ⟨w.heap.size + 1, 0, none⟩), .int .i64 list, .int .i64 4096, .int .i64 0, .int .i64 0] 86)) := (Below.refl _ _).alloc (Nat.le_refl _) _
  exact ⟨_, rfl, _, ⟨Nat.le_trans HB.out HB1.out.size, heap_alloc_last w1 _, HC.out.keep hb2⟩, below_two HB1.out hb2⟩

theorem newEnc_any (B : Nat) (w : World) (hB : B ≤ w.heap.size) : Calls Tryz.prog 4 #[] w fun e w' => ∃ d, e = .returned (.pointer (some ⟨d, 0, none⟩)) ∧ ∃ b, CE w' B d b (.slice none 0 0) 4096 4096 4096 [] ∧ Below w.heap.size w w' := by
  have HB := hid' hB
  clear hB
  go_enter Tryz.func4, Tryz.ntmps4
  go_wp2_with fail
  refine (newEnd_any B w HB.out).mono ?_
  rintro e w1 ⟨rfl, hC, hb1⟩
  have HC := hid' hC
  have HB1 := hid' hb1
  clear hC hb1
  go_wp2
  go_ret
  have hb2 : Below w1.heap.size w1 (w1.alloc (.cells #[.pointer (some ⟨w.heap.size + 1, 0, none⟩), .int .i64 4096, .int .i64 4096] 44)) := (Below.refl _ _).alloc (Nat.le_refl _) _
  exact ⟨_, rfl, _, ⟨Nat.le_trans HB.out HB1.out.size, heap_alloc_last w1 _, HC.out.keep hb2⟩, below_two HB1.out hb2⟩

theorem dsize_at (B d b : Nat) (v : Value) (list : Int) (lim M : Nat) (fs : List (List UInt8 × List UInt8)) (S : Nat) (hS : Tb.size fs = S) (w : World) (h : CD w B d b v list lim M fs) :
    Calls Tryz.prog 31 #[.pointer (some ⟨d, 0, none⟩)] w fun e w' => e = .returned (.int .i64 (S : Int)) ∧ w' = w := by
  have c0 := h.obj.cell 0 _ rfl
  have c3 := h.obj.cell 3 _ rfl
  have H := hid' h
  have HS := hid' hS
  clear h hS
  go_enter Tryz.func31, Tryz.ntmps31
  go_wp2_with fail
  refine (esize_at B b v M fs S HS.out d _ c0 H.out.tab).mono ?_
  rintro e w1 ⟨rfl, rfl⟩
  go_wp2
  go_ret
  exact ⟨rfl, rfl⟩

theorem xsize_at (d : Nat) (list : Int) (lim er left : Nat) (her : er ≠ 0) (w : World) (h : CX w d list lim er left) :
    Calls Tryz.prog 31 #[.pointer (some ⟨d, 0, none⟩)] w fun e w' => e = .returned (.int .i64 (left : Int)) ∧ w' = w := by
  have c3 := Ar.cell h 3 _ rfl
  have c4 := Ar.cell h 4 _ rfl
  have he1 : ((er : Int) == 0) = false := beq_false_of_ne (by omega)
  have he2 : (er == 0) = false := beq_false_of_ne (by omega)
  clear h her
  go_enter Tryz.func31, Tryz.ntmps31
  go_wp2
  go_ret
  exact ⟨rfl, rfl⟩

theorem nsizeD_any (w : World) : Calls Tryz.prog 31 #[.pointer none] w fun e w' => e = .returned (.int .i64 0) ∧ w' = w := by
  go_enter Tryz.func31, Tryz.ntmps31
  go_wp2
  go_ret
  exact ⟨rfl, rfl⟩

theorem nsizeE_any (w : World) : Calls Tryz.prog 11 #[.pointer none] w fun e w' => e = .returned (.int .i64 0) ∧ w' = w := by
  go_enter Tryz.func11, Tryz.ntmps11
  go_wp2
  go_ret
  exact ⟨rfl, rfl⟩

theorem esizeE_at (B d b : Nat) (v : Value) (least told M : Nat) (fs : List (List UInt8 × List UInt8)) (S : Nat) (hS : Tb.size fs = S) (w : World) (h : CE w B d b v least told M fs) :
    Calls Tryz.prog 11 #[.pointer (some ⟨d, 0, none⟩)] w fun e w' => e = .returned (.int .i64 (S : Int)) ∧ w' = w := by
  have c0 := h.obj.cell 0 _ rfl
  have H := hid' h
  have HS := hid' hS
  clear h hS
  go_enter Tryz.func11, Tryz.ntmps11
  go_wp2_with fail
  refine (esize_at B b v M fs S HS.out d _ c0 H.out.tab).mono ?_
  rintro e w1 ⟨rfl, rfl⟩
  go_wp2
  go_ret
  exact ⟨rfl, rfl⟩

set_option maxRecDepth 20000 in
theorem readX_any (d : Nat) (list : Int) (lim er left : Nat) (her : er ≠ 0) (s : ByteArray) (w : World) (h : CX w d list lim er left) :
    Calls Tryz.prog 30 #[.pointer (some ⟨d, 0, none⟩), .string s] w fun e w' => e = .returned (.tuple #[.slice none 0 0, .int .i64 (er : Int)]) ∧ ∃ m, w' = w.drewN m := by
  have c3 := Ar.cell h 3 _ rfl
  have he1 : ((er : Int) == 0) = false := beq_false_of_ne (by omega)
  have he2 : (er == 0) = false := beq_false_of_ne (by omega)
  clear h her
  go_enter Tryz.func30, Tryz.ntmps30
  go_wp2
  go_quiet (fail)
  go_wp2
  go_ret2
  exact ⟨rfl, _, rfl⟩

theorem readN_any (s : ByteArray) (w : World) :
    Calls Tryz.prog 30 #[.pointer none, .string s] w fun e w' => e = .returned (.tuple #[.slice none 0 0, .int .i64 2]) ∧ w' = w := by
  go_enter Tryz.func30, Tryz.ntmps30
  go_wp2
  go_ret2
  exact ⟨rfl, rfl⟩

theorem limE_nil (n : Int) (w : World) :
    Calls Tryz.prog 6 #[.pointer none, .int .i64 n] w fun e w' => e = .returned (.int .i64 2) ∧ w' = w := by
  go_enter Tryz.func6, Tryz.ntmps6
  go_wp2
  go_ret
  exact ⟨rfl, rfl⟩

set_option maxRecDepth 20000 in
theorem limE_no (d : Nat) (n : Int) (hn : n < 0 ∨ 4294967295 < n) (w : World) :
    Calls Tryz.prog 6 #[.pointer (some ⟨d, 0, none⟩), .int .i64 n] w fun e w' => e = .returned (.int .i64 5) ∧ w' = w := by
  by_cases h0 : n < 0
  · have hd : decide (n < 0) = true := decide_eq_true h0
    clear hn h0
    go_enter Tryz.func6, Tryz.ntmps6
    go_wp2
    go_ret
    exact ⟨rfl, rfl⟩
  · have hd : decide (n < 0) = false := decide_eq_false h0
    have hd2 : decide (4294967295 < n) = true := decide_eq_true (by omega)
    clear hn h0
    go_enter Tryz.func6, Tryz.ntmps6
    go_wp2
    go_ret
    exact ⟨rfl, rfl⟩

end Go.Proofs.YtmkkhfkfjmfdcaaGreat

namespace Go.Proofs.YtmkkhfkfjmfdcaaGreat
open Go.RowKit

/-- All blocks but one, and but rows of bytes, are as they were. -/
structure UF (b : Nat) (w w' : World) : Prop where
  size : w.heap.size ≤ w'.heap.size
  block : ∀ k, k < w.heap.size → k ≠ b → (∀ cs fz, w.heap[k]? ≠ some (.cells cs 5 fz)) → w'.heap[k]? = w.heap[k]?
theorem UF.of_below {b : Nat} {w w' : World} (h : Below w.heap.size w w') : UF b w w' := ⟨h.size, fun k hk _ _ => h.block k hk⟩
theorem UF.of_set (b i : Nat) (v : Value) (w : World) : UF b w (w.setCell ⟨b, i, none⟩ v) := ⟨by simp [World.setCell], fun k _ hb _ => (upd_setCell w b i v).block k hb⟩
theorem UF.trans {b : Nat} {w w1 w2 : World} (h1 : UF b w w1) (h2 : UF b w1 w2) : UF b w w2 :=
  ⟨Nat.le_trans h1.size h2.size, fun k hk hb hn => (h2.block k (Nat.lt_of_lt_of_le hk h1.size) hb (fun cs fz hc => hn cs fz (by rw [← h1.block k hk hb hn]; exact hc))).trans (h1.block k hk hb hn)⟩
theorem UF.ar {b c : Nat} {w w' : World} {T : TypeId} {cs : Array Value} (h : UF b w w') (ha : Ar w c T cs) (hb : c ≠ b) (hT : T ≠ 5) : Ar w' c T cs := by
  have := h.block c ha.lt hb (fun ds fz hd => by unfold Ar at ha; rw [ha] at hd; injection hd with hd; injection hd with _ h2 _; exact hT h2)
  unfold Ar at *
  rw [this]; exact ha
theorem UF.sl {b : Nat} {w w' : World} {B : Nat} {e : TypeId} {s : Nat} {v : Value} {n : Nat} {xs : List Value} {p q : Value} (h : UF b w w') (hs : Sl w B e s v n xs) (hb : Ar w b 59 #[p, q]) (he : e ≠ 5) (he2 : 59 ≠ e) : Sl w' B e s v n xs := by
  refine ⟨hs.1, ?_⟩
  rcases hs.2 with h0 | ⟨g, q', cap, cur, rfl, hB, hg, r⟩
  · exact .inl h0
  · exact .inr ⟨g, q', cap, cur, rfl, hB, h.ar (show Ar w g e cur from hg) (fun e1 => hs.ne hb he2 (by rw [← e1]; rfl)) he, r⟩
theorem bld_obj {w : World} {B b : Nat} {l : List UInt8} (h : Bld w B b l) : ∃ p q, Ar w b 59 #[p, q] := by
  rcases h with ⟨_, v, hbk, _⟩ | ⟨_, v, hbk, _⟩
  · exact ⟨_, v, hbk⟩
  · exact ⟨_, v, hbk⟩
theorem UF.ct {d : Nat} {w w' : World} {B b : Nat} {v : Value} {M : Nat} {fs : List (List UInt8 × List UInt8)} {p q : Value} (h : UF d w w') (hc : CT w B b v M fs) (hb : Ar w d 59 #[p, q]) : CT w' B b v M fs :=
  ⟨⟨hc.ring.ge, h.ar hc.ring.obj (hc.ring.obj.ne hb (by decide)) (by decide), h.sl hc.ring.row hb (by decide) (by decide), hc.ring.ne⟩⟩

set_option maxHeartbeats 2000000 in
set_option maxRecDepth 100000 in
theorem writeString_cells (B b : Nat) (bs : List Value) (s : ByteArray) (w : World) (h : Lib.IsBuilder 59 5 B b bs w) (hlen : bs.length + s.size ≤ 140737488355328) (hBw : B ≤ w.heap.size) :
    Calls Tryz.prog 20 #[.pointer (some ⟨b, 0, none⟩), .string s] w fun e w' => e = .returned (.tuple #[.int .i64 (s.size : Int), .nilIface]) ∧ (Lib.IsBuilder 59 5 B b (bs ++ Lib.strCells s) w' ∧ Below B w w' ∧ UF b w w') := by
  obtain ⟨i0, hi, hz0, hz1, hz2⟩ := info_parts infoByte
  have HU : Hid (∀ w1, Lib.BuilderAt 59 5 B b (.pointer (some ⟨b, 0, none⟩)) bs w1 ∧ (w1 = w ∨ w1 = w.setCell ⟨b, 0, none⟩ (.pointer (some ⟨b, 0, none⟩))) → UF b w w1) := hid' fun w1 ⟨_, hw⟩ => by
    rcases hw with rfl | rfl
    · exact UF.of_below (Below.refl _ _)
    · exact UF.of_set _ _ _ _
  have hcc : Calls Tryz.prog 35 #[.pointer (some ⟨b, 0, none⟩)] w fun e w' => e = .returned (.tuple #[]) ∧ (Lib.BuilderAt 59 5 B b (.pointer (some ⟨b, 0, none⟩)) bs w' ∧ Below B w w' ∧ UF b w w') := by
    rcases h with h | h
    · refine (copyCheck_fresh b w h.cell0 h.shape h.frozen0).mono ?_
      rintro e w' ⟨rfl, rfl⟩
      exact ⟨rfl, h.used _, (Below.refl B w).setCell (p := ⟨b, 0, none⟩) h.1 _, UF.of_set _ _ _ _⟩
    · refine (copyCheck_used b w h.cell0).mono ?_
      rintro e w' ⟨rfl, rfl⟩
      exact ⟨rfl, h, Below.refl B _, UF.of_below (Below.refl _ _)⟩
  have HCC := hid' hcc
  clear hcc HU h
  go_enter Tryz.func20, Tryz.ntmps20
  go_wp2_with fail
  refine HCC.out.mono ?_
  rintro e w1 ⟨rfl, h1, hb1, hu1⟩
  clear HCC
  obtain ⟨hB, v, hbk, hown, hne⟩ := h1
  have c0 : w1.cell? ⟨b, 0, none⟩ = some (.pointer (some ⟨b, 0, none⟩)) := by rw [Lib.cell_of_heap hbk]; rfl
  have c1 : w1.cell? ⟨b, 1, none⟩ = some v := by rw [Lib.cell_of_heap hbk]; rfl
  go_wp2_with (at_builtin; refine Lib.wpList_append_own_string _ rfl _ _ 57 9 rfl B 5 i0 Tryz.underlying57 Tryz.underlying9 hi hz0 hz1 hz2 _ _ _ rfl hown s rfl ?c3 ?c4 ?c5 ?_)
  case c3 => unfold maxLen; omega
  case c4 => omega
  case c5 => have := hb1.size; omega
  intro v' w2 hown' hgrow _
  have hlt : b < w1.heap.size := (Array.getElem?_eq_some_iff.1 hbk).1
  have hb2 : w2.heap[b]? = some (.cells #[.pointer (some ⟨b, 0, none⟩), v] 59 (0, 0)) := by
    rw [hgrow.block b (by omega) (fun e => hne e.symm)]
    exact hbk
  have d1 : w2.cell? ⟨b, 1, none⟩ = some v := by rw [Lib.cell_of_heap hb2]; rfl
  have f1 : w2.frozen? ⟨b, 1, none⟩ = false := Lib.frozen_of_heap hb2 1
  obtain ⟨ao, n', cap, rfl⟩ : ∃ ao n' cap, v' = .slice ao n' cap := by
    rcases hown'.2 with ⟨h, _⟩ | ⟨g, cap, cur, hv, _⟩
    · exact ⟨_, _, _, h⟩
    · exact ⟨_, _, _, hv⟩
  have HUG : Hid (UF b w1 w2) := hid' ⟨hgrow.size, fun k hk _ hn => hgrow.block k hk (fun e => by
    rcases hown.2 with ⟨rfl, _⟩ | ⟨g, cap, cur, rfl, _, hg, _⟩
    · simp [Value.ownBlock] at e
    · simp [Value.ownBlock] at e
      subst e
      exact hn cur (0, 0) hg)⟩
  have HU1 := hid' hu1
  clear hu1
  go_wp2
  go_ret2
  refine ⟨rfl, ?_, ?_, (HU1.out.trans HUG.out).trans (UF.of_set _ _ _ _)⟩
  · exact .inr (Lib.BuilderAt.put (T := 59) (e := 5) hB hb2 (bs' := bs ++ Lib.strCells s) (by simpa [Lib.strCells_length] using hown') (by decide))
  · exact (hb1.grown hgrow (by have := hb1.size; omega) (fun k hk => (hown.lt k hk).1)).setCell (p := ⟨b, 1, none⟩) hB _

theorem writeString_any (B b : Nat) (l s : List UInt8) (w : World) (h : Bld w B b l) (hlen : l.length + s.length ≤ 140737488355328) (hBw : B ≤ w.heap.size) :
    Calls Tryz.prog 20 #[.pointer (some ⟨b, 0, none⟩), .string ⟨s.toArray⟩] w fun e w' => e = .returned (.tuple #[.int .i64 (s.length : Int), .nilIface]) ∧ (Bld w' B b (l ++ s) ∧ Below B w w' ∧ UF b w w') := by
  refine (writeString_cells B b (Lib.byteCells l) ⟨s.toArray⟩ w h (by rw [Lib.byteCells_length, size_l]; exact hlen) hBw).mono ?_
  rintro e w' ⟨rfl, h1, h2⟩
  refine ⟨by rw [size_l], ?_, h2⟩
  have : Lib.byteCells (l ++ s) = Lib.byteCells l ++ Lib.strCells ⟨s.toArray⟩ := by simp [Lib.byteCells, Lib.strCells]
  unfold Bld
  rw [this]
  exact h1

theorem bld_fr {S : Nat → Prop} {w w' : World} {B b : Nat} {l : List UInt8} (h : Bld w B b l) (hf : Fr S w w') (hb : ¬ S b) (hu : ∀ k cs, Ar w k 5 cs → ¬ S k) : Bld w' B b l := by
  have key : ∀ p, Lib.BuilderAt 59 5 B b p (Lib.byteCells l) w → Lib.BuilderAt 59 5 B b p (Lib.byteCells l) w' := by
    rintro p ⟨hB, v, hbk, hown, hne⟩
    refine ⟨hB, v, hf.ar (show Ar w b _ _ from hbk) hb, ⟨hown.1, ?_⟩, hne⟩
    rcases hown.2 with h0 | ⟨g, cap, cur, rfl, hB', hg, r⟩
    · exact .inl h0
    · exact .inr ⟨g, cap, cur, rfl, hB', hf.ar (show Ar w g _ _ from hg) (hu g cur hg), r⟩
  rcases h with h | h
  · exact .inl (key _ h)
  · exact .inr (key _ h)

theorem string_any (B b : Nat) (l : List UInt8) (w : World) (h : Bld w B b l) (hBw : B ≤ w.heap.size) :
    Calls Tryz.prog 23 #[.pointer (some ⟨b, 0, none⟩)] w fun e w' => e = .returned (.string ⟨l.toArray⟩) ∧ Below B w w' ∧ UF b w w' := by
  refine (Tryz.Builder_String_any_k B b l w (Lib.IsBuilderF.of h) hBw).mono ?_
  rintro e w' ⟨rfl, _, hb, ho⟩
  refine ⟨rfl, hb, hb.size, fun k hk hne hn => ?_⟩
  obtain ⟨o, hk'⟩ : ∃ o, w.heap[k]? = some o := ⟨_, Array.getElem?_eq_getElem hk⟩
  rw [ho k o hk' (by simpa using hne) (fun c fz e => hn c fz (by rw [hk', e])), hk']

end Go.Proofs.YtmkkhfkfjmfdcaaGreat
