/-
  Decoder.Read of a decoder that has refused nothing: by its contract.
-/
import Derived.Test.YtmkkhfkfjmfdcaaHpN
namespace Go.Proofs.Ytmkkhfkfjmfdcaa
open Go.RowKit

theorem kept_nil (list : Int) : kept list [] = [] := by unfold kept; split <;> rfl
/-- What Read leaves: refused (er is not 0), or read: too much, or the fields. -/
def ReadPost (w w' : World) (B d b : Nat) (v : Value) (list : Int) (lim : Nat) (fs : List (List UInt8 × List UInt8)) (er : Nat) (D : Hp.D) (e : Ending) : Prop :=
  (er ≠ 0 ∧ e = .returned (.tuple #[.slice none 0 0, .int .i64 (er : Int)]) ∧ CX w' d list lim er (Tb.size fs)) ∨
  (er = 0 ∧ ∃ v', CD w' B d b v' list lim D.room D.fs ∧ (∀ k, v'.ownBlock = some k → v.ownBlock = some k ∨ w.heap.size ≤ k) ∧
    ((list < (Tb.size D.out : Int) ∧ e = .returned (.tuple #[.slice none 0 0, .int .i64 61])) ∨
     ((Tb.size D.out : Int) ≤ list ∧ ∃ gv, e = .returned (.tuple #[gv, .int .i64 0]) ∧ Sl w' w.heap.size 55 2 gv D.out.length (Tb.cells D.out) ∧ ∀ k, v'.ownBlock = some k → gv.ownBlock ≠ some k)))
def RSet (d b : Nat) (v : Value) : Nat → Prop := fun k => k = d ∨ k = b ∨ v.ownBlock = some k
def RInv (w wr : World) (B d b : Nat) (v : Value) (list : Int) (lim c g : Nat) (n er : Nat) (Df : Hp.D) : Prop :=
  ∃ v' gv' D l, NS wr B d b v' list lim (Hp.D.room D) D.fs c l w.heap.size g gv' D.out ∧ (∀ k, v'.ownBlock = some k → v.ownBlock = some k ∨ w.heap.size ≤ k) ∧ Fr (RSet d b v) w wr ∧ D.room ≤ 65536 ∧ Tb.size D.fs ≤ D.room ∧ Tb.size D.out + 70000 * l.length ≤ 70000 * n ∧ l.length ≤ n ∧ ∃ m, l.length ≤ m ∧ Hp.run Hp.rs lim m D l = (er, Df)

set_option maxHeartbeats 2000000 in
set_option maxRecDepth 20000 in
theorem read_any (B d b : Nat) (v : Value) (list : Int) (lim M : Nat) (fs : List (List UInt8 × List UInt8)) (bl : List UInt8) (w : World) (h : CD w B d b v list lim M fs) (hbl : bl.length ≤ 1073741824) (hlim : lim ≤ 65536) (hM : M ≤ 65536) (hs : Tb.size fs ≤ M) (hB : B ≤ w.heap.size) (er : Nat) (Df : Hp.D) (hrun : Hp.read Hp.rs lim ⟨M, fs, []⟩ bl = (er, Df)) :
    Calls Try.prog 12 #[.pointer (some ⟨d, 0, none⟩), .string ⟨bl.toArray⟩] w fun e w' => Hid (ReadPost w w' B d b v list lim fs er Df e) ∧ Fr (RSet d b v) w w' := by
  obtain ⟨S, hS⟩ : ∃ S, Tb.size fs = S := ⟨_, rfl⟩
  have HS := hid' hS
  have h0 := h.obj.cell 0 _ rfl
  have h1 := h.obj.cell 1 _ rfl
  have h3 := h.obj.cell 3 _ rfl
  have H := hid' h
  have HBL := hid' hbl
  have HLIM := hid' hlim
  have HB := hid' hB
  have hb1 : Below w.heap.size w (w.alloc (.cells #[.string ⟨bl.toArray⟩] 59)) := (Below.refl _ _).alloc (Nat.le_refl _) _
  have hb2 : Below w.heap.size w ((w.alloc (.cells #[.string ⟨bl.toArray⟩] 59)).alloc (.cells #[.slice none 0 0, .int .i64 0, .int .i64 list] 61)) := hb1.alloc (by simp) _
  have hc2 : Ar ((w.alloc (.cells #[.string ⟨bl.toArray⟩] 59)).alloc (.cells #[.slice none 0 0, .int .i64 0, .int .i64 list] 61)) w.heap.size 59 #[.string ⟨bl.toArray⟩] := Ar.keep (heap_alloc_last w _) ((Below.refl _ _).alloc (Nat.le_refl _) _)
  have hg2 : Ar ((w.alloc (.cells #[.string ⟨bl.toArray⟩] 59)).alloc (.cells #[.slice none 0 0, .int .i64 0, .int .i64 list] 61)) (w.heap.size + 1) 61 #[.slice none 0 0, .int .i64 0, .int .i64 list] := by
    have := heap_alloc_last (w.alloc (.cells #[.string ⟨bl.toArray⟩] 59)) (.cells #[.slice none 0 0, .int .i64 0, .int .i64 list] 61)
    simpa [Ar] using this
  have HI : Hid (RInv w ((w.alloc (.cells #[.string ⟨bl.toArray⟩] 59)).alloc (.cells #[.slice none 0 0, .int .i64 0, .int .i64 list] 61)) B d b v list lim w.heap.size (w.heap.size + 1) bl.length er Df) :=
    hid' ⟨v, .slice none 0 0, ⟨M, fs, []⟩, bl, ⟨h.keep hb2, hc2, ⟨by omega, hg2, by rw [kept_nil]; exact sl_nil _ _ _ _, by simp [Value.ownBlock]⟩, fun k _ => by simp [Value.ownBlock]⟩, fun k hk => .inl hk, Fr.of_below hb2, hM, hs, by simp [Tb.size], Nat.le_refl _, bl.length, Nat.le_refl _, hrun⟩
  clear h hS hbl hlim hM hs hB hrun hb1 hb2 hc2 hg2
  go_enter Try.func12, Try.ntmps12
  go_wp2_with fail
  refine (esize_at B b v M fs S HS.out d _ h0 H.out.tab).mono ?_
  rintro e w1 ⟨rfl, hw1⟩
  subst w1
  go_wp2
  obtain ⟨c, hc⟩ : ∃ c, w.heap.size = c := ⟨_, rfl⟩
  obtain ⟨g, hg⟩ : ∃ g, w.heap.size + 1 = g := ⟨_, rfl⟩
  have HC := hid' hc
  have HG := hid' hg
  rw [hg] at HI ⊢
  generalize ((w.alloc (.cells #[.string ⟨bl.toArray⟩] 59)).alloc (.cells #[.slice none 0 0, .int .i64 0, .int .i64 list] 61)) = w2 at *
  have HI2 : Hid (RInv w w2 B d b v list lim c g bl.length er Df) := hid' (by rw [← hc]; exact HI.out)
  rw [hc]
  clear hc hg HI h0 h1 h3
  go_loopw [] (fun wr => Hid (RInv w wr B d b v list lim c g bl.length er Df)) (fun wr => match wr.cell? ⟨c, 0, none⟩ with | some (.string s) => s.size | _ => 0)
  case atStart => exact HI2
  case round =>
    clear HI2
    obtain ⟨v', gv', D, l, hN, hv, hF, hR, hsz, hsum, hln, m, hm, hrun⟩ := Hid.out hrel
    clear hrel
    have HN := hid' hN
    have HV := hid' hv
    have HF := hid' hF
    have HR := hid' hR
    have HSZ := hid' hsz
    have HSUM := hid' hsum
    have HLN := hid' hln
    have c0 := hN.cur.cell 0 _ rfl
    clear hv hF hR hsz hsum hln hN
    cases l with
    | nil =>
      have HRUN : Hid (er = 0 ∧ D = Df) := hid' (by cases m <;> (simp only [Hp.run] at hrun; injection hrun with a b; exact ⟨a.symm, b⟩))
      clear hm hrun
      by_cases hlt : list < (Tb.size D.out : Int)
      · have HL := hid' hlt
        clear hlt
        go_wp2_with fail
        refine (tooMuch_at w.heap.size g gv' (Tb.size D.out : Int) list _ _ true (decide_eq_true HL.out) _ HN.out.ga).mono ?_
        rintro e w3 ⟨rfl, m3, rfl⟩
        clear c0
        go_wp2
        go_ret2
        obtain ⟨he, hD⟩ := HRUN.out
        subst hD
        exact ⟨hid' (.inr ⟨he, v', (HN.out.drewN m3).cd, HV.out, .inl ⟨HL.out, rfl⟩⟩), HF.out.drewN m3⟩
      · have HL : Hid ((Tb.size D.out : Int) ≤ list) := hid' (by omega)
        clear hlt
        go_wp2_with fail
        refine (tooMuch_at w.heap.size g gv' (Tb.size D.out : Int) list _ _ false (decide_eq_false (by have := HL.out; omega)) _ HN.out.ga).mono ?_
        rintro e w3 ⟨rfl, m3, rfl⟩
        clear c0
        have c1 : (wr.drewN m3).cell? ⟨g, 0, none⟩ = some gv' := (RG.obj HN.out.ga).cell 0 _ rfl
        go_wp2
        go_ret2
        obtain ⟨he, hD⟩ := HRUN.out
        subst hD
        have hrow := RG.row (HN.out.drewN m3).ga
        have hk : kept list D.out = D.out := by unfold kept; rw [if_pos HL.out]
        rw [hk] at hrow
        exact ⟨hid' (.inr ⟨he, v', (HN.out.drewN m3).cd, HV.out, .inr ⟨HL.out, gv', rfl, hrow, HN.out.apart⟩⟩), HF.out.drewN m3⟩
    | cons x l =>
      obtain ⟨m, rfl⟩ : ∃ m', m = m' + 1 := ⟨m - 1, by rw [List.length_cons] at hm; omega⟩
      rw [List.length_cons] at hm
      have HM : Hid (l.length ≤ m) := hid' (by omega)
      have HMS : Hid (wr.cell? ⟨c, 0, none⟩ = some (.string ⟨(x :: l).toArray⟩)) := hid' c0
      have hl0 : l.length ≤ 1073741823 := by have h1 := HLN.out; have h2 := HBL.out; rw [List.length_cons] at h1; omega
      have HL0 := hid' hl0
      have HS2 : Hid (Tb.size D.fs ≤ 65536) := hid' (Nat.le_trans HSZ.out HR.out)
      have HO2 : Hid (Tb.size D.out + 70000 * (l.length + 1) ≤ 140737488355328) := hid' (by have h1 := HSUM.out; have h2 := HBL.out; rw [List.length_cons] at h1; omega)
      clear hm hl0
      simp only [Hp.run] at hrun
      generalize hst : Hp.step Hp.rs lim D x l = q at hrun
      cases q with
      | err e' =>
        simp only at hrun
        injection hrun with ha hb
        subst ha
        have HST := hid' hst
        have hpos := (Hp.step_err lim D x l e' hst).1
        have he1 : ((e' : Int) == 0) = false := beq_false_of_ne (by omega)
        have he2 : (e' == 0) = false := beq_false_of_ne (by omega)
        have HP := hid' (Hp.step_err lim D x l e' hst).1
        clear hst hb hpos
        go_wp2_with fail
        refine (next_er B d b v' list lim D.room D.fs c x l w.heap.size g gv' D.out _ HN.out (by have := HS2.out; omega) (by have := HL0.out; omega) e' HST.out).mono ?_
        rintro e w3 ⟨rfl, hf3⟩
        have HF3 := hid' hf3
        have HD3 := hid' (hf3.ar HN.out.cd.obj (HN.out.cd.obj.ne HN.out.cur (by decide)))
        clear hf3 c0 HSUM HLN HO2 HM HMS HBL HL0 HS2 HSZ HR HST
        go_wp2_with fail
        refine (refuse_at d _ list lim e' S _ _ _ HD3.out).mono ?_
        rintro e w4 ⟨rfl, hX4, hf4⟩
        have HX4 := hid' hX4
        have HF4 := hid' hf4
        clear hX4 hf4
        go_wp2
        go_ret2
        refine ⟨hid' (.inl ⟨by have := HP.out; omega, rfl, by rw [HS.out]; exact HX4.out⟩), ?_⟩
        exact (HF.out.trans HF3.out (fun k hk => .inr (Nat.le_of_eq (HC.out.trans (Eq.symm hk))))).and (HF4.out.mono (fun k hk => .inl hk))
      | go D' rest =>
        simp only at hrun
        have HRUN := hid' hrun
        have HST := hid' hst
        have HLE := hid' (Hp.step_le 65536 lim (Nat.le_refl _) HLIM.out D x l D' rest HR.out HSZ.out hst)
        clear hrun hst
        have hszr : w.heap.size ≤ wr.heap.size := HF.out.size
        have HSR := hid' hszr
        clear hszr
        go_wp2_with fail
        refine (next_go B d b v' list lim D.room D.fs c x l w.heap.size g gv' D.out _ HN.out HLIM.out HR.out HS2.out (by have := HL0.out; omega) (Nat.le_trans HB.out HSR.out) HSR.out HO2.out D' rest HST.out).mono ?_
        rintro e w3 ⟨rfl, v3, gv3, hN3, hv3, hg3, hF3⟩
        have HN3 := hid' hN3
        have HE : Hid (w3.cell? ⟨c, 0, none⟩ = some (.string ⟨rest.toArray⟩)) := hid' (hN3.cur.cell 0 _ rfl)
        have HV3 : Hid (∀ k, v3.ownBlock = some k → v.ownBlock = some k ∨ w.heap.size ≤ k) := hid' fun k hk => by
          rcases hv3 k hk with h | h
          · exact HV.out k h
          · exact .inr (Nat.le_trans HSR.out h)
        have HF3 : Hid (Fr (RSet d b v) w w3) := hid' (HF.out.trans hF3 fun k hk => by
          rcases hk with h | h | h | h | h
          · exact .inr (Nat.le_of_eq (HC.out.trans h.symm))
          · exact .inr (by have := HG.out; omega)
          · exact .inr ((RG.row HN.out.ga).lt k h).1
          · exact .inl (.inr (.inl h))
          · rcases HV.out k h with h1 | h1
            · exact .inl (.inr (.inr h1))
            · exact .inr h1)
        clear hN3 hv3 hg3 hF3 c0
        go_wp2
        go_roundw
        case rel =>
          obtain ⟨a1, a2, a3, a4⟩ := HLE.out
          have h1 := HSUM.out
          have h2 := HLN.out
          rw [List.length_cons] at h1 h2
          exact hid' ⟨v3, gv3, D', rest, HN3.out, HV3.out, HF3.out, a1, a2, by omega, by omega, m, by have := HM.out; omega, HRUN.out⟩
        case measure =>
          rw [HMS.out, HE.out]
          have := HLE.out.2.2.1
          simp [ByteArray.size]
          omega

end Go.Proofs.Ytmkkhfkfjmfdcaa
