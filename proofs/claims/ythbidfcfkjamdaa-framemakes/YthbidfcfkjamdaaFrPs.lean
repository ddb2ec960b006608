/-
  frame.settingsPayload, and payloadOf of SETTINGS: by their contracts.
-/
import Derived.Test.YthbidfcfkjamdaaFrX
namespace Go.Proofs.Ythbidfcfkjamdaa
open Go.RowKit

/-- The bytes of settings. -/
def Fm.stB (l : List (Int × Int)) : List UInt8 := l.flatMap fun p => Fm.enc 2 p.1 ++ Fm.enc 4 p.2
theorem Fm.stB_length (l : List (Int × Int)) : (Fm.stB l).length = 6 * l.length := by
  induction l with
  | nil => rfl
  | cons a r ih =>
    have e : Fm.stB (a :: r) = (Fm.enc 2 a.1 ++ Fm.enc 4 a.2) ++ Fm.stB r := rfl
    rw [e, List.length_append, List.length_append, Fm.enc_length, Fm.enc_length, ih, List.length_cons]
    omega
theorem Fm.stB_take (l : List (Int × Int)) (i : Nat) (f : Int × Int) (h : l[i]? = some f) : Fm.stB (l.take (i + 1)) = (Fm.stB (l.take i) ++ Fm.enc 2 f.1) ++ Fm.enc 4 f.2 := by
  rw [List.take_add_one, h]
  simp [Fm.stB]

set_option maxHeartbeats 4000000 in
set_option maxRecDepth 20000 in
theorem csetpay_any (v : Value) (l : List (Int × Int)) (w : World) (h : SR w v l) (hn : l.length ≤ 2796202) :
    Calls Try.prog 46 #[v] w fun e w' => (∃ u, e = .returned u ∧ Hid (BR w' w.heap.size u (Fm.stB l))) ∧ Below w.heap.size w w' := by
  obtain ⟨i0, hi, hz0, hz1, hz2⟩ := info_parts' infoByte'
  have HI := hid' hi
  have HZ0 := hid' hz0
  have HZ1 := hid' hz1
  have HZ2 := hid' hz2
  clear hi hz0 hz1 hz2
  obtain ⟨ao, cap, rfl⟩ := h.shape
  obtain ⟨n, hnn⟩ : ∃ n, l.length = n := ⟨_, rfl⟩
  rw [hnn] at h hn ⊢
  have H := hid' h
  have HN := hid' hnn
  obtain ⟨m, hm⟩ : ∃ m : Nat, (n : Int) * 6 = (m : Int) := ⟨n * 6, by omega⟩
  have hm2 : m ≤ 16777212 := by omega
  clear h hnn
  go_enter Try.func46, Try.ntmps46
  go_wp2_with (refine wpl_make0 66 5 _ _ rfl rfl w.heap.size i0 _ 1 Try.underlying66 HI.out HZ0.out HZ1.out m (by rw [HZ2.out]; omega) (by unfold maxLen; omega) (Nat.le_refl _) (by kernel_rfl) (by kernel_rfl) ?_)
  intro v2 w2 hown2 hb2
  have HS2 : Hid (BR w2 w.heap.size v2 (Fm.stB (l.take 0)) ∧ NB w.heap.size w w2) := hid' ⟨hown2, NB.of_below hb2 (Nat.le_refl _)⟩
  clear hown2 hb2
  go_wp2
  go_loopw [3, 12] (fun s3 s12 wr => ∃ i : Nat, s12 = .int .i64 (i : Int) ∧ i ≤ n ∧ Hid (BR wr w.heap.size s3 (Fm.stB (l.take i)) ∧ NB w.heap.size w wr)) (fun _ s12 _ => n - (intOf s12).toNat)
  case atStart => exact ⟨0, rfl, Nat.zero_le _, HS2⟩
  case round =>
    clear HS2 hm
    obtain ⟨i, rfl, hi, HX⟩ := hrel
    by_cases hlt : i < n
    · have hlt2 : (i : Int) < (n : Int) := by omega
      obtain ⟨f, hf⟩ : ∃ f, l[i]? = some f := ⟨_, List.getElem?_eq_getElem (by rw [HN.out]; exact hlt)⟩
      have HB0 := hid' HX.out.2
      have HO0 := hid' HX.out.1
      obtain ⟨a, hao, x0, x1⟩ := (H.out.keep HB0.out.bel).two i f hf
      subst hao
      have HT : Hid (Fm.stB (l.take (i + 1)) = (Fm.stB (l.take i) ++ Fm.enc 2 f.1) ++ Fm.enc 4 f.2) := hid' (Fm.stB_take l i f hf)
      have hpl : (Fm.stB (l.take i)).length ≤ 16777212 := by rw [Fm.stB_length, List.length_take]; omega
      have hpl2 : (Fm.stB (l.take i) ++ Fm.enc 2 f.1).length ≤ 16777214 := by rw [List.length_append, Fm.enc_length]; omega
      obtain ⟨fi, fv⟩ := f
      have HPL := hid' hpl
      have HPL2 := hid' hpl2
      clear hf HX hpl hpl2
      go_wp2_with (refine wpl_alloc 29 rfl rfl _ zeroSetting ?_)
      intro b5 w5 hg ha hb
      refine wpl_store 29 _ _ rfl rfl b5 #[.int .i64 fi, .int .i64 fv] (by kernel_rfl) (by kernel_rfl) _ _ ha sizeSetting rfl (by simp [Value.oneCell']) ?_
      intro w6 ha6 hu
      have hb6 := hb.trans (hu.below hg)
      have HN6 := hid' (HB0.out.trans (NB.of_below hb6 HB0.out.bel.size))
      have HO6 : Hid (BR w6 w.heap.size u3 (Fm.stB (l.take i))) := hid' (own_keep HO0.out hb6)
      obtain ⟨s0, s1⟩ := stC_cells ha6
      have HA6 := hid' ha6
      clear hg ha hb hu ha6 hb6 x0 x1
      go_wp2_with fail
      refine (cappend_any w.heap.size u3 _ fi 2 _ (by decide) HO6.out HN6.out.bel.size (by have := HPL.out; omega)).mono ?_
      rintro e w7 ⟨⟨v7, rfl, ho7⟩, hn7⟩
      have ha7 := hn7.ar _ _ _ (by decide) HA6.out
      obtain ⟨t0, t1⟩ := stC_cells ha7
      have HN7 := hid' (HN6.out.trans hn7)
      have HO7 := hid' ho7.out
      clear ha7 hn7 ho7 s0 s1
      go_wp2_with fail
      refine (cappend_any w.heap.size v7 _ fv 4 _ (by decide) HO7.out HN7.out.bel.size (by have := HPL2.out; omega)).mono ?_
      rintro e w8 ⟨⟨v8, rfl, ho8⟩, hn8⟩
      have HS8 : Hid (BR w8 w.heap.size v8 (Fm.stB (l.take (i + 1))) ∧ NB w.heap.size w w8) := hid' ⟨by rw [HT.out]; exact ho8.out, HN7.out.trans hn8⟩
      clear hn8 ho8 t0 t1
      go_wp2
      go_roundw
      case rel => exact ⟨i + 1, by go_num, by omega, HS8⟩
      case measure => simp [intOf]; omega
    · have hib : i = n := by omega
      have hlt2 : decide ((i : Int) < (n : Int)) = false := decide_eq_false (by omega)
      have hlt3 : decide (i < n) = false := decide_eq_false (by omega)
      have HE : Hid (BR wr w.heap.size u3 (Fm.stB l) ∧ NB w.heap.size w wr) := hid' (by
        have := HX.out
        rw [hib, ← HN.out, List.take_length] at this
        exact this)
      clear hlt hib HX
      go_wp2
      go_ret
      exact ⟨⟨_, rfl, hid' HE.out.1⟩, HE.out.2.bel⟩

end Go.Proofs.Ythbidfcfkjamdaa
