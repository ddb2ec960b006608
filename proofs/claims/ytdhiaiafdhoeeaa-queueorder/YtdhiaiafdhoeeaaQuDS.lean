/-
  The code's queue of string: Drain: by its contract.
-/
import Derived.Test.YtdhiaiafdhoeeaaQuB
import Derived.Test.YtdhiaiafdhoeeaaQuS
namespace Go.Proofs.Ytdhiaiafdhoeeaa
open Go.RowKit Go.Conc

/-- As it lies in memory. -/
def qS (x : ByteArray) : Value := .string x
theorem qinfo_S : (Try.prog.info? 9).map (fun i => (i.zero, i.size, i.bytes)) = some (some (.string ⟨#[]⟩), 1, 16) := by kernel_rfl
/-- What is in hand. -/
def InS (xs : List ByteArray) (i : Nat) (s : Value) (t : Bool) : Prop := (t = true ∧ ∃ x, xs[i]? = some x ∧ s = qS x) ∨ (t = false ∧ xs.length ≤ i)
/-- Take, of what is in hand and what is left. -/
theorem qtakeAt_S (X : Nat → Prop) (B b c cap : Nat) (xs : List ByteArray) (i : Nat) (w : World) (h : QM 64 9 X w B b c cap ((xs.map qS).drop i)) :
    ∃ s t, InS xs i s t ∧ Calls Try.prog 21 #[.pointer (some ⟨b, 0, none⟩)] w fun e w' => e = .returned (.tuple #[s, .bool t]) ∧ QM 64 9 X w' B b c cap ((xs.map qS).drop (i + 1)) ∧ LF (· = c) w w' := by
  by_cases hi : i < xs.length
  · obtain ⟨x, hx⟩ : ∃ x, xs[i]? = some x := ⟨_, List.getElem?_eq_getElem hi⟩
    refine ⟨qS x, true, .inl ⟨rfl, x, hx, rfl⟩, ?_⟩
    rw [List.drop_eq_getElem_cons (by rw [List.length_map]; exact hi)] at h
    have e : (xs.map qS)[i]? = some (qS x) := by rw [List.getElem?_map, hx]; rfl
    rw [List.getElem?_eq_getElem (by rw [List.length_map]; exact hi)] at e
    injection e with e
    rw [e] at h
    exact qtake_some_S X B b c cap _ x w h
  · refine ⟨.string ⟨#[]⟩, false, .inr ⟨rfl, by omega⟩, ?_⟩
    rw [List.drop_of_length_le (by rw [List.length_map]; omega)] at h
    rw [List.drop_of_length_le (by rw [List.length_map]; omega)]
    exact (qtake_none_S X B b c cap w h).mono fun e w' ⟨h1, h2⟩ => ⟨h1, by rw [h2]; exact h, by rw [h2]; exact LF.refl _ _⟩

set_option maxHeartbeats 2000000 in
set_option maxRecDepth 20000 in
theorem qdrain_S (X : Nat → Prop) (B b c cap : Nat) (xs : List ByteArray) (n : Nat) (hn : xs.length = n) (hb : n ≤ 65536) (w : World) (h : QM 64 9 X w B b c cap (xs.map qS)) :
    Calls Try.prog 22 #[.pointer (some ⟨b, 0, none⟩)] w fun e w' => ∃ vo cp, e = .returned (.slice vo n cp) ∧ w'.ownsRow w.heap.size 9 1 (.slice vo n cp) n (xs.map qS) ∧ QM 64 9 X w' B b c cap [] ∧ LF (· = c) w w' := by
  obtain ⟨i0, hi, hz0, hz1, hz2⟩ := qinfo_parts qinfo_S
  have HI := hid' hi
  have HZ0 := hid' hz0
  have HZ1 := hid' hz1
  have HZ2 := hid' hz2
  have HN := hid' hn
  have HH := hid' h
  have HQL : Hid (Calls Try.prog 23 #[.pointer (some ⟨b, 0, none⟩)] w fun e w' => e = .returned (.int .i64 (n : Int)) ∧ w' = w) := hid' (by
    have := qlen_S X B b c cap _ w h
    rw [List.length_map, hn] at this
    exact this)
  clear hi hz0 hz1 hz2 hn h
  go_enter Try.func22, Try.ntmps22
  go_wp2_with fail
  refine HQL.out.mono ?_
  rintro _ w0 ⟨rfl, rfl⟩
  go_wp2_with (refine wpl_make0 43 9 _ _ rfl rfl w0.heap.size i0 _ 1 Try.underlying43 HI.out HZ0.out HZ1.out n (by rw [HZ2.out]; omega) (by unfold maxLen; omega) (Nat.le_refl _) (by kernel_rfl) (by kernel_rfl) ?_)
  intro v4 w4 hown4 hb4
  obtain ⟨vo4, vc4, hv4⟩ := qown_shape hown4
  subst hv4
  have HR4 := hid' hown4
  have HL4 : Hid (LF (· = c) w0 w4) := hid' (LF.of_below hb4)
  have HQ4 : Hid (QM 64 9 (fun k => X k ∨ w0.heap.size ≤ k) w4 B b c cap (xs.map qS)) := hid' (HH.out.wide.keep hb4)
  obtain ⟨s0, t0, htk, hcl⟩ := qtakeAt_S _ B b c cap xs 0 w4 (by simpa using HQ4.out)
  have HTK := hid' htk
  have HCL := hid' hcl
  have HLB : Hid (b < w0.heap.size ∧ c < w0.heap.size) := hid' ⟨HH.out.hd.lt, HH.out.lt⟩
  clear hown4 hb4 htk hcl HH HQL
  go_wp2_with fail
  refine HCL.out.mono ?_
  rintro _ w1 ⟨rfl, hq1, hf1⟩
  have HD := hid' (QD.take (i := 0) HR4.out HL4.out HLB.out.1 HLB.out.2 hq1 rfl hf1)
  clear hq1 hf1 HCL HQ4 HR4 HL4 HLB
  go_wp2
  go_loopw [3, 4, 5] (fun s3 s4 s5 wr => ∃ (i cp : Nat) (vo : Option Addr) (t : Bool), s3 = .slice vo i cp ∧ s5 = .bool t ∧ i ≤ n ∧ Hid (InS xs i s4 t) ∧ Hid (QD 64 9 X w0 B b c cap (xs.map qS) (.slice vo i cp) i wr)) (fun s3 _ _ _ => n - slLen s3)
  case atStart => exact ⟨0, vc4, vo4, t0, rfl, rfl, Nat.zero_le _, HTK, HD⟩
  case round =>
    clear HD HTK
    obtain ⟨i, cp, vo, t, rfl, rfl, hin, HIN, HD⟩ := hrel
    rcases HIN.out with ⟨rfl, x, hx, rfl⟩ | ⟨rfl, hx⟩
    · have hlt : i < n := by have := (List.getElem?_eq_some_iff.1 hx).1; have := HN.out; omega
      have HX : Hid ((xs.map qS)[i]? = some (.string x)) := hid' (by rw [List.getElem?_map, hx]; rfl)
      have HSZ : Hid (w0.heap.size ≤ wr.heap.size) := hid' HD.out.lf.size
      have HA : Hid ((wr.alloc (.cells #[.string x] 9)).ownsRow w0.heap.size 9 1 (.slice vo i cp) i ((xs.map qS).take i)) := hid' (HD.out.row.alloc _)
      unfold qS
      clear hx HIN hin
      go_wp2_with (at_builtin; refine wpList_append_own _ rfl _ _ 43 rfl w0.heap.size 9 i0 (.string ⟨#[]⟩) 1 16 Try.underlying43 HI.out HZ0.out HZ1.out HZ2.out rfl (by decide) _ i ((xs.map qS).take i) rfl HA.out ⟨wr.heap.size, 0, none⟩ 1 1 [.string x] rfl rfl (cell_one_new _ _ _) (by simp [Value.oneCell']) (by unfold maxLen; omega) (by omega) (by simp; have := HSZ.out; omega) ?_; intro v3 w3 hown3 hgrow3 _; refine Hid.out ?_)
      refine hid' ?_
      obtain ⟨v3o, v3c, hv3⟩ := qown_shape hown3
      subst hv3
      have HDa : Hid (QD 64 9 X w0 B b c cap (xs.map qS) (.slice vo i cp) i (wr.alloc (.cells #[.string x] 9))) := hid' ⟨HA.out, HD.out.q.keep ((Below.refl _ _).alloc (Nat.le_refl _) _), HD.out.lf.trans (LF.of_below (S := (· = c)) ((Below.refl _ _).alloc (Nat.le_refl _) _)) (fun _ _ h => h), HD.out.lb, HD.out.lc⟩
      have HP := hid' (HDa.out.put HX.out hown3 hgrow3)
      obtain ⟨s1, t1, htk, hcl⟩ := qtakeAt_S _ B b c cap xs (i + 1) w3 HP.out.2.1
      have HTK := hid' htk
      have HCL := hid' hcl
      clear hown3 hgrow3 HDa HD HA htk hcl HX
      go_wp2_with fail
      refine HCL.out.mono ?_
      rintro _ w5 ⟨rfl, hq5, hf5⟩
      have HD := hid' (QD.take HP.out.1 HP.out.2.2.1 HP.out.2.2.2.1 HP.out.2.2.2.2 hq5 rfl hf5)
      clear hq5 hf5 HCL HP
      go_wp2
      go_roundw
      case rel => exact ⟨i + 1, v3c, v3o, t1, rfl, rfl, by omega, HTK, HD⟩
      case measure => simp [slLen]; omega
    · obtain rfl : i = n := by have := HN.out; omega
      have HE := hid' (HD.out.end_ (by rw [List.length_map]; exact HN.out))
      clear hx HIN
      go_wp2
      go_ret
      exact ⟨vo, cp, rfl, HE.out⟩

set_option maxHeartbeats 2000000 in
theorem qdrain_nil_S (w : World) : Calls Try.prog 22 #[.pointer none] w fun e w' => (∃ vo cp, e = .returned (.slice vo 0 cp)) ∧ Below w.heap.size w w' := by
  obtain ⟨i0, hi, hz0, hz1, hz2⟩ := qinfo_parts qinfo_S
  have HI := hid' hi
  have HZ0 := hid' hz0
  have HZ1 := hid' hz1
  have HZ2 := hid' hz2
  clear hi hz0 hz1 hz2
  go_enter Try.func22, Try.ntmps22
  go_wp2_with fail
  refine (qlen_nil_S w).mono ?_
  rintro _ w0 ⟨rfl, rfl⟩
  go_wp2_with (refine wpl_make0 43 9 _ _ rfl rfl w0.heap.size i0 _ 1 Try.underlying43 HI.out HZ0.out HZ1.out 0 (by omega) (by unfold maxLen; omega) (Nat.le_refl _) (by kernel_rfl) (by kernel_rfl) ?_)
  intro v4 w4 hown4 hb4
  obtain ⟨vo4, vc4, hv4⟩ := qown_shape hown4
  subst hv4
  have HB4 := hid' hb4
  clear hown4 hb4
  go_wp2_with fail
  refine (qtake_nil_S w4).mono ?_
  rintro _ w4 ⟨rfl, rfl⟩
  go_wp2
  go_loopw [3, 4, 5] (fun s3 s4 s5 wr => s3 = .slice vo4 0 vc4 ∧ s5 = .bool false ∧ wr = w4) (fun _ _ _ _ => 0)
  case atStart => exact ⟨rfl, rfl, rfl⟩
  case round =>
    obtain ⟨rfl, rfl, rfl⟩ := hrel
    go_wp2
    go_ret
    exact ⟨⟨_, _, rfl⟩, HB4.out⟩

end Go.Proofs.Ytdhiaiafdhoeeaa
