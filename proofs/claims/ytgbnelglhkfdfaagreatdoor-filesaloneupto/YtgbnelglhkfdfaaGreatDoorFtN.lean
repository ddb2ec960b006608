/-
  The law's awake, over the code's Answer.
  A file's tag is read as one strong tag, and files of other numbers have others: what is of no program.
  Who has a file and names its tag: plain.
  FilesFresh, over the code's Answer.
-/
import Derived.Test.YtgbnelglhkfdfaaGreatDoorFtL
import Derived.Test.YtgbnelglhkfdfaaGreatDoorFtM
import Derived.Test.YtgbnelglhkfdfaaGreatDoorFtD
namespace Go.Proofs.YtgbnelglhkfdfaaGreatDoor
open Go.RowKit

theorem awP19 : PutOf13 [] 0 ⟨#[47, 119, 47, 97, 46, 116, 120, 116]⟩ ⟨#[104, 101, 108, 108, 111]⟩ 784111777 0 [Fs.eA 1] 1 := .inr (.inr (.inr (.inr ⟨rfl, ⟨by decide, by decide, ⟨by decide, by decide⟩, .inr (by decide)⟩, rfl, rfl⟩)))
theorem szA19 : ∀ e ∈ [Fs.eA 1], EN19 e := by
  intro e he
  rw [List.mem_singleton.1 he]
  exact ⟨by decide, by decide, by decide, by decide, by decide⟩

set_option maxHeartbeats 4000000 in
set_option maxRecDepth 20000 in
theorem awake19 (hA : AnsC19) (w : World) (hT : TB19 w) : Calls Tryz.prog 10 #[] w fun e w' => e = .returned (.bool true) ∧ Below w.heap.size w w' := by
  have HA := hid' hA
  have HT := hid' hT
  clear hA hT
  go_enter Tryz.func10, Tryz.ntmps10
  go_wp2_with fail
  refine (cnew13 w).mono ?_
  rintro _ w1 ⟨⟨b, K1, rfl, hd⟩, hb⟩
  have HD1 := hid' hd
  have HB1 := hid' hb
  clear hd hb
  go_wp2_with fail
  refine (cput13 awP19 _ b K1 w1 HD1.out (by decide) (by decide) (by decide) (by decide)).mono ?_
  rintro _ w2 ⟨rfl, K2, hd, hf, _⟩
  have HD2 := hid' hd
  have HB2 := hid' (HD1.out.bl HB1.out hf)
  clear hd hf HD1 HB1
  go_wp2_with fail
  refine (csnap13 _ b K2 1 [Fs.eA 1] w2 HD2.out).mono ?_
  rintro _ w3 ⟨⟨s, Ks, rfl, hs⟩, hb⟩
  have HS3 := hid' hs
  have HD3 := hid' (HD2.out.keep hb)
  have HB3 := hid' (below_from HB2.out hb HB2.out.size)
  clear hs hb HD2 HB2
  go_wp2_with fail
  refine (HA.out _ s Ks 1 [Fs.eA 1] ⟨#[47, 119]⟩ ⟨#[71, 69, 84]⟩ ⟨#[47, 102, 47, 97, 46, 116, 120, 116]⟩ ⟨#[97, 46, 116, 120, 116]⟩ (.slice none 0 0) [] w3 HS3.out (fw_nil19 _) (by decide) (by decide) (by decide) (by decide) (by decide) (by decide) szA19 (tb_below19 HT.out HB3.out)).mono ?_
  rw [show Fs.ans [Fs.eA 1] (⟨#[47, 119]⟩ : ByteArray).data.toList (⟨#[71, 69, 84]⟩ : ByteArray).data.toList (⟨#[47, 102, 47, 97, 46, 116, 120, 116]⟩ : ByteArray).data.toList (⟨#[97, 46, 116, 120, 116]⟩ : ByteArray).data.toList [] = ⟨200, Fs.head (Fs.kind Fs.pA) (Fs.eA 1), Fs.hello⟩ from Fs.awA 1]
  rintro _ w4 ⟨⟨vo, n, vc, rfl, hfw⟩, hb⟩
  obtain rfl : n = 4 := by obtain ⟨_, _, h⟩ := hfw.shape; injection h
  have HD4 := hid' (HD3.out.keep hb)
  have HB4 := hid' (below_from HB3.out hb HB3.out.size)
  clear hfw hb HD3 HB3 HS3
  unfold rpC
  rw [show Fs.Rp.s ⟨200, Fs.head (Fs.kind Fs.pA) (Fs.eA 1), Fs.hello⟩ = 200 from rfl, show Fs.Rp.b ⟨200, Fs.head (Fs.kind Fs.pA) (Fs.eA 1), Fs.hello⟩ = Fs.hello from rfl]
  unfold Fs.hello
  have HXa : Hid (Ar (w4.alloc (.cells #[.int .i64 200, .slice vo 4 vc, .string ⟨#[104, 101, 108, 108, 111]⟩, .slice none 0 0] 24)) w4.heap.size 24 #[.int .i64 200, .slice vo 4 vc, .string ⟨#[104, 101, 108, 108, 111]⟩, .slice none 0 0]) := hid' (heap_alloc_last w4 _)
  have hbx := bl_alloc19 w4 (.cells #[.int .i64 200, .slice vo 4 vc, .string ⟨#[104, 101, 108, 108, 111]⟩, .slice none 0 0] 24)
  have HD5 := hid' (HD4.out.keep hbx)
  have HB5 := hid' (below_from HB4.out hbx HB4.out.size)
  go_upto_region 5 with fail
  obtain ⟨xa, hxa⟩ : ∃ xa, w4.heap.size = xa := ⟨_, rfl⟩
  rw [hxa] at HXa ⊢
  clear hbx HD4 HB4
  generalize w4.alloc (.cells #[.int .i64 200, .slice vo 4 vc, .string ⟨#[104, 101, 108, 108, 111]⟩, .slice none 0 0] 24) = w5 at *
  clear hxa
  go_wp2_with fail
  refine (csnap13 _ b K2 1 [Fs.eA 1] w5 HD5.out).mono ?_
  rintro _ w6 ⟨⟨s2, Ks2, rfl, hs⟩, hb⟩
  have HS6 := hid' hs
  have HX6 := hid' (HXa.out.keep hb)
  have HD6 := hid' (HD5.out.keep hb)
  have HB6 := hid' (below_from HB5.out hb HB5.out.size)
  clear hs hb HD5 HB5 HXa
  go_wp2_with fail
  have hbl := bl_alloc19 w6 (.cells #[.string ⟨#[114, 97, 110, 103, 101]⟩, .string ⟨#[98, 121, 116, 101, 115, 61, 49, 45, 50]⟩] 42)
  have HL7 : Hid (FW (w6.alloc (.cells #[.string ⟨#[114, 97, 110, 103, 101]⟩, .string ⟨#[98, 121, 116, 101, 115, 61, 49, 45, 50]⟩] 42)) (.slice (some ⟨w6.heap.size, 0, none⟩) 1 1) [Fs.fR]) := hid' (fw_lit19 w6 [Fs.fR] 1 rfl (by decide))
  have HS7 := hid' (HS6.out.keep hbl)
  have HX7 := hid' (HX6.out.keep hbl)
  have HD7 := hid' (HD6.out.keep hbl)
  have HB7 := hid' (below_from HB6.out hbl HB6.out.size)
  clear hbl HS6 HX6 HD6 HB6
  refine (HA.out _ s2 Ks2 1 [Fs.eA 1] ⟨#[47, 119]⟩ ⟨#[71, 69, 84]⟩ ⟨#[47, 102, 47, 97, 46, 116, 120, 116]⟩ ⟨#[97, 46, 116, 120, 116]⟩ (.slice (some ⟨w6.heap.size, 0, none⟩) 1 1) [Fs.fR] _ HS7.out HL7.out (by decide) (by decide) (by decide) (by decide) (by decide) (by decide) szA19 (tb_below19 HT.out HB7.out)).mono ?_
  obtain ⟨fs, hans, hfl⟩ := Fs.awB 1
  rw [show Fs.ans [Fs.eA 1] (⟨#[47, 119]⟩ : ByteArray).data.toList (⟨#[71, 69, 84]⟩ : ByteArray).data.toList (⟨#[47, 102, 47, 97, 46, 116, 120, 116]⟩ : ByteArray).data.toList (⟨#[97, 46, 116, 120, 116]⟩ : ByteArray).data.toList [Fs.fR] = ⟨206, fs, [101, 108]⟩ from hans]
  rintro _ w8 ⟨⟨uo, n, uc, rfl, hfw⟩, hb⟩
  obtain rfl : n = 5 := by obtain ⟨_, _, h⟩ := hfw.shape; injection h with _ h _; rw [h]; exact hfl
  have HX8 := hid' (HX7.out.keep hb)
  have HD8 := hid' (HD7.out.keep hb)
  have HB8 := hid' (below_from HB7.out hb HB7.out.size)
  clear hfw hb HD7 HB7 HX7 HS7 HL7 hans hfl
  unfold rpC
  rw [show Fs.Rp.s ⟨206, fs, [101, 108]⟩ = 206 from rfl, show Fs.Rp.b ⟨206, fs, [101, 108]⟩ = [101, 108] from rfl]
  have HXb : Hid (Ar (w8.alloc (.cells #[.int .i64 206, .slice uo 5 uc, .string ⟨#[101, 108]⟩, .slice none 0 0] 24)) w8.heap.size 24 #[.int .i64 206, .slice uo 5 uc, .string ⟨#[101, 108]⟩, .slice none 0 0]) := hid' (heap_alloc_last w8 _)
  have hbx := bl_alloc19 w8 (.cells #[.int .i64 206, .slice uo 5 uc, .string ⟨#[101, 108]⟩, .slice none 0 0] 24)
  have HD9 := hid' (HD8.out.keep hbx)
  have HX9 := hid' (HX8.out.keep hbx)
  have HB9 := hid' (below_from HB8.out hbx HB8.out.size)
  go_upto_region 6 with fail
  obtain ⟨xb, hxb⟩ : ∃ xb, w8.heap.size = xb := ⟨_, rfl⟩
  rw [hxb] at HXb ⊢
  clear hbx HD8 HB8 HX8
  generalize w8.alloc (.cells #[.int .i64 206, .slice uo 5 uc, .string ⟨#[101, 108]⟩, .slice none 0 0] 24) = w9 at *
  clear hxb
  go_wp2_with fail
  refine (csnap13 _ b K2 1 [Fs.eA 1] w9 HD9.out).mono ?_
  rintro _ w10 ⟨⟨s3, Ks3, rfl, hs⟩, hb⟩
  have HS10 := hid' hs
  have HX10 := hid' (HX9.out.keep hb)
  have HY10 := hid' (HXb.out.keep hb)
  have HB10 := hid' (below_from HB9.out hb HB9.out.size)
  clear hs hb HD9 HB9 HX9 HXb
  go_wp2_with fail
  refine (HA.out _ s3 Ks3 1 [Fs.eA 1] ⟨#[47, 119]⟩ ⟨#[71, 69, 84]⟩ ⟨#[47, 102, 47, 110, 111]⟩ ⟨#[110, 111]⟩ (.slice none 0 0) [] w10 HS10.out (fw_nil19 _) (by decide) (by decide) (by decide) (by decide) (by decide) (by decide) szA19 (tb_below19 HT.out HB10.out)).mono ?_
  rw [show Fs.ans [Fs.eA 1] (⟨#[47, 119]⟩ : ByteArray).data.toList (⟨#[71, 69, 84]⟩ : ByteArray).data.toList (⟨#[47, 102, 47, 110, 111]⟩ : ByteArray).data.toList (⟨#[110, 111]⟩ : ByteArray).data.toList [] = ⟨404, [Fs.fT], [52, 48, 52, 10]⟩ from (Fs.awC 1).trans (by unfold Fs.plain Fs.bd; rw [show Lib.itoa 404 = [52, 48, 52] by decide +kernel]; rfl)]
  rintro _ w11 ⟨⟨zo, zn, zc, rfl, _⟩, hb⟩
  have HX11 := hid' (HX10.out.keep hb)
  have HY11 := hid' (HY10.out.keep hb)
  have HB11 := hid' (below_from HB10.out hb HB10.out.size)
  clear hb HB10 HX10 HY10 HS10
  unfold rpC
  rw [show Fs.Rp.s ⟨404, [Fs.fT], [52, 48, 52, 10]⟩ = 404 from rfl, show Fs.Rp.b ⟨404, [Fs.fT], [52, 48, 52, 10]⟩ = [52, 48, 52, 10] from rfl]
  have HXc : Hid (Ar (w11.alloc (.cells #[.int .i64 404, .slice zo zn zc, .string ⟨#[52, 48, 52, 10]⟩, .slice none 0 0] 24)) w11.heap.size 24 #[.int .i64 404, .slice zo zn zc, .string ⟨#[52, 48, 52, 10]⟩, .slice none 0 0]) := hid' (heap_alloc_last w11 _)
  have hbx := bl_alloc19 w11 (.cells #[.int .i64 404, .slice zo zn zc, .string ⟨#[52, 48, 52, 10]⟩, .slice none 0 0] 24)
  have HX12 := hid' (HX11.out.keep hbx)
  have HY12 := hid' (HY11.out.keep hbx)
  have HB12 := hid' (below_from HB11.out hbx HB11.out.size)
  go_upto_region 7 with fail
  obtain ⟨xc, hxc⟩ : ∃ xc, w11.heap.size = xc := ⟨_, rfl⟩
  rw [hxc] at HXc ⊢
  clear hbx HB11 HX11 HY11
  generalize w11.alloc (.cells #[.int .i64 404, .slice zo zn zc, .string ⟨#[52, 48, 52, 10]⟩, .slice none 0 0] 24) = w12 at *
  clear hxc
  have a0 := HX12.out.cell 0 _ rfl
  have a1 := HX12.out.cell 1 _ rfl
  have a2 := HX12.out.cell 2 _ rfl
  have b0 := HY12.out.cell 0 _ rfl
  have b1 := HY12.out.cell 1 _ rfl
  have b2 := HY12.out.cell 2 _ rfl
  have c0 := HXc.out.cell 0 _ rfl
  have c2 := HXc.out.cell 2 _ rfl
  go_wp2
  go_ret
  exact ⟨rfl, HB12.out⟩

end Go.Proofs.YtgbnelglhkfdfaaGreatDoor

namespace Go.Proofs.YtgbnelglhkfdfaaGreatDoor

namespace Tg
theorem itoa_dig : ∀ (m : Nat) (n : Int), 0 ≤ n → n.natAbs ≤ m → ∀ c ∈ Lib.itoa n, 48 ≤ c.toNat ∧ c.toNat ≤ 57 := by
  intro m
  induction m with
  | zero =>
    intro n h0 h1 c hc
    obtain rfl : n = 0 := by omega
    rw [Tx.itoa_lo 0 (by omega) (by omega)] at hc
    simp at hc
    subst hc
    decide
  | succ m ih =>
    intro n h0 h1 c hc
    by_cases h : n < 10
    · rw [Tx.itoa_lo n h0 h] at hc
      simp only [List.mem_singleton] at hc
      subst hc
      rw [UInt8.toNat_ofNat']
      omega
    · rw [Tx.itoa_hi n (by omega)] at hc
      rcases List.mem_append.1 hc with hc | hc
      · exact ih (n / 10) (by omega) (by omega) c hc
      · simp only [List.mem_singleton] at hc
        subst hc
        rw [UInt8.toNat_ofNat']
        omega
theorem dig (n : Int) (h : 0 ≤ n) : ∀ c ∈ Lib.itoa n, 48 ≤ c.toNat ∧ c.toNat ≤ 57 := itoa_dig _ n h (Nat.le_refl _)
theorem et_dig {c : UInt8} (h : 48 ≤ c.toNat ∧ c.toNat ≤ 57) : etB c = true := by
  unfold etB etC
  rw [decide_eq_true (show (35 : Int) ≤ (c.toNat : Int) by omega), decide_eq_true (show ((c.toNat : Int)) ≤ 126 by omega)]
  simp
theorem inn_all {D r : List UInt8} {c : UInt8} (h : ∀ x ∈ D, etB x = true) (hc : etB c = false) : inn (D ++ c :: r) = D.length := by
  unfold inn
  induction D with
  | nil => simp [hc]
  | cons a t ih =>
    rw [List.cons_append, List.takeWhile_cons, h a (by simp)]
    simp only [if_true, List.length_cons]
    rw [ih (fun x hx => h x (by simp [hx]))]
/-- A quoted text. -/
theorem quoted {D : List UInt8} (h : ∀ x ∈ D, etB x = true) (l : List UInt8) (hl : l = 34 :: (D ++ [34])) : star l = false ∧ tags l = [⟨false, l⟩] ∧ err l = 0 := by
  have hwk : wk l = false := by rw [hl]; unfold wk; cases D <;> simp
  have hwn : wn l = 0 := by unfold wn; rw [hwk]; rfl
  have hop : opq l = 34 :: (D ++ [34]) := by unfold opq; rw [hwn, hl]; rfl
  have hsz : sz l = D.length := by
    unfold sz; rw [hop]
    exact inn_all h (by decide)
  have hone : isOne l = true := by
    unfold isOne
    rw [hop, hsz]
    rw [show 1 + D.length = D.length + 1 by omega, List.drop_succ_cons, List.drop_left]
    rfl
  have hlen : l.length = D.length + 2 := by rw [hl]; simp
  have hn : nOf l = l.length := by unfold nOf; rw [hwn, hsz, hlen]; omega
  have htag : tagOf l = ⟨false, l⟩ := by
    unfold tagOf
    rw [hwk, hsz, hop, ← hl, List.take_of_length_le (by omega)]
  have hst : star l = false := by
    unfold star
    have ht : Tx.trim l = l := by
      unfold Tx.trim
      have h1 : Tx.trimL l = l := Tx.trimL_stop l (fun x hx => by rw [hl] at hx; simp at hx; subst hx; decide)
      rw [h1]
      exact Tx.trimR_stop l (fun x hx => by
        rw [hl, show (34 : UInt8) :: (D ++ [34]) = (34 :: D) ++ [34] from rfl, List.getLast?_append] at hx
        simp at hx; subst hx; decide)
    rw [ht, Bool.eq_false_iff]
    intro e
    have := congrArg List.length (eq_of_beq e)
    rw [hlen] at this
    simp at this
  have hgo : go true l = some [⟨false, l⟩] := by
    have h1 := go_other true 34 (D ++ [34]) (by decide) (by decide)
    rw [← hl, hone, hn, htag, List.drop_eq_nil_of_le (Nat.le_refl _), go_nil] at h1
    rw [h1]; rfl
  obtain ⟨t1, t2⟩ := done_some hst hgo
  exact ⟨hst, t1, by rw [t2]; rfl⟩
theorem mk_dig (q : Int) (n : Nat) : ∀ x ∈ Lib.itoa (max q 0) ++ 45 :: Lib.itoa (n : Int), etB x = true := by
  intro x hx
  rcases List.mem_append.1 hx with hx | hx
  · exact et_dig (dig _ (by omega) x hx)
  · rcases List.mem_cons.1 hx with rfl | hx
    · decide
    · exact et_dig (dig _ (by omega) x hx)
theorem mk_read (q : Int) (n : Nat) : star (mk q n) = false ∧ tags (mk q n) = [⟨false, mk q n⟩] ∧ err (mk q n) = 0 := by
  refine quoted (D := Lib.itoa (max q 0) ++ 45 :: Lib.itoa (n : Int)) (mk_dig q n) _ ?_
  unfold mk
  simp
theorem mk_len (q : Int) (n : Nat) (q1 : q ≤ 9223372036854775807) (n1 : n ≤ 9223372036854775807) : (mk q n).length ≤ 100 := by
  have h1 := Tx.itoa_le (max q 0) 19 (by omega)
  have h2 := Tx.itoa_le (n : Int) 19 (by omega)
  unfold mk
  simp
  omega
theorem cut45 {a b x y : List UInt8} (ha : ∀ c ∈ a, c ≠ 45) (hb : ∀ c ∈ b, c ≠ 45) (h : a ++ 45 :: x = b ++ 45 :: y) : a = b := by
  induction a generalizing b with
  | nil =>
    cases b with
    | nil => rfl
    | cons d t => simp at h; exact absurd h.1.symm (hb d (by simp))
  | cons c r ih =>
    cases b with
    | nil => simp at h; exact absurd h.1 (ha c (by simp))
    | cons d t =>
      simp at h
      obtain ⟨rfl, h⟩ := h
      rw [ih (fun c hc => ha c (by simp [hc])) (fun c hc => hb c (by simp [hc])) h]
theorem no45 (n : Int) (h : 0 ≤ n) : ∀ c ∈ Lib.itoa n, c ≠ 45 := fun c hc e => by
  have := (dig n h c hc).1
  rw [e] at this
  revert this; decide
theorem mk_ne {q q' : Int} {n n' : Nat} (q1 : q ≤ 9223372036854775807) (q2 : q' ≤ 9223372036854775807) (h : max q 0 ≠ max q' 0) : mk q n ≠ mk q' n' := by
  intro e
  unfold mk at e
  have e2 := (List.cons.inj e).2
  have e3 := cut45 (no45 _ (by omega)) (no45 _ (by omega)) e2
  have a1 := Tx.num_itoa (max q 0) (by omega) (by omega) 0
  have a2 := Tx.num_itoa (max q' 0) (by omega) (by omega) 0
  rw [e3, a2] at a1
  injection a1 with a1
  exact h a1.symm
theorem aw1 : star [34, 97, 34, 44, 32, 87, 47, 34, 98, 34, 32, 44] = false ∧ tags [34, 97, 34, 44, 32, 87, 47, 34, 98, 34, 32, 44] = [⟨false, [34, 97, 34]⟩, ⟨true, [34, 98, 34]⟩] ∧ err [34, 97, 34, 44, 32, 87, 47, 34, 98, 34, 32, 44] = 0 := by
  have hs : star [34, 97, 34, 44, 32, 87, 47, 34, 98, 34, 32, 44] = false := by decide
  have hg : go true [34, 97, 34, 44, 32, 87, 47, 34, 98, 34, 32, 44] = some [⟨false, [34, 97, 34]⟩, ⟨true, [34, 98, 34]⟩] := by
    rw [go_other true 34 _ (by decide) (by decide), show isOne [34, 97, 34, 44, 32, 87, 47, 34, 98, 34, 32, 44] = true by decide, show nOf [34, 97, 34, 44, 32, 87, 47, 34, 98, 34, 32, 44] = 3 by decide]
    rw [show List.drop 3 [(34 : UInt8), 97, 34, 44, 32, 87, 47, 34, 98, 34, 32, 44] = [44, 32, 87, 47, 34, 98, 34, 32, 44] from rfl, go_comma, go_blank true 32 _ (by decide)]
    rw [go_other true 87 _ (by decide) (by decide), show isOne [87, 47, 34, 98, 34, 32, 44] = true by decide, show nOf [87, 47, 34, 98, 34, 32, 44] = 5 by decide]
    rw [show List.drop 5 [(87 : UInt8), 47, 34, 98, 34, 32, 44] = [32, 44] from rfl, go_blank false 32 _ (by decide), go_comma, go_nil]
    rfl
  obtain ⟨t1, t2⟩ := done_some hs hg
  exact ⟨hs, t1, by rw [t2]; rfl⟩
theorem aw2 : star [97] = false ∧ tags [97] = [] ∧ err [97] = 150 := by
  have hs : star [97] = false := by decide
  have hg : go true [97] = none := by
    rw [go_other true 97 _ (by decide) (by decide), show isOne [97] = false by decide]; rfl
  obtain ⟨t1, t2⟩ := done_none hs hg
  exact ⟨hs, t1, t2⟩
theorem aw3 : mk 3 5 = [34, 51, 45, 53, 34] := by
  unfold mk
  rw [show max (3 : Int) 0 = 3 by decide, show ((5 : Nat) : Int) = 5 from rfl, Tx.itoa_lo 3 (by decide) (by decide), Tx.itoa_lo 5 (by decide) (by decide)]
  rfl
end Tg
end Go.Proofs.YtgbnelglhkfdfaaGreatDoor

namespace Go.Proofs.YtgbnelglhkfdfaaGreatDoor

namespace Fs
def tX : T8 := [47, 120]
def sX : T8 := [120]
def pX : ByteArray := ⟨#[47, 119, 47, 120]⟩
def eX (y : ByteArray) (t q : Int) : Dk.En := ⟨pX, y, t, q⟩
theorem okX (y : ByteArray) (t q : Int) : Dk.Ok [eX y t q] := List.pairwise_singleton _ _
theorem getX (y : ByteArray) (t q : Int) : Dk.get (name rW sX) [eX y t q] = some (eX y t q) := (Dk.get_some (okX y t q)).2 ⟨List.mem_singleton.2 rfl, rfl⟩
/-- The whole file, without a condition. -/
theorem ans_whole (y : ByteArray) (t q : Int) : ans [eX y t q] rW mGET tX sX [] = ⟨200, head (kind (name rW sX)) (eX y t q), y.data.toList⟩ := by
  unfold ans ansOf
  rw [getX]
  simp only []
  rw [dec_none [] _ _ rfl rfl rfl rfl]
  unfold part
  rw [sam_none [] _ _ rfl]
  rfl
/-- A field that names a tag. -/
def fN (m : T8) : Fd := ⟨⟨#[105, 102, 45, 110, 111, 110, 101, 45, 109, 97, 116, 99, 104]⟩, str m⟩
theorem vals_fN (m nm : T8) (h : (Tg.nNM == nm) = false) : Tg.vals [fN m] nm = [] := by
  unfold Tg.vals
  rw [List.filter_cons_of_neg (by rw [show (fN m).n.data.toList = Tg.nNM from rfl, h]; decide)]
  rfl
theorem vals_fN2 (m : T8) : Tg.vals [fN m] Tg.nNM = [m] := by
  unfold Tg.vals
  rw [List.filter_cons_of_pos (by rw [show (fN m).n.data.toList = Tg.nNM from rfl]; decide)]
  rfl
theorem dec_tag (m m' : T8) (t : Int) (hs : Tg.star m = false) (ht : Tg.tags m = [⟨false, m⟩]) : Tg.dec true [fN m] m' t = if m == m' then 304 else 0 := by
  have hm : Tg.may [fN m] m' t = true := by
    unfold Tg.may Tg.dte
    rw [vals_fN m _ (by decide), vals_fN m _ (by decide)]
    rfl
  have hj : Tg.vjoin [fN m] Tg.nNM = m := by
    unfold Tg.vjoin
    rw [vals_fN2]
    exact Lib.join_one _ _
  have hn : Tg.nmB Tg.weak m m' = (m == m') := by
    unfold Tg.nmB
    rw [hs, ht]
    simp [Tg.weak]
  unfold Tg.dec
  rw [hm, vals_fN2, hj, hn]
  rfl
/-- Who names the tag of the file. -/
theorem ans_same (y : ByteArray) (t q : Int) : ans [eX y t q] rW mGET tX sX [fN (Tg.mk q y.size)] = ⟨304, [fd nET (Tg.mk q y.size), fd nLM (fmt t)], []⟩ := by
  obtain ⟨h1, h2, _⟩ := Tg.mk_read q y.size
  unfold ans ansOf
  rw [getX]
  simp only []
  have hd : Tg.dec true [fN (Tg.mk q y.size)] (Tg.mk (eX y t q).seq (eX y t q).body.size) (eX y t q).time = 304 := by
    rw [dec_tag _ _ _ h1 h2]
    exact if_pos (beq_self_eq_true _)
  rw [hd]
  rfl
/-- Who names another. -/
theorem ans_other (y : ByteArray) (t q : Int) (m : T8) (hs : Tg.star m = false) (ht : Tg.tags m = [⟨false, m⟩]) (hm : m ≠ Tg.mk q y.size) : ans [eX y t q] rW mGET tX sX [fN m] = ⟨200, head (kind (name rW sX)) (eX y t q), y.data.toList⟩ := by
  unfold ans ansOf
  rw [getX]
  simp only []
  have hd : Tg.dec true [fN m] (Tg.mk (eX y t q).seq (eX y t q).body.size) (eX y t q).time = 0 := by
    rw [dec_tag _ _ _ hs ht]
    exact if_neg (by rw [beq_iff_eq]; exact hm)
  rw [hd]
  unfold part
  rw [sam_none [fN m] _ _ (vals_fN m _ (by decide)), vals_fN m _ (by decide)]
  rfl
end Fs
end Go.Proofs.YtgbnelglhkfdfaaGreatDoor

namespace Go.Proofs.YtgbnelglhkfdfaaGreatDoor
open Go.RowKit

theorem fw_lf19 {S : Nat → Prop} {w w' : World} {a : Addr} {n cap : Nat} {l : List Fd} (h : FW w (.slice (some a) n cap) l) (hf : LF S w w') (hs : ¬ S a.block) : FW w' (.slice (some a) n cap) l := by
  rcases h with ⟨h, _⟩ | ⟨a', cap', hv, hcp, hc⟩
  · cases h
  · injection hv with e1 e2 e3
    injection e1 with e1
    subst e1 e2 e3
    refine .inr ⟨a, cap, rfl, hcp, fun j u hj => ?_⟩
    obtain ⟨h1, h2⟩ := hc j u hj
    have hb : (a.add j).block = a.block := by unfold Addr.add; split <;> rfl
    exact ⟨Nat.lt_of_lt_of_le h1 hf.size, (World.cell?_of_block (hf.block _ h1 (by rw [hb]; exact hs))).trans h2⟩
theorem putX19 {y : ByteArray} {t c : Int} {es' : List Dk.En} {q' : Int} (h : PutOf13 [] 0 ⟨#[47, 119, 47, 120]⟩ y t c es' q') (hc : c = 0) : es' = [Fs.eX y t 1] ∧ q' = 1 ∧ y.size ≤ 65536 ∧ 0 ≤ t ∧ t ≤ 253402300799 := by
  subst hc
  rcases h with ⟨h, _⟩ | ⟨h, _⟩ | ⟨h, _⟩ | ⟨h, _⟩ | ⟨_, ⟨_, h1, h4, _⟩, h2, h3⟩
  · cases h
  · cases h
  · cases h
  · cases h
  · exact ⟨h2.trans rfl, h3, h1, h4.1, h4.2⟩
theorem putX219 {y y0 : ByteArray} {t t0 c : Int} {es' : List Dk.En} {q' : Int} (h : PutOf13 [Fs.eX y0 t0 1] 1 ⟨#[47, 119, 47, 120]⟩ y t c es' q') (hc : c = 0) : es' = [Fs.eX y t 2] ∧ q' = 2 ∧ y.size ≤ 65536 ∧ 0 ≤ t ∧ t ≤ 253402300799 := by
  subst hc
  rcases h with ⟨h, _⟩ | ⟨h, _⟩ | ⟨h, _⟩ | ⟨h, _⟩ | ⟨_, ⟨_, h1, h4, _⟩, h2, h3⟩
  · cases h
  · cases h
  · cases h
  · cases h
  · refine ⟨h2.trans ?_, h3, h1, h4.1, h4.2⟩
    obtain ⟨A, f, R, e1, e2, e3, _⟩ := Dk.put_yes [Fs.eX y0 t0 1] ⟨⟨#[47, 119, 47, 120]⟩, y, t, 1 + 1⟩ (Fs.okX y0 t0 1) (by unfold Dk.has; rw [show Dk.ks [Fs.eX y0 t0 1] = [[47, 119, 47, 120]] from rfl]; exact decide_eq_true (List.mem_singleton.2 rfl))
    rw [e3]
    cases A with
    | nil =>
      cases R with
      | nil => rfl
      | cons a r => simp at e1
    | cons a r => simp at e1

set_option maxHeartbeats 4000000 in
set_option maxRecDepth 20000 in
theorem filesFresh_any (hA : AnsC19) (y : ByteArray) (t q : Int) (y2 : ByteArray) (t2 q2 : Int) (hy : y.size ≤ 140737488425328) (hy2 : y2.size ≤ 140737488425328) (w : World) (hT : TB19 w) :
    Calls Tryz.prog 6 #[.agg (flC y t q), .agg (flC y2 t2 q2)] w fun e w' => e = .returned (.bool true) ∧ Below w.heap.size w w' := by
  have HA := hid' hA
  have HT := hid' hT
  have HY := hid' hy
  have HY2 := hid' hy2
  unfold flC
  clear hA hT hy hy2
  go_enter Tryz.func6, Tryz.ntmps6
  have HXo : Hid (Ar ((w.alloc (.cells #[.string y, .int .i64 t, .int .i64 q] 31)).alloc (.cells #[.string y2, .int .i64 t2, .int .i64 q2] 31)) w.heap.size 31 #[.string y, .int .i64 t, .int .i64 q]) := hid' (Ar.keep (heap_alloc_last w _) (bl_alloc19 _ _))
  have HXf : Hid (Ar ((w.alloc (.cells #[.string y, .int .i64 t, .int .i64 q] 31)).alloc (.cells #[.string y2, .int .i64 t2, .int .i64 q2] 31)) (w.alloc (.cells #[.string y, .int .i64 t, .int .i64 q] 31)).heap.size 31 #[.string y2, .int .i64 t2, .int .i64 q2]) := hid' (heap_alloc_last _ _)
  have HB0 := hid' (below_two (bl_alloc19 w (.cells #[.string y, .int .i64 t, .int .i64 q] 31)) (bl_alloc19 (w.alloc (.cells #[.string y, .int .i64 t, .int .i64 q] 31)) (.cells #[.string y2, .int .i64 t2, .int .i64 q2] 31)))
  have hsz : (w.alloc (.cells #[.string y, .int .i64 t, .int .i64 q] 31)).heap.size = w.heap.size + 1 := by simp
  rw [hsz] at HXf
  go_upto_region 2 with fail
  obtain ⟨xo, hxo⟩ : ∃ xo, w.heap.size = xo := ⟨_, rfl⟩
  rw [hxo] at HXo HXf ⊢
  obtain ⟨xf, hxf⟩ : ∃ xf, xo + 1 = xf := ⟨_, rfl⟩
  rw [hxf] at HXf ⊢
  generalize (w.alloc (.cells #[.string y, .int .i64 t, .int .i64 q] 31)).alloc (.cells #[.string y2, .int .i64 t2, .int .i64 q2] 31) = w0 at *
  clear hsz hxo hxf
  go_wp2_with fail
  refine (cnew13 w0).mono ?_
  rintro _ w1 ⟨⟨b, K1, rfl, hd⟩, hb⟩
  have HD1 := hid' hd
  have HB1 := hid' (below_two HB0.out hb)
  have HO1 := hid' (HXo.out.keep hb)
  have HF1 := hid' (HXf.out.keep hb)
  have HL0 : Hid (xo < w0.heap.size ∧ xf < w0.heap.size) := hid' ⟨HXo.out.lt, HXf.out.lt⟩
  clear hd hb HXo HXf
  obtain ⟨c, es, q1, hput⟩ := putOf13_ex [] 0 ⟨#[47, 119, 47, 120]⟩ y t
  have o0 := HO1.out.cell 0 _ rfl
  have o1 := HO1.out.cell 1 _ rfl
  have hyy : y.size ≤ 140737488425328 := HY.out
  go_wp2_with fail
  refine (cput13 hput _ b K1 w1 HD1.out (by decide) hyy (by decide) (by decide)).mono ?_
  rintro _ w2 ⟨rfl, K2, hd, hf, _⟩
  have HB2 := hid' (HB1.out.trans (hf.below HB1.out.size (fun k hk => Nat.le_trans HB0.out.size (HD1.out.lt k hk).1)))
  have HO2 := hid' (hf.ar HO1.out (fun hk => by have h1 := (HD1.out.lt _ hk).1; have h2 := HL0.out.1; omega))
  have HF2 := hid' (hf.ar HF1.out (fun hk => by have h1 := (HD1.out.lt _ hk).1; have h2 := HL0.out.2; omega))
  have HD2 := hid' hd
  clear hd hf HD1 HB1 HO1 HF1 o0 o1
  by_cases hc0 : c = 0
  · obtain ⟨rfl, rfl, hys, ht0, ht1⟩ := putX19 hput hc0
    subst hc0
    have HYS := hid' hys
    have HZ : Hid (∀ e ∈ [Fs.eX y t 1], EN19 e) := hid' (by intro e he; rw [List.mem_singleton.1 he]; exact ⟨hys, ht0, ht1, show (0 : Int) ≤ 1 by decide, show (1 : Int) ≤ 9223372036854775807 by decide⟩)
    clear hput hys hyy ht0 ht1
    go_wp2_with fail
    refine (csnap13 _ b K2 1 [Fs.eX y t 1] w2 HD2.out).mono ?_
    rintro _ w3 ⟨⟨s, Ks, rfl, hs⟩, hb⟩
    have HS3 := hid' hs
    have HD3 := hid' (HD2.out.keep hb)
    have HO3 := hid' (HO2.out.keep hb)
    have HF3 := hid' (HF2.out.keep hb)
    have HB3 := hid' (below_from HB2.out hb HB2.out.size)
    clear hs hb HD2 HB2 HO2 HF2
    go_wp2_with fail
    refine (HA.out _ s Ks 1 [Fs.eX y t 1] ⟨#[47, 119]⟩ ⟨#[71, 69, 84]⟩ ⟨#[47, 120]⟩ ⟨#[120]⟩ (.slice none 0 0) [] w3 HS3.out (fw_nil19 _) (by decide) (by decide) (by decide) (by decide) (by decide) (by decide) HZ.out (tb_below19 HT.out HB3.out)).mono ?_
    rw [show Fs.ans [Fs.eX y t 1] (⟨#[47, 119]⟩ : ByteArray).data.toList (⟨#[71, 69, 84]⟩ : ByteArray).data.toList (⟨#[47, 120]⟩ : ByteArray).data.toList (⟨#[120]⟩ : ByteArray).data.toList [] = ⟨200, Fs.head (Fs.kind (Fs.name Fs.rW Fs.sX)) (Fs.eX y t 1), y.data.toList⟩ from Fs.ans_whole y t 1]
    rintro _ w4 ⟨⟨vo, n, vc, rfl, hfw⟩, hb⟩
    obtain rfl : n = 4 := by obtain ⟨_, _, h⟩ := hfw.shape; injection h
    have HW4 := hid' hfw
    have HD4 := hid' (HD3.out.keep hb)
    have HO4 := hid' (HO3.out.keep hb)
    have HF4 := hid' (HF3.out.keep hb)
    have HB4 := hid' (below_from HB3.out hb HB3.out.size)
    clear hfw hb HD3 HB3 HS3 HO3 HF3
    unfold rpC
    rw [show Fs.Rp.s ⟨200, Fs.head (Fs.kind (Fs.name Fs.rW Fs.sX)) (Fs.eX y t 1), y.data.toList⟩ = 200 from rfl, show (⟨(Fs.Rp.b ⟨200, Fs.head (Fs.kind (Fs.name Fs.rW Fs.sX)) (Fs.eX y t 1), y.data.toList⟩).toArray⟩ : ByteArray) = y from rfl]
    have hbx := bl_alloc19 w4 (.cells #[.int .i64 200, .slice vo 4 vc, .string y, .slice none 0 0] 24)
    have HX5 : Hid (Ar (w4.alloc (.cells #[.int .i64 200, .slice vo 4 vc, .string y, .slice none 0 0] 24)) w4.heap.size 24 #[.int .i64 200, .slice vo 4 vc, .string y, .slice none 0 0]) := hid' (heap_alloc_last w4 _)
    have HW5 := hid' (HW4.out.keep hbx)
    have HDK : Hid (∀ k, K2 k → k < w4.heap.size) := hid' (fun k hk => (HD4.out.lt k hk).2)
    have HD5 := hid' (HD4.out.keep hbx)
    have HO5 := hid' (HO4.out.keep hbx)
    have HF5 := hid' (HF4.out.keep hbx)
    have HB5 := hid' (below_from HB4.out hbx HB4.out.size)
    clear hbx HW4 HD4 HO4 HF4 HB4
    have o0 := HO5.out.cell 0 _ rfl
    have eyy : (y.toList == y.toList) = true := beq_self_eq_true _
    have eyn : (y.toList != y.toList) = false := by simp
    obtain ⟨ad, hvo, x0, x1⟩ := HW5.out.two 1 (Fs.fd Fs.nET (Tg.mk 1 y.size)) rfl
    have HVC := hid' (HW5.out)
    subst hvo
    rw [show (1 : Nat) * 2 = 2 from rfl] at x0 x1
    have x0' : (w4.alloc (.cells #[.int .i64 200, .slice (some ad) 4 vc, .string y, .slice none 0 0] 24)).cell? ⟨ad.block, ad.off + 2, none⟩ = some (.string ⟨#[101, 116, 97, 103]⟩) := x0
    have x1' : (w4.alloc (.cells #[.int .i64 200, .slice (some ad) 4 vc, .string y, .slice none 0 0] 24)).cell? ⟨ad.block, ad.off + 2 + 1, none⟩ = some (.string ⟨(Tg.mk 1 y.size).toArray⟩) := x1
    go_wp2_with fail
    have hbl := bl_alloc19 (w4.alloc (.cells #[.int .i64 200, .slice (some ad) 4 vc, .string y, .slice none 0 0] 24)) (.cells #[.string ⟨#[105, 102, 45, 110, 111, 110, 101, 45, 109, 97, 116, 99, 104]⟩, .string ⟨(Tg.mk 1 y.size).toArray⟩] 42)
    have hsz : (w4.alloc (.cells #[.int .i64 200, .slice (some ad) 4 vc, .string y, .slice none 0 0] 24)).heap.size = w4.heap.size + 1 := by simp
    have HL6 : Hid (FW ((w4.alloc (.cells #[.int .i64 200, .slice (some ad) 4 vc, .string y, .slice none 0 0] 24)).alloc (.cells #[.string ⟨#[105, 102, 45, 110, 111, 110, 101, 45, 109, 97, 116, 99, 104]⟩, .string ⟨(Tg.mk 1 y.size).toArray⟩] 42)) (.slice (some ⟨w4.heap.size + 1, 0, none⟩) 1 1) [Fs.fN (Tg.mk 1 y.size)]) := hid' (by rw [← hsz]; exact fw_lit19 (w4.alloc (.cells #[.int .i64 200, .slice (some ad) 4 vc, .string y, .slice none 0 0] 24)) [Fs.fN (Tg.mk 1 y.size)] 1 rfl (by decide))
    have HX6 := hid' (HX5.out.keep hbl)
    have HW6 := hid' (HW5.out.keep hbl)
    have HD6 := hid' (HD5.out.keep hbl)
    have HF6 := hid' (HF5.out.keep hbl)
    have HB6 := hid' (below_from HB5.out hbl HB5.out.size)
    clear hbl HX5 HW5 HD5 HF5 HB5 HO5 o0 x0 x1 x0' x1' HVC hsz
    refine (csnap13 _ b K2 1 [Fs.eX y t 1] _ HD6.out).mono ?_
    rintro _ w7 ⟨⟨s2, Ks2, rfl, hs⟩, hb⟩
    have HS7 := hid' hs
    have HL7 := hid' (HL6.out.keep hb)
    have HX7 := hid' (HX6.out.keep hb)
    have HW7 := hid' (HW6.out.keep hb)
    have HD7 := hid' (HD6.out.keep hb)
    have HF7 := hid' (HF6.out.keep hb)
    have HB7 := hid' (below_from HB6.out hb HB6.out.size)
    clear hs hb HX6 HW6 HD6 HF6 HB6 HL6
    have HKL : Hid (∀ k, K2 k → k < w4.heap.size + 1) := hid' (fun k hk => Nat.lt_succ_of_lt (HDK.out k hk))
    clear HDK
    generalize w4.heap.size + 1 = lb at *
    generalize w4.heap.size = xa at *
    have hvz : Tg.vsz [Fs.fN (Tg.mk 1 y.size)] ≤ 1048576 := by
      have h1 := Tg.mk_len 1 y.size (by decide) (by have := HYS.out; omega)
      have h2 : Tg.vsz [Fs.fN (Tg.mk 1 y.size)] = (Tg.mk 1 y.size).length + 2 := rfl
      omega
    have HVZ := hid' hvz
    clear hvz
    go_wp2_with fail
    refine (HA.out _ s2 Ks2 1 [Fs.eX y t 1] ⟨#[47, 119]⟩ ⟨#[71, 69, 84]⟩ ⟨#[47, 120]⟩ ⟨#[120]⟩ (.slice (some ⟨lb, 0, none⟩) 1 1) [Fs.fN (Tg.mk 1 y.size)] w7 HS7.out HL7.out (Nat.le_of_ble_eq_true rfl) HVZ.out (by decide) (by decide) (by decide) (by decide) HZ.out (tb_below19 HT.out HB7.out)).mono ?_
    rw [show Fs.ans [Fs.eX y t 1] (⟨#[47, 119]⟩ : ByteArray).data.toList (⟨#[71, 69, 84]⟩ : ByteArray).data.toList (⟨#[47, 120]⟩ : ByteArray).data.toList (⟨#[120]⟩ : ByteArray).data.toList [Fs.fN (Tg.mk 1 y.size)] = ⟨304, [Fs.fd Fs.nET (Tg.mk 1 y.size), Fs.fd Fs.nLM (Fs.fmt t)], []⟩ from Fs.ans_same y t 1]
    rintro _ w8 ⟨⟨uo, n, uc, rfl, hfw⟩, hb⟩
    obtain rfl : n = 2 := by obtain ⟨_, _, h⟩ := hfw.shape; injection h
    have HU8 := hid' hfw
    have HL8 := hid' (HL7.out.keep hb)
    have HX8 := hid' (HX7.out.keep hb)
    have HW8 := hid' (HW7.out.keep hb)
    have HD8 := hid' (HD7.out.keep hb)
    have HF8 := hid' (HF7.out.keep hb)
    have HB8 := hid' (below_from HB7.out hb HB7.out.size)
    clear hfw hb HX7 HW7 HD7 HF7 HB7 HL7 HS7
    unfold rpC
    rw [show Fs.Rp.s ⟨304, [Fs.fd Fs.nET (Tg.mk 1 y.size), Fs.fd Fs.nLM (Fs.fmt t)], []⟩ = 304 from rfl, show (⟨(Fs.Rp.b ⟨304, [Fs.fd Fs.nET (Tg.mk 1 y.size), Fs.fd Fs.nLM (Fs.fmt t)], []⟩).toArray⟩ : ByteArray) = ⟨#[]⟩ from rfl]
    have hbx := bl_alloc19 w8 (.cells #[.int .i64 304, .slice uo 2 uc, .string ⟨#[]⟩, .slice none 0 0] 24)
    have HY9 : Hid (Ar (w8.alloc (.cells #[.int .i64 304, .slice uo 2 uc, .string ⟨#[]⟩, .slice none 0 0] 24)) w8.heap.size 24 #[.int .i64 304, .slice uo 2 uc, .string ⟨#[]⟩, .slice none 0 0]) := hid' (heap_alloc_last w8 _)
    have HU9 := hid' (HU8.out.keep hbx)
    have HL9 := hid' (HL8.out.keep hbx)
    have HX9 := hid' (HX8.out.keep hbx)
    have HW9 := hid' (HW8.out.keep hbx)
    have HD9 := hid' (HD8.out.keep hbx)
    have HF9 := hid' (HF8.out.keep hbx)
    have HB9 := hid' (below_from HB8.out hbx HB8.out.size)
    clear hbx HU8 HL8 HX8 HW8 HD8 HF8 HB8
    go_upto_region 11 with fail
    obtain ⟨xb, hxb⟩ : ∃ xb, w8.heap.size = xb := ⟨_, rfl⟩
    rw [hxb] at HY9 ⊢
    generalize w8.alloc (.cells #[.int .i64 304, .slice uo 2 uc, .string ⟨#[]⟩, .slice none 0 0] 24) = w9 at *
    clear hxb
    obtain ⟨ad', hvo, x0, x1⟩ := HW9.out.two 1 (Fs.fd Fs.nET (Tg.mk 1 y.size)) rfl
    obtain rfl : ad = ad' := by injection hvo
    obtain ⟨au, huo, z0, z1⟩ := HU9.out.two 0 (Fs.fd Fs.nET (Tg.mk 1 y.size)) rfl
    subst huo
    have x0' : w9.cell? ⟨ad.block, ad.off + 2, none⟩ = some (.string ⟨#[101, 116, 97, 103]⟩) := x0
    have x1' : w9.cell? ⟨ad.block, ad.off + 2 + 1, none⟩ = some (.string ⟨(Tg.mk 1 y.size).toArray⟩) := x1
    have hau : au.add (0 * 2) = au := by simp [Addr.add]
    rw [hau] at z0 z1
    have z0' : w9.cell? au = some (.string ⟨#[101, 116, 97, 103]⟩) := z0
    have z1' : w9.cell? ⟨au.block, au.off + 1, none⟩ = some (.string ⟨(Tg.mk 1 y.size).toArray⟩) := z1
    have a1 := HX9.out.cell 1 _ rfl
    have b0 := HY9.out.cell 0 _ rfl
    have b1 := HY9.out.cell 1 _ rfl
    have b2 := HY9.out.cell 2 _ rfl
    have hgd := noGuardF14
    have hne : ∀ W, (binOp .neq 42 (.agg #[.string ⟨#[101, 116, 97, 103]⟩, .string ⟨(Tg.mk 1 y.size).toArray⟩]) (.agg #[.string ⟨#[101, 116, 97, 103]⟩, .string ⟨(Tg.mk 1 y.size).toArray⟩])).run Tryz.prog W = .ok (.bool false) W := fun W => neq_f14 (Fs.fd Fs.nET (Tg.mk 1 y.size)) W
    clear x0 x1 z0 z1 hvo
    go_quiet (fail)
    have HL10 := hid' (HL9.out.keep (below_dn w9 nq))
    have HD10 := hid' (HD9.out.keep (below_dn w9 nq))
    have HF10 := hid' (HF9.out.keep (below_dn w9 nq))
    have HB10 := hid' (below_from HB9.out (below_dn w9 nq) HB9.out.size)
    clear x0' x1' z0' z1' a1 b0 b1 b2 HX9 HY9 HW9 HU9 HL9 HD9 HF9 HB9 hne hgd hau
    generalize w9.drewN nq = w10 at *
    have f0 := HF10.out.cell 0 _ rfl
    have f1 := HF10.out.cell 1 _ rfl
    obtain ⟨c, es, q1, hput⟩ := putOf13_ex [Fs.eX y t 1] 1 ⟨#[47, 119, 47, 120]⟩ y2 t2
    have hyy : y2.size ≤ 140737488425328 := HY2.out
    go_wp2_with fail
    refine (cput13 hput _ b K2 w10 HD10.out (by decide) hyy (by decide) (by decide)).mono ?_
    rintro _ w11 ⟨rfl, K3, hd, hf, _⟩
    have HB11 := hid' (HB10.out.trans (hf.below HB10.out.size (fun k hk => Nat.le_trans HB0.out.size (HD10.out.lt k hk).1)))
    have HF11 := hid' (hf.ar HF10.out (fun hk => by have h1 := (HD10.out.lt _ hk).1; have h2 := HL0.out.2; omega))
    have HL11 := hid' (fw_lf19 HL10.out hf (fun hk => Nat.lt_irrefl _ (HKL.out _ hk)))
    have HD11 := hid' hd
    clear hd hf HD10 HB10 HF10 HL10 f0 f1
    by_cases hc0 : c = 0
    · obtain ⟨rfl, rfl, hys, ht0, ht1⟩ := putX219 hput hc0
      subst hc0
      have HZ2 : Hid (∀ e ∈ [Fs.eX y2 t2 2], EN19 e) := hid' (by intro e he; rw [List.mem_singleton.1 he]; exact ⟨hys, ht0, ht1, show (0 : Int) ≤ 2 by decide, show (2 : Int) ≤ 9223372036854775807 by decide⟩)
      obtain ⟨hr1, hr2, _⟩ := Tg.mk_read 1 y.size
      have hans := Fs.ans_other y2 t2 2 (Tg.mk 1 y.size) hr1 hr2 (Tg.mk_ne (by decide) (by decide) (by decide))
      have HAN := hid' hans
      clear hput hys hyy ht0 ht1 hr1 hr2 hans
      go_wp2_with fail
      refine (csnap13 _ b K3 2 [Fs.eX y2 t2 2] w11 HD11.out).mono ?_
      rintro _ w12 ⟨⟨s3, Ks3, rfl, hs⟩, hb⟩
      have HS12 := hid' hs
      have HL12 := hid' (HL11.out.keep hb)
      have HF12 := hid' (HF11.out.keep hb)
      have HB12 := hid' (below_from HB11.out hb HB11.out.size)
      clear hs hb HD11 HB11 HF11 HL11
      go_wp2_with fail
      refine (HA.out _ s3 Ks3 2 [Fs.eX y2 t2 2] ⟨#[47, 119]⟩ ⟨#[71, 69, 84]⟩ ⟨#[47, 120]⟩ ⟨#[120]⟩ (.slice (some ⟨lb, 0, none⟩) 1 1) [Fs.fN (Tg.mk 1 y.size)] w12 HS12.out HL12.out (Nat.le_of_ble_eq_true rfl) HVZ.out (by decide) (by decide) (by decide) (by decide) HZ2.out (tb_below19 HT.out HB12.out)).mono ?_
      rw [show Fs.ans [Fs.eX y2 t2 2] (⟨#[47, 119]⟩ : ByteArray).data.toList (⟨#[71, 69, 84]⟩ : ByteArray).data.toList (⟨#[47, 120]⟩ : ByteArray).data.toList (⟨#[120]⟩ : ByteArray).data.toList [Fs.fN (Tg.mk 1 y.size)] = ⟨200, Fs.head (Fs.kind (Fs.name Fs.rW Fs.sX)) (Fs.eX y2 t2 2), y2.data.toList⟩ from HAN.out]
      rintro _ w13 ⟨⟨to', n, tc, rfl, _⟩, hb⟩
      have HF13 := hid' (HF12.out.keep hb)
      have HB13 := hid' (below_from HB12.out hb HB12.out.size)
      clear hb HB12 HF12 HL12 HS12 HAN
      unfold rpC
      rw [show Fs.Rp.s ⟨200, Fs.head (Fs.kind (Fs.name Fs.rW Fs.sX)) (Fs.eX y2 t2 2), y2.data.toList⟩ = 200 from rfl, show (⟨(Fs.Rp.b ⟨200, Fs.head (Fs.kind (Fs.name Fs.rW Fs.sX)) (Fs.eX y2 t2 2), y2.data.toList⟩).toArray⟩ : ByteArray) = y2 from rfl]
      have hbx := bl_alloc19 w13 (.cells #[.int .i64 200, .slice to' n tc, .string y2, .slice none 0 0] 24)
      have HX14 : Hid (Ar (w13.alloc (.cells #[.int .i64 200, .slice to' n tc, .string y2, .slice none 0 0] 24)) w13.heap.size 24 #[.int .i64 200, .slice to' n tc, .string y2, .slice none 0 0]) := hid' (heap_alloc_last w13 _)
      have HF14 := hid' (HF13.out.keep hbx)
      have HB14 := hid' (below_from HB13.out hbx HB13.out.size)
      clear hbx HF13 HB13
      go_upto_region 16 with fail
      obtain ⟨xc, hxc⟩ : ∃ xc, w13.heap.size = xc := ⟨_, rfl⟩
      rw [hxc] at HX14 ⊢
      generalize w13.alloc (.cells #[.int .i64 200, .slice to' n tc, .string y2, .slice none 0 0] 24) = w14 at *
      clear hxc
      have c0 := HX14.out.cell 0 _ rfl
      have c2 := HX14.out.cell 2 _ rfl
      have f0 := HF14.out.cell 0 _ rfl
      have eyz : (y2.toList == y2.toList) = true := beq_self_eq_true _
      go_wp2_with fail
      refine (awake19 HA.out _ (tb_below19 HT.out HB14.out)).mono ?_
      rintro _ w15 ⟨rfl, hb⟩
      have HB15 := hid' (below_from HB14.out hb HB14.out.size)
      clear hb
      go_wp2
      go_ret
      exact ⟨rfl, HB15.out⟩
    · have hc1 : (c != 0) = true := by simp [hc0]
      clear hput
      go_wp2_with fail
      refine (awake19 HA.out _ (tb_below19 HT.out HB11.out)).mono ?_
      rintro _ w12 ⟨rfl, hb⟩
      have HB12 := hid' (below_from HB11.out hb HB11.out.size)
      clear hb
      go_wp2
      go_ret
      exact ⟨rfl, HB12.out⟩
  · have hc1 : (c != 0) = true := by simp [hc0]
    clear hput
    go_wp2_with fail
    refine (awake19 HA.out _ (tb_below19 HT.out HB2.out)).mono ?_
    rintro _ w3 ⟨rfl, hb⟩
    have HB3 := hid' (below_two HB2.out hb)
    clear hb
    go_wp2
    go_ret
    exact ⟨rfl, HB3.out⟩

end Go.Proofs.YtgbnelglhkfdfaaGreatDoor
