/-
  The document's Parse: by its contract.
-/
import Derived.Test.YtekpjbhhbklboaaDoorPrV
import Derived.Test.YtekpjbhhbklboaaDoorListR
namespace Go.Proofs.YtekpjbhhbklboaaDoor
open Go.RowKit

theorem words_or (t : List UInt8) : t = [105] ∨ t = [105, 61, 63, 49] ∨ t = [105, 61, 63, 48] ∨ t = [117, 61, 48] ∨ t = [117, 61, 49] ∨ t = [117, 61, 50] ∨ t = [117, 61, 51] ∨ t = [117, 61, 52] ∨ t = [117, 61, 53] ∨ t = [117, 61, 54] ∨ t = [117, 61, 55] ∨ ((t == [105]) = false ∧ (t == [105, 61, 63, 49]) = false ∧ (t == [105, 61, 63, 48]) = false ∧ (t == [117, 61, 48]) = false ∧ (t == [117, 61, 49]) = false ∧ (t == [117, 61, 50]) = false ∧ (t == [117, 61, 51]) = false ∧ (t == [117, 61, 52]) = false ∧ (t == [117, 61, 53]) = false ∧ (t == [117, 61, 54]) = false ∧ (t == [117, 61, 55]) = false) := by
  by_cases h0 : t = [105]
  · exact .inl h0
  by_cases h1 : t = [105, 61, 63, 49]
  · exact .inr (.inl h1)
  by_cases h2 : t = [105, 61, 63, 48]
  · exact .inr (.inr (.inl h2))
  by_cases h3 : t = [117, 61, 48]
  · exact .inr (.inr (.inr (.inl h3)))
  by_cases h4 : t = [117, 61, 49]
  · exact .inr (.inr (.inr (.inr (.inl h4))))
  by_cases h5 : t = [117, 61, 50]
  · exact .inr (.inr (.inr (.inr (.inr (.inl h5)))))
  by_cases h6 : t = [117, 61, 51]
  · exact .inr (.inr (.inr (.inr (.inr (.inr (.inl h6))))))
  by_cases h7 : t = [117, 61, 52]
  · exact .inr (.inr (.inr (.inr (.inr (.inr (.inr (.inl h7)))))))
  by_cases h8 : t = [117, 61, 53]
  · exact .inr (.inr (.inr (.inr (.inr (.inr (.inr (.inr (.inl h8))))))))
  by_cases h9 : t = [117, 61, 54]
  · exact .inr (.inr (.inr (.inr (.inr (.inr (.inr (.inr (.inr (.inl h9)))))))))
  by_cases h10 : t = [117, 61, 55]
  · exact .inr (.inr (.inr (.inr (.inr (.inr (.inr (.inr (.inr (.inr (.inl h10))))))))))
  exact .inr (.inr (.inr (.inr (.inr (.inr (.inr (.inr (.inr (.inr (.inr (⟨beq_false_of_ne h0, beq_false_of_ne h1, beq_false_of_ne h2, beq_false_of_ne h3, beq_false_of_ne h4, beq_false_of_ne h5, beq_false_of_ne h6, beq_false_of_ne h7, beq_false_of_ne h8, beq_false_of_ne h9, beq_false_of_ne h10⟩)))))))))))
theorem chgP_none {t : List UInt8} {q : Bool} (h : (t == [105]) = false ∧ (t == [105, 61, 63, 49]) = false ∧ (t == [105, 61, 63, 48]) = false ∧ (t == [117, 61, 48]) = false ∧ (t == [117, 61, 49]) = false ∧ (t == [117, 61, 50]) = false ∧ (t == [117, 61, 51]) = false ∧ (t == [117, 61, 52]) = false ∧ (t == [117, 61, 53]) = false ∧ (t == [117, 61, 54]) = false ∧ (t == [117, 61, 55]) = false) : Pr.chgP q t = q := by
  unfold Pr.chgP
  rw [if_neg (by rw [h.1]; simp), if_neg (by rw [h.2.1]; simp), if_neg (by rw [h.2.2.1]; simp)]
theorem chgU_none {t : List UInt8} {x : Nat} (h : (t == [105]) = false ∧ (t == [105, 61, 63, 49]) = false ∧ (t == [105, 61, 63, 48]) = false ∧ (t == [117, 61, 48]) = false ∧ (t == [117, 61, 49]) = false ∧ (t == [117, 61, 50]) = false ∧ (t == [117, 61, 51]) = false ∧ (t == [117, 61, 52]) = false ∧ (t == [117, 61, 53]) = false ∧ (t == [117, 61, 54]) = false ∧ (t == [117, 61, 55]) = false) : Pr.chgU x t = x := by
  unfold Pr.chgU
  split
  · rename_i d
    split
    · rename_i hd
      exfalso
      obtain ⟨_, _, _, h0, h1, h2, h3, h4, h5, h6, h7⟩ := h
      have key : ∀ n : Nat, d.toNat = n → d = UInt8.ofNat n := fun n hn => by rw [← hn]; simp
      have : d.toNat = 48 ∨ d.toNat = 49 ∨ d.toNat = 50 ∨ d.toNat = 51 ∨ d.toNat = 52 ∨ d.toNat = 53 ∨ d.toNat = 54 ∨ d.toNat = 55 := by omega
      rcases this with e | e | e | e | e | e | e | e
      all_goals
        have e2 := key _ e
        subst e2
        simp_all
    · rfl
  · rfl
theorem rtrim_w (m t : List UInt8) (ht : Pr.word m = t) (hm : m.length ≤ 9223372036854775807) (w : World) :
    Calls Tryd.prog 29 #[.string ⟨(Pr.cutW m).toArray⟩] w fun e w' => e = .returned (.string ⟨t.toArray⟩) ∧ w' = w := by
  subst ht
  exact rTrim_any ⟨(Pr.cutW m).toArray⟩ w (by rw [size_l]; have := Pr.cutW_le m; unfold maxLen; omega)
theorem cut_pre (l : List UInt8) (k : Nat) : (⟨l.toArray⟩ : ByteArray).extract 0 k = ⟨(l.take k).toArray⟩ := ext_take ⟨l.toArray⟩ k
theorem get_l (l : List UInt8) (k : Nat) (c : UInt8) (hc : l[k]? = some c) (h : k < (⟨l.toArray⟩ : ByteArray).size) : (⟨l.toArray⟩ : ByteArray)[k]'h = c := by
  obtain ⟨h1, h2⟩ := List.getElem?_eq_some_iff.1 hc
  exact h2

set_option maxHeartbeats 4000000 in
set_option maxRecDepth 20000 in
theorem rparse_any (s : ByteArray) (w : World) (hs : s.size + 2 ≤ 8796093022208) (u : Nat) (p : Bool) (hup : Pr.parse s.data.toList = (u, p)) :
    Calls Tryd.prog 11 #[.string s] w fun e w' => e = .returned (.agg #[.int .i64 (u : Int), .bool p]) ∧ Below w.heap.size w w' := by
  have HUP := hid' hup
  have HS := hid' hs
  clear hup
  go_enter Tryd.func11, Tryd.ntmps11
  go_wp2_with (refine wpl_alloc 24 rfl rfl #[.int .i64 0, .bool false] zeroPri ?_)
  intro b2 w0 hg0 ha0 hb0
  have HG0 := hid' hg0
  have HA0 := hid' ha0
  have HB0 := hid' hb0
  clear hg0 ha0 hb0
  go_upto_region 2 with fail
  have HA1 : Hid (Ar (w0.alloc (.cells #[.int .i64 3, .bool false] 24)) w0.heap.size 24 #[.int .i64 3, .bool false]) := hid' (heap_alloc_last w0 _)
  have HBA : Hid (Below w0.heap.size w0 (w0.alloc (.cells #[.int .i64 3, .bool false] 24))) := hid' ((Below.refl _ _).alloc (Nat.le_refl _) _)
  obtain ⟨b3, hb3⟩ : ∃ b3, w0.heap.size = b3 := ⟨_, rfl⟩
  have HB3 : Hid (w.heap.size ≤ b3 ∧ b2 ≠ b3) := hid' (by
    have h1 := HB0.out.size
    have h2 := HA0.out.lt
    exact ⟨by omega, by omega⟩)
  rw [hb3] at HA1 ⊢
  generalize w0.alloc (.cells #[.int .i64 3, .bool false] 24) = w1 at *
  have HA2 := hid' (HA0.out.keep HBA.out)
  have HB1 := hid' (below_two HB0.out HBA.out)
  clear hb3 HA0 HBA HB0
  go_wp2_with fail
  refine (rList_any s _ HS.out).mono ?_
  rintro e w2 ⟨v, rfl, hown, hbl⟩
  obtain ⟨ms, hms⟩ : ∃ ms, Tx.list s.data.toList = ms := ⟨_, rfl⟩
  have HML : Hid (ms.length ≤ 8796093022208 ∧ ∀ m ∈ ms, m.length ≤ 8796093022208) := hid' (by
    have h1 := list_len s.data.toList
    have h3 := HS.out
    rw [hms, ← Lib.size_eq] at h1
    refine ⟨by omega, fun m hm => ?_⟩
    have h2 := list_mem (l := s.data.toList) (by rw [hms]; exact hm)
    rw [← Lib.size_eq] at h2
    omega)
  have HPS : Hid (ms.foldl (fun x m => Pr.chg x (Pr.word m)) (3, false) = (u, p)) := hid' (by have := HUP.out; unfold Pr.parse at this; rwa [hms] at this)
  rw [hms] at hown
  obtain ⟨n, hn⟩ : ∃ n, ms.length = n := ⟨_, rfl⟩
  have hn2 : n ≤ 8796093022208 := by rw [← hn]; exact HML.out.1
  have HN := hid' hn
  rw [hn] at hown
  obtain ⟨ao, cap, rfl⟩ := own_shape hown
  have HOWN := hid' hown
  have HBL := hid' hbl
  have HA12 := hid' (HA1.out.keep hbl)
  have HA22 := hid' (HA2.out.keep hbl)
  have HB2 := hid' (below_two HB1.out hbl)
  have HLT := hid' HA1.out.lt
  clear hown hbl hms hn HUP HA1 HA2 HB1
  go_wp2
  go_loopw [5] (fun s13 wr => ∃ (i x : Nat) (q : Bool), s13 = .int .i64 (i : Int) ∧ i ≤ n ∧ Hid ((ms.drop i).foldl (fun x m => Pr.chg x (Pr.word m)) (x, q) = (u, p)) ∧ Hid (Ar wr b3 24 #[.int .i64 (x : Int), .bool q]) ∧ Hid (LF (fun k => k = b3) w2 wr)) (fun s13 _ => n - (intOf s13).toNat)
  case atStart => exact ⟨0, 3, false, rfl, Nat.zero_le _, HPS, HA12, hid' (LF.refl _ _)⟩
  case round =>
    obtain ⟨i, x, q, rfl, hi, HF, HAR, HX⟩ := hrel
    by_cases hlt : i < n
    · have hlt2 : (i : Int) < (n : Int) := by omega
      obtain ⟨m, hm⟩ : ∃ m, ms[i]? = some m := ⟨_, List.getElem?_eq_getElem (by rw [HN.out]; exact hlt)⟩
      have HM := hid' (HML.out.2 m (List.mem_of_getElem? hm))
      have HRR : Hid (RR wr (.slice ao n cap) n (strCells ms)) := hid' (RR.of_own (own_same HOWN.out (fun k hk => HX.out.block k (own_lt HOWN.out k hk) (fun e => by
        have h1 := (own_ty HOWN.out k hk).1
        have h2 := HLT.out
        omega))))
      obtain ⟨a, hao, hcell⟩ := HRR.out.at (by omega) i _ (str_at hm)
      subst hao
      have HST := hid' (Pr.parse_at hm (x, q))
      obtain ⟨t, ht⟩ : ∃ t, Pr.word m = t := ⟨_, rfl⟩
      have HT := hid' ht
      have k0 := HAR.out.cell 0 _ rfl
      have k1 := HAR.out.cell 1 _ rfl
      have f0 := HAR.out.free 0
      have f1 := HAR.out.free 1
      obtain ⟨mn, hmn⟩ : ∃ mn, m.length = mn := ⟨_, rfl⟩
      have HMN := hid' hmn
      have hmb : mn ≤ 8796093022208 := by rw [← hmn]; exact HM.out
      clear hm ht hmn
      go_wp2
      go_loop [6, 7] (fun s6 s7 => ∃ (M : List UInt8) (k : Nat), s6 = .string ⟨M.toArray⟩ ∧ s7 = .int .i64 (k : Int) ∧ k ≤ mn ∧ M.length ≤ mn ∧ Hid ((M = m ∧ ∀ x ∈ m.take k, (x != 59) = true) ∨ (M = Pr.cutW m ∧ M.length < k))) (fun _ s7 => mn + 1 - (intOf s7).toNat)
      case atStart => exact ⟨m, 0, rfl, rfl, Nat.zero_le _, by rw [HMN.out]; exact Nat.le_refl _, hid' (.inl ⟨rfl, fun x hx => by simp at hx⟩)⟩
      case round =>
        obtain ⟨M, k, rfl, rfl, hk, hM, HK⟩ := hrel
        obtain ⟨ml, hml⟩ : ∃ ml, M.length = ml := ⟨_, rfl⟩
        rw [hml] at hM
        by_cases hkl : k < M.length
        · have HMm : Hid (M = m ∧ ∀ x ∈ m.take k, (x != 59) = true) := hid' (by
            rcases HK.out with h | ⟨_, h⟩
            · exact h
            · omega)
          have hkl2 : (k : Int) < (M.length : Int) := by omega
          have hkz : (0 : Int) ≤ (k : Int) := by omega
          have hkle : k ≤ M.length := by omega
          have hkle2 : (k : Int) ≤ (M.length : Int) := by omega
          have hkmn : k + 1 ≤ mn := by omega
          obtain ⟨c, hc⟩ : ∃ c, M[k]? = some c := ⟨_, List.getElem?_eq_getElem hkl⟩
          have hz := get_l M k c hc
          have HC := hid' hc
          obtain ⟨M2, hM2⟩ : ∃ M2, M.take k = M2 := ⟨_, rfl⟩
          have hcp := cut_pre M k
          rw [hM2] at hcp
          have HM2 := hid' hM2
          have HML2 := hid' hml
          have HHM := hid' hM
          clear hc hM2 hml hM
          by_cases h59 : c = 59
          · have e1 : ((c.toNat : Int) == 59) = true := by rw [h59]; rfl
            have e2 : (c.toNat == 59) = true := by rw [h59]; rfl
            have HE : Hid (Pr.cutW m = M2 ∧ M2.length = k) := hid' (by
              have h1 := HC.out
              obtain ⟨h2, h3⟩ := List.getElem?_eq_some_iff.1 h1
              have h4 := HMm.out
              have h5 := HM2.out
              obtain ⟨rfl, h4⟩ := h4
              refine ⟨by rw [← h5]; exact Pr.cutW_at h2 h4 (h3.trans h59), by rw [← h5, List.length_take]; omega⟩)
            clear h59
            go_wp2
            go_round
            case rel => exact ⟨M2, k + 1, rfl, by go_num, hkmn, by rw [HE.out.2]; omega, hid' (.inr ⟨HE.out.1.symm, by rw [HE.out.2]; omega⟩)⟩
            case measure => simp [intOf]; omega
          · have e1 : ((c.toNat : Int) == 59) = false := beq_false_of_ne (fun e => h59 (by
              have : c.toNat = 59 := by omega
              exact UInt8.toNat_inj.1 this))
            have e2 : (c.toNat == 59) = false := beq_false_of_ne (fun e => h59 (UInt8.toNat_inj.1 e))
            have HE : Hid (∀ x ∈ m.take (k + 1), (x != 59) = true) := hid' (by
              obtain ⟨rfl, h4⟩ := HMm.out
              intro x hx
              rw [List.take_add_one, HC.out] at hx
              rcases List.mem_append.1 hx with hx | hx
              · exact h4 x hx
              · obtain rfl : x = c := by simpa using hx
                simpa using h59)
            clear h59
            go_wp2
            go_round
            case rel => exact ⟨M, k + 1, rfl, by go_num, hkmn, by rw [HML2.out]; exact HHM.out, hid' (.inl ⟨HMm.out.1, HE.out⟩)⟩
            case measure => simp [intOf]; omega
        · have hkl2 : ¬ (k : Int) < (M.length : Int) := by omega
          have HE : Hid (M = Pr.cutW m) := hid' (by
            rcases HK.out with ⟨h1, h2⟩ | ⟨h1, _⟩
            · rw [h1] at hkl
              rw [List.take_of_length_le (by omega)] at h2
              rw [h1, Pr.cutW_all h2]
            · exact h1)
          have HEM := HE.out
          subst HEM
          clear hml hM
          go_wp2_with fail
          refine (rtrim_w m t HT.out (by have := HM.out; omega) _).mono ?_
          rintro e w3 ⟨rfl, hw3⟩
          subst w3
          rcases words_or t with rfl | rfl | rfl | rfl | rfl | rfl | rfl | rfl | rfl | rfl | rfl | tests
          · have HF2 : Hid ((ms.drop (i + 1)).foldl (fun x m => Pr.chg x (Pr.word m)) (x, true) = (u, p)) := hid' (by rw [← HF.out, HST.out, HT.out]; rfl)
            go_wp2
            go_roundw
            case rel => exact ⟨i + 1, _, _, by go_num, by omega, HF2, hid' (by simpa using HAR.out.set 1 (.bool true)), hid' (HX.out.trans (LF.of_upd (S := fun k => k = b3) (upd_setCell _ b3 1 (.bool true)) rfl) (fun _ _ h => h))⟩
            case measure => simp [intOf]; omega
          · have HF2 : Hid ((ms.drop (i + 1)).foldl (fun x m => Pr.chg x (Pr.word m)) (x, true) = (u, p)) := hid' (by rw [← HF.out, HST.out, HT.out]; rfl)
            go_wp2
            go_roundw
            case rel => exact ⟨i + 1, _, _, by go_num, by omega, HF2, hid' (by simpa using HAR.out.set 1 (.bool true)), hid' (HX.out.trans (LF.of_upd (S := fun k => k = b3) (upd_setCell _ b3 1 (.bool true)) rfl) (fun _ _ h => h))⟩
            case measure => simp [intOf]; omega
          · have HF2 : Hid ((ms.drop (i + 1)).foldl (fun x m => Pr.chg x (Pr.word m)) (x, false) = (u, p)) := hid' (by rw [← HF.out, HST.out, HT.out]; rfl)
            go_wp2
            go_roundw
            case rel => exact ⟨i + 1, _, _, by go_num, by omega, HF2, hid' (by simpa using HAR.out.set 1 (.bool false)), hid' (HX.out.trans (LF.of_upd (S := fun k => k = b3) (upd_setCell _ b3 1 (.bool false)) rfl) (fun _ _ h => h))⟩
            case measure => simp [intOf]; omega
          · have HF2 : Hid ((ms.drop (i + 1)).foldl (fun x m => Pr.chg x (Pr.word m)) (0, q) = (u, p)) := hid' (by rw [← HF.out, HST.out, HT.out]; rfl)
            have hz2 : ∀ h, (⟨#[117, 61, 48]⟩ : ByteArray)[2]'h = 48 := fun _ => rfl
            go_wp2
            go_roundw
            case rel => exact ⟨i + 1, _, _, by go_num, by omega, HF2, hid' (by simpa using HAR.out.set 0 (.int .i64 0)), hid' (HX.out.trans (LF.of_upd (S := fun k => k = b3) (upd_setCell _ b3 0 (.int .i64 0)) rfl) (fun _ _ h => h))⟩
            case measure => simp [intOf]; omega
          · have HF2 : Hid ((ms.drop (i + 1)).foldl (fun x m => Pr.chg x (Pr.word m)) (1, q) = (u, p)) := hid' (by rw [← HF.out, HST.out, HT.out]; rfl)
            have hz2 : ∀ h, (⟨#[117, 61, 49]⟩ : ByteArray)[2]'h = 49 := fun _ => rfl
            go_wp2
            go_roundw
            case rel => exact ⟨i + 1, _, _, by go_num, by omega, HF2, hid' (by simpa using HAR.out.set 0 (.int .i64 1)), hid' (HX.out.trans (LF.of_upd (S := fun k => k = b3) (upd_setCell _ b3 0 (.int .i64 1)) rfl) (fun _ _ h => h))⟩
            case measure => simp [intOf]; omega
          · have HF2 : Hid ((ms.drop (i + 1)).foldl (fun x m => Pr.chg x (Pr.word m)) (2, q) = (u, p)) := hid' (by rw [← HF.out, HST.out, HT.out]; rfl)
            have hz2 : ∀ h, (⟨#[117, 61, 50]⟩ : ByteArray)[2]'h = 50 := fun _ => rfl
            go_wp2
            go_roundw
            case rel => exact ⟨i + 1, _, _, by go_num, by omega, HF2, hid' (by simpa using HAR.out.set 0 (.int .i64 2)), hid' (HX.out.trans (LF.of_upd (S := fun k => k = b3) (upd_setCell _ b3 0 (.int .i64 2)) rfl) (fun _ _ h => h))⟩
            case measure => simp [intOf]; omega
          · have HF2 : Hid ((ms.drop (i + 1)).foldl (fun x m => Pr.chg x (Pr.word m)) (3, q) = (u, p)) := hid' (by rw [← HF.out, HST.out, HT.out]; rfl)
            have hz2 : ∀ h, (⟨#[117, 61, 51]⟩ : ByteArray)[2]'h = 51 := fun _ => rfl
            go_wp2
            go_roundw
            case rel => exact ⟨i + 1, _, _, by go_num, by omega, HF2, hid' (by simpa using HAR.out.set 0 (.int .i64 3)), hid' (HX.out.trans (LF.of_upd (S := fun k => k = b3) (upd_setCell _ b3 0 (.int .i64 3)) rfl) (fun _ _ h => h))⟩
            case measure => simp [intOf]; omega
          · have HF2 : Hid ((ms.drop (i + 1)).foldl (fun x m => Pr.chg x (Pr.word m)) (4, q) = (u, p)) := hid' (by rw [← HF.out, HST.out, HT.out]; rfl)
            have hz2 : ∀ h, (⟨#[117, 61, 52]⟩ : ByteArray)[2]'h = 52 := fun _ => rfl
            go_wp2
            go_roundw
            case rel => exact ⟨i + 1, _, _, by go_num, by omega, HF2, hid' (by simpa using HAR.out.set 0 (.int .i64 4)), hid' (HX.out.trans (LF.of_upd (S := fun k => k = b3) (upd_setCell _ b3 0 (.int .i64 4)) rfl) (fun _ _ h => h))⟩
            case measure => simp [intOf]; omega
          · have HF2 : Hid ((ms.drop (i + 1)).foldl (fun x m => Pr.chg x (Pr.word m)) (5, q) = (u, p)) := hid' (by rw [← HF.out, HST.out, HT.out]; rfl)
            have hz2 : ∀ h, (⟨#[117, 61, 53]⟩ : ByteArray)[2]'h = 53 := fun _ => rfl
            go_wp2
            go_roundw
            case rel => exact ⟨i + 1, _, _, by go_num, by omega, HF2, hid' (by simpa using HAR.out.set 0 (.int .i64 5)), hid' (HX.out.trans (LF.of_upd (S := fun k => k = b3) (upd_setCell _ b3 0 (.int .i64 5)) rfl) (fun _ _ h => h))⟩
            case measure => simp [intOf]; omega
          · have HF2 : Hid ((ms.drop (i + 1)).foldl (fun x m => Pr.chg x (Pr.word m)) (6, q) = (u, p)) := hid' (by rw [← HF.out, HST.out, HT.out]; rfl)
            have hz2 : ∀ h, (⟨#[117, 61, 54]⟩ : ByteArray)[2]'h = 54 := fun _ => rfl
            go_wp2
            go_roundw
            case rel => exact ⟨i + 1, _, _, by go_num, by omega, HF2, hid' (by simpa using HAR.out.set 0 (.int .i64 6)), hid' (HX.out.trans (LF.of_upd (S := fun k => k = b3) (upd_setCell _ b3 0 (.int .i64 6)) rfl) (fun _ _ h => h))⟩
            case measure => simp [intOf]; omega
          · have HF2 : Hid ((ms.drop (i + 1)).foldl (fun x m => Pr.chg x (Pr.word m)) (7, q) = (u, p)) := hid' (by rw [← HF.out, HST.out, HT.out]; rfl)
            have hz2 : ∀ h, (⟨#[117, 61, 55]⟩ : ByteArray)[2]'h = 55 := fun _ => rfl
            go_wp2
            go_roundw
            case rel => exact ⟨i + 1, _, _, by go_num, by omega, HF2, hid' (by simpa using HAR.out.set 0 (.int .i64 7)), hid' (HX.out.trans (LF.of_upd (S := fun k => k = b3) (upd_setCell _ b3 0 (.int .i64 7)) rfl) (fun _ _ h => h))⟩
            case measure => simp [intOf]; omega
          · have HF2 : Hid ((ms.drop (i + 1)).foldl (fun x m => Pr.chg x (Pr.word m)) (x, q) = (u, p)) := hid' (by rw [← HF.out, HST.out, HT.out]; unfold Pr.chg; rw [chgU_none tests, chgP_none tests])
            obtain ⟨t0, t1, t2, t3, t4, t5, t6, t7, t8, t9, t10⟩ := tests
            go_wp2
            go_roundw
            case rel => exact ⟨i + 1, _, _, by go_num, by omega, HF2, hid' HAR.out, hid' HX.out⟩
            case measure => simp [intOf]; omega
    · have hlt2 : ¬ (i : Int) < (n : Int) := by omega
      have HXU : Hid (x = u ∧ q = p) := hid' (by
        have := HF.out
        rw [List.drop_of_length_le (by rw [HN.out]; omega)] at this
        exact ⟨(Prod.mk.inj this).1, (Prod.mk.inj this).2⟩)
      have HA23 := hid' (HX.out.ar HA22.out (fun e => HB3.out.2 e))
      have k0 := HAR.out.cell 0 _ rfl
      have k1 := HAR.out.cell 1 _ rfl
      have g0 := HA23.out.cell 0 _ rfl
      have g1 := HA23.out.cell 1 _ rfl
      have f0 := HA23.out.free 0
      have f1 := HA23.out.free 1
      clear HF
      go_wp2
      obtain ⟨rfl, rfl⟩ := HXU.out
      refine bodyPost_ret (v := .agg #[.int .i64 (x : Int), .bool q]) (by simp [results, Tryd.results11, asAddr, ldPri (ar_two HA23.out _ _)]) rfl ⟨rfl, ?_⟩
      have h1 : LF (fun k => k = b3) w2 wr := HX.out
      have h2 : Below w.heap.size w wr := HB2.out.trans ((h1.below (B := w.heap.size) HB2.out.size (fun k hk => by have := HB3.out.1; omega)))
      exact h2.trans ((lf_two wr b2 _ _).below (Nat.le_trans HB2.out.size h1.size) (fun k hk => by have := HG0.out; omega))

end Go.Proofs.YtekpjbhhbklboaaDoor
