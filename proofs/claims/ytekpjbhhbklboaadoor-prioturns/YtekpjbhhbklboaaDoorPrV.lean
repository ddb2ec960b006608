/-
  The code's Parse: by its contract.
-/
import Derived.Test.YtekpjbhhbklboaaDoorPrU
import Derived.Test.YtekpjbhhbklboaaDoorPrH
import Derived.Test.YtekpjbhhbklboaaDoorPureMem
import Derived.Deep.CutRange
import Derived.Deep.RegionWith
namespace Go.Proofs.YtekpjbhhbklboaaDoor
open Go.RowKit

theorem mems_len (r : List UInt8) : ∀ (cur : List UInt8) (q e : Bool), (Tx.mems cur q e r).length ≤ r.length + 1 := by
  induction r with
  | nil =>
    intro cur q e
    simp only [Tx.mems, Tx.addm]
    split <;> simp
  | cons c r ih =>
    intro cur q e
    simp only [Tx.mems]
    split
    · have := ih (cur ++ [c]) q false; simp only [List.length_cons]; omega
    · split
      · have := ih (cur ++ [c]) (!q) false; simp only [List.length_cons]; omega
      · split
        · have := ih (cur ++ [c]) q true; simp only [List.length_cons]; omega
        · split
          · have := ih [] q false
            have h2 : (Tx.addm cur).length ≤ 1 := by unfold Tx.addm; split <;> simp
            simp only [List.length_cons, List.length_append]; omega
          · have := ih (cur ++ [c]) q false; simp only [List.length_cons]; omega
theorem list_len (l : List UInt8) : (Tx.list l).length ≤ l.length + 1 := mems_len l [] false false
theorem mem_flat {ms : List (List UInt8)} {m : List UInt8} (h : m ∈ ms) : m.length ≤ ms.flatten.length := by
  induction ms with
  | nil => cases h
  | cons x r ih =>
    simp only [List.flatten_cons, List.length_append]
    rcases List.mem_cons.1 h with rfl | h
    · omega
    · have := ih h; omega
theorem list_mem {l m : List UInt8} (h : m ∈ Tx.list l) : m.length ≤ l.length := Nat.le_trans (mem_flat h) (Tx.flat_list l)
theorem str_at {ms : List (List UInt8)} {i : Nat} {m : List UInt8} (h : ms[i]? = some m) : (strCells ms)[i]? = some (.string ⟨m.toArray⟩) := by simp [strCells, h]
theorem trim_w (m t : List UInt8) (ht : Pr.word m = t) (hm : m.length ≤ 9223372036854775807) (w : World) :
    Calls Tryd.prog 27 #[.string ⟨(Pr.cutW m).toArray⟩] w fun e w' => e = .returned (.string ⟨t.toArray⟩) ∧ w' = w := by
  subst ht
  exact trim_any ⟨(Pr.cutW m).toArray⟩ w (by rw [size_l]; have := Pr.cutW_le m; unfold maxLen; omega)

theorem ar_two {w : World} {b : Nat} {T : TypeId} {a0 a1 : Value} (h : Ar w b T #[a0, a1]) (x y : Value) : Ar ((w.setCell ⟨b, 0, none⟩ x).setCell ⟨b, 1, none⟩ y) b T #[x, y] := by
  have := (h.set 0 x).set 1 y
  simpa using this
theorem lf_two (w : World) (b : Nat) (x y : Value) : LF (fun k => k = b) w ((w.setCell ⟨b, 0, none⟩ x).setCell ⟨b, 1, none⟩ y) :=
  (LF.of_upd (S := fun k => k = b) (upd_setCell w b 0 x) rfl).trans (LF.of_upd (S := fun k => k = b) (upd_setCell _ b 1 y) rfl) (fun _ _ h => h)

set_option maxHeartbeats 4000000 in
set_option maxRecDepth 20000 in
theorem cparse_any (s : ByteArray) (w : World) (hs : s.size + 2 ≤ 8796093022208) (u : Nat) (p : Bool) (hup : Pr.parse s.data.toList = (u, p)) :
    Calls Tryd.prog 10 #[.string s] w fun e w' => e = .returned (.agg #[.int .i64 (u : Int), .bool p]) ∧ Below w.heap.size w w' := by
  have HUP := hid' hup
  have HS := hid' hs
  clear hup
  go_enter Tryd.func10, Tryd.ntmps10
  go_wp2_with (refine wpl_alloc 24 rfl rfl #[.int .i64 0, .bool false] zeroPri ?_)
  intro b2 w0 hg0 ha0 hb0
  have HG0 := hid' hg0
  have HA0 := hid' ha0
  have HB0 := hid' hb0
  clear hg0 ha0 hb0
  go_upto_region 2 with fail
  have HA1 : Hid (Ar (w0.alloc (.cells #[.int .i64 3, .bool false] 24)) w0.heap.size 24 #[.int .i64 3, .bool false]) := hid' (heap_alloc_last w0 _)
  have HBA : Hid (Below w0.heap.size w0 (w0.alloc (.cells #[.int .i64 3, .bool false] 24))) := hid' ((Below.refl _ _).alloc (Nat.le_refl _) _)
  obtain ⟨b3, hb3⟩ : ∃ b3, w0.heap.size = b3 := ⟨_, rfl⟩
  have HB3 : Hid (w.heap.size ≤ b3 ∧ b2 ≠ b3) := hid' (by
    have h1 := HB0.out.size
    have h2 := HA0.out.lt
    exact ⟨by omega, by omega⟩)
  rw [hb3] at HA1 ⊢
  generalize w0.alloc (.cells #[.int .i64 3, .bool false] 24) = w1 at *
  have HA2 := hid' (HA0.out.keep HBA.out)
  have HB1 := hid' (below_two HB0.out HBA.out)
  clear hb3 HA0 HBA HB0
  go_wp2_with fail
  refine (list_any s _ HS.out).mono ?_
  rintro e w2 ⟨v, rfl, hown, hbl⟩
  obtain ⟨ms, hms⟩ : ∃ ms, Tx.list s.data.toList = ms := ⟨_, rfl⟩
  have HML : Hid (ms.length ≤ 8796093022208 ∧ ∀ m ∈ ms, m.length ≤ 8796093022208) := hid' (by
    have h1 := list_len s.data.toList
    have h3 := HS.out
    rw [hms, ← Lib.size_eq] at h1
    refine ⟨by omega, fun m hm => ?_⟩
    have h2 := list_mem (l := s.data.toList) (by rw [hms]; exact hm)
    rw [← Lib.size_eq] at h2
    omega)
  have HPS : Hid (ms.foldl (fun x m => Pr.chg x (Pr.word m)) (3, false) = (u, p)) := hid' (by have := HUP.out; unfold Pr.parse at this; rwa [hms] at this)
  rw [hms] at hown
  obtain ⟨n, hn⟩ : ∃ n, ms.length = n := ⟨_, rfl⟩
  have hn2 : n ≤ 8796093022208 := by rw [← hn]; exact HML.out.1
  have HN := hid' hn
  rw [hn] at hown
  obtain ⟨ao, cap, rfl⟩ := own_shape hown
  have HOWN := hid' hown
  have HBL := hid' hbl
  have HA12 := hid' (HA1.out.keep hbl)
  have HA22 := hid' (HA2.out.keep hbl)
  have HB2 := hid' (below_two HB1.out hbl)
  have HLT := hid' HA1.out.lt
  clear hown hbl hms hn HUP HA1 HA2 HB1
  go_wp2
  go_loopw [13] (fun s13 wr => ∃ (i x : Nat) (q : Bool), s13 = .int .i64 (i : Int) ∧ i ≤ n ∧ Hid ((ms.drop i).foldl (fun x m => Pr.chg x (Pr.word m)) (x, q) = (u, p)) ∧ Hid (Ar wr b3 24 #[.int .i64 (x : Int), .bool q]) ∧ Hid (LF (fun k => k = b3) w2 wr)) (fun s13 _ => n - (intOf s13).toNat)
  case atStart => exact ⟨0, 3, false, rfl, Nat.zero_le _, HPS, HA12, hid' (LF.refl _ _)⟩
  case round =>
    obtain ⟨i, x, q, rfl, hi, HF, HAR, HX⟩ := hrel
    by_cases hlt : i < n
    · have hlt2 : (i : Int) < (n : Int) := by omega
      obtain ⟨m, hm⟩ : ∃ m, ms[i]? = some m := ⟨_, List.getElem?_eq_getElem (by rw [HN.out]; exact hlt)⟩
      have HM := hid' (HML.out.2 m (List.mem_of_getElem? hm))
      have HRR : Hid (RR wr (.slice ao n cap) n (strCells ms)) := hid' (RR.of_own (own_same HOWN.out (fun k hk => HX.out.block k (own_lt HOWN.out k hk) (fun e => by
        have h1 := (own_ty HOWN.out k hk).1
        have h2 := HLT.out
        omega))))
      obtain ⟨a, hao, hcell⟩ := HRR.out.at (by omega) i _ (str_at hm)
      subst hao
      have HST := hid' (Pr.parse_at hm (x, q))
      obtain ⟨t, ht⟩ : ∃ t, Pr.word m = t := ⟨_, rfl⟩
      have HT := hid' ht
      clear hm ht
      go_wp2_with fail
      refine (cut_any m _ (by have := HM.out; unfold maxLen; omega)).mono ?_
      rintro e w3 ⟨⟨y1, y2, rfl⟩, hb3⟩
      have HA3 := hid' (HAR.out.keep hb3)
      have HX3 := hid' (HX.out.below_r hb3)
      have k0 := HA3.out.cell 0 _ rfl
      have k1 := HA3.out.cell 1 _ rfl
      have f0 := HA3.out.free 0
      have f1 := HA3.out.free 1
      clear hb3
      go_upto_region 6 with fail
      obtain ⟨x', q', hxq⟩ : ∃ x' q', Pr.chg (x, q) t = (x', q') := ⟨_, _, rfl⟩
      have HE : Hid (Pr.chgU x t = x' ∧ Pr.chgP q t = q') := hid' (by unfold Pr.chg at hxq; exact ⟨(Prod.mk.inj hxq).1, (Prod.mk.inj hxq).2⟩)
      have HF2 : Hid ((ms.drop (i + 1)).foldl (fun x m => Pr.chg x (Pr.word m)) (x', q') = (u, p)) := hid' (by rw [← HF.out, HST.out, HT.out, hxq])
      clear hxq
      go_region_with (first
        | (go_at_call 27; refine (trim_w m t HT.out (by have := HM.out; omega) _).mono ?_; rintro e w4 ⟨rfl, hw4⟩; subst w4)
        | (go_at_call 26; refine (cchg_any x q t _).mono ?_; rintro e w5 ⟨rfl, hb5⟩; rw [HE.out.1, HE.out.2]; have hb5' : Below w3.heap.size w3 w5 := (below_two ((Below.refl _ w3).drew) hb5); have HA5 := hid' (HA3.out.keep hb5'); have HB5 := hid' hb5'; have g0 := HA5.out.cell 0 _ rfl; have g1 := HA5.out.cell 1 _ rfl; have e0 := HA5.out.free 0; have e1 := HA5.out.free 1; clear hb5 hb5'))
      all_goals
        go_wp2
        go_roundw
        case rel =>
          exact ⟨i + 1, x', q', by go_num, by omega, HF2, hid' (ar_two HA5.out _ _), hid' ((HX3.out.below_r HB5.out).trans (lf_two _ _ _ _) (fun _ _ h => h))⟩
        case measure => simp [intOf]; omega
    · have hlt2 : ¬ (i : Int) < (n : Int) := by omega
      have HXU : Hid (x = u ∧ q = p) := hid' (by
        have := HF.out
        rw [List.drop_of_length_le (by rw [HN.out]; omega)] at this
        exact ⟨(Prod.mk.inj this).1, (Prod.mk.inj this).2⟩)
      have HA23 := hid' (HX.out.ar HA22.out (fun e => HB3.out.2 e))
      have k0 := HAR.out.cell 0 _ rfl
      have k1 := HAR.out.cell 1 _ rfl
      have g0 := HA23.out.cell 0 _ rfl
      have g1 := HA23.out.cell 1 _ rfl
      have f0 := HA23.out.free 0
      have f1 := HA23.out.free 1
      clear HF
      go_wp2
      obtain ⟨rfl, rfl⟩ := HXU.out
      refine bodyPost_ret (v := .agg #[.int .i64 (x : Int), .bool q]) (by simp [results, Tryd.results10, asAddr, ldPri (ar_two HA23.out _ _)]) rfl ⟨rfl, ?_⟩
      have h1 : LF (fun k => k = b3) w2 wr := HX.out
      have h2 : Below w.heap.size w wr := HB2.out.trans ((h1.below (B := w.heap.size) HB2.out.size (fun k hk => by have := HB3.out.1; omega)))
      exact h2.trans ((lf_two wr b2 _ _).below (Nat.le_trans HB2.out.size h1.size) (fun k hk => by have := HG0.out; omega))

end Go.Proofs.YtekpjbhhbklboaaDoor
