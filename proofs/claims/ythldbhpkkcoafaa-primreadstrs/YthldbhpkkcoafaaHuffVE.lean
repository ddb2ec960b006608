/-
  ostlerref03.Encode, by its contract.
-/
import Derived.Test.YthldbhpkkcoafaaHuffVB
namespace Go.Proofs.Ythldbhpkkcoafaa
namespace Hf
theorem val_snoc (l : List Bool) (b : Bool) : val (l ++ [b]) = 2 * val l + b.toNat := by
  rw [val_append]; simp [val, valF]; omega
theorem pk_eight_more (L : List Bool) (m : Nat) (h : 8 * m + 8 ≤ L.length) : pk (L.take (8 * (m + 1))) = pk (L.take (8 * m)) ++ [UInt8.ofNat (val ((L.drop (8 * m)).take 8))] := by
  have h1 : L.take (8 * (m + 1)) = L.take (8 * m) ++ (L.drop (8 * m)).take 8 := by rw [show 8 * (m + 1) = 8 * m + 8 by omega, List.take_add]
  rw [h1, pk_append m _ _ (by rw [List.length_take]; omega), pk_eight ((L.drop (8 * m)).take 8) (by rw [List.length_take, List.length_drop]; omega)]
end Hf
open Go.RowKit

theorem str_nil (w : World) : (convert 41 9 (.slice none 0 0)).run Try.prog w = .ok (.string ⟨#[]⟩) w := by kernel_rfl
theorem own_str {w : World} {B n : Nat} {v : Value} {l : List UInt8} (h : w.ownsRow B 5 1 v n (Lib.byteCells l)) (hn : l.length = n) : (convert 41 9 v).run Try.prog w = .ok (.string ⟨l.toArray⟩) w := by
  subst hn
  rcases h.2 with ⟨rfl, hn⟩ | ⟨g, cap, cur, rfl, _⟩
  · obtain rfl := List.eq_nil_of_length_eq_zero hn
    exact str_nil w
  · refine run_convert_bytes_back w _ _ 5 ⟨g, 0, none⟩ cap l Try.underlying41 Try.underlying5 Try.underlying9 fun j hj => ?_
    exact h.cells (g := g) rfl j _ (by rw [Lib.byteCells, List.getElem?_map, List.getElem?_eq_getElem hj]; rfl)
theorem owns_shape {w : World} {B n : Nat} {e : TypeId} {v : Value} {xs : List Value} (h : w.ownsRow B e 1 v n xs) : ∃ ao cap, v = .slice ao n cap := by
  rcases h.2 with ⟨hv, h0⟩ | ⟨g, cap, cur, hv, _⟩
  · exact ⟨none, 0, by rw [hv, h0]⟩
  · exact ⟨_, _, hv⟩
theorem owns_keep {w w' : World} {B B' n : Nat} {e : TypeId} {v : Value} {xs : List Value} (h : w.ownsRow B e 1 v n xs) (hb : Below B' w w') (hv : ∀ k, v.ownBlock = some k → k < B') : w'.ownsRow B e 1 v n xs := by
  refine ⟨h.1, ?_⟩
  rcases h.2 with hn | ⟨g, cap, cur, hv', hB, hg, rest⟩
  · exact .inl hn
  · subst hv'
    exact .inr ⟨g, cap, cur, rfl, hB, by rw [hb.block g (hv g rfl)]; exact hg, rest⟩

set_option maxHeartbeats 2000000 in
set_option maxRecDepth 100000 in
theorem rencode_any (s : ByteArray) (hs : s.size ≤ 2147483648) (w : World) : Calls Try.prog 24 #[.string s] w fun e w' => e = .returned (.string ⟨(Hf.enc s.data.toList).toArray⟩) ∧ Below w.heap.size w w' := by
  obtain ⟨i0, hi, hz0, hz1, hz2⟩ := info_parts infoByte
  have HI := hid' hi
  have HZ0 := hid' hz0
  have HZ1 := hid' hz1
  have HZ2 := hid' hz2
  clear hi hz0 hz1 hz2
  obtain ⟨bs, hbs⟩ : ∃ bs, Hf.bits s.data.toList = bs := ⟨_, rfl⟩
  have hbl : bs.length ≤ 64424509440 := by
    have := (Hf.nbits_le s.data.toList).2
    rw [← Lib.size_eq] at this
    rw [← hbs, Hf.bits_length]; omega
  have HBS := hid' hbs
  have HP := hid' (Hf.pad_le bs.length)
  go_enter Try.func24, Try.ntmps24
  go_wp2_with fail
  refine (rbits_any s hs _).mono ?_
  rintro e w1 ⟨v, rfl, hown, hl1⟩
  rw [hbs] at hown
  clear hbs
  have HO1 := hid' hown
  have HB1 := hid' hl1
  clear hown hl1
  go_wp2
  go_loopw [3] (fun s3 wr => ∃ n0 : Nat, ∃ ao cap, s3 = .slice ao n0 cap ∧ n0 ≤ 64424509447 ∧ Hid (∃ q, n0 = bs.length + q ∧ q ≤ Hf.pad bs.length ∧ wr.ownsRow w.heap.size 5 1 s3 n0 (bcells (bs ++ Hf.ones q))) ∧ Hid (Below w.heap.size w wr)) (fun s3 _ => match s3 with | .slice _ n _ => (8 - n % 8) % 8 | _ => 0)
  case atStart =>
    obtain ⟨ao, cap, hv⟩ := owns_shape HO1.out
    exact ⟨bs.length, ao, cap, hv, by omega, hid' ⟨0, by omega, Nat.zero_le _, by simpa [Hf.ones] using HO1.out⟩, HB1⟩
  case round =>
    clear HO1 HB1
    obtain ⟨n0, ao, cap, rfl, hn0, HQ, HB⟩ := hrel
    obtain ⟨r, hr⟩ : ∃ r, n0 % 8 = r := ⟨_, rfl⟩
    have hr1 : (n0 : Int) % 8 = (r : Int) := by omega
    have hr2 : (n0 : Int).tmod 8 = (r : Int) := by rw [Int.tmod_eq_emod_of_nonneg (by omega)]; omega
    have HR := hid' hr
    clear hr
    by_cases hr0 : r = 0
    · subst hr0
      obtain ⟨L, hL⟩ : ∃ L, bs ++ Hf.ones (Hf.pad bs.length) = L := ⟨_, rfl⟩
      have HL : Hid (L.length = n0 ∧ wr.ownsRow w.heap.size 5 1 (.slice ao n0 cap) n0 (bcells L) ∧ Hf.enc s.data.toList = Hf.pk L ∧ ∃ M, n0 = 8 * M) := hid' (by
        obtain ⟨q, h1, h2, h3⟩ := HQ.out
        have h4 := HR.out
        have hp := HP.out
        have e : q = Hf.pad bs.length := by unfold Hf.pad at h2 hp ⊢; omega
        subst e
        rw [hL] at h3
        refine ⟨by rw [← hL, List.length_append, Hf.ones_length]; omega, h3, by rw [Hf.enc, HBS.out, hL], n0 / 8, by omega⟩)
      obtain ⟨Bo, hBo⟩ : ∃ Bo, wr.heap.size = Bo := ⟨_, rfl⟩
      have HLB : Hid (∀ k, (Value.slice ao n0 cap).ownBlock = some k → k < Bo) := hid' (fun k e => by rw [← hBo]; exact (World.ownsRow.lt HL.out.2.1 k e).2)
      have HB2 : Hid (Below w.heap.size w wr ∧ w.heap.size ≤ Bo ∧ Bo ≤ wr.heap.size) := hid' ⟨HB.out, by rw [← hBo]; exact HB.out.size, by omega⟩
      have hr5 : (n0 : Int) % 8 = 0 := by have := HR.out; omega
      have hr6 : (n0 : Int).tmod 8 = 0 := by rw [Int.tmod_eq_emod_of_nonneg (by omega)]; exact hr5
      clear hL hBo HQ HB hr1 hr2 HR
      go_wp2
      clear hr5 hr6
      go_loopw [5, 4] (fun s5 ov wr => ∃ i : Nat, s5 = .int .i64 (i : Int) ∧ i ≤ n0 ∧ Hid (∃ m, i = 8 * m ∧ wr.ownsRow Bo 5 1 ov m (Lib.byteCells (Hf.pk (L.take (8 * m))))) ∧ Hid (wr.ownsRow w.heap.size 5 1 (.slice ao n0 cap) n0 (bcells L)) ∧ Hid (Below w.heap.size w wr ∧ w.heap.size ≤ Bo ∧ Bo ≤ wr.heap.size)) (fun s5 _ _ => n0 - (intOf s5).toNat)
      case atStart => exact ⟨0, rfl, Nat.zero_le _, hid' ⟨0, rfl, World.ownsRow_nil _ _ _ _⟩, hid' HL.out.2.1, HB2⟩
      case round =>
        clear HB2
        obtain ⟨i, rfl, hin, HM, HRL, HB⟩ := hrel
        by_cases hlt : i < n0
        · have hlt2 : (i : Int) < (n0 : Int) := by omega
          have hi8 : i + 8 ≤ n0 := by obtain ⟨m, hm, _⟩ := HM.out; obtain ⟨_, _, _, M, hM⟩ := HL.out; omega
          obtain ⟨g, rfl⟩ : ∃ g, ao = some ⟨g, 0, none⟩ := by
            rcases HRL.out.2 with ⟨hv, h0⟩ | ⟨g, _, _, hv, _⟩
            · omega
            · exact ⟨g, by simp at hv; exact hv.1⟩
          go_wp2
          go_loopw [6, 7] (fun s6 s7 wx => ∃ y kk : Nat, s6 = .int .u8 (y : Int) ∧ s7 = .int .i64 (kk : Int) ∧ kk ≤ 8 ∧ Hid (y = Hf.val ((L.drop i).take kk)) ∧ wr = wx) (fun _ s7 _ => 8 - (intOf s7).toNat)
          case atStart => exact ⟨0, 0, rfl, rfl, by omega, hid' (by simp [Hf.val, Hf.valF]), rfl⟩
          case round =>
            obtain ⟨y, kk, rfl, rfl, hkk, HY, rfl⟩ := hrel
            by_cases hk8 : kk < 8
            · have hk9 : (kk : Int) < 8 := by omega
              obtain ⟨j, hj⟩ : ∃ j : Nat, (i : Int) + (kk : Int) = (j : Int) := ⟨i + kk, by omega⟩
              have hjn : (j : Int) < (n0 : Int) := by omega
              have hjl : j < L.length := by rw [HL.out.1]; omega
              obtain ⟨bt, hbt⟩ : ∃ bt, L[j]? = some bt := ⟨_, List.getElem?_eq_getElem hjl⟩
              obtain ⟨z, hz⟩ : ∃ z, bt.toNat = z := ⟨_, rfl⟩
              have hz1' : z ≤ 1 := by rw [← hz]; cases bt <;> simp
              have hcl : wr.cell? ⟨g, j, none⟩ = some (.int .u8 (z : Int)) := by
                have := HRL.out.cells (g := g) rfl j (.int .u8 (bt.toNat : Int)) (by rw [bcells, List.getElem?_map, hbt]; rfl)
                have hadd : (⟨g, 0, none⟩ : Addr).add j = ⟨g, j, none⟩ := by unfold Addr.add; split <;> simp_all
                rw [hadd, hz] at this; exact this
              have hy7 : y < 128 := by
                have h1 := Hf.val_lt ((L.drop i).take kk)
                rw [← HY.out] at h1
                have h2 : ((L.drop i).take kk).length ≤ 7 := by rw [List.length_take]; omega
                have h3 : 2 ^ ((L.drop i).take kk).length ≤ 2 ^ 7 := Nat.pow_le_pow_right (by omega) h2
                omega
              have HY2 : Hid (2 * y + z = Hf.val ((L.drop i).take (kk + 1))) := hid' (by
                have e : (L.drop i)[kk]? = some bt := by rw [List.getElem?_drop, show i + kk = j by omega, hbt]
                rw [List.take_add_one, e, Option.toList, Hf.val_snoc, ← HY.out, hz])
              clear hbt hz hjl
              go_wp2
              go_roundw
              case rel => exact ⟨2 * y + z, kk + 1, by go_num, by go_num, by omega, HY2, by first | rfl | trivial⟩
              case measure => simp [intOf]; omega
            · obtain rfl : kk = 8 := by omega
              have hy8 : y < 256 := by
                have h1 := Hf.val_lt ((L.drop i).take 8)
                rw [← HY.out] at h1
                have h2 : ((L.drop i).take 8).length ≤ 8 := by rw [List.length_take]; omega
                have h3 : 2 ^ ((L.drop i).take 8).length ≤ 2 ^ 8 := Nat.pow_le_pow_right (by omega) h2
                omega
              obtain ⟨m, xs, HMM, HXS, HOW⟩ : ∃ m xs, Hid (i = 8 * m) ∧ Hid (Lib.byteCells (Hf.pk (L.take (8 * m))) = xs) ∧ Hid (wr.ownsRow Bo 5 1 u4 m xs) := by
                obtain ⟨m, h1, h2⟩ := HM.out
                exact ⟨m, _, hid' h1, hid' rfl, hid' h2⟩
              have hmm : m ≤ 64424509447 := by have := HMM.out; omega
              clear HM
              go_wp2_with (at_builtin; refine wpList_append_own _ rfl _ _ 41 rfl Bo 5 i0 (.int .u8 0) 1 1 Try.underlying41 HI.out HZ0.out HZ1.out HZ2.out rfl (by decide) _ _ _ rfl (World.ownsRow.alloc HOW.out _) ⟨wr.heap.size, 0, none⟩ 1 1 [.int .u8 (y : Int)] rfl rfl (one_new _ _ _) (fun u hu => by simp at hu; subst hu; rfl) ?a1 ?a2 ?a3 ?_)
              case a1 => unfold maxLen; omega
              case a2 => omega
              case a3 => have := HB.out.2.2; simp; omega
              intro vx w5 hown hgrow _
              have hbe := grown_below8 HOW.out (grown_alloc hgrow) HB.out.2.2
              have HM5 : Hid (∃ m, i + 8 = 8 * m ∧ w5.ownsRow Bo 5 1 vx m (Lib.byteCells (Hf.pk (L.take (8 * m))))) := hid' (by
                refine ⟨m + 1, by have := HMM.out; omega, ?_⟩
                have hm := HMM.out
                rw [Hf.pk_eight_more L m (by rw [HL.out.1]; omega), ← hm, ← HY.out]
                have e : Lib.byteCells (Hf.pk (L.take i) ++ [UInt8.ofNat y]) = xs ++ [.int .u8 (y : Int)] := by
                  rw [← HXS.out, hm]
                  simp only [Lib.byteCells, List.map_append, List.map_cons, List.map_nil, UInt8.toNat_ofNat']
                  rw [Nat.mod_eq_of_lt (by omega)]
                rw [e]; exact hown)
              have HR5 := hid' (owns_keep HRL.out hbe HLB.out)
              have HB5 : Hid (Below w.heap.size w w5 ∧ w.heap.size ≤ Bo ∧ Bo ≤ w5.heap.size) := hid' ⟨HB.out.1.trans (hbe.mono HB.out.2.1), HB.out.2.1, Nat.le_trans HB.out.2.2 hbe.size⟩
              clear hown hgrow hbe
              go_wp2
              go_roundw
              case rel => exact ⟨i + 8, by go_num, by omega, HM5, HR5, HB5⟩
              case measure => simp [intOf]; omega
        · have hie : i = n0 := by omega
          obtain ⟨m, HOW, HML⟩ : ∃ m, Hid (wr.ownsRow Bo 5 1 u4 m (Lib.byteCells (Hf.enc s.data.toList))) ∧ Hid ((Hf.enc s.data.toList).length = m) := by
            obtain ⟨m, h1, h2⟩ := HM.out
            obtain ⟨l1, l2, l3, _⟩ := HL.out
            rw [List.take_of_length_le (by omega), ← l3] at h2
            exact ⟨m, hid' h2, hid' (by have := h2.1; simpa [Lib.byteCells] using this)⟩
          have hcv := own_str HOW.out HML.out
          clear HM
          go_wp2
          go_ret
          exact ⟨rfl, HB.out.1⟩
    · have hr3 : ((r : Int) == 0) = false := by simp; omega
      have hr4 : ((r : Int) != 0) = true := by simp; omega
      obtain ⟨q, xs, HQ1, HXS, HOW⟩ : ∃ q xs, Hid (n0 = bs.length + q ∧ q ≤ Hf.pad bs.length) ∧ Hid (bcells (bs ++ Hf.ones q) = xs) ∧ Hid (wr.ownsRow w.heap.size 5 1 (.slice ao n0 cap) n0 xs) := by
        obtain ⟨q, h1, h2, h3⟩ := HQ.out
        exact ⟨q, _, hid' ⟨h1, h2⟩, hid' rfl, hid' h3⟩
      clear HQ
      go_wp2_with (at_builtin; refine wpList_append_own _ rfl _ _ 41 rfl w.heap.size 5 i0 (.int .u8 0) 1 1 Try.underlying41 HI.out HZ0.out HZ1.out HZ2.out rfl (by decide) _ _ _ rfl (World.ownsRow.alloc HOW.out _) ⟨wr.heap.size, 0, none⟩ 1 1 [.int .u8 1] rfl rfl (one_new _ _ _) (fun u hu => by simp at hu; subst hu; rfl) ?a1 ?a2 ?a3 ?_)
      case a1 => unfold maxLen; omega
      case a2 => omega
      case a3 => have := HB.out.size; simp; omega
      intro vx w5 hown hgrow _
      have hbe := grown_below8 HOW.out (grown_alloc hgrow) HB.out.size
      obtain ⟨ao', cap', rfl⟩ := owns_shape hown
      have HQ5 : Hid (∃ q, n0 + 1 = bs.length + q ∧ q ≤ Hf.pad bs.length ∧ w5.ownsRow w.heap.size 5 1 (.slice ao' (n0 + 1) cap') (n0 + 1) (bcells (bs ++ Hf.ones q))) := hid' (by
        obtain ⟨h1, h2⟩ := HQ1.out
        have h3 := HR.out
        refine ⟨q + 1, by omega, by unfold Hf.pad at h2 ⊢; omega, ?_⟩
        have e : bcells (bs ++ Hf.ones (q + 1)) = xs ++ [.int .u8 1] := by
          rw [← HXS.out, Hf.ones, Hf.ones, List.replicate_succ', ← List.append_assoc, bcells_snoc]; rfl
        rw [e]; exact hown)
      have HB5 := hid' (HB.out.trans hbe)
      have hn5 : n0 + 1 ≤ 64424509447 := by obtain ⟨h1, h2⟩ := HQ1.out; have := HP.out.1; have := HR.out; unfold Hf.pad at h2; omega
      clear hown hgrow hbe
      go_wp2
      go_roundw
      case rel => exact ⟨n0 + 1, ao', cap', rfl, hn5, HQ5, HB5⟩
      case measure => have := HR.out; simp; omega

end Go.Proofs.Ythldbhpkkcoafaa
