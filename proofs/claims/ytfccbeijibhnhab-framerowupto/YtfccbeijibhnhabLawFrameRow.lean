/-
  FrameRow, by its contract.
-/
import Derived.Test.YtfccbeijibhnhabFrQ
import Derived.Test.YtfccbeijibhnhabLawFrameBack
namespace Go.Proofs.Ytfccbeijibhnhab
open Go.RowKit

namespace Fm
/-- May a frame be written? Its bytes; those of some. -/
def okq (f : Int × Int × Int × List UInt8) : Bool := decide (unw f.1 f.2.1 f.2.2.1 f.2.2.2.length = 0)
def wrq (f : Int × Int × Int × List UInt8) : List UInt8 := wr f.1 f.2.1 f.2.2.1 f.2.2.2
def wrs (l : List (Int × Int × Int × List UInt8)) : List UInt8 := l.flatMap wrq
theorem wrs_snoc (l : List (Int × Int × Int × List UInt8)) (f : Int × Int × Int × List UInt8) : wrs (l ++ [f]) = wrs l ++ wrq f := by simp [wrs]
theorem wrs_cons (f : Int × Int × Int × List UInt8) (l : List (Int × Int × Int × List UInt8)) : wrs (f :: l) = wrq f ++ wrs l := by simp [wrs]
theorem wrs_le (l : List (Int × Int × Int × List UInt8)) (h : ∀ f ∈ l, f.2.2.2.length ≤ 1048576) : (wrs l).length ≤ l.length * 1048585 := by
  induction l with
  | nil => simp [wrs]
  | cons f r ih =>
    have h1 := h f (by simp)
    have h2 := ih (fun g hg => h g (by simp [hg]))
    rw [wrs_cons, List.length_append, List.length_cons]
    have : (wrq f).length = 9 + f.2.2.2.length := wr_length _ _ _ _
    omega
theorem okq_iff {f : Int × Int × Int × List UInt8} (h : okq f = true) : may f.1 f.2.1 f.2.2.1 = true ∧ f.2.2.2.length ≤ 16777215 := by
  have hr := of_decide_eq_true h
  unfold unw at hr
  split at hr
  · split at hr
    · cases hr
    · exact ⟨by assumption, by omega⟩
  · cases hr
theorem short' (k fl st : Int) (l : List UInt8) (c : Nat) (hl : l.length ≤ 16777215) (hc : c < (wr k fl st l).length) : nextE ((wr k fl st l).take c) 16777215 = 40 := by
  have h9 := wr_length k fl st l
  unfold nextE
  by_cases h3 : c < 3
  · rw [if_pos (by rw [List.length_take]; omega)]
  · have e : ((wr k fl st l).take c).take 3 = (wr k fl st l).take 3 := by rw [List.take_take, Nat.min_eq_left (by omega)]
    have hn := wr_num k fl st l [] hl
    rw [List.append_nil] at hn
    rw [if_neg (by rw [List.length_take]; omega), e, hn, if_neg (by omega), if_pos (by rw [List.length_take]; omega)]
end Fm

theorem own_nb {w w' : World} {B : Nat} {e : TypeId} {s : Nat} {v : Value} {n : Nat} {xs : List Value} (h : w.ownsRow B e s v n xs) (hn : NB B w w') (he : e ≠ 5) : w'.ownsRow B e s v n xs := by
  refine ⟨h.1, ?_⟩
  rcases h.2 with h2 | ⟨g, cap, cur, h1, h2, h3, h4⟩
  · exact .inl h2
  · exact .inr ⟨g, cap, cur, h1, h2, hn.ar g e cur he h3, h4⟩
theorem own_two {w w' : World} {B B' : Nat} {e e' : TypeId} {s s' : Nat} {v v' : Value} {n n' : Nat} {xs xs' : List Value} (h : w.ownsRow B e s v n xs) (h' : w.ownsRow B' e' s' v' n' xs') (he : e ≠ e') (hg : w.grownBy w' v'.ownBlock) : w'.ownsRow B e s v n xs := by
  refine ⟨h.1, ?_⟩
  rcases h.2 with h2 | ⟨g, cap, cur, h1, h2, h3, h4⟩
  · exact .inl h2
  · refine .inr ⟨g, cap, cur, h1, h2, ?_, h4⟩
    have ha : Ar w g e cur := h3
    exact ar_grown ha hg (own_apart h' ha he)
theorem four_new (w : World) (t : TypeId) (x y z u : Value) : ∀ j q, ([x, y, z, u] : List Value)[j]? = some q → (w.alloc (.cells #[x, y, z, u] t)).cell? ((⟨w.heap.size, 0, none⟩ : Addr).add j) = some q := by
  intro j q hj
  match j, hj with
  | 0, hj => simp at hj; subst hj; simp [Addr.add]
  | 1, hj => simp at hj; subst hj; simp [Addr.add]
  | 2, hj => simp at hj; subst hj; simp [Addr.add]
  | 3, hj => simp at hj; subst hj; simp [Addr.add]
theorem infoFrame : (Try.prog.info? 29).map (fun i => (i.zero, i.size, i.bytes)) = some (some (.agg #[.int .i64 0, .int .i64 0, .int .i64 0, .string ⟨#[]⟩]), 4, 40) := by kernel_rfl

set_option maxHeartbeats 8000000 in
set_option maxRecDepth 20000 in
theorem frameRow_l (v : Value) (fs : List (Int × Int × Int × List UInt8)) (cut : Int) (w : World) (h : FR w v fs) (hn : fs.length ≤ 1048576) (hl : ∀ f ∈ fs, f.2.2.2.length ≤ 1048576) :
    Calls Try.prog 5 #[v, .int .i64 cut] w fun e w' => e = .returned (.bool true) ∧ Below w.heap.size w w' := by
  obtain ⟨i0, hi, hz0, hz1, hz2⟩ := info_parts' infoByte'
  have HI := hid' hi
  have HZ0 := hid' hz0
  have HZ1 := hid' hz1
  have HZ2 := hid' hz2
  clear hi hz0 hz1 hz2
  obtain ⟨i1, hi, hz0, hz1, hz2⟩ := info_parts' infoFrame
  have KI := hid' hi
  have KZ0 := hid' hz0
  have KZ1 := hid' hz1
  have KZ2 := hid' hz2
  clear hi hz0 hz1 hz2
  obtain ⟨ao, cap, hsh⟩ := h.shape
  subst hsh
  obtain ⟨n, hnn⟩ : ∃ n, fs.length = n := ⟨_, rfl⟩
  rw [hnn] at h hn ⊢
  have H := hid' h
  have HN := hid' hnn
  have HL := hid' hl
  have HS0 : Hid (∃ acc, acc = (fs.take 0).filter Fm.okq ∧ BR w w.heap.size (.slice none 0 0) (Fm.wrs acc) ∧ w.ownsRow w.heap.size 29 4 (.slice none 0 0) acc.length (fqC acc) ∧ Below w.heap.size w w) := hid' ⟨[], rfl, br_nil _ _, World.ownsRow_nil _ _ _ _, Below.refl _ _⟩
  clear h hnn hl
  go_enter Try.func5, Try.ntmps5
  go_wp2
  go_loopw [5, 6, 7] (fun s5 s6 s7 wr => ∃ i : Nat, s7 = .int .i64 (i : Int) ∧ i ≤ n ∧ Hid (∃ acc, acc = (fs.take i).filter Fm.okq ∧ BR wr w.heap.size s5 (Fm.wrs acc) ∧ wr.ownsRow w.heap.size 29 4 s6 acc.length (fqC acc) ∧ Below w.heap.size w wr)) (fun _ _ s7 _ => n - (intOf s7).toNat)
  case atStart => exact ⟨0, rfl, Nat.zero_le _, HS0⟩
  case round =>
    clear HS0
    obtain ⟨i, rfl, hi, HX⟩ := hrel
    obtain ⟨acc, HACC, HO5, HO6, HB⟩ : ∃ acc, Hid (acc = (fs.take i).filter Fm.okq) ∧ Hid (BR wr w.heap.size u5 (Fm.wrs acc)) ∧ Hid (wr.ownsRow w.heap.size 29 4 u6 acc.length (fqC acc)) ∧ Hid (Below w.heap.size w wr) := by
      obtain ⟨acc, a1, a2, a3, a4⟩ := HX.out
      exact ⟨acc, a1, a2, a3, a4⟩
    clear HX
    have hal : acc.length ≤ 1048576 := by
      rw [HACC.out]
      have h1 := List.length_filter_le Fm.okq (fs.take i)
      rw [List.length_take] at h1
      omega
    have HLA : Hid (∀ f ∈ acc, f.2.2.2.length ≤ 1048576) := hid' (by
      intro f hf
      rw [HACC.out] at hf
      exact HL.out f (List.mem_of_mem_take (List.mem_filter.1 hf).1))
    have hbl : (Fm.wrs acc).length ≤ 1099521064960 := by
      have := Fm.wrs_le acc HLA.out
      omega
    by_cases hlt : i < n
    · have hlt2 : (i : Int) < (n : Int) := by omega
      obtain ⟨f, hf⟩ : ∃ f, fs[i]? = some f := ⟨_, List.getElem?_eq_getElem (by rw [HN.out]; exact hlt)⟩
      obtain ⟨k, fl, st, l⟩ := f
      have hlen : l.length ≤ 1048576 := HL.out _ (List.mem_of_getElem? hf)
      obtain ⟨a, hao, x0, x1, x2, x3⟩ := (H.out.keep HB.out).four i _ hf
      subst hao
      have HF := hid' hf
      have HTK : Hid (fs.take (i + 1) = fs.take i ++ [(k, fl, st, l)]) := hid' (by rw [List.take_add_one, hf]; rfl)
      clear hf
      by_cases hok : Fm.unw k fl st l.length = 0
      · have HW := hid' (fun w => cwrite_ok k fl st l hok (by omega) w)
        obtain ⟨s, hs⟩ : ∃ s, Fm.wr k fl st l = s := ⟨_, rfl⟩
        rw [hs] at HW
        have hsl : s.length ≤ 1048585 := by rw [← hs, Fm.wr_length]; omega
        have HACC2 : Hid (acc ++ [(k, fl, st, l)] = (fs.take (i + 1)).filter Fm.okq) := hid' (by
          rw [HTK.out, List.filter_append, ← HACC.out]
          have : Fm.okq (k, fl, st, l) = true := decide_eq_true hok
          simp [this])
        have HWS : Hid (Fm.wrs (acc ++ [(k, fl, st, l)]) = Fm.wrs acc ++ s) := hid' (by rw [Fm.wrs_snoc, ← hs]; rfl)
        clear hok hs
        go_wp2_with fail
        refine (HW.out _).mono ?_
        rintro e w1 ⟨rfl, hb1⟩
        have HO5a := hid' (own_keep HO5.out hb1)
        have HO6a := hid' (own_keep HO6.out hb1)
        have HB1 := hid' (HB.out.trans (hb1.mono HB.out.size))
        clear hb1 x0 x1 x2 x3
        obtain ⟨xs, hxs⟩ : ∃ xs, Lib.byteCells (Fm.wrs acc) = xs := ⟨_, rfl⟩
        obtain ⟨np, hnp⟩ : ∃ np, (Fm.wrs acc).length = np := ⟨_, rfl⟩
        rw [hxs, hnp] at HO5a
        rw [hnp] at hbl
        have HXX := hid' hxs
        have HNP := hid' hnp
        clear hxs hnp
        go_wp2_with (at_builtin; refine Lib.wpList_append_own_string _ rfl _ _ 44 9 rfl w.heap.size 5 i0 Try.underlying44 Try.underlying9 HI.out HZ0.out HZ1.out HZ2.out _ _ _ rfl HO5a.out ⟨s.toArray⟩ rfl ?c3 ?c4 ?c5 ?_)
        case c3 => show np + s.length ≤ maxLen; unfold maxLen; omega
        case c4 => show np + s.length ≤ _; omega
        case c5 => exact HB1.out.size
        intro v5 w2 hown2 hgrow2 _
        have hn2 : NB w.heap.size w1 w2 := NB.of_grown HO5a.out hgrow2 HB1.out.size
        have HB2 := hid' (HB1.out.trans hn2.bel)
        have HO6b := hid' (own_nb HO6a.out hn2 (by decide))
        have HO5b : Hid (BR w2 w.heap.size v5 (Fm.wrs (acc ++ [(k, fl, st, l)]))) := hid' (by
          unfold BR
          rw [HWS.out, bytes_app, List.length_append, HXX.out, HNP.out]
          exact hown2)
        clear hown2 hgrow2 hn2
        obtain ⟨a', hao, x0, x1, x2, x3⟩ := (H.out.keep HB2.out).four i _ HF.out
        injection hao with hao
        subst hao
        obtain ⟨ys, hys⟩ : ∃ ys, fqC acc = ys := ⟨_, rfl⟩
        obtain ⟨nq, hnq⟩ : ∃ nq, acc.length = nq := ⟨_, rfl⟩
        rw [hys, hnq] at HO6b
        rw [hnq] at hal
        have HYY := hid' hys
        have HNQ := hid' hnq
        clear hys hnq
        go_wp2_with (at_builtin; refine wpList_append_own _ rfl _ _ 43 rfl w.heap.size 29 i1 _ 4 40 Try.underlying43 KI.out KZ0.out KZ1.out KZ2.out rfl (by decide) _ _ _ rfl (World.ownsRow.alloc HO6b.out _) ⟨w2.heap.size, 0, none⟩ 1 1 [.int .i64 k, .int .i64 fl, .int .i64 st, .string ⟨l.toArray⟩] rfl rfl (four_new _ _ _ _ _ _) (fun u hu => by simp at hu; rcases hu with rfl | rfl | rfl | rfl <;> rfl) ?a1 ?a2 ?a3 ?_)
        case a1 => unfold maxLen; omega
        case a2 => omega
        case a3 => have := HB2.out.size; simp; omega
        intro v6 w3 hown3 hgrow3 _
        have hb3 : Below w.heap.size w w3 := HB2.out.trans (Below.of_grown (Fr_alloc hgrow3) (fun k hk => (HO6b.out.lt k hk).1) HB2.out.size)
        have ho5 : BR w3 w.heap.size v5 (Fm.wrs (acc ++ [(k, fl, st, l)])) := own_two HO5b.out HO6b.out (by decide) (Fr_alloc hgrow3)
        have HS3 : Hid (∃ acc, acc = (fs.take (i + 1)).filter Fm.okq ∧ BR w3 w.heap.size v5 (Fm.wrs acc) ∧ w3.ownsRow w.heap.size 29 4 v6 acc.length (fqC acc) ∧ Below w.heap.size w w3) := hid' (by
          refine ⟨acc ++ [(k, fl, st, l)], HACC2.out, ho5, ?_, hb3⟩
          rw [fqC_snoc, HYY.out, List.length_append, HNQ.out]
          exact hown3)
        clear hown3 hgrow3 hb3 ho5
        go_wp2
        go_roundw
        case rel => exact ⟨i + 1, by go_num, by omega, HS3⟩
        case measure => simp [intOf]; omega
      · obtain ⟨r, hr⟩ : ∃ r, Fm.unw k fl st l.length = r := ⟨_, rfl⟩
        rw [hr] at hok
        have HW := hid' (fun w => cwrite_bad k fl st l r hr hok w)
        have d1 : (r == 0) = false := beq_false_of_ne hok
        have HACC2 : Hid (acc = (fs.take (i + 1)).filter Fm.okq) := hid' (by
          rw [HTK.out, List.filter_append, ← HACC.out]
          have : Fm.okq (k, fl, st, l) = false := decide_eq_false (by show ¬ Fm.unw k fl st l.length = 0; rw [hr]; exact hok)
          simp [this])
        clear hok hr
        go_wp2_with fail
        refine (HW.out _).mono ?_
        rintro e w1 ⟨rfl, hb1⟩
        have HS1 : Hid (∃ acc, acc = (fs.take (i + 1)).filter Fm.okq ∧ BR w1 w.heap.size u5 (Fm.wrs acc) ∧ w1.ownsRow w.heap.size 29 4 u6 acc.length (fqC acc) ∧ Below w.heap.size w w1) := hid' ⟨acc, HACC2.out, own_keep HO5.out hb1, own_keep HO6.out hb1, HB.out.trans (hb1.mono HB.out.size)⟩
        clear hb1 x0 x1 x2 x3
        go_wp2
        go_roundw
        case rel => exact ⟨i + 1, by go_num, by omega, HS1⟩
        case measure => simp [intOf]; omega
    · have hib : i = n := by omega
      have hlt2 : decide ((i : Int) < (n : Int)) = false := decide_eq_false (by omega)
      have hlt3 : decide (i < n) = false := decide_eq_false (by omega)
      clear hlt hib
      obtain ⟨T, hT⟩ : ∃ T, Fm.wrs acc = T := ⟨_, rfl⟩
      have HT := hid' hT
      obtain ⟨c, hc, hcl⟩ : ∃ c : Nat, min (max cut 0) (T.length : Int) = (c : Int) ∧ c ≤ T.length := ⟨(min (max cut 0) (T.length : Int)).toNat, by omega, by omega⟩
      rw [hT] at HO5 hbl
      clear hT
      rcases HO5.out.2 with ⟨hv, hz0⟩ | ⟨g, capb, cur, hv, _, _, hcap, _⟩
      · subst hv
        obtain rfl : T = [] := List.eq_nil_of_length_eq_zero hz0
        obtain rfl : c = 0 := by simpa using hcl
        have hmm : min (max cut 0) 0 = 0 := by omega
        have cv1 : (convert 44 9 (.slice none 0 0)).run Try.prog wr = .ok (.string ⟨#[]⟩) wr := br_str HO5.out
        obtain ⟨y, hy⟩ : ∃ y : List UInt8, y = [] := ⟨_, rfl⟩
        obtain ⟨z, hz⟩ : ∃ z : List UInt8, z = [] := ⟨_, rfl⟩
        have HYZ : Hid (y ++ z = Fm.wrs acc) := hid' (by rw [hy, hz, HT.out]; rfl)
        have hyl : y.length ≤ 1099521064960 := by rw [hy]; simp
        have hzl : z.length ≤ 1099521064960 := by rw [hz]; simp
        have HFR := hid' (FR.of_own HO6.out)
        obtain ⟨bo, capw, hu6⟩ := HFR.out.shape
        subst hu6
        obtain ⟨nA, hnA⟩ : ∃ nA, acc.length = nA := ⟨_, rfl⟩
        rw [hnA] at HFR HO6 hal ⊢
        have HNA := hid' hnA
        have HOKS : Hid (∀ f ∈ acc, Fm.okq f = true) := hid' (by
          intro f hf
          rw [HACC.out] at hf
          exact (List.mem_filter.1 hf).2)
        have HWL : Hid (∀ i, (Fm.wrs (acc.drop i)).length ≤ 1099521064960) := hid' (by
          intro i
          have h1 := Fm.wrs_le (acc.drop i) (fun f hf => HLA.out f (List.mem_of_mem_drop hf))
          rw [List.length_drop] at h1
          have := HNA.out
          omega)
        have HK : Hid (∀ W, Below wr.heap.size wr W → FR W (.slice bo nA capw) acc ∧ Below w.heap.size w W) := hid' (fun W h => ⟨HFR.out.keep h, HB.out.trans (h.mono HB.out.size)⟩)
        have HBR : Hid (Below wr.heap.size wr wr) := hid' (Below.refl _ _)
        have hng := noGuardF
        have HY0 := hid' hy
        have HZ00 := hid' hz
        clear hnA hy hz hz0
        go_wp2
        go_loopw [11, 12, 13] (fun s11 s12 s13 wq => ∃ (r2 m2 : List UInt8) (i : Nat), s11 = .string ⟨r2.toArray⟩ ∧ s12 = .string ⟨m2.toArray⟩ ∧ s13 = .int .i64 (i : Int) ∧ i ≤ nA ∧ r2.length ≤ 1099521064960 ∧ m2.length ≤ 1099521064960 ∧ Hid (r2 ++ m2 = Fm.wrs (acc.drop i)) ∧ Hid (Below wr.heap.size wr wq)) (fun _ s12 s13 _ => 2 * (nA - (intOf s13).toNat) + (if strLen s12 = 0 then 0 else 1))
        case atStart => exact ⟨y, z, 0, by rw [HY0.out], by rw [HZ00.out], rfl, Nat.zero_le _, hyl, hzl, hid' (by rw [List.drop_zero]; exact HYZ.out), HBR⟩
        case round =>
          clear HYZ HBR hyl hzl HFR HO5 HO6 HB cv1
          obtain ⟨r2, m2, j, rfl, rfl, rfl, hj, hr2, hm2, HE, HB2⟩ := hrel
          by_cases hjl : j < nA
          · have hjl2 : (j : Int) < (nA : Int) := by omega
            obtain ⟨f, hf⟩ : ∃ f, acc[j]? = some f := ⟨_, List.getElem?_eq_getElem (by rw [HNA.out]; exact hjl)⟩
            obtain ⟨k, fl, st, l⟩ := f
            obtain ⟨hmay, hll⟩ := Fm.okq_iff (HOKS.out _ (List.mem_of_getElem? hf))
            simp only at hmay hll
            obtain ⟨s, hs⟩ : ∃ s, Fm.wr k fl st l = s := ⟨_, rfl⟩
            have hsl : s.length = 9 + l.length := by rw [← hs]; exact Fm.wr_length _ _ _ _
            have hdr : Fm.wrs (acc.drop j) = s ++ Fm.wrs (acc.drop (j + 1)) := by
              have hjl3 : j < acc.length := by rw [HNA.out]; exact hjl
              have hfe : acc[j] = (k, fl, st, l) := (List.getElem?_eq_some_iff.1 hf).2
              rw [List.drop_eq_getElem_cons hjl3, Fm.wrs_cons, hfe, ← hs]
              rfl
            have HE1 := HE.out
            rw [hdr] at HE1
            by_cases hA : s.length ≤ r2.length
            · obtain ⟨r3, hr3⟩ : ∃ r3, r2.drop s.length = r3 := ⟨_, rfl⟩
              have hr2e : r2 = s ++ r3 := by
                rw [← hr3]
                have h1 : (r2 ++ m2).take s.length = s := by rw [HE1, List.take_left]
                rw [List.take_append_of_le_length hA] at h1
                conv => lhs; rw [← List.take_append_drop s.length r2, h1]
              have HE3 : Hid (r3 ++ m2 = Fm.wrs (acc.drop (j + 1))) := hid' (by
                rw [hr2e, List.append_assoc] at HE1
                exact List.append_cancel_left HE1)
              have hr3l : r3.length ≤ 1099521064960 := by rw [← hr3, List.length_drop]; omega
              obtain ⟨e9, he9⟩ : ∃ e9 : Nat, s.length = e9 := ⟨_, rfl⟩
              have HX : Hid (∀ w : World, Calls Try.prog 11 #[.string ⟨r2.toArray⟩, .int .i64 16777215] w fun e w' => e = .returned (.tuple #[.agg (frC k fl st l), .int .i64 (e9 : Int), .int .i64 0]) ∧ Below w.heap.size w w') := hid' (fun w => by
                have h := cnext_ok r2 16777215 l.length (by rw [hr2e, ← hs]; exact Fm.wr_num _ _ _ _ _ hll) (by rw [hr2e, ← hs]; exact Fm.back_e _ _ _ _ _ _ hll (by omega)) (by omega) w
                have hnx : nxC r2 = frC k fl st l := by rw [hr2e, ← hs]; exact back_nx _ _ _ _ _ hmay hll
                rw [hnx] at h
                have e : (9 : Int) + (l.length : Int) = (e9 : Int) := by omega
                rw [e] at h
                exact h)
              have hcut : (⟨r2.toArray⟩ : ByteArray).extract e9 r2.length = ⟨r3.toArray⟩ := by rw [cut_rest, ← he9, hr3]
              have hel : (e9 : Int) ≤ (r2.length : Int) := by omega
              have e1 : ∀ W, (binOp .neq 29 (.agg #[.int .i64 k, .int .i64 fl, .int .i64 st, .string ⟨l.toArray⟩]) (.agg #[.int .i64 k, .int .i64 fl, .int .i64 st, .string ⟨l.toArray⟩])).run Try.prog W = .ok (.bool false) W := fun W => by rw [neq_frame]; simp
              have HFJ := hid' hf
              clear hf hmay hll hs hsl hdr HE1 hA hr3 hr2e he9
              go_wp2_with fail
              refine (HX.out _).mono ?_
              rintro e w1 ⟨rfl, hb1⟩
              have HB3 := hid' (below_two HB2.out hb1)
              clear hb1
              go_wp2_with (refine wpl_alloc 29 rfl rfl _ zeroFrame ?_)
              intro b3 w3 hg ha hb
              refine wpl_stf _ _ rfl rfl b3 k fl st l (by kernel_rfl) (by kernel_rfl) _ ha rfl ?_
              intro w4 ha4 hu
              have HB4 := hid' (below_two HB3.out (hb.trans (hu.below hg)))
              obtain ⟨c0, c1, c2, c3⟩ := frC_cells ha4
              clear hg ha hb hu ha4
              obtain ⟨aw, hbo, x0, x1, x2, x3⟩ := ((HK.out _ HB4.out).1).four j _ HFJ.out
              subst hbo
              go_upto_region 19 with fail
              go_quiet (fail)
              clear x0 x1 x2 x3 c0 c1 c2 c3
              go_wp2
              go_roundw
              case rel => exact ⟨r3, m2, j + 1, by first | rfl | go_num, rfl, by go_num, by omega, hr3l, hm2, HE3, hid' (below_drewN' HB4.out _)⟩
              case measure => simp [intOf]; omega
            · have hm0 : m2 ≠ [] := by
                intro e
                rw [e, List.append_nil] at HE1
                have := congrArg List.length HE1
                rw [List.length_append] at this
                omega
              have hr2e : r2 = s.take r2.length := by
                have h1 : (r2 ++ m2).take r2.length = r2 := List.take_left
                rw [HE1, List.take_append_of_le_length (by omega)] at h1
                exact h1.symm
              have HX : Hid (∀ w : World, Calls Try.prog 11 #[.string ⟨r2.toArray⟩, .int .i64 16777215] w fun e w' => e = .returned (.tuple #[.agg (frC 0 0 0 []), .int .i64 0, .int .i64 40]) ∧ Below w.heap.size w w') := hid' (fun w => cnext_bad r2 16777215 40 (by rw [hr2e, ← hs]; exact Fm.short' _ _ _ _ _ hll (by rw [hs]; omega)) (by decide) w)
              obtain ⟨r3, hr3⟩ : ∃ r3, r2 ++ m2 = r3 := ⟨_, rfl⟩
              have hcat := str_cat r2 m2
              rw [hr3] at hcat
              have HE3 : Hid (r3 ++ [] = Fm.wrs (acc.drop j)) := hid' (by rw [List.append_nil, ← hr3]; exact HE.out)
              have hr3l : r3.length ≤ 1099521064960 := by rw [← hr3, HE.out]; exact HWL.out j
              have hne : (m2 == []) = false := by cases m2 with | nil => exact absurd rfl hm0 | cons => rfl
              have HM0 : Hid (m2.length ≠ 0) := hid' (fun e => hm0 (List.eq_nil_of_length_eq_zero e))
              clear hf hmay hll hs hsl hdr HE1 hA hr3 hr2e hm0
              go_wp2_with fail
              refine (HX.out _).mono ?_
              rintro e w1 ⟨rfl, hb1⟩
              have HB3 := hid' (below_two HB2.out hb1)
              clear hb1
              go_wp2_with (refine wpl_alloc 29 rfl rfl _ zeroFrame ?_)
              intro b3 w3 hg ha hb
              refine wpl_stf _ _ rfl rfl b3 0 0 0 [] (by kernel_rfl) (by kernel_rfl) _ ha rfl ?_
              intro w4 ha4 hu
              have HB4 := hid' (below_two HB3.out (hb.trans (hu.below hg)))
              clear hg ha hb hu ha4
              go_wp2
              go_roundw
              case rel => exact ⟨r3, [], j, by first | rfl | go_num, rfl, by first | rfl | go_num, hj, hr3l, by simp, HE3, HB4⟩
              case measure =>
                have e1 : strLen (.string ⟨m2.toArray⟩) ≠ 0 := HM0.out
                have e0 : strLen (.string ⟨#[]⟩) = 0 := rfl
                simp [intOf, e0, e1]
          · have hjb : j = nA := by omega
            have hlt2 : decide ((j : Int) < (nA : Int)) = false := decide_eq_false (by omega)
            have hlt3 : decide (j < nA) = false := decide_eq_false (by omega)
            have hnil : r2 ++ m2 = [] := by rw [HE.out, hjb, ← HNA.out, List.drop_length]; rfl
            obtain ⟨rfl, rfl⟩ := List.append_eq_nil_iff.1 hnil
            have HB3 := hid' (HK.out _ HB2.out).2
            have hcc0 : (⟨#[]⟩ : ByteArray) ++ ⟨#[]⟩ = ⟨#[]⟩ := str_cat [] []
            have hem : (⟨#[]⟩ : ByteArray).toList.isEmpty = true := by rw [Lib.toList_data]; rfl
            clear hjb hnil hjl
            go_wp2_with fail
            refine (awake7 _).mono ?_
            rintro e w1 ⟨rfl, hb1⟩
            have HB4 := hid' (HB3.out.trans (hb1.mono HB3.out.size))
            clear hb1
            go_wp2
            go_ret
            exact ⟨rfl, HB4.out⟩
      · subst hv
        have hci : (c : Int) ≤ (T.length : Int) := by omega
        obtain ⟨y, hy⟩ : ∃ y, T.take c = y := ⟨_, rfl⟩
        obtain ⟨z, hz⟩ : ∃ z, T.drop c = z := ⟨_, rfl⟩
        have hcell : ∀ j (hj : j < T.length), wr.cell? ⟨g, j, none⟩ = some (.int .u8 (T[j].toNat : Int)) := fun j hj => by
          have := HO5.out.cells (g := g) rfl j _ (by rw [Lib.byteCells, List.getElem?_map, List.getElem?_eq_getElem hj]; rfl)
          rwa [Addr.add_mid, Nat.zero_add] at this
        have cv1 : (convert 44 9 (.slice (some ⟨g, 0, none⟩) c capb)).run Try.prog wr = .ok (.string ⟨y.toArray⟩) wr := by
          have := run_convert_bytes_back (P := Try.prog) wr 44 9 5 ⟨g, 0, none⟩ capb (T.take c) Try.underlying44 Try.underlying5 Try.underlying9 (fun j hj => by
            rw [Addr.add_mid, Nat.zero_add]
            rw [List.length_take] at hj
            rw [hcell j (by omega), List.getElem_take])
          rw [List.length_take, Nat.min_eq_left hcl, hy] at this
          exact this
        by_cases hcc : capb = c
        · subst hcc
          have hTc : T.length - capb = 0 := by omega
          have hz' : z = [] := by rw [← hz]; exact List.drop_of_length_le (by omega)
          have cv2 : (convert 44 9 (.slice (some ⟨g, 0, none⟩) (T.length - capb) 0)).run Try.prog wr = .ok (.string ⟨z.toArray⟩) wr := by
            rw [hTc, hz']
            exact run_convert_bytes_back (P := Try.prog) wr 44 9 5 ⟨g, 0, none⟩ 0 [] Try.underlying44 Try.underlying5 Try.underlying9 (fun j hj => by simp at hj)
          have cv3 := cv2
          rw [hTc] at cv3
          have HYZ0 : Hid (y ++ z = Fm.wrs acc) := hid' (by rw [← hy, ← hz, List.take_append_drop, HT.out])
          have hyl0 : y.length ≤ 1099521064960 := by rw [← hy, List.length_take]; omega
          have hzl0 : z.length ≤ 1099521064960 := by rw [← hz, List.length_drop]; omega
          clear hcell hy hz hz' hTc
          have HYZ : Hid (y ++ z = Fm.wrs acc) := hid' (HYZ0.out)
          have hyl : y.length ≤ 1099521064960 := by exact hyl0
          have hzl : z.length ≤ 1099521064960 := by exact hzl0
          have HFR := hid' (FR.of_own HO6.out)
          obtain ⟨bo, capw, hu6⟩ := HFR.out.shape
          subst hu6
          obtain ⟨nA, hnA⟩ : ∃ nA, acc.length = nA := ⟨_, rfl⟩
          rw [hnA] at HFR HO6 hal ⊢
          have HNA := hid' hnA
          have HOKS : Hid (∀ f ∈ acc, Fm.okq f = true) := hid' (by
            intro f hf
            rw [HACC.out] at hf
            exact (List.mem_filter.1 hf).2)
          have HWL : Hid (∀ i, (Fm.wrs (acc.drop i)).length ≤ 1099521064960) := hid' (by
            intro i
            have h1 := Fm.wrs_le (acc.drop i) (fun f hf => HLA.out f (List.mem_of_mem_drop hf))
            rw [List.length_drop] at h1
            have := HNA.out
            omega)
          have HK : Hid (∀ W, Below wr.heap.size wr W → FR W (.slice bo nA capw) acc ∧ Below w.heap.size w W) := hid' (fun W h => ⟨HFR.out.keep h, HB.out.trans (h.mono HB.out.size)⟩)
          have HBR : Hid (Below wr.heap.size wr wr) := hid' (Below.refl _ _)
          have hng := noGuardF
          clear hnA HYZ0 hyl0 hzl0
          go_wp2
          go_loopw [11, 12, 13] (fun s11 s12 s13 wq => ∃ (r2 m2 : List UInt8) (i : Nat), s11 = .string ⟨r2.toArray⟩ ∧ s12 = .string ⟨m2.toArray⟩ ∧ s13 = .int .i64 (i : Int) ∧ i ≤ nA ∧ r2.length ≤ 1099521064960 ∧ m2.length ≤ 1099521064960 ∧ Hid (r2 ++ m2 = Fm.wrs (acc.drop i)) ∧ Hid (Below wr.heap.size wr wq)) (fun _ s12 s13 _ => 2 * (nA - (intOf s13).toNat) + (if strLen s12 = 0 then 0 else 1))
          case atStart => exact ⟨y, z, 0, rfl, rfl, rfl, Nat.zero_le _, hyl, hzl, hid' (by rw [List.drop_zero]; exact HYZ.out), HBR⟩
          case round =>
            clear HYZ HBR hyl hzl HFR HO5 HO6 HB cv1 cv2 cv3
            obtain ⟨r2, m2, j, rfl, rfl, rfl, hj, hr2, hm2, HE, HB2⟩ := hrel
            by_cases hjl : j < nA
            · have hjl2 : (j : Int) < (nA : Int) := by omega
              obtain ⟨f, hf⟩ : ∃ f, acc[j]? = some f := ⟨_, List.getElem?_eq_getElem (by rw [HNA.out]; exact hjl)⟩
              obtain ⟨k, fl, st, l⟩ := f
              obtain ⟨hmay, hll⟩ := Fm.okq_iff (HOKS.out _ (List.mem_of_getElem? hf))
              simp only at hmay hll
              obtain ⟨s, hs⟩ : ∃ s, Fm.wr k fl st l = s := ⟨_, rfl⟩
              have hsl : s.length = 9 + l.length := by rw [← hs]; exact Fm.wr_length _ _ _ _
              have hdr : Fm.wrs (acc.drop j) = s ++ Fm.wrs (acc.drop (j + 1)) := by
                have hjl3 : j < acc.length := by rw [HNA.out]; exact hjl
                have hfe : acc[j] = (k, fl, st, l) := (List.getElem?_eq_some_iff.1 hf).2
                rw [List.drop_eq_getElem_cons hjl3, Fm.wrs_cons, hfe, ← hs]
                rfl
              have HE1 := HE.out
              rw [hdr] at HE1
              by_cases hA : s.length ≤ r2.length
              · obtain ⟨r3, hr3⟩ : ∃ r3, r2.drop s.length = r3 := ⟨_, rfl⟩
                have hr2e : r2 = s ++ r3 := by
                  rw [← hr3]
                  have h1 : (r2 ++ m2).take s.length = s := by rw [HE1, List.take_left]
                  rw [List.take_append_of_le_length hA] at h1
                  conv => lhs; rw [← List.take_append_drop s.length r2, h1]
                have HE3 : Hid (r3 ++ m2 = Fm.wrs (acc.drop (j + 1))) := hid' (by
                  rw [hr2e, List.append_assoc] at HE1
                  exact List.append_cancel_left HE1)
                have hr3l : r3.length ≤ 1099521064960 := by rw [← hr3, List.length_drop]; omega
                obtain ⟨e9, he9⟩ : ∃ e9 : Nat, s.length = e9 := ⟨_, rfl⟩
                have HX : Hid (∀ w : World, Calls Try.prog 11 #[.string ⟨r2.toArray⟩, .int .i64 16777215] w fun e w' => e = .returned (.tuple #[.agg (frC k fl st l), .int .i64 (e9 : Int), .int .i64 0]) ∧ Below w.heap.size w w') := hid' (fun w => by
                  have h := cnext_ok r2 16777215 l.length (by rw [hr2e, ← hs]; exact Fm.wr_num _ _ _ _ _ hll) (by rw [hr2e, ← hs]; exact Fm.back_e _ _ _ _ _ _ hll (by omega)) (by omega) w
                  have hnx : nxC r2 = frC k fl st l := by rw [hr2e, ← hs]; exact back_nx _ _ _ _ _ hmay hll
                  rw [hnx] at h
                  have e : (9 : Int) + (l.length : Int) = (e9 : Int) := by omega
                  rw [e] at h
                  exact h)
                have hcut : (⟨r2.toArray⟩ : ByteArray).extract e9 r2.length = ⟨r3.toArray⟩ := by rw [cut_rest, ← he9, hr3]
                have hel : (e9 : Int) ≤ (r2.length : Int) := by omega
                have e1 : ∀ W, (binOp .neq 29 (.agg #[.int .i64 k, .int .i64 fl, .int .i64 st, .string ⟨l.toArray⟩]) (.agg #[.int .i64 k, .int .i64 fl, .int .i64 st, .string ⟨l.toArray⟩])).run Try.prog W = .ok (.bool false) W := fun W => by rw [neq_frame]; simp
                have HFJ := hid' hf
                clear hf hmay hll hs hsl hdr HE1 hA hr3 hr2e he9
                go_wp2_with fail
                refine (HX.out _).mono ?_
                rintro e w1 ⟨rfl, hb1⟩
                have HB3 := hid' (below_two HB2.out hb1)
                clear hb1
                go_wp2_with (refine wpl_alloc 29 rfl rfl _ zeroFrame ?_)
                intro b3 w3 hg ha hb
                refine wpl_stf _ _ rfl rfl b3 k fl st l (by kernel_rfl) (by kernel_rfl) _ ha rfl ?_
                intro w4 ha4 hu
                have HB4 := hid' (below_two HB3.out (hb.trans (hu.below hg)))
                obtain ⟨c0, c1, c2, c3⟩ := frC_cells ha4
                clear hg ha hb hu ha4
                obtain ⟨aw, hbo, x0, x1, x2, x3⟩ := ((HK.out _ HB4.out).1).four j _ HFJ.out
                subst hbo
                go_upto_region 19 with fail
                go_quiet (fail)
                clear x0 x1 x2 x3 c0 c1 c2 c3
                go_wp2
                go_roundw
                case rel => exact ⟨r3, m2, j + 1, by first | rfl | go_num, rfl, by go_num, by omega, hr3l, hm2, HE3, hid' (below_drewN' HB4.out _)⟩
                case measure => simp [intOf]; omega
              · have hm0 : m2 ≠ [] := by
                  intro e
                  rw [e, List.append_nil] at HE1
                  have := congrArg List.length HE1
                  rw [List.length_append] at this
                  omega
                have hr2e : r2 = s.take r2.length := by
                  have h1 : (r2 ++ m2).take r2.length = r2 := List.take_left
                  rw [HE1, List.take_append_of_le_length (by omega)] at h1
                  exact h1.symm
                have HX : Hid (∀ w : World, Calls Try.prog 11 #[.string ⟨r2.toArray⟩, .int .i64 16777215] w fun e w' => e = .returned (.tuple #[.agg (frC 0 0 0 []), .int .i64 0, .int .i64 40]) ∧ Below w.heap.size w w') := hid' (fun w => cnext_bad r2 16777215 40 (by rw [hr2e, ← hs]; exact Fm.short' _ _ _ _ _ hll (by rw [hs]; omega)) (by decide) w)
                obtain ⟨r3, hr3⟩ : ∃ r3, r2 ++ m2 = r3 := ⟨_, rfl⟩
                have hcat := str_cat r2 m2
                rw [hr3] at hcat
                have HE3 : Hid (r3 ++ [] = Fm.wrs (acc.drop j)) := hid' (by rw [List.append_nil, ← hr3]; exact HE.out)
                have hr3l : r3.length ≤ 1099521064960 := by rw [← hr3, HE.out]; exact HWL.out j
                have hne : (m2 == []) = false := by cases m2 with | nil => exact absurd rfl hm0 | cons => rfl
                have HM0 : Hid (m2.length ≠ 0) := hid' (fun e => hm0 (List.eq_nil_of_length_eq_zero e))
                clear hf hmay hll hs hsl hdr HE1 hA hr3 hr2e hm0
                go_wp2_with fail
                refine (HX.out _).mono ?_
                rintro e w1 ⟨rfl, hb1⟩
                have HB3 := hid' (below_two HB2.out hb1)
                clear hb1
                go_wp2_with (refine wpl_alloc 29 rfl rfl _ zeroFrame ?_)
                intro b3 w3 hg ha hb
                refine wpl_stf _ _ rfl rfl b3 0 0 0 [] (by kernel_rfl) (by kernel_rfl) _ ha rfl ?_
                intro w4 ha4 hu
                have HB4 := hid' (below_two HB3.out (hb.trans (hu.below hg)))
                clear hg ha hb hu ha4
                go_wp2
                go_roundw
                case rel => exact ⟨r3, [], j, by first | rfl | go_num, rfl, by first | rfl | go_num, hj, hr3l, by simp, HE3, HB4⟩
                case measure =>
                  have e1 : strLen (.string ⟨m2.toArray⟩) ≠ 0 := HM0.out
                  have e0 : strLen (.string ⟨#[]⟩) = 0 := rfl
                  simp [intOf, e0, e1]
            · have hjb : j = nA := by omega
              have hlt2 : decide ((j : Int) < (nA : Int)) = false := decide_eq_false (by omega)
              have hlt3 : decide (j < nA) = false := decide_eq_false (by omega)
              have hnil : r2 ++ m2 = [] := by rw [HE.out, hjb, ← HNA.out, List.drop_length]; rfl
              obtain ⟨rfl, rfl⟩ := List.append_eq_nil_iff.1 hnil
              have HB3 := hid' (HK.out _ HB2.out).2
              have hcc0 : (⟨#[]⟩ : ByteArray) ++ ⟨#[]⟩ = ⟨#[]⟩ := str_cat [] []
              have hem : (⟨#[]⟩ : ByteArray).toList.isEmpty = true := by rw [Lib.toList_data]; rfl
              clear hjb hnil hjl
              go_wp2_with fail
              refine (awake7 _).mono ?_
              rintro e w1 ⟨rfl, hb1⟩
              have HB4 := hid' (HB3.out.trans (hb1.mono HB3.out.size))
              clear hb1
              go_wp2
              go_ret
              exact ⟨rfl, HB4.out⟩
        · have cv2 : (convert 44 9 (.slice (some ⟨g, c, none⟩) (T.length - c) (capb - c))).run Try.prog wr = .ok (.string ⟨z.toArray⟩) wr := by
            have := run_convert_bytes_back (P := Try.prog) wr 44 9 5 ⟨g, c, none⟩ (capb - c) (T.drop c) Try.underlying44 Try.underlying5 Try.underlying9 (fun j hj => by
              rw [Addr.add_mid]
              rw [List.length_drop] at hj
              rw [hcell (c + j) (by omega), List.getElem_drop])
            rw [List.length_drop, hz] at this
            exact this
          have HYZ0 : Hid (y ++ z = Fm.wrs acc) := hid' (by rw [← hy, ← hz, List.take_append_drop, HT.out])
          have hyl0 : y.length ≤ 1099521064960 := by rw [← hy, List.length_take]; omega
          have hzl0 : z.length ≤ 1099521064960 := by rw [← hz, List.length_drop]; omega
          clear hcell hy hz
          have HYZ : Hid (y ++ z = Fm.wrs acc) := hid' (HYZ0.out)
          have hyl : y.length ≤ 1099521064960 := by exact hyl0
          have hzl : z.length ≤ 1099521064960 := by exact hzl0
          have HFR := hid' (FR.of_own HO6.out)
          obtain ⟨bo, capw, hu6⟩ := HFR.out.shape
          subst hu6
          obtain ⟨nA, hnA⟩ : ∃ nA, acc.length = nA := ⟨_, rfl⟩
          rw [hnA] at HFR HO6 hal ⊢
          have HNA := hid' hnA
          have HOKS : Hid (∀ f ∈ acc, Fm.okq f = true) := hid' (by
            intro f hf
            rw [HACC.out] at hf
            exact (List.mem_filter.1 hf).2)
          have HWL : Hid (∀ i, (Fm.wrs (acc.drop i)).length ≤ 1099521064960) := hid' (by
            intro i
            have h1 := Fm.wrs_le (acc.drop i) (fun f hf => HLA.out f (List.mem_of_mem_drop hf))
            rw [List.length_drop] at h1
            have := HNA.out
            omega)
          have HK : Hid (∀ W, Below wr.heap.size wr W → FR W (.slice bo nA capw) acc ∧ Below w.heap.size w W) := hid' (fun W h => ⟨HFR.out.keep h, HB.out.trans (h.mono HB.out.size)⟩)
          have HBR : Hid (Below wr.heap.size wr wr) := hid' (Below.refl _ _)
          have hng := noGuardF
          clear hnA HYZ0 hyl0 hzl0
          go_wp2
          go_loopw [11, 12, 13] (fun s11 s12 s13 wq => ∃ (r2 m2 : List UInt8) (i : Nat), s11 = .string ⟨r2.toArray⟩ ∧ s12 = .string ⟨m2.toArray⟩ ∧ s13 = .int .i64 (i : Int) ∧ i ≤ nA ∧ r2.length ≤ 1099521064960 ∧ m2.length ≤ 1099521064960 ∧ Hid (r2 ++ m2 = Fm.wrs (acc.drop i)) ∧ Hid (Below wr.heap.size wr wq)) (fun _ s12 s13 _ => 2 * (nA - (intOf s13).toNat) + (if strLen s12 = 0 then 0 else 1))
          case atStart => exact ⟨y, z, 0, rfl, rfl, rfl, Nat.zero_le _, hyl, hzl, hid' (by rw [List.drop_zero]; exact HYZ.out), HBR⟩
          case round =>
            clear HYZ HBR hyl hzl HFR HO5 HO6 HB cv1 cv2
            obtain ⟨r2, m2, j, rfl, rfl, rfl, hj, hr2, hm2, HE, HB2⟩ := hrel
            by_cases hjl : j < nA
            · have hjl2 : (j : Int) < (nA : Int) := by omega
              obtain ⟨f, hf⟩ : ∃ f, acc[j]? = some f := ⟨_, List.getElem?_eq_getElem (by rw [HNA.out]; exact hjl)⟩
              obtain ⟨k, fl, st, l⟩ := f
              obtain ⟨hmay, hll⟩ := Fm.okq_iff (HOKS.out _ (List.mem_of_getElem? hf))
              simp only at hmay hll
              obtain ⟨s, hs⟩ : ∃ s, Fm.wr k fl st l = s := ⟨_, rfl⟩
              have hsl : s.length = 9 + l.length := by rw [← hs]; exact Fm.wr_length _ _ _ _
              have hdr : Fm.wrs (acc.drop j) = s ++ Fm.wrs (acc.drop (j + 1)) := by
                have hjl3 : j < acc.length := by rw [HNA.out]; exact hjl
                have hfe : acc[j] = (k, fl, st, l) := (List.getElem?_eq_some_iff.1 hf).2
                rw [List.drop_eq_getElem_cons hjl3, Fm.wrs_cons, hfe, ← hs]
                rfl
              have HE1 := HE.out
              rw [hdr] at HE1
              by_cases hA : s.length ≤ r2.length
              · obtain ⟨r3, hr3⟩ : ∃ r3, r2.drop s.length = r3 := ⟨_, rfl⟩
                have hr2e : r2 = s ++ r3 := by
                  rw [← hr3]
                  have h1 : (r2 ++ m2).take s.length = s := by rw [HE1, List.take_left]
                  rw [List.take_append_of_le_length hA] at h1
                  conv => lhs; rw [← List.take_append_drop s.length r2, h1]
                have HE3 : Hid (r3 ++ m2 = Fm.wrs (acc.drop (j + 1))) := hid' (by
                  rw [hr2e, List.append_assoc] at HE1
                  exact List.append_cancel_left HE1)
                have hr3l : r3.length ≤ 1099521064960 := by rw [← hr3, List.length_drop]; omega
                obtain ⟨e9, he9⟩ : ∃ e9 : Nat, s.length = e9 := ⟨_, rfl⟩
                have HX : Hid (∀ w : World, Calls Try.prog 11 #[.string ⟨r2.toArray⟩, .int .i64 16777215] w fun e w' => e = .returned (.tuple #[.agg (frC k fl st l), .int .i64 (e9 : Int), .int .i64 0]) ∧ Below w.heap.size w w') := hid' (fun w => by
                  have h := cnext_ok r2 16777215 l.length (by rw [hr2e, ← hs]; exact Fm.wr_num _ _ _ _ _ hll) (by rw [hr2e, ← hs]; exact Fm.back_e _ _ _ _ _ _ hll (by omega)) (by omega) w
                  have hnx : nxC r2 = frC k fl st l := by rw [hr2e, ← hs]; exact back_nx _ _ _ _ _ hmay hll
                  rw [hnx] at h
                  have e : (9 : Int) + (l.length : Int) = (e9 : Int) := by omega
                  rw [e] at h
                  exact h)
                have hcut : (⟨r2.toArray⟩ : ByteArray).extract e9 r2.length = ⟨r3.toArray⟩ := by rw [cut_rest, ← he9, hr3]
                have hel : (e9 : Int) ≤ (r2.length : Int) := by omega
                have e1 : ∀ W, (binOp .neq 29 (.agg #[.int .i64 k, .int .i64 fl, .int .i64 st, .string ⟨l.toArray⟩]) (.agg #[.int .i64 k, .int .i64 fl, .int .i64 st, .string ⟨l.toArray⟩])).run Try.prog W = .ok (.bool false) W := fun W => by rw [neq_frame]; simp
                have HFJ := hid' hf
                clear hf hmay hll hs hsl hdr HE1 hA hr3 hr2e he9
                go_wp2_with fail
                refine (HX.out _).mono ?_
                rintro e w1 ⟨rfl, hb1⟩
                have HB3 := hid' (below_two HB2.out hb1)
                clear hb1
                go_wp2_with (refine wpl_alloc 29 rfl rfl _ zeroFrame ?_)
                intro b3 w3 hg ha hb
                refine wpl_stf _ _ rfl rfl b3 k fl st l (by kernel_rfl) (by kernel_rfl) _ ha rfl ?_
                intro w4 ha4 hu
                have HB4 := hid' (below_two HB3.out (hb.trans (hu.below hg)))
                obtain ⟨c0, c1, c2, c3⟩ := frC_cells ha4
                clear hg ha hb hu ha4
                obtain ⟨aw, hbo, x0, x1, x2, x3⟩ := ((HK.out _ HB4.out).1).four j _ HFJ.out
                subst hbo
                go_upto_region 19 with fail
                go_quiet (fail)
                clear x0 x1 x2 x3 c0 c1 c2 c3
                go_wp2
                go_roundw
                case rel => exact ⟨r3, m2, j + 1, by first | rfl | go_num, rfl, by go_num, by omega, hr3l, hm2, HE3, hid' (below_drewN' HB4.out _)⟩
                case measure => simp [intOf]; omega
              · have hm0 : m2 ≠ [] := by
                  intro e
                  rw [e, List.append_nil] at HE1
                  have := congrArg List.length HE1
                  rw [List.length_append] at this
                  omega
                have hr2e : r2 = s.take r2.length := by
                  have h1 : (r2 ++ m2).take r2.length = r2 := List.take_left
                  rw [HE1, List.take_append_of_le_length (by omega)] at h1
                  exact h1.symm
                have HX : Hid (∀ w : World, Calls Try.prog 11 #[.string ⟨r2.toArray⟩, .int .i64 16777215] w fun e w' => e = .returned (.tuple #[.agg (frC 0 0 0 []), .int .i64 0, .int .i64 40]) ∧ Below w.heap.size w w') := hid' (fun w => cnext_bad r2 16777215 40 (by rw [hr2e, ← hs]; exact Fm.short' _ _ _ _ _ hll (by rw [hs]; omega)) (by decide) w)
                obtain ⟨r3, hr3⟩ : ∃ r3, r2 ++ m2 = r3 := ⟨_, rfl⟩
                have hcat := str_cat r2 m2
                rw [hr3] at hcat
                have HE3 : Hid (r3 ++ [] = Fm.wrs (acc.drop j)) := hid' (by rw [List.append_nil, ← hr3]; exact HE.out)
                have hr3l : r3.length ≤ 1099521064960 := by rw [← hr3, HE.out]; exact HWL.out j
                have hne : (m2 == []) = false := by cases m2 with | nil => exact absurd rfl hm0 | cons => rfl
                have HM0 : Hid (m2.length ≠ 0) := hid' (fun e => hm0 (List.eq_nil_of_length_eq_zero e))
                clear hf hmay hll hs hsl hdr HE1 hA hr3 hr2e hm0
                go_wp2_with fail
                refine (HX.out _).mono ?_
                rintro e w1 ⟨rfl, hb1⟩
                have HB3 := hid' (below_two HB2.out hb1)
                clear hb1
                go_wp2_with (refine wpl_alloc 29 rfl rfl _ zeroFrame ?_)
                intro b3 w3 hg ha hb
                refine wpl_stf _ _ rfl rfl b3 0 0 0 [] (by kernel_rfl) (by kernel_rfl) _ ha rfl ?_
                intro w4 ha4 hu
                have HB4 := hid' (below_two HB3.out (hb.trans (hu.below hg)))
                clear hg ha hb hu ha4
                go_wp2
                go_roundw
                case rel => exact ⟨r3, [], j, by first | rfl | go_num, rfl, by first | rfl | go_num, hj, hr3l, by simp, HE3, HB4⟩
                case measure =>
                  have e1 : strLen (.string ⟨m2.toArray⟩) ≠ 0 := HM0.out
                  have e0 : strLen (.string ⟨#[]⟩) = 0 := rfl
                  simp [intOf, e0, e1]
            · have hjb : j = nA := by omega
              have hlt2 : decide ((j : Int) < (nA : Int)) = false := decide_eq_false (by omega)
              have hlt3 : decide (j < nA) = false := decide_eq_false (by omega)
              have hnil : r2 ++ m2 = [] := by rw [HE.out, hjb, ← HNA.out, List.drop_length]; rfl
              obtain ⟨rfl, rfl⟩ := List.append_eq_nil_iff.1 hnil
              have HB3 := hid' (HK.out _ HB2.out).2
              have hcc0 : (⟨#[]⟩ : ByteArray) ++ ⟨#[]⟩ = ⟨#[]⟩ := str_cat [] []
              have hem : (⟨#[]⟩ : ByteArray).toList.isEmpty = true := by rw [Lib.toList_data]; rfl
              clear hjb hnil hjl
              go_wp2_with fail
              refine (awake7 _).mono ?_
              rintro e w1 ⟨rfl, hb1⟩
              have HB4 := hid' (HB3.out.trans (hb1.mono HB3.out.size))
              clear hb1
              go_wp2
              go_ret
              exact ⟨rfl, HB4.out⟩

end Go.Proofs.Ytfccbeijibhnhab
