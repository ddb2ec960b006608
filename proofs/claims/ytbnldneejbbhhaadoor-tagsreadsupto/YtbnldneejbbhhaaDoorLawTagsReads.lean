/-
  TagsReads: its contract.
-/
import Derived.Test.YtbnldneejbbhhaaDoorTgL
namespace Go.Proofs.YtbnldneejbbhhaaDoor
open Go.RowKit

set_option maxHeartbeats 4000000 in
set_option maxRecDepth 20000 in
theorem same15 (B1 B2 : Nat) (ao bo : Option Addr) (n ac bc : Nat) (ts : List Tg.Tag) (hn : ts.length = n) (hnb : n ≤ 9223372036854775807) (w : World) (h1 : w.ownsRow B1 31 2 (.slice ao n ac) n (tC ts)) (h2 : w.ownsRow B2 36 2 (.slice bo n bc) n (tC ts)) :
    Calls Tryd.prog 8 #[.slice ao n ac, .slice bo n bc] w fun e w' => e = .returned (.bool true) ∧ Below w.heap.size w w' := by
  have H1 := hid' h1
  have H2 := hid' h2
  have HN := hid' hn
  have hee : ((n : Int) == (n : Int)) = true := beq_self_eq_true _
  clear h1 h2 hn
  go_enter Tryd.func8, Tryd.ntmps8
  go_wp2
  go_loopw [5] (fun s5 wr => ∃ i q : Nat, s5 = .int .i64 (i : Int) ∧ i ≤ n ∧ wr = w.drewN q) (fun s5 _ => n - (intOf s5).toNat)
  case atStart => exact ⟨0, 0, rfl, Nat.zero_le _, rfl⟩
  case round =>
    obtain ⟨i, q, rfl, hi, hwr⟩ := hrel
    subst hwr
    by_cases hlt : i < n
    · have hlt2 : (i : Int) < (n : Int) := by omega
      obtain ⟨p, hp⟩ : ∃ p, ts[i]? = some p := ⟨_, List.getElem?_eq_getElem (by rw [HN.out]; exact hlt)⟩
      obtain ⟨g1, rfl, x0, x1⟩ := own_two H1.out i p hp
      obtain ⟨g2, rfl, y0, y1⟩ := own_two H2.out i p hp
      obtain ⟨pw, hpw⟩ : ∃ pw, p.w = pw := ⟨_, rfl⟩
      rw [hpw] at x0 y0
      have HLT := hid' hlt
      clear hp hlt hpw
      cases pw
      · go_wp2
        go_quiet (fail)
        go_wp2
        go_roundw
        case rel => exact ⟨i + 1, _, by go_num, by have := HLT.out; omega, by first | rfl | simp⟩
        case measure => have := HLT.out; simp [intOf]; omega
      · go_wp2
        go_quiet (fail)
        go_wp2
        go_roundw
        case rel => exact ⟨i + 1, _, by go_num, by have := HLT.out; omega, by first | rfl | simp⟩
        case measure => have := HLT.out; simp [intOf]; omega
    · have hlt2 : ¬ (i : Int) < (n : Int) := by omega
      clear hlt
      go_wp2
      go_ret
      exact ⟨rfl, ⟨rfl, rfl, rfl, Nat.le_refl _, fun _ _ => rfl⟩⟩

theorem own_len15 {w : World} {B : Nat} {e : TypeId} {s : Nat} {v : Value} {n : Nat} {xs : List Value} (h : w.ownsRow B e s v n xs) : n ≤ 9223372036854775807 := by
  rcases h.2 with ⟨_, h0⟩ | ⟨_, _, _, _, _, _, h4, h5, _⟩
  · omega
  · unfold maxLen at h5; omega
theorem own_set15 {w : World} {B : Nat} {e : TypeId} {s g n cap : Nat} {xs : List Value} (h : w.ownsRow B e s (.slice (some ⟨g, 0, none⟩) n cap) n xs) (j : Nat) (u : Value) : (w.setCell ⟨g, j, none⟩ u).ownsRow B e s (.slice (some ⟨g, 0, none⟩) n cap) n (xs.set j u) := by
  rcases h.2 with ⟨hv, _⟩ | ⟨g', cap', cur, hv, hb, hg, hn, hm, hs, ht⟩
  · cases hv
  · cases hv
    refine ⟨by simpa using h.1, .inr ⟨g, cap, _, rfl, hb, Ar.set (show Ar w g e cur from hg) _ _, hn, hm, by simpa using hs, ?_⟩⟩
    rw [← ht]
    simp [List.take_set]

set_option maxHeartbeats 4000000 in
set_option maxRecDepth 20000 in
theorem tagsReads_any (s : ByteArray) (w : World) (hT : Lib.TabIs Tryd.prog w "internal/strconv.uint64pow10" .u64 Lib.pow10Tab) (hs : s.size ≤ 1048576) :
    Calls Tryd.prog 3 #[.string s] w fun e w' => e = .returned (.bool true) ∧ Below w.heap.size w w' := by
  have HT := hid' hT
  obtain ⟨l, hl⟩ : ∃ l, s.data.toList = l := ⟨_, rfl⟩
  have HC := hid' (fun W => cparse15 s l hl W hs)
  have HR := hid' (fun W => rparse15 s l hl W hs)
  obtain ⟨ts, hts⟩ : ∃ ts, Tg.tags l = ts := ⟨_, rfl⟩
  obtain ⟨st, hst⟩ : ∃ st, Tg.star l = st := ⟨_, rfl⟩
  obtain ⟨er, her⟩ : ∃ er, Tg.err l = er := ⟨_, rfl⟩
  rw [hts, hst, her] at HC HR
  clear hT hl hts hst her
  obtain ⟨n, hn⟩ : ∃ n, ts.length = n := ⟨_, rfl⟩
  have HN := hid' hn
  rw [hn] at HC HR
  clear hn
  have hbb : (st != st) = false := bne_self_eq_false _
  have hee : ((er : Int) != er) = false := bne_self_eq_false _
  go_enter Tryd.func3, Tryd.ntmps3
  go_wp2_with fail
  refine (HC.out _).mono ?_
  rintro e w1 ⟨⟨m1, ao, ac, rfl, hm1, hown1⟩, hb1⟩
  subst m1
  have HO1 := hid' hown1
  have HB1 := hid' hb1
  clear hown1 hb1
  go_wp2_with fail
  refine (HC.out _).mono ?_
  rintro e w2 ⟨⟨m2, bo, bc, rfl, hm2, hown2⟩, hb2⟩
  subst m2
  have HO2 := hid' hown2
  have HO12 := hid' (own_keep15 HO1.out hb2)
  have HB2 := hid' (below_two HB1.out hb2)
  clear hown2 hb2
  go_wp2_with fail
  refine (HR.out _).mono ?_
  rintro e w3 ⟨⟨m3, co, cc, rfl, hm3, hown3⟩, hb3⟩
  subst m3
  have HO3 := hid' hown3
  have HO13 := hid' (own_keep15 HO12.out hb3)
  have HO23 := hid' (own_keep15 HO2.out hb3)
  have HB3 := hid' (below_two HB2.out hb3)
  have hnb : n ≤ 9223372036854775807 := own_len15 hown3
  have HNB : Hid (∀ k, (Value.slice ao n ac).ownBlock = some k → (Value.slice bo n bc).ownBlock ≠ some k) := hid' (fun k hk e => by
    have h1 := own_lt HO1.out k hk
    have h2 := (own_ty HO2.out k e).1
    omega)
  have HNC : Hid (∀ k, (Value.slice ao n ac).ownBlock = some k → (Value.slice co n cc).ownBlock ≠ some k) := hid' (fun k hk e => by
    have h1 := own_lt HO12.out k hk
    have h2 := (own_ty hown3 k e).1
    omega)
  clear hown3 hb3
  go_wp2_with fail
  refine (same15 _ _ ao co n ac cc ts HN.out hnb _ HO13.out HO3.out).mono ?_
  rintro e w4 ⟨rfl, hb4⟩
  have HA4 := hid' (own_keep15 HO13.out hb4)
  have HB4 := hid' (own_keep15 HO23.out hb4)
  have HC4 := hid' (own_keep15 HO3.out hb4)
  have HW4 := hid' (below_two HB3.out hb4)
  clear hb4
  go_wp2
  go_loopw [12] (fun s12 wr => ∃ (k : Nat) (ys : List Value), s12 = .int .i64 (k : Int) ∧ k ≤ n ∧ Hid (wr.ownsRow w.heap.size 31 2 (.slice ao n ac) n ys) ∧ Hid (wr.ownsRow w1.heap.size 31 2 (.slice bo n bc) n (tC ts)) ∧ Hid (wr.ownsRow w2.heap.size 36 2 (.slice co n cc) n (tC ts)) ∧ Hid (Below w.heap.size w wr)) (fun s12 _ => n - (intOf s12).toNat)
  case atStart => exact ⟨0, tC ts, rfl, Nat.zero_le _, HA4, HB4, HC4, HW4⟩
  case round =>
    obtain ⟨k, ys, rfl, hk, HOr, HBr, HCr, HWr⟩ := hrel
    by_cases hlt : k < n
    · have hlt2 : (k : Int) < (n : Int) := by omega
      have hg : ∃ g, ao = some ⟨g, 0, none⟩ := by
        rcases HOr.out.2 with ⟨_, h0⟩ | ⟨g, cap, cur, h1, _⟩
        · omega
        · injection h1 with e1
          exact ⟨g, e1⟩
      obtain ⟨g, rfl⟩ := hg
      have hlen := HOr.out.1
      obtain ⟨u0, hu0⟩ : ∃ u0, ys[k * 2]? = some u0 := ⟨_, List.getElem?_eq_getElem (by omega)⟩
      obtain ⟨u1, hu1⟩ : ∃ u1, ys[k * 2 + 1]? = some u1 := ⟨_, List.getElem?_eq_getElem (by omega)⟩
      have c0 : wr.cell? ⟨g, k * 2, none⟩ = some u0 := by have := HOr.out.cells (g := g) rfl _ _ hu0; rwa [Addr.add_mid, Nat.zero_add] at this
      have c1 : wr.cell? ⟨g, k * 2 + 1, none⟩ = some u1 := by have := HOr.out.cells (g := g) rfl _ _ hu1; rwa [Addr.add_mid, Nat.zero_add] at this
      have hfz : ∀ i, wr.frozen? ⟨g, i, none⟩ = false := by
        obtain ⟨_, cs, hcs⟩ := own_ty HOr.out g rfl
        intro i
        exact Ar.free (show Ar wr g 31 cs from hcs) i
      have f0 := hfz (k * 2)
      have f1 := hfz (k * 2 + 1)
      have HOs := hid' (own_set15 (own_set15 HOr.out (k * 2) (.bool false)) (k * 2 + 1) (.string ⟨#[]⟩))
      have hu : ∀ j, j ≠ g → ((wr.setCell ⟨g, k * 2, none⟩ (.bool false)).setCell ⟨g, k * 2 + 1, none⟩ (.string ⟨#[]⟩)).heap[j]? = wr.heap[j]? := fun j hj =>
        ((upd_setCell _ g (k * 2 + 1) _).block j hj).trans ((upd_setCell wr g (k * 2) _).block j hj)
      have HBs := hid' (own_same HBr.out (fun j hj => hu j (fun e => HNB.out g rfl (e ▸ hj))))
      have HCs := hid' (own_same HCr.out (fun j hj => hu j (fun e => HNC.out g rfl (e ▸ hj))))
      have hgl := (own_ty HOr.out g rfl).1
      have HWs := hid' (HWr.out.trans (((upd_setCell wr g (k * 2) (.bool false)).below hgl).trans ((upd_setCell _ g (k * 2 + 1) (.string ⟨#[]⟩)).below hgl)))
      clear hu0 hu1 hfz hlen hgl hu
      go_wp2
      go_roundw
      case rel => exact ⟨k + 1, _, by go_num, by omega, HOs, HBs, HCs, HWs⟩
      case measure => simp [intOf]; omega
    · obtain rfl : k = n := by omega
      have hlt2 : ¬ (k : Int) < (k : Int) := by omega
      clear hlt
      go_wp2_with fail
      refine (same15 _ _ bo co k bc cc ts HN.out hnb _ HBr.out HCr.out).mono ?_
      rintro e w5 ⟨rfl, hb5⟩
      have HW5 := hid' (below_two HWr.out hb5)
      clear hb5
      go_wp2_with fail
      refine (awake15 _ (tab_below HT.out HW5.out)).mono ?_
      rintro e w6 ⟨rfl, hb6⟩
      have HW6 := hid' (below_two HW5.out hb6)
      clear hb6
      go_wp2
      go_ret
      exact ⟨rfl, HW6.out⟩

end Go.Proofs.YtbnldneejbbhhaaDoor
