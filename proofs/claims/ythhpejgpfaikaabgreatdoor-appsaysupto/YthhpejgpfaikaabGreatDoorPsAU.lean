/-
  What the row stands on.
-/
import Derived.Test.YthhpejgpfaikaabGreatDoorPsAS
import Derived.Test.YthhpejgpfaikaabGreatDoorPsAT
namespace Go.Proofs.YthhpejgpfaikaabGreatDoor
set_option maxHeartbeats 64000000
open Go.RowKit

set_option maxRecDepth 20000 in
theorem cboth20 (v : Value) (l : List Dk.En) (w : World) (h : EW19 w v l) (hl : l.length ≤ 1048576) (hb : ∀ e ∈ l, e.path.size ≤ 1048576 ∧ e.body.size ≤ 1048576) :
  Calls Tryz.prog 7 #[v] w fun e w' => BP19 w w' e ∧ Below w.heap.size w w' := by
 obtain ⟨ao, cap, rfl⟩ := h.shape;obtain ⟨n, hn⟩ : ∃ n, l.length = n := ⟨_, rfl⟩;rw [hn] at h hl ⊢;have H := hid' h;have HN := hid' hn;have HS := hid' hb;clear h hn hb;go_enter Tryz.func7, Tryz.ntmps7;go_wp2_with (refine wpl_alloc 34 rfl rfl #[.slice none 0 0, .int .i64 0] (by kernel_rfl) ?_);intro rb w0 hrb ha0 hl0;have HR0 := hid' ha0;have HB0 := hid' hl0;have HRB := hid' hrb;clear hrb ha0 hl0;go_wp2_with fail;refine (cnew13 w0).mono ?_;rintro _ w1 ⟨⟨d, K1, rfl, hd⟩, hb⟩;have HD1 := hid' hd;have HB1 := hid' hb;clear hd hb;go_wp2_with (refine wpl_alloc 34 rfl rfl #[.slice none 0 0, .int .i64 0] (by kernel_rfl) ?_);intro bx w2 hbx hax hb2;have HP : Hid (PD19 w2 w0.heap.size d bx K1 (.slice none 0 0) 0 []) := hid' ⟨HD1.out.keep hb2, ⟨Nat.le_trans HB1.out.size hbx, hax, World.ownsRow_nil _ _ _ _, List.Pairwise.nil, by simp⟩⟩;have HB := hid' (below_two HB1.out hb2);clear hbx hax hb2 HD1 HB1;go_wp2;go_loopw [6] (fun s6 wr => ∃ (i : Nat) (K : Nat → Prop) (r : Value) (q : Int) (es : List Dk.En), s6 = .int .i64 (i : Int) ∧ i ≤ n ∧ 0 ≤ q ∧ q ≤ (i : Int) ∧ Hid (∀ e ∈ es, EN19 e) ∧ Hid (PD19 wr w0.heap.size d bx K r q es) ∧ Hid (Below w0.heap.size w0 wr)) (fun s6 _ => n - (intOf s6).toNat)
 case atStart => exact ⟨0, _, _, _, _, rfl, Nat.zero_le _, by decide, by decide, hid' (fun e he => by cases he), HP, HB⟩
 case round =>
  clear HP HB;obtain ⟨i, K, r, q, es, rfl, hi, hq0, hq1, HE, HP, HB⟩ := hrel;by_cases hlt : i < n
  ·have hlt2 : (i : Int) < (n : Int) := by omega
   obtain ⟨e, he⟩ : ∃ e, l[i]? = some e := ⟨_, List.getElem?_eq_getElem (by rw [HN.out]; exact hlt)⟩;have hct2 := HS.out e (List.mem_of_getElem? he);have HPS := hid' hct2.1;have HBS := hid' hct2.2;obtain ⟨a, hao, hal, h3⟩ := H.out.at2 (below_two HB0.out HB.out) i e he;subst hao;obtain ⟨p, y, t, sq⟩ := e;simp only at HPS HBS;obtain ⟨c, esN, qN, ho⟩ := putOf13_ex es q p y t;obtain ⟨henN, hqN0, hqN1⟩ := put_en19 ho HP.out.cd.ok.1 HE.out hq0 (by omega);have HO := hid' ho;have HEN := hid' henN;have HAL : Hid ((a.add (i * 4)).block < w0.heap.size) := hid' (Nat.lt_of_lt_of_le hal HB0.out.size);have H3 := hid' h3;have HKB : Hid (∀ k, K k → w0.heap.size ≤ k) := hid' (fun k hk => (HP.out.cd.lt k hk).1);have hS : wr.drew.cell? (a.add (i * 4)) = some (.string p) ∧ wr.drew.cell? ⟨(a.add (i * 4)).block, (a.add (i * 4)).off + 1, none⟩ = some (.string y) ∧ wr.drew.cell? ⟨(a.add (i * 4)).block, (a.add (i * 4)).off + 2, none⟩ = some (.int .i64 t) := h3;have HPd := hid' (HP.out.keep (below_dn wr 1));have HBd : Hid (Below w0.heap.size w0 wr.drew) := hid' HB.out.drew;clear he hct2 hal h3 ho henN;go_upto_region 6 with fail;go_region_held3 (fun W => W.cell? (a.add (i * 4)) = some (.string p) ∧ W.cell? ⟨(a.add (i * 4)).block, (a.add (i * 4)).off + 1, none⟩ = some (.string y) ∧ W.cell? ⟨(a.add (i * 4)).block, (a.add (i * 4)).off + 2, none⟩ = some (.int .i64 t)) (first | assumption) (first
    | (go_at_call 17; refine (cput13 HO.out _ d _ _ HPd.out.cd (by have := HPS.out; omega) (by have := HBS.out; omega) hq0 (by omega)).mono ?_; rintro e wA ⟨rfl, KN, hcd, hlf, hnew⟩; have h3a := e3_keep19 (e := ⟨p, y, t, 0⟩) hS hlf (fun hk => by have h1 := HKB.out _ hk; have h2 := HAL.out; omega) (Nat.lt_of_lt_of_le HAL.out HBd.out.size); have hSa : wA.cell? (a.add (i * 4)) = some (.string p) ∧ wA.cell? ⟨(a.add (i * 4)).block, (a.add (i * 4)).off + 1, none⟩ = some (.string y) ∧ wA.cell? ⟨(a.add (i * 4)).block, (a.add (i * 4)).off + 2, none⟩ = some (.int .i64 t) := h3a; have HCA := hid' hcd; have HFA := hid' hlf; have HSA := hid' hSa; clear hcd hlf hnew h3a))
   have HFA' : Hid (LF K wr wA) := hid' ((LF.of_below (S := K) (below_dn wr 1)).trans HFA.out (fun _ _ h => h));have hSb : wA.drew.cell? (a.add (i * 4)) = some (.string p) ∧ wA.drew.cell? ⟨(a.add (i * 4)).block, (a.add (i * 4)).off + 1, none⟩ = some (.string y) ∧ wA.drew.cell? ⟨(a.add (i * 4)).block, (a.add (i * 4)).off + 2, none⟩ = some (.int .i64 t) := HSA.out;have HRd : Hid (RD wA.drew w0.heap.size bx r q es) := hid' ((HP.out.rdOf HFA'.out).keep (below_dn wA 1));have HCd : Hid (CD wA.drew w0.heap.size d KN qN esN) := hid' (HCA.out.keep (below_dn wA 1));have HLd : Hid (LF K wr wA.drew) := hid' (HFA'.out.trans (LF.of_below (S := K) (below_dn wA 1)) (fun _ _ h => h));clear hS hSa HPd HBd;go_upto_region 7 with fail;go_region_held3 (fun W => W.cell? (a.add (i * 4)) = some (.string p) ∧ W.cell? ⟨(a.add (i * 4)).block, (a.add (i * 4)).off + 1, none⟩ = some (.string y) ∧ W.cell? ⟨(a.add (i * 4)).block, (a.add (i * 4)).off + 2, none⟩ = some (.int .i64 t)) (first | assumption) (first
    | (go_at_call 18; refine (dput HO.out _ bx _ _ HRd.out (by have := HPS.out; omega) hq0 (by omega)).mono ?_; rintro e wD ⟨rfl, rN, hrd, hlf, hnew⟩; have h3d := e3_keep19 (e := ⟨p, y, t, 0⟩) hSb hlf (fun hk => by have h1 := (HRd.out.rs _ hk).1; have h2 := HAL.out; omega) (Nat.lt_of_lt_of_le HAL.out HRd.out.lb); have hSd : wD.cell? (a.add (i * 4)) = some (.string p) ∧ wD.cell? ⟨(a.add (i * 4)).block, (a.add (i * 4)).off + 1, none⟩ = some (.string y) ∧ wD.cell? ⟨(a.add (i * 4)).block, (a.add (i * 4)).off + 2, none⟩ = some (.int .i64 t) := h3d; have HPN := hid' (HP.out.made HLd.out HCd.out hlf hrd); have HBN := hid' (HP.out.bl HB.out HLd.out hlf); clear hrd hlf hnew h3d))
   clear hSb hSd HRd HCd HLd HP HB;go_wp2;go_roundw
   case rel => exact ⟨i + 1, KN, rN, qN, esN, by go_num, by omega, hqN0, by omega, HEN, HPN, HBN⟩
   case measure => simp [intOf]; omega
  ·obtain rfl : i = n := by omega
   have hlt2 : ¬ (i : Int) < (i : Int) := by omega
   have HRX := hid' (HR0.out.keep HB.out);have HD := hid' HP.out.rd;have HC := hid' (cd_low19 HP.out.cd HB0.out.size);have HQ : Hid (0 ≤ q ∧ q ≤ 1048576) := hid' ⟨hq0, by omega⟩;have HBW := hid' (below_two HB0.out HB.out);obtain ⟨ro, rcp, hrv⟩ := down_shape HP.out.rd.row;obtain ⟨rn, hrn⟩ : ∃ rn, es.length = rn := ⟨_, rfl⟩;rw [hrn] at hrv;subst hrv;have x0 := HD.out.obj.cell 0 _ rfl;have x1 := HD.out.obj.cell 1 _ rfl;have HNB : Hid (bx ≠ rb) := hid' (by have h1 := HD.out.ge; have h2 := HR0.out.lt; omega);have HNK : Hid (∀ k, K k → k ≠ rb) := hid' (fun k hk => by have h1 := (HP.out.cd.lt k hk).1; have h2 := HR0.out.lt; omega);obtain ⟨KK, hKK⟩ : ∃ KK, K = KK := ⟨_, rfl⟩;rw [hKK] at HC HNK;clear hlt HP hKK hrn;go_upto_region 8 with fail;refine wp_region_held_drew (S := fun W => W.cell? ⟨bx, 0, none⟩ = some (.slice ro rn rcp) ∧ W.cell? ⟨bx, 1, none⟩ = some (.int .i64 q)) (by kernel_rfl) ⟨x0, x1⟩ (fun hHeld => ?_);refine take_d19 (i := 0) (d := some 55) (v := ?_) rfl rfl (by kernel_rfl) (by kernel_rfl) (by kernel_rfl) (fun _ _ _ h => h) (Or.inl ⟨by rfl, ?_⟩) (by assumption) ?_;rotate_left
   ·intro w hSw;go_simp
    try with_reducible rfl
   refine take_d19 (i := 1) (d := some 56) (v := ?_) rfl rfl (by kernel_rfl) (by kernel_rfl) (by kernel_rfl) (fun _ _ _ h => h) (Or.inl ⟨by rfl, ?_⟩) (by assumption) ?_;rotate_left
   ·intro w hSw
    (try dsimp only at hSw)
    obtain ⟨s0, s1⟩ := hSw;go_simp
    try with_reducible rfl
   refine take_d19 (i := 2) (d := some 2) (v := ?_) rfl rfl (by kernel_rfl) (by kernel_rfl) (by kernel_rfl) (fun _ _ _ h => h) (Or.inl ⟨by rfl, ?_⟩) (by assumption) ?_;rotate_left
   ·intro w hSw;go_simp
    try with_reducible rfl
   try simp only [Act.put, List.setIfInBounds_toArray, List.set_cons_zero, List.set_cons_succ]
   refine wpAnyH_ready (rs := [3]) (by kernel_rfl) (by simp) ?_;refine AllReadyH.cons rfl (fun K hK => ?_) AllReadyH.nil;refine step_store19 rfl 34 _ _ rfl rb #[.slice ro rn rcp, .int .i64 q] rfl rfl 34 _ (show Ar wr.drew rb _ _ from HRX.out) sizeDk19 rfl (by simp [Value.oneCell']) ?_;intro wf hawf huwf;refine hK.out _ _ ⟨(World.cell?_of_block (a := ⟨bx, 0, none⟩) (huwf.block bx HNB.out)).trans hHeld.1, (World.cell?_of_block (a := ⟨bx, 1, none⟩) (huwf.block bx HNB.out)).trans hHeld.2⟩ (fun _ => ?_);clear hK
   try simp only [Act.put]
   refine wpAnyH_done (by kernel_rfl) ?_ _;have HWF := hid' hawf;have HCF : Hid (CD wf w.heap.size d KK q es) := hid' ((HC.out.keep (below_dn wr 1)).other (LF.of_upd (S := fun k => k = rb) huwf rfl) (fun k hk e => HNK.out k hk e));have HBF : Hid (Below w.heap.size w wf) := hid' (((HBW.out.drew)).trans (huwf.below HRB.out));clear hawf huwf hHeld x0 x1;go_wp2_with fail;have hld := ldDk19 HWF.out;exact bodyPost_ret (v := .tuple #[.pointer (some ⟨d, 0, none⟩), .agg #[.slice ro rn rcp, .int .i64 q]]) (by simp [results, Tryz.results7, asAddr, hld]) rfl ⟨bp19 HCF.out HE.out HQ.out.1 HQ.out.2, HBF.out⟩


def sC17 (l : List (List UInt8)) : List Value := l.map fun x => .string ⟨x.toArray⟩
theorem sC17_app (a b : List (List UInt8)) : sC17 (a ++ b) = sC17 a ++ sC17 b := by unfold sC17; rw [List.map_append]
theorem own_str17 {w : World} {B : Nat} {e : TypeId} {ao : Option Addr} {n m cap : Nat} {l : List (List UInt8)} (h : w.ownsRow B e 1 (.slice ao n cap) m (sC17 l)) (i : Nat) (p : List UInt8) (hp : l[i]? = some p) : ∃ g, ao = some ⟨g, 0, none⟩ ∧ w.cell? ⟨g, i, none⟩ = some (.string ⟨p.toArray⟩) := by
 have hx : (sC17 l)[i]? = some (.string ⟨p.toArray⟩) := by unfold sC17; rw [List.getElem?_map, hp]; rfl
 have hlt := (List.getElem?_eq_some_iff.1 hx).1;rcases h.2 with ⟨_, h0⟩ | ⟨g, cap', cur, h1, h2⟩
 ·rw [h.1, h0] at hlt; omega
 ·injection h1 with h1 h3 h4;subst h1;have := h.cells (g := g) rfl i _ hx;rw [Addr.add_mid, Nat.zero_add] at this;exact ⟨g, rfl, this⟩
def SR17 (w : World) (ao : Option Addr) (l : List (List UInt8)) : Prop := ∀ i p, l[i]? = some p → ∃ g, ao = some ⟨g, 0, none⟩ ∧ g < w.heap.size ∧ w.cell? ⟨g, i, none⟩ = some (.string ⟨p.toArray⟩)
theorem SR17.own {w : World} {B : Nat} {e : TypeId} {ao : Option Addr} {n m cap : Nat} {l : List (List UInt8)} (h : w.ownsRow B e 1 (.slice ao n cap) m (sC17 l)) : SR17 w ao l := fun i p hp => by
 obtain ⟨g, rfl, h1⟩ := own_str17 h i p hp;exact ⟨g, rfl, own_lt h g rfl, h1⟩
theorem SR17.below {w w' : World} {ao : Option Addr} {l : List (List UInt8)} (h : SR17 w ao l) (hb : Below w.heap.size w w') : SR17 w' ao l := fun i p hp => by
 obtain ⟨g, h1, h2, h3⟩ := h i p hp;exact ⟨g, h1, Nat.lt_of_lt_of_le h2 hb.size, (hb.cell (p := ⟨g, i, none⟩) h2).trans h3⟩
namespace Pt
theorem cutS_len (l : T8) : (cutS [] l).length ≤ l.length + 1 := by
 have key : ∀ (r cur : T8), (cutS cur r).length ≤ r.length + 1 := by
  intro r
  induction r with
  | nil => intro cur; simp [cutS]
  | cons c r ih =>
   intro cur;rw [cutS];split
   ·have := ih []; simp; omega
   ·have := ih (cur ++ [c]); simp; omega
 exact key l []
theorem cutS_size (l : T8) : ∀ p ∈ cutS [] l, p.length ≤ l.length := by
 have key : ∀ (r cur : T8), ∀ q ∈ cutS cur r, q.length ≤ cur.length + r.length := by
  intro r
  induction r with
  | nil => intro cur q hq; simp [cutS] at hq; subst hq; simp
  | cons c r ih =>
   intro cur q hq;rw [cutS] at hq;split at hq
   ·rcases List.mem_cons.1 hq with rfl | hq
    ·simp
    ·have := ih [] q hq; simp at this ⊢; omega
   ·have := ih _ q hq; simp at this ⊢; omega
 intro p hp;have := key l [] p hp;simpa using this
theorem cutS_sum (l : T8) : ((cutS [] l).map List.length).sum + (cutS [] l).length = l.length + 1 := by
 have key : ∀ (r cur : T8), ((cutS cur r).map List.length).sum + (cutS cur r).length = cur.length + r.length + 1 := by
  intro r
  induction r with
  | nil => intro cur; simp [cutS]
  | cons c r ih =>
   intro cur;rw [cutS];split
   ·have := ih [];simp only [List.map_cons, List.sum_cons, List.length_cons] at *;simp at this;omega
   ·have := ih (cur ++ [c]);simp only [List.length_append, List.length_cons, List.length_nil] at *;omega
 have := key l [];simpa using this
theorem join_len : ∀ (k : List T8), (join k).length ≤ (k.map List.length).sum + k.length := by
 intro k
 induction k with
 | nil => simp [join]
 | cons p k ih =>
  cases k with
  | nil => simp [join]
  | cons q k =>
   rw [join];simp only [List.length_append, List.length_cons, List.map_cons, List.sum_cons] at *;omega
end Pt


theorem own_base17 {w : World} {B B' : Nat} {e : TypeId} {s : Nat} {v : Value} {n : Nat} {xs : List Value} (h : w.ownsRow B e s v n xs) (hB : B' ≤ B) : w.ownsRow B' e s v n xs := by
 refine ⟨h.1, ?_⟩;rcases h.2 with h1 | ⟨g, cap, cur, h1, h2, h3⟩
 ·exact .inl h1
 ·exact .inr ⟨g, cap, cur, h1, Nat.le_trans hB h2, h3⟩
theorem own_cut17 {w : World} {B : Nat} {e : TypeId} {ao : Option Addr} {n cap : Nat} {l : List (List UInt8)} (h : w.ownsRow B e 1 (.slice ao (n + 1) cap) (n + 1) (sC17 l)) : w.ownsRow B e 1 (.slice ao n cap) n (sC17 l.dropLast) ∧ n + 1 ≤ cap ∧ cap ≤ maxLen ∧ ∃ g, ao = some ⟨g, 0, none⟩ := by
 have hl : l.length = n + 1 := by have := h.1; unfold sC17 at this; simpa using this
 rcases h.2 with ⟨_, h0⟩ | ⟨g, c, cur, h1, hB, hg, hn, hm, hs, ht⟩
 ·omega
 ·injection h1 with h1 _ h3;subst h1 h3;refine ⟨⟨by unfold sC17; simp [hl], .inr ⟨g, cap, cur, rfl, hB, hg, by omega, hm, hs, ?_⟩⟩, hn, hm, g, rfl⟩;rw [Nat.mul_one] at ht ⊢;have e1 : sC17 l.dropLast = (sC17 l).take n := by
   unfold sC17;rw [List.dropLast_eq_take, hl, ← List.map_take];rfl
  rw [e1, ← ht, List.take_take];congr 1;omega


namespace Pt
theorem pre_le (l : T8) : (pre l).length ≤ l.length := (List.takeWhile_prefix _).length_le
theorem undo_len : ∀ (n : Nat) (l s : T8), l.length ≤ n → undo l = some s → s.length ≤ l.length := by
 intro n
 induction n with
 | zero =>
  intro l s hl h;obtain rfl : l = [] := List.eq_nil_of_length_eq_zero (by omega);simp [undo] at h;subst h; simp
 | succ n ih =>
  intro l s hl h;cases l with
  | nil => simp [undo] at h; subst h; simp
  | cons a r =>
   cases ha : (a == 37)
   ·rw [undo_plain ha] at h;cases hu : undo r with
    | none => rw [hu] at h; cases h
    | some s' =>
     rw [hu] at h;simp only [Option.map_some, Option.some.injEq] at h;subst h;have := ih r s' (by simp at hl; omega) hu;simp; omega
   ·obtain rfl : a = 37 := eq_of_beq ha
    match r, hl, h with
    | [], _, h => simp [undo] at h
    | [d], _, h => simp [undo] at h
    | b :: d :: t, hl, h =>
     cases hq : (decide (0 ≤ hx b) && (decide (0 ≤ hx d) && okb (byt b d)))
     ·rw [undo_bad hq] at h; cases h
     ·rw [undo_esc hq] at h;cases hu : undo t with
      | none => rw [hu] at h; cases h
      | some s' =>
       rw [hu] at h;simp only [Option.map_some, Option.some.injEq] at h;subst h;have := ih t s' (by simp at hl; omega) hu;simp; omega
theorem keep_step {ps k : List T8} {i : Nat} {p : T8} (h : ps[i]? = some p) : keep k (ps.drop i) = match step k p with | none => none | some k' => keep k' (ps.drop (i + 1)) := by
 obtain ⟨h1, h2⟩ := List.getElem?_eq_some_iff.1 h;rw [List.drop_eq_getElem_cons h1, h2, keep];cases step k p <;> rfl
theorem keep_sum : ∀ (ps k k' : List T8), keep k ps = some k' → (k'.map List.length).sum + k'.length ≤ (k.map List.length).sum + k.length + (ps.map List.length).sum + ps.length := by
 intro ps
 induction ps with
 | nil => intro k k' h; simp [keep] at h; subst h; simp
 | cons p r ih =>
  intro k k' h;rw [keep] at h;cases hs : step k p with
  | none => rw [hs] at h; cases h
  | some k1 =>
   rw [hs] at h;have h1 := ih k1 k' h;have h2 : (k1.map List.length).sum + k1.length ≤ (k.map List.length).sum + k.length + p.length + 1 := by
    unfold step at hs;split at hs
    ·split at hs
     ·cases hs
     ·injection hs with hs;subst hs;have : k = [] ∨ ∃ a, k = k.dropLast ++ [a] := by
       cases hk : k with
       | nil => exact .inl rfl
       | cons a b => exact .inr ⟨(a :: b).getLast (by simp), (List.dropLast_concat_getLast (by simp)).symm⟩
      rcases this with h0 | ⟨a, ha⟩
      ·rw [h0]; simp
      ·conv => rhs; rw [ha]
       simp;omega
    ·split at hs
     ·injection hs with hs; subst hs; omega
     ·injection hs with hs;subst hs;simp;omega
   simp only [List.map_cons, List.sum_cons, List.length_cons];omega
theorem core_len (l : T8) : (core l).1.length ≤ l.length + 3 := by
 unfold core;split
 ·cases hu : undo l with
  | none => simp
  | some s =>
   simp only;cases hk : keep [] (cutS [] s) with
   | none => simp
   | some k =>
    simp only;have h1 := undo_len _ l s (Nat.le_refl _) hu;have h2 := keep_sum _ _ _ hk;have h3 := cutS_sum s;have h4 := join_len k;simp at h2;unfold out;rw [List.length_cons, List.length_append];split
    ·simp only [List.length_cons, List.length_nil]; omega
    ·simp only [List.length_nil]; omega
 ·simp
end Pt
def clV17 (q : List UInt8 × List UInt8 × Int) : Value := .tuple #[.string ⟨q.1.toArray⟩, .string ⟨q.2.1.toArray⟩, .int .i64 q.2.2]
theorem dots_at17 (y : ByteArray) (p : List UInt8) (h : y.data.toList = p) : (y.toList == [46, 46]) = (p == Pt.dots) ∧ (y.toList == [46]) = (p == Pt.dot) ∧ y.toList.isEmpty = p.isEmpty := by
 rw [Lib.toList_data, h]; exact ⟨rfl, rfl, rfl⟩

namespace Rt
theorem lt_irr (a : T8) : ¬ a < a := List.lt_irrefl a
theorem lt_tr {a b c : T8} (h1 : a < b) (h2 : b < c) : a < c := List.lt_trans h1 h2
theorem lt_or (a b : T8) : a < b ∨ a = b ∨ b < a := by
 by_cases h1 : a < b
 ·exact .inl h1
 ·by_cases h2 : b < a
  ·exact .inr (.inr h2)
  ·exact .inr (.inl (List.le_antisymm (List.not_lt.1 h2) (List.not_lt.1 h1)))
def Rise (l : List T8) : Prop := l.Pairwise (fun a b => a < b)
theorem lay_mem : ∀ (l : List T8) (s x : T8), x ∈ lay l s ↔ x = s ∨ x ∈ l := by
 intro l
 induction l with
 | nil => intro s x; simp [lay]
 | cons a r ih =>
  intro s x;rw [lay];split
  ·rw [List.mem_cons, ih, List.mem_cons];exact ⟨fun h => by rcases h with h | h | h; exact .inr (.inl h); exact .inl h; exact .inr (.inr h), fun h => by rcases h with h | h | h; exact .inr (.inl h); exact .inl h; exact .inr (.inr h)⟩
  ·split
   ·rename_i h2;have := eq_of_beq h2;subst this;simp
   ·simp
theorem lay_rise : ∀ (l : List T8) (s : T8), Rise l → Rise (lay l s) := by
 intro l
 induction l with
 | nil => intro s _; unfold Rise lay; simp
 | cons a r ih =>
  intro s h;unfold Rise at *;rw [List.pairwise_cons] at h;rw [lay];split
  ·rename_i h1;rw [List.pairwise_cons];refine ⟨fun x hx => ?_, ih s h.2⟩;rcases (lay_mem r s x).1 hx with rfl | hx
   ·exact h1
   ·exact h.1 x hx
  ·rename_i h1;split
   ·rw [List.pairwise_cons]; exact h
   ·rename_i h2;have hsa : s < a := by
     rcases lt_or a s with h3 | h3 | h3
     ·exact absurd h3 h1
     ·exact absurd (by rw [h3]; simp) h2
     ·exact h3
    rw [List.pairwise_cons, List.pairwise_cons];refine ⟨fun x hx => ?_, h⟩;rcases List.mem_cons.1 hx with rfl | hx
    ·exact hsa
    ·exact lt_tr hsa (h.1 x hx)
theorem rise_ext : ∀ {a b : List T8}, Rise a → Rise b → (∀ x, x ∈ a ↔ x ∈ b) → a = b := by
 intro a
 induction a with
 | nil =>
  intro b _ _ h;cases b with
  | nil => rfl
  | cons y s => have := (h y).2 (by simp); simp at this
 | cons x r ih =>
  intro b ha hb h;cases b with
  | nil => have := (h x).1 (by simp); simp at this
  | cons y s =>
   unfold Rise at ha hb;rw [List.pairwise_cons] at ha hb;have hxy : x = y := by
    have h1 := (h x).1 (by simp);have h2 := (h y).2 (by simp);rcases List.mem_cons.1 h1 with h1 | h1
    ·exact h1
    ·rcases List.mem_cons.1 h2 with h2 | h2
     ·exact h2.symm
     ·exact absurd (lt_tr (ha.1 y h2) (hb.1 x h1)) (lt_irr x)
   subst hxy;congr 1;refine ih ha.2 hb.2 (fun z => ?_);have hz := h z;rw [List.mem_cons, List.mem_cons] at hz;constructor
   ·intro h1;rcases hz.1 (.inr h1) with h2 | h2
    ·subst h2; exact absurd (ha.1 z h1) (lt_irr z)
    ·exact h2
   ·intro h1;rcases hz.2 (.inr h1) with h2 | h2
    ·subst h2; exact absurd (hb.1 z h1) (lt_irr z)
    ·exact h2
theorem meth_mem (l : List T8) (of : List Prt) (r : Ro) (x : T8) : x ∈ meth l of r ↔ x ∈ l ∨ (shape (pat r) of = true ∧ (x = r.m ∨ (r.m = sGET ∧ x = sHEAD))) := by
 unfold meth;cases hs : shape (pat r) of
 ·simp
 ·simp only [if_true, true_and];cases hg : (r.m == sGET)
  ·have : r.m ≠ sGET := by simpa using hg
   simp only [Bool.false_eq_true, if_false];rw [lay_mem];constructor
   ·rintro (h | h)
    ·exact .inr (.inl h)
    ·exact .inl h
   ·rintro (h | h | h)
    ·exact .inr h
    ·exact .inl h
    ·exact absurd h.1 this
  ·have : r.m = sGET := eq_of_beq hg;simp only [if_true];rw [lay_mem, lay_mem];constructor
   ·rintro (h | h | h)
    ·exact .inr (.inr ⟨this, h⟩)
    ·exact .inr (.inl h)
    ·exact .inl h
   ·rintro (h | h | h)
    ·exact .inr (.inr h)
    ·exact .inr (.inl h)
    ·exact .inl h.2
theorem meth_rise {l : List T8} (of : List Prt) (r : Ro) (h : Rise l) : Rise (meth l of r) := by
 unfold meth;split
 ·split
  ·exact lay_rise _ _ (lay_rise _ _ h)
  ·exact lay_rise _ _ h
 ·exact h
theorem meths_all : ∀ (rs : List Ro) (l : List T8) (of : List Prt), Rise l → Rise (rs.foldl (fun l r => meth l of r) l) ∧ ∀ x, x ∈ rs.foldl (fun l r => meth l of r) l ↔ x ∈ l ∨ ∃ r ∈ rs, shape (pat r) of = true ∧ (x = r.m ∨ (r.m = sGET ∧ x = sHEAD)) := by
 intro rs
 induction rs with
 | nil => intro l of h; exact ⟨h, fun x => by simp⟩
 | cons r rs ih =>
  intro l of h;obtain ⟨h1, h2⟩ := ih (meth l of r) of (meth_rise of r h);refine ⟨h1, fun x => ?_⟩;rw [List.foldl_cons, h2, meth_mem];constructor
  ·rintro ((h3 | h3) | ⟨q, hq, h3⟩)
   ·exact .inl h3
   ·exact .inr ⟨r, by simp, h3⟩
   ·exact .inr ⟨q, List.mem_cons_of_mem _ hq, h3⟩
  ·rintro (h3 | ⟨q, hq, h3⟩)
   ·exact .inl (.inl h3)
   ·rcases List.mem_cons.1 hq with rfl | hq
    ·exact .inl (.inr h3)
    ·exact .inr ⟨q, hq, h3⟩
theorem allow_same {rs rs' : List Ro} {q q' : List Prt} (hm : ∀ r, r ∈ rs ↔ r ∈ rs') (hs : shape q q' = true) : allow rs q = allow rs' q' := by
 have e : meths rs q = meths rs' q' := by
  obtain ⟨a1, a2⟩ := meths_all rs [sOPT] q (by unfold Rise; simp);obtain ⟨b1, b2⟩ := meths_all rs' [sOPT] q' (by unfold Rise; simp);unfold meths;refine rise_ext a1 b1 (fun x => ?_);rw [a2, b2];have key : ∀ r, shape (pat r) q = true ↔ shape (pat r) q' = true := fun r => ⟨fun h => shape_trans h hs, fun h => shape_trans h (shape_symm hs)⟩
  constructor
  ·rintro (h | ⟨r, hr, h1, h2⟩)
   ·exact .inl h
   ·exact .inr ⟨r, (hm r).1 hr, (key r).1 h1, h2⟩
  ·rintro (h | ⟨r, hr, h1, h2⟩)
   ·exact .inl h
   ·exact .inr ⟨r, (hm r).2 hr, (key r).2 h1, h2⟩
 unfold allow;rw [e]
def same (q r : Ro) : Bool := q.m == r.m && shape (pat r) (pat q)
theorem same_symm {q r : Ro} (h : same q r = true) : same r q = true := by
 unfold same at *;rw [Bool.and_eq_true, beq_iff_eq] at *;exact ⟨h.1.symm, shape_symm h.2⟩
theorem chk_ok : ∀ (rs ps : List Ro), chk ps rs = 0 ↔ (∀ r ∈ rs, badRo r = false) ∧ (∀ q ∈ ps, ∀ r ∈ rs, same q r = false) ∧ rs.Pairwise (fun q r => same q r = false) := by
 intro rs
 induction rs with
 | nil => intro ps; simp [chk]
 | cons r rs ih =>
  intro ps;rw [chk];cases hb : badRo r
  ·simp only [Bool.false_eq_true, if_false];cases ht : twice ps r
   ·simp only [Bool.false_eq_true, if_false];have ht' : ∀ q ∈ ps, same q r = false := fun q hq => by
     unfold twice at ht;rw [List.any_eq_false] at ht;have := ht q hq;unfold same;simpa using this
    rw [ih, List.pairwise_cons];constructor
    ·rintro ⟨h1, h2, h3⟩;refine ⟨fun x hx => ?_, fun q hq x hx => ?_, fun x hx => h2 r (by simp) x hx, h3⟩
     ·rcases List.mem_cons.1 hx with rfl | hx
      ·exact hb
      ·exact h1 x hx
     ·rcases List.mem_cons.1 hx with rfl | hx
      ·exact ht' q hq
      ·exact h2 q (List.mem_append_left _ hq) x hx
    ·rintro ⟨h1, h2, h3, h4⟩;refine ⟨fun x hx => h1 x (List.mem_cons_of_mem _ hx), fun q hq x hx => ?_, h4⟩;rcases List.mem_append.1 hq with hq | hq
     ·exact h2 q hq x (List.mem_cons_of_mem _ hx)
     ·simp at hq; subst hq; exact h3 x hx
   ·simp only [if_true];constructor
    ·intro h; exact absurd h (by decide)
    ·rintro ⟨_, h2, _⟩;unfold twice at ht;rw [List.any_eq_true] at ht;obtain ⟨q, hq, h3⟩ := ht;have := h2 q hq r (by simp);unfold same at this;rw [this] at h3; cases h3
  ·simp only [if_true];constructor
   ·intro h; exact absurd h (by decide)
   ·rintro ⟨h1, _⟩;have := h1 r (by simp);rw [hb] at this; cases this
def Ok (rs : List Ro) : Prop := rs.length ≤ 256 ∧ (∀ r ∈ rs, badRo r = false) ∧ rs.Pairwise (fun q r => same q r = false)
theorem uniq {rs : List Ro} (h : rs.Pairwise (fun q r => same q r = false)) {i j : Nat} {a b : Ro} (hi : rs[i]? = some a) (hj : rs[j]? = some b) (hs : same a b = true) : i = j := by
 rcases Nat.lt_trichotomy i j with h1 | h1 | h1
 ·obtain ⟨i1, i2⟩ := List.getElem?_eq_some_iff.1 hi;obtain ⟨j1, j2⟩ := List.getElem?_eq_some_iff.1 hj;have := List.pairwise_iff_getElem.1 h i j i1 j1 h1;rw [i2, j2, hs] at this; cases this
 ·exact h1
 ·obtain ⟨i1, i2⟩ := List.getElem?_eq_some_iff.1 hi;obtain ⟨j1, j2⟩ := List.getElem?_eq_some_iff.1 hj;have := List.pairwise_iff_getElem.1 h j i j1 i1 h1;rw [i2, j2, same_symm hs] at this; cases this
theorem by_some {rs : List Ro} {of : List Prt} {m : T8} {k : Nat} (h : byM rs of m = some k) : ∃ r, rs[k]? = some r ∧ shape (pat r) of = true ∧ r.m = m := by
 unfold byM at h;obtain ⟨h1, h2, _⟩ := List.findIdx?_eq_some_iff_getElem.1 h;rw [Bool.and_eq_true, beq_iff_eq] at h2;exact ⟨rs[k], List.getElem?_eq_getElem h1, h2.1, h2.2⟩
theorem by_none {rs : List Ro} {of : List Prt} {m : T8} (h : byM rs of m = none) : ∀ r ∈ rs, shape (pat r) of = true → r.m ≠ m := by
 intro r hr h1 h2;unfold byM at h;have := List.findIdx?_eq_none_iff.1 h r hr;rw [h1, h2] at this;simp at this
theorem sel_some {rs : List Ro} {of : List Prt} {m : T8} {k : Nat} (h : sel rs of m = some k) : ∃ r, rs[k]? = some r ∧ shape (pat r) of = true := by
 unfold sel at h;cases h1 : byM rs of m with
 | some j =>
  rw [h1] at h;simp at h;subst h;obtain ⟨r, a, b, _⟩ := by_some h1;exact ⟨r, a, b⟩
 | none =>
  rw [h1] at h;simp only [Option.none_or] at h;cases hm : (m == sHEAD)
  ·rw [hm] at h;simp at h;obtain ⟨r, a, b, _⟩ := by_some h;exact ⟨r, a, b⟩
  ·rw [hm] at h;simp only [if_true] at h;cases h2 : byM rs of sGET with
   | some j =>
    rw [h2] at h;simp at h;subst h;obtain ⟨r, a, b, _⟩ := by_some h2;exact ⟨r, a, b⟩
   | none =>
    rw [h2] at h;simp at h;obtain ⟨r, a, b, _⟩ := by_some h;exact ⟨r, a, b⟩
end Rt

namespace Rt
def Gd (x : T8) : Prop := x ≠ [] ∧ 47 ∉ x
theorem filt_gd {k : List T8} (h : ∀ x ∈ k, Gd x) : k.filter (fun p => !p.isEmpty) = k := by
 rw [List.filter_eq_self];intro p hp;have := (h p hp).1;cases p with
 | nil => exact absurd rfl this
 | cons a b => rfl
theorem parts_join {k : List T8} (h : ∀ x ∈ k, Gd x) (b : Bool) : Pt.parts (Pt.join k ++ (if !k.isEmpty && b then [47] else [])) = k := by
 have hn : ∀ x ∈ k, 47 ∉ x := fun x hx => (h x hx).2;cases k with
 | nil => rfl
 | cons a r =>
  simp only [List.isEmpty_cons, Bool.not_false, Bool.true_and];unfold Pt.parts;cases b
  ·simp only [Bool.false_eq_true, if_false, List.append_nil];rw [Pt.cutS_join0 _ (by simp) hn];exact filt_gd h
  ·simp only [if_true];rw [Pt.cutS_join _ _ (by simp) hn, List.filter_append, filt_gd h];simp [Pt.cutS]
theorem join_inj {a b : List T8} (ha : ∀ x ∈ a, Gd x) (hb : ∀ x ∈ b, Gd x) (h : Pt.join a = Pt.join b) : a = b := by
 have h1 := parts_join ha false;have h2 := parts_join hb false;simp only [Bool.and_false, Bool.false_eq_true, if_false, List.append_nil] at h1 h2;rw [← h1, ← h2, h]
theorem prt_k (s : T8) : (prt s).1.k ≤ 2 := by
 unfold prt;split
 ·split <;> simp
 ·split <;> simp
theorem prt_plain {s : T8} (h : (prt s).2 = true) (hk : (prt s).1.k = 0) : (prt s).1.t = s ∧ s ≠ [] := by
 unfold prt at *;split at h
 ·rename_i h1;rw [if_pos h1] at hk;split at h
  ·rename_i h2;rw [if_pos h2] at hk; cases hk
  ·rename_i h2;rw [if_neg h2] at hk; cases hk
 ·rename_i h1;rw [if_neg h1];split at h
  ·rename_i h2;rw [if_pos h2];refine ⟨rfl, fun e => ?_⟩;rw [e] at h; cases h
  ·cases h
theorem pats_out : ∀ (xs : List T8) (out ps : List Prt), pats out xs = some ps → ps = out ++ xs.map (fun x => (prt x).1) ∧ (∀ x ∈ xs, (prt x).2 = true) ∧ ∀ i x, xs[i]? = some x → (prt x).1.k = 2 → i + 1 = xs.length := by
 intro xs
 induction xs with
 | nil => intro out ps h; simp [pats] at h; subst h; simp
 | cons x r ih =>
  intro out ps h;rw [pats] at h;split at h
  ·cases h
  ·rename_i h1;split at h
   ·cases h
   ·simp only [Bool.or_eq_true, not_or, Bool.not_eq_true', Bool.not_eq_false, Bool.and_eq_true, not_and] at h1;obtain ⟨e, h2, h3⟩ := ih _ ps h;refine ⟨by rw [e]; simp, fun y hy => ?_, fun i y hy hk => ?_⟩
    ·rcases List.mem_cons.1 hy with rfl | hy
     ·exact h1.1
     ·exact h2 y hy
    ·cases i with
     | zero =>
      simp at hy;subst hy;have h4 := h1.2 (by rw [hk]; rfl);cases r with
      | nil => rfl
      | cons a b => cases h4
     | succ i =>
      have := h3 i y (by simpa using hy) hk;simp; omega
structure Wf (ps : List Prt) : Prop where
 k : ∀ p ∈ ps, p.k ≤ 2
 t : ∀ p ∈ ps, p.k = 0 → Gd p.t
 last : ∀ (i : Nat) (p : Prt), ps[i]? = some p → p.k = 2 → i + 1 = ps.length
theorem Wf.nil : Wf [] := ⟨fun p h => by simp at h, fun p h => by simp at h, fun i p h => by simp at h⟩
theorem Wf.tail {p : Prt} {x : List Prt} (h : Wf (p :: x)) : Wf x :=
 ⟨fun q hq => h.k q (List.mem_cons_of_mem _ hq), fun q hq => h.t q (List.mem_cons_of_mem _ hq), fun i q hq hk => by
  have := h.last (i + 1) q (by simpa using hq) hk;simp at this; omega⟩
theorem pattern_wf {s : T8} {ps : List Prt} (h : pattern s = some ps) : Wf ps := by
 unfold pattern at h;split at h
 ·injection h with h;rw [← h]; exact Wf.nil
 ·split at h
  ·obtain ⟨e, h2, h3⟩ := pats_out _ _ _ h;rw [List.nil_append] at e;refine ⟨fun p hp => ?_, fun p hp hk => ?_, fun i p hp hk => ?_⟩
   ·rw [e] at hp;obtain ⟨x, _, rfl⟩ := List.mem_map.1 hp;exact prt_k x
   ·rw [e] at hp;obtain ⟨x, hx, rfl⟩ := List.mem_map.1 hp;obtain ⟨h4, h5⟩ := prt_plain (h2 x hx) hk;rw [h4];exact ⟨h5, (Pt.cutS_no _ [] (by simp) x hx).1⟩
   ·rw [e, List.getElem?_map, Option.map_eq_some_iff] at hp;obtain ⟨x, hx, rfl⟩ := hp;rw [e, List.length_map];exact h3 i x hx hk
  ·cases h
theorem pat_wf {r : Ro} : Wf (pat r) := by
 unfold pat;cases h : pattern r.p with
 | none => exact Wf.nil
 | some ps => exact pattern_wf h
def back : List Prt → List (T8 × T8) → List T8
 | [], _ => []
 | p :: x, cs => if p.k == 0 then Pt.parts p.t ++ back x cs else match cs with | [] => [] | c :: cs' => Pt.parts c.2 ++ back x cs'
def names (ps : List Prt) : List T8 := (ps.filter (fun p => !(p.k == 0))).map (·.t)
end Rt
end Go.Proofs.YthhpejgpfaikaabGreatDoor
