/-
  The document's SameRequest, of requests that are the same: by its contract.
  Two pieces that are the same: the document's Same by its contract.
  A row of pieces of one's own (what the laws' told lays together).
-/
import Derived.Test.YtbpdhcfmdkmoiaaGreatDoorPnBJ
import Derived.Laws.OwnMore
namespace Go.Proofs.YtbpdhcfmdkmoiaaGreatDoor
open Go.RowKit

/-- A request's cells. -/
def rqCM (m s a p : ByteArray) (fv : Value) (b : ByteArray) (tv : Value) : Array Value := #[.string m, .string s, .string a, .string p, fv, .string b, tv]
theorem below_dnM (w : World) (n : Nat) : Below w.heap.size w (w.drewN n) := ⟨rfl, rfl, rfl, Nat.le_refl _, fun _ _ => rfl⟩

set_option maxHeartbeats 4000000 in
set_option maxRecDepth 20000 in
theorem rsameReq14M (m s a p b : ByteArray) (fv fv' tv tv' : Value) (l t : List Fd) (w : World) (h1 : FW w fv l) (h2 : FW w fv' l) (h3 : FW w tv t) (h4 : FW w tv' t) (hl : l.length ≤ 9223372036854775807) (ht : t.length ≤ 9223372036854775807) :
    Calls Tryz.prog 30 #[.agg (rqCM m s a p fv b tv), .agg (rqCM m s a p fv' b tv')] w fun e w' => e = .returned (.bool true) ∧ Below w.heap.size w w' := by
  have H1 := hid' h1
  have H2 := hid' h2
  have H3 := hid' h3
  have H4 := hid' h4
  have e1 : (m.toList == m.toList) = true := beq_self_eq_true _
  have e2 : (s.toList == s.toList) = true := beq_self_eq_true _
  have e3 : (a.toList == a.toList) = true := beq_self_eq_true _
  have e4 : (p.toList == p.toList) = true := beq_self_eq_true _
  have e5 : (b.toList == b.toList) = true := beq_self_eq_true _
  clear h1 h2 h3 h4
  unfold rqCM
  go_enter Tryz.func30, Tryz.ntmps30
  go_wp2_with (refine wpl_box 47 _ rfl rfl (rqCM m s a p fv b tv) (by kernel_rfl) ?_)
  intro xb w1 hg1 ha1 hb1
  have HX1 := hid' ha1
  have HB1 := hid' hb1
  clear hg1 ha1 hb1
  go_wp2_with (refine wpl_box 47 _ rfl rfl (rqCM m s a p fv' b tv') (by kernel_rfl) ?_)
  intro yb w2 hg2 ha2 hb2
  have HX2 := hid' (HX1.out.keep hb2)
  have HY2 := hid' ha2
  have HB2 := hid' (below_two HB1.out hb2)
  clear hg2 ha2 hb2 HX1 HB1
  have x0 : w2.cell? ⟨xb, 0, none⟩ = some (.string m) := HX2.out.cell 0 _ rfl
  have x1 : w2.cell? ⟨xb, 1, none⟩ = some (.string s) := HX2.out.cell 1 _ rfl
  have x2 : w2.cell? ⟨xb, 2, none⟩ = some (.string a) := HX2.out.cell 2 _ rfl
  have x3 : w2.cell? ⟨xb, 3, none⟩ = some (.string p) := HX2.out.cell 3 _ rfl
  have x4 : w2.cell? ⟨xb, 4, none⟩ = some (fv) := HX2.out.cell 4 _ rfl
  have x5 : w2.cell? ⟨xb, 5, none⟩ = some (.string b) := HX2.out.cell 5 _ rfl
  have x6 : w2.cell? ⟨xb, 6, none⟩ = some (tv) := HX2.out.cell 6 _ rfl
  have y0 : w2.cell? ⟨yb, 0, none⟩ = some (.string m) := HY2.out.cell 0 _ rfl
  have y1 : w2.cell? ⟨yb, 1, none⟩ = some (.string s) := HY2.out.cell 1 _ rfl
  have y2 : w2.cell? ⟨yb, 2, none⟩ = some (.string a) := HY2.out.cell 2 _ rfl
  have y3 : w2.cell? ⟨yb, 3, none⟩ = some (.string p) := HY2.out.cell 3 _ rfl
  have y4 : w2.cell? ⟨yb, 4, none⟩ = some (fv') := HY2.out.cell 4 _ rfl
  have y5 : w2.cell? ⟨yb, 5, none⟩ = some (.string b) := HY2.out.cell 5 _ rfl
  have y6 : w2.cell? ⟨yb, 6, none⟩ = some (tv') := HY2.out.cell 6 _ rfl
  go_wp2_with fail
  refine (rsameM14 fv fv' l w2 (H1.out.keep HB2.out) (H2.out.keep HB2.out) hl).mono ?_
  rintro e w3 ⟨rfl, n3, hn3⟩
  subst hn3
  go_wp2_with fail
  refine (rsameM14 tv tv' t _ ((H3.out.keep HB2.out).keep (below_dnM _ _)) ((H4.out.keep HB2.out).keep (below_dnM _ _)) ht).mono ?_
  rintro e w4 ⟨rfl, n4, hn4⟩
  subst hn4
  go_wp2
  go_ret
  exact ⟨rfl, below_two HB2.out (below_dnM _ _)⟩

end Go.Proofs.YtbpdhcfmdkmoiaaGreatDoor

namespace Go.Proofs.YtbpdhcfmdkmoiaaGreatDoor
open Go.RowKit

set_option maxHeartbeats 8000000 in
set_option maxRecDepth 20000 in
theorem csamePc21 (p : Hr.Pc) (rv tv rv' tv' : Value) (w : World) (h1 : FW w rv p.rq.fs) (h2 : FW w rv' p.rq.fs) (h3 : FW w tv p.fs) (h4 : FW w tv' p.fs) (hl : p.rq.fs.length ≤ 9223372036854775807) (ht : p.fs.length ≤ 9223372036854775807) :
    Calls Tryz.prog 21 #[.agg (pcC p rv tv), .agg (pcC p rv' tv')] w fun e w' => e = .returned (.bool true) ∧ Below w.heap.size w w' := by
  obtain ⟨ra, rc, hv⟩ := h1.shape
  subst hv
  obtain ⟨rb, rd, hv⟩ := h2.shape
  subst hv
  obtain ⟨ta, tc, hv⟩ := h3.shape
  subst hv
  obtain ⟨tb, td, hv⟩ := h4.shape
  subst hv
  have H1 := hid' h1
  have H2 := hid' h2
  have H3 := hid' h3
  have H4 := hid' h4
  have HL := hid' hl
  have HT := hid' ht
  have eb : (p.bd.toList == p.bd.toList) = true := beq_self_eq_true _
  have em : (p.mark != p.mark) = false := by simp
  have es : (p.st == p.st) = true := by simp
  clear h1 h2 h3 h4 hl ht
  unfold pcC
  go_enter Tryz.func21, Tryz.ntmps21
  go_wp2_with (refine wpl_box 49 _ rfl rfl #[.int .u8 p.mark, .string p.rq.m, .string p.rq.s, .string p.rq.a, .string p.rq.p, .slice ra p.rq.fs.length rc, .string ⟨#[]⟩, .slice none 0 0, .bool p.wait, .bool p.last, .bool p.old, .bool p.has, .string p.bd, .slice ta p.fs.length tc, .int .i64 p.st] (by kernel_rfl) ?_)
  intro xa w1 hga haa hba
  have HBA := hid' hba
  have HAA := hid' haa
  clear hga haa hba
  go_wp2_with (refine wpl_box 49 _ rfl rfl #[.int .u8 p.mark, .string p.rq.m, .string p.rq.s, .string p.rq.a, .string p.rq.p, .slice rb p.rq.fs.length rd, .string ⟨#[]⟩, .slice none 0 0, .bool p.wait, .bool p.last, .bool p.old, .bool p.has, .string p.bd, .slice tb p.fs.length td, .int .i64 p.st] (by kernel_rfl) ?_)
  intro xb w2 hgb hab hbb
  have HBB := hid' (below_two HBA.out hbb)
  have haa2 := HAA.out.keep hbb
  clear hgb
  have c0 : w2.cell? ⟨xa, 0, none⟩ = some (.int .u8 p.mark) := haa2.cell 0 _ rfl
  have c1 : w2.cell? ⟨xa, 1, none⟩ = some (.string p.rq.m) := haa2.cell 1 _ rfl
  have c2 : w2.cell? ⟨xa, 2, none⟩ = some (.string p.rq.s) := haa2.cell 2 _ rfl
  have c3 : w2.cell? ⟨xa, 3, none⟩ = some (.string p.rq.a) := haa2.cell 3 _ rfl
  have c4 : w2.cell? ⟨xa, 4, none⟩ = some (.string p.rq.p) := haa2.cell 4 _ rfl
  have c5 : w2.cell? ⟨xa, 5, none⟩ = some (.slice ra p.rq.fs.length rc) := haa2.cell 5 _ rfl
  have c6 : w2.cell? ⟨xa, 6, none⟩ = some (.string ⟨#[]⟩) := haa2.cell 6 _ rfl
  have c7 : w2.cell? ⟨xa, 7, none⟩ = some (.slice none 0 0) := haa2.cell 7 _ rfl
  have c8 : w2.cell? ⟨xa, 8, none⟩ = some (.bool p.wait) := haa2.cell 8 _ rfl
  have c9 : w2.cell? ⟨xa, 9, none⟩ = some (.bool p.last) := haa2.cell 9 _ rfl
  have c10 : w2.cell? ⟨xa, 10, none⟩ = some (.bool p.old) := haa2.cell 10 _ rfl
  have c11 : w2.cell? ⟨xa, 11, none⟩ = some (.bool p.has) := haa2.cell 11 _ rfl
  have c12 : w2.cell? ⟨xa, 12, none⟩ = some (.string p.bd) := haa2.cell 12 _ rfl
  have c13 : w2.cell? ⟨xa, 13, none⟩ = some (.slice ta p.fs.length tc) := haa2.cell 13 _ rfl
  have c14 : w2.cell? ⟨xa, 14, none⟩ = some (.int .i64 p.st) := haa2.cell 14 _ rfl
  have d0 : w2.cell? ⟨xb, 0, none⟩ = some (.int .u8 p.mark) := hab.cell 0 _ rfl
  have d1 : w2.cell? ⟨xb, 1, none⟩ = some (.string p.rq.m) := hab.cell 1 _ rfl
  have d2 : w2.cell? ⟨xb, 2, none⟩ = some (.string p.rq.s) := hab.cell 2 _ rfl
  have d3 : w2.cell? ⟨xb, 3, none⟩ = some (.string p.rq.a) := hab.cell 3 _ rfl
  have d4 : w2.cell? ⟨xb, 4, none⟩ = some (.string p.rq.p) := hab.cell 4 _ rfl
  have d5 : w2.cell? ⟨xb, 5, none⟩ = some (.slice rb p.rq.fs.length rd) := hab.cell 5 _ rfl
  have d6 : w2.cell? ⟨xb, 6, none⟩ = some (.string ⟨#[]⟩) := hab.cell 6 _ rfl
  have d7 : w2.cell? ⟨xb, 7, none⟩ = some (.slice none 0 0) := hab.cell 7 _ rfl
  have d8 : w2.cell? ⟨xb, 8, none⟩ = some (.bool p.wait) := hab.cell 8 _ rfl
  have d9 : w2.cell? ⟨xb, 9, none⟩ = some (.bool p.last) := hab.cell 9 _ rfl
  have d10 : w2.cell? ⟨xb, 10, none⟩ = some (.bool p.old) := hab.cell 10 _ rfl
  have d11 : w2.cell? ⟨xb, 11, none⟩ = some (.bool p.has) := hab.cell 11 _ rfl
  have d12 : w2.cell? ⟨xb, 12, none⟩ = some (.string p.bd) := hab.cell 12 _ rfl
  have d13 : w2.cell? ⟨xb, 13, none⟩ = some (.slice tb p.fs.length td) := hab.cell 13 _ rfl
  have d14 : w2.cell? ⟨xb, 14, none⟩ = some (.int .i64 p.st) := hab.cell 14 _ rfl
  have HAA2 := hid' haa2
  have HAB2 := hid' hab
  clear haa2 hab hbb
  have HSR := hid' (rsameReq14M p.rq.m p.rq.s p.rq.a p.rq.p ⟨#[]⟩ _ _ (.slice none 0 0) (.slice none 0 0) p.rq.fs [] w2 (H1.out.keep HBB.out) (H2.out.keep HBB.out) (FW.of_own (World.ownsRow_nil w2 w2.heap.size 52 2)) (FW.of_own (World.ownsRow_nil w2 w2.heap.size 52 2)) HL.out (Nat.zero_le _))
  go_wp2_with (go_at_call 30; refine HSR.out.mono ?_; rintro e w3 ⟨rfl, hb3⟩; refine Hid.out ?_)
  refine hid' ?_
  have HB3 := hid' (below_two HBB.out hb3)
  have haa3 := HAA2.out.keep hb3
  have hab3 := HAB2.out.keep hb3
  clear c0 d0 c1 d1 c2 d2 c3 d3 c4 d4 c5 d5 c6 d6 c7 d7 c8 d8 c9 d9 c10 d10 c11 d11 c12 d12 c13 d13 c14 d14 hb3
  have c0 : w3.cell? ⟨xa, 0, none⟩ = some (.int .u8 p.mark) := haa3.cell 0 _ rfl
  have c1 : w3.cell? ⟨xa, 1, none⟩ = some (.string p.rq.m) := haa3.cell 1 _ rfl
  have c2 : w3.cell? ⟨xa, 2, none⟩ = some (.string p.rq.s) := haa3.cell 2 _ rfl
  have c3 : w3.cell? ⟨xa, 3, none⟩ = some (.string p.rq.a) := haa3.cell 3 _ rfl
  have c4 : w3.cell? ⟨xa, 4, none⟩ = some (.string p.rq.p) := haa3.cell 4 _ rfl
  have c5 : w3.cell? ⟨xa, 5, none⟩ = some (.slice ra p.rq.fs.length rc) := haa3.cell 5 _ rfl
  have c6 : w3.cell? ⟨xa, 6, none⟩ = some (.string ⟨#[]⟩) := haa3.cell 6 _ rfl
  have c7 : w3.cell? ⟨xa, 7, none⟩ = some (.slice none 0 0) := haa3.cell 7 _ rfl
  have c8 : w3.cell? ⟨xa, 8, none⟩ = some (.bool p.wait) := haa3.cell 8 _ rfl
  have c9 : w3.cell? ⟨xa, 9, none⟩ = some (.bool p.last) := haa3.cell 9 _ rfl
  have c10 : w3.cell? ⟨xa, 10, none⟩ = some (.bool p.old) := haa3.cell 10 _ rfl
  have c11 : w3.cell? ⟨xa, 11, none⟩ = some (.bool p.has) := haa3.cell 11 _ rfl
  have c12 : w3.cell? ⟨xa, 12, none⟩ = some (.string p.bd) := haa3.cell 12 _ rfl
  have c13 : w3.cell? ⟨xa, 13, none⟩ = some (.slice ta p.fs.length tc) := haa3.cell 13 _ rfl
  have c14 : w3.cell? ⟨xa, 14, none⟩ = some (.int .i64 p.st) := haa3.cell 14 _ rfl
  have d0 : w3.cell? ⟨xb, 0, none⟩ = some (.int .u8 p.mark) := hab3.cell 0 _ rfl
  have d1 : w3.cell? ⟨xb, 1, none⟩ = some (.string p.rq.m) := hab3.cell 1 _ rfl
  have d2 : w3.cell? ⟨xb, 2, none⟩ = some (.string p.rq.s) := hab3.cell 2 _ rfl
  have d3 : w3.cell? ⟨xb, 3, none⟩ = some (.string p.rq.a) := hab3.cell 3 _ rfl
  have d4 : w3.cell? ⟨xb, 4, none⟩ = some (.string p.rq.p) := hab3.cell 4 _ rfl
  have d5 : w3.cell? ⟨xb, 5, none⟩ = some (.slice rb p.rq.fs.length rd) := hab3.cell 5 _ rfl
  have d6 : w3.cell? ⟨xb, 6, none⟩ = some (.string ⟨#[]⟩) := hab3.cell 6 _ rfl
  have d7 : w3.cell? ⟨xb, 7, none⟩ = some (.slice none 0 0) := hab3.cell 7 _ rfl
  have d8 : w3.cell? ⟨xb, 8, none⟩ = some (.bool p.wait) := hab3.cell 8 _ rfl
  have d9 : w3.cell? ⟨xb, 9, none⟩ = some (.bool p.last) := hab3.cell 9 _ rfl
  have d10 : w3.cell? ⟨xb, 10, none⟩ = some (.bool p.old) := hab3.cell 10 _ rfl
  have d11 : w3.cell? ⟨xb, 11, none⟩ = some (.bool p.has) := hab3.cell 11 _ rfl
  have d12 : w3.cell? ⟨xb, 12, none⟩ = some (.string p.bd) := hab3.cell 12 _ rfl
  have d13 : w3.cell? ⟨xb, 13, none⟩ = some (.slice tb p.fs.length td) := hab3.cell 13 _ rfl
  have d14 : w3.cell? ⟨xb, 14, none⟩ = some (.int .i64 p.st) := hab3.cell 14 _ rfl
  have HAA3 := hid' haa3
  have HAB3 := hid' hab3
  clear haa3 hab3
  have HSF := hid' (rsameM14 _ _ p.fs w3 (H3.out.keep HB3.out) (H4.out.keep HB3.out) HT.out)
  go_wp2_with fail
  refine HSF.out.mono ?_
  rintro e w4 ⟨rfl, nq, hw4⟩
  have HB4 : Hid (Below w.heap.size w w4) := hid' (by rw [hw4]; exact below_two HB3.out (below_dnM _ _))
  have hbn : Below w3.heap.size w3 w4 := by rw [hw4]; exact below_dnM _ _
  have a14 : w4.cell? ⟨xa, 14, none⟩ = some (.int .i64 p.st) := (HAA3.out.keep hbn).cell 14 _ rfl
  have b14 : w4.cell? ⟨xb, 14, none⟩ = some (.int .i64 p.st) := (HAB3.out.keep hbn).cell 14 _ rfl
  clear hw4 hbn
  go_wp2_with fail
  go_ret
  exact ⟨rfl, HB4.out⟩

end Go.Proofs.YtbpdhcfmdkmoiaaGreatDoor

namespace Go.Proofs.YtbpdhcfmdkmoiaaGreatDoor
open Go.RowKit

/-- Fifteen cells that are a piece; its own rows lie in none of the blocks X. -/
def PV21 (w : World) (B : Nat) (X : Nat → Prop) (xs : List Value) (k : Nat) (p : Hr.Pc) : Prop :=
  ∃ rv tv, (∀ i u, (pcC p rv tv).toList[i]? = some u → xs[k + i]? = some u) ∧ w.ownsRow B 52 2 rv p.rq.fs.length (fC p.rq.fs) ∧ w.ownsRow B 52 2 tv p.fs.length (fC p.fs) ∧ (∀ k, rv.ownBlock = some k → ¬ X k) ∧ (∀ k, tv.ownBlock = some k → ¬ X k)
theorem pcC_len (p : Hr.Pc) (rv tv : Value) : (pcC p rv tv).toList.length = 15 := rfl
/-- A row of pieces of one's own, apart from the blocks X. -/
structure PS21 (w : World) (B : Nat) (X : Nat → Prop) (v : Value) (ps : List Hr.Pc) : Prop where
  ex : ∃ xs, w.ownsRow B 49 15 v ps.length xs ∧ ∀ j p, ps[j]? = some p → PV21 w B X xs (j * 15) p
  nx : ∀ k, v.ownBlock = some k → ¬ X k

theorem PS21.nil (w : World) (B : Nat) (X : Nat → Prop) : PS21 w B X (.slice none 0 0) [] :=
  ⟨⟨[], ⟨rfl, .inl ⟨rfl, rfl⟩⟩, fun j p h => by simp at h⟩, fun k hk => by simp [Value.ownBlock] at hk⟩
theorem own_oth21 {S : Nat → Prop} {w w' : World} {B : Nat} {e : TypeId} {s : Nat} {v : Value} {n : Nat} {xs : List Value} (h : w.ownsRow B e s v n xs) (hf : LF S w w') (hs : ∀ k, v.ownBlock = some k → ¬ S k) : w'.ownsRow B e s v n xs :=
  own_same h (fun k hk => hf.block k (World.ownsRow.lt h k hk).2 (hs k hk))
/-- What another writes, and blocks that are others' from then on. -/
theorem PS21.other {S X X' : Nat → Prop} {w w' : World} {B : Nat} {v : Value} {ps : List Hr.Pc} (h : PS21 w B X v ps) (hf : LF S w w') (hs : ∀ k, k < w.heap.size → ¬ X k → ¬ S k) (hx : ∀ k, k < w.heap.size → ¬ X k → ¬ X' k) : PS21 w' B X' v ps := by
  obtain ⟨⟨xs, ho, hp⟩, hn⟩ := h
  have hl : ∀ k, v.ownBlock = some k → k < w.heap.size := fun k hk => (World.ownsRow.lt ho k hk).2
  refine ⟨⟨xs, own_oth21 ho hf (fun k hk => hs k (hl k hk) (hn k hk)), fun j p hj => ?_⟩, fun k hk => hx k (hl k hk) (hn k hk)⟩
  obtain ⟨rv, tv, h1, h2, h3, h4, h5⟩ := hp j p hj
  have l2 : ∀ k, rv.ownBlock = some k → k < w.heap.size := fun k hk => (World.ownsRow.lt h2 k hk).2
  have l3 : ∀ k, tv.ownBlock = some k → k < w.heap.size := fun k hk => (World.ownsRow.lt h3 k hk).2
  exact ⟨rv, tv, h1, own_oth21 h2 hf (fun k hk => hs k (l2 k hk) (h4 k hk)), own_oth21 h3 hf (fun k hk => hs k (l3 k hk) (h5 k hk)), fun k hk => hx k (l2 k hk) (h4 k hk), fun k hk => hx k (l3 k hk) (h5 k hk)⟩
theorem PS21.keep {X : Nat → Prop} {w w' : World} {B : Nat} {v : Value} {ps : List Hr.Pc} (h : PS21 w B X v ps) (hb : Below w.heap.size w w') : PS21 w' B X v ps :=
  h.other (LF.of_below (S := fun _ => False) hb) (fun _ _ _ => id) (fun _ _ => id)
/-- Behind a call of Read. -/
theorem PS21.read {w w' : World} {B b : Nat} {v lv fv lv' fv' : Value} {ps : List Hr.Pc} (h : PS21 w B (RS b lv fv) v ps) (hf : LF (RS b lv fv) w w') (hr : RW w.heap.size lv fv lv' fv') : PS21 w' B (RS b lv' fv') v ps :=
  h.other hf (fun _ _ => id) (fun _ hk hx => nrs_step21 hx hk hr)
/-- One more piece. -/
theorem PS21.more {X : Nat → Prop} {w w' : World} {B : Nat} {v v' rv tv : Value} {ps : List Hr.Pc} {xs : List Value} {p : Hr.Pc} (ho : w.ownsRow B 49 15 v ps.length xs) (hp : ∀ j q, ps[j]? = some q → PV21 w B X xs (j * 15) q) (hn : ∀ k, v.ownBlock = some k → ¬ X k)
    (k1 : w.ownsRow B 52 2 rv p.rq.fs.length (fC p.rq.fs)) (k2 : w.ownsRow B 52 2 tv p.fs.length (fC p.fs)) (k3 : ∀ k, rv.ownBlock = some k → ¬ X k) (k4 : ∀ k, tv.ownBlock = some k → ¬ X k)
    (ho' : w'.ownsRow B 49 15 v' (ps.length + 1) (xs ++ (pcC p rv tv).toList)) (hg : w.grownBy w' v.ownBlock) (hv : ∀ k, v'.ownBlock = some k → v.ownBlock = some k ∨ w.heap.size ≤ k) (hX : ∀ k, X k → k < w.heap.size) : PS21 w' B X v' (ps ++ [p]) := by
  have hgr : ∀ {u : Value} {n : Nat} {ys : List Value}, w.ownsRow B 52 2 u n ys → w'.ownsRow B 52 2 u n ys := fun hu => own_grown hu hg (own_own hu ho (by decide))
  refine ⟨⟨_, by rw [List.length_append]; exact ho', fun j q hj => ?_⟩, fun k hk hx => ?_⟩
  · have hxl : xs.length = ps.length * 15 := ho.1
    by_cases hlt : j < ps.length
    · rw [List.getElem?_append_left hlt] at hj
      obtain ⟨rv, tv, h1, h2, h3, h4, h5⟩ := hp j q hj
      refine ⟨rv, tv, fun i u hi => ?_, hgr h2, hgr h3, h4, h5⟩
      have hi15 : i < 15 := (List.getElem?_eq_some_iff.1 hi).1
      rw [List.getElem?_append_left (by omega)]
      exact h1 i u hi
    · have hjl := (List.getElem?_eq_some_iff.1 hj).1
      rw [List.length_append, List.length_singleton] at hjl
      obtain rfl : j = ps.length := by omega
      rw [List.getElem?_append_right (Nat.le_refl _), Nat.sub_self, List.getElem?_cons_zero, Option.some.injEq] at hj
      subst hj
      refine ⟨rv, tv, fun i u hi => ?_, hgr k1, hgr k2, k3, k4⟩
      rw [List.getElem?_append_right (by omega), hxl, Nat.add_sub_cancel_left]
      exact hi
  · rcases hv k hk with h1 | h1
    · exact hn k h1 hx
    · have := hX k hx; omega
/-- The cells of a piece of the row. -/
theorem PS21.cells {X : Nat → Prop} {w : World} {B : Nat} {v : Value} {ps : List Hr.Pc} (h : PS21 w B X v ps) (j : Nat) (p : Hr.Pc) (hj : ps[j]? = some p) :
    ∃ g cap rv tv, v = .slice (some ⟨g, 0, none⟩) ps.length cap ∧ ps.length ≤ cap ∧ B ≤ g ∧ g < w.heap.size ∧ ¬ X g ∧ (∀ i u, (pcC p rv tv).toList[i]? = some u → w.cell? ((⟨g, 0, none⟩ : Addr).add (j * 15 + i)) = some u) ∧ FW w rv p.rq.fs ∧ FW w tv p.fs := by
  obtain ⟨⟨xs, ho, hp⟩, hn⟩ := h
  obtain ⟨rv, tv, h1, h2, h3, h4, h5⟩ := hp j p hj
  have hlt := (List.getElem?_eq_some_iff.1 hj).1
  rcases ho.2 with ⟨_, h0⟩ | ⟨g, cap, cur, rfl, hb, hg, hc, _⟩
  · omega
  · exact ⟨g, cap, rv, tv, rfl, hc, hb, (World.ownsRow.lt ho g rfl).2, hn g rfl, fun i u hi => ho.cells (g := g) rfl _ _ (h1 i u hi), FW.of_own h2, FW.of_own h3⟩
/-- A body is put behind the last piece's body. -/
theorem PS21.body {X : Nat → Prop} {w : World} {B : Nat} {g n cap : Nat} {a : List Hr.Pc} {q : Hr.Pc} (h : PS21 w B X (.slice (some ⟨g, 0, none⟩) n cap) (a ++ [q])) (x : ByteArray) :
    PS21 (w.setCell ⟨g, a.length * 15 + 12, none⟩ (.string (q.bd ++ x))) B X (.slice (some ⟨g, 0, none⟩) n cap) (a ++ [Hr.grow q x]) ∧ LF (fun k => k = g) w (w.setCell ⟨g, a.length * 15 + 12, none⟩ (.string (q.bd ++ x))) := by
  have hu := upd_setCell w g (a.length * 15 + 12) (.string (q.bd ++ x))
  obtain ⟨⟨xs, ho, hp⟩, hn⟩ := h
  have hlen : (a ++ [q]).length = a.length + 1 := by simp
  have hxl : xs.length = (a.length + 1) * 15 := by rw [ho.1, hlen]
  have hn' : n = a.length + 1 := by
    rcases ho.2 with ⟨hv, _⟩ | ⟨_, _, _, hv, _⟩
    · simp at hv
    · simp only [Value.slice.injEq] at hv; omega
  subst hn'
  rw [hlen] at ho
  have hset := ho.stored (a.length * 15 + 12) (.string (q.bd ++ x))
  refine ⟨⟨⟨xs.set (a.length * 15 + 12) (.string (q.bd ++ x)), by rw [List.length_append]; exact hset.1, fun j p hj => ?_⟩, hn⟩, LF.of_upd hu rfl⟩
  have hfr : ∀ {u : Value} {n : Nat} {ys : List Value}, w.ownsRow B 52 2 u n ys → (w.setCell ⟨g, a.length * 15 + 12, none⟩ (.string (q.bd ++ x))).ownsRow B 52 2 u n ys := fun hv => own_grown hv hset.2 (own_own hv ho (by decide))
  by_cases hlt : j < a.length
  · rw [List.getElem?_append_left hlt] at hj
    obtain ⟨rv, tv, h1, h2, h3, h4, h5⟩ := hp j p (by rw [List.getElem?_append_left hlt]; exact hj)
    refine ⟨rv, tv, fun i u hi => ?_, hfr h2, hfr h3, h4, h5⟩
    have hi15 : i < 15 := (List.getElem?_eq_some_iff.1 hi).1
    rw [List.getElem?_set_ne (by omega)]
    exact h1 i u hi
  · have hjl := (List.getElem?_eq_some_iff.1 hj).1
    rw [List.length_append, List.length_singleton] at hjl
    obtain rfl : j = a.length := by omega
    obtain ⟨rv, tv, h1, h2, h3, h4, h5⟩ := hp a.length q (by simp)
    rw [List.getElem?_append_right (Nat.le_refl _), Nat.sub_self, List.getElem?_cons_zero, Option.some.injEq] at hj
    subst hj
    refine ⟨rv, tv, fun i u hi => ?_, hfr h2, hfr h3, h4, h5⟩
    have hi15 : i < 15 := (List.getElem?_eq_some_iff.1 hi).1
    by_cases h12 : i = 12
    · subst h12
      rw [List.getElem?_set_self (by omega)]
      exact hi
    · rw [List.getElem?_set_ne (by omega)]
      refine h1 i u ?_
      rw [← hi]
      have : ∀ i, i < 15 → i ≠ 12 → (pcC q rv tv).toList[i]? = (pcC (Hr.grow q x) rv tv).toList[i]? := by
        intro i hi hne
        match i, hi, hne with
        | 0, _, _ | 1, _, _ | 2, _, _ | 3, _, _ | 4, _, _ | 5, _, _ | 6, _, _ | 7, _, _ | 8, _, _ | 9, _, _ | 10, _, _ | 11, _, _ | 13, _, _ | 14, _, _ => rfl
        | 12, _, h => exact absurd rfl h
      exact this i hi15 h12

end Go.Proofs.YtbpdhcfmdkmoiaaGreatDoor
