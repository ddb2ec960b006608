/-
  The document's scheduler: Set, Ready, Pick: by their contracts.
-/
import Derived.Test.YtpgfnhfjkplmaaaSdR
namespace Go.Proofs.Ytpgfnhfjkplmaaa
open Go.RowKit

theorem own_set {w : World} {B : Nat} {e : TypeId} {s g n cap : Nat} {xs : List Value} (h : w.ownsRow B e s (.slice (some ⟨g, 0, none⟩) n cap) n xs) (j : Nat) (u : Value) : (w.setCell ⟨g, j, none⟩ u).ownsRow B e s (.slice (some ⟨g, 0, none⟩) n cap) n (xs.set j u) := by
  rcases h.2 with ⟨hv, _⟩ | ⟨g', cap', cur, hv, hb, hg, hn, hm, hs, ht⟩
  · cases hv
  · cases hv
    refine ⟨by simpa using h.1, .inr ⟨g, cap, _, rfl, hb, Ar.set (show Ar w g e cur from hg) _ _, hn, hm, by simpa using hs, ?_⟩⟩
    rw [← ht]
    simp [List.take_set]
theorem own_cell {w : World} {B : Nat} {e : TypeId} {s g n cap : Nat} {xs : List Value} (h : w.ownsRow B e s (.slice (some ⟨g, 0, none⟩) n cap) n xs) (j : Nat) (u : Value) (hj : xs[j]? = some u) : w.cell? ⟨g, j, none⟩ = some u := by
  have := h.cells (g := g) rfl j u hj
  rwa [Addr.add_mid, Nat.zero_add] at this
theorem own_free {w : World} {B : Nat} {e : TypeId} {s g n cap : Nat} {xs : List Value} (h : w.ownsRow B e s (.slice (some ⟨g, 0, none⟩) n cap) n xs) (j : Nat) : w.frozen? ⟨g, j, none⟩ = false := by
  rcases h.2 with ⟨hv, _⟩ | ⟨g', cap', cur, hv, hb, hg, _⟩
  · cases hv
  · cases hv
    exact Lib.frozen_of_heap hg j
theorem own_form {w : World} {B : Nat} {e : TypeId} {s n : Nat} {v : Value} {xs : List Value} (h : w.ownsRow B e s v n xs) (hn : 0 < n) : ∃ g cap, v = .slice (some ⟨g, 0, none⟩) n cap ∧ n ≤ cap ∧ cap ≤ maxLen := by
  rcases h.2 with ⟨_, h0⟩ | ⟨g, cap, cur, hv, _, _, h1, h2, _⟩
  · omega
  · exact ⟨g, cap, hv, h1, h2⟩

set_option maxHeartbeats 2000000 in
set_option maxRecDepth 20000 in
theorem rset_has (B b : Nat) (v : Value) (ts : List (Int × Bool)) (x : Int) (c : Bool) (w : World) (h : RM w B b v ts) (hm : (x, !c) ∈ ts) :
    Calls Try.prog 12 #[.pointer (some ⟨b, 0, none⟩), .int .i64 x, .bool c] w fun e w' => e = .returned (.bool true) ∧ RM w' B b v (Sd.tset x c ts) ∧ LF (RS b v) w w' := by
  obtain ⟨i, hi⟩ : ∃ i, Sd.pl x (Sd.ids ts) = i := ⟨_, rfl⟩
  have hat := Sd.at_pl ts x (!c) h.ok hm
  rw [hi] at hat
  have hil := (List.getElem?_eq_some_iff.1 hat).1
  have hmi : x ∈ Sd.ids ts := List.mem_map.2 ⟨_, hm, rfl⟩
  have HC := hid' (rat B b v ts x i true hi (decide_eq_true hmi) w h)
  have hsp := Sd.set_spec ts x (!c) h.ok hm
  rw [Bool.not_not] at hsp
  have HS := hid' hsp
  have H := hid' h
  obtain ⟨g, cap, rfl, hnc, hcm⟩ := own_form h.row (by omega)
  have HTS : Hid (tkC (Sd.tset x c ts) = (tkC ts).set (i * 2 + 1) (.bool c)) := hid' (by unfold Sd.tset; rw [hi]; exact tk_set ts i x (!c) c hat)
  obtain ⟨n, hn⟩ : ∃ n, ts.length = n := ⟨_, rfl⟩
  have HN := hid' hn
  have c0 : ∀ q, (w.drewN q).cell? ⟨b, 0, none⟩ = some (.slice (some ⟨g, 0, none⟩) n cap) := fun q => by rw [← hn]; exact h.obj.cell 0 _ rfl
  have f1 : ∀ q, (w.drewN q).frozen? ⟨g, i * 2 + 1, none⟩ = false := fun q => own_free h.row _
  have y1 : ∀ q, (w.drewN q).cell? ⟨g, i * 2 + 1, none⟩ = some (.bool (!c)) := fun q => own_cell h.row _ _ (tk_at ts i _ hat).2
  have hl := h.le
  rw [hn] at hil hl
  have hil2 : (i : Int) < (n : Int) := by omega
  have hcc : ((!c) == c) = false := by cases c <;> rfl
  have HNE : Hid (g ≠ b) := hid' (own_apart h.row h.obj (by decide) g rfl)
  rw [hn] at H ⊢
  clear h hi hat hmi hsp hm hn hcm
  go_enter Try.func12, Try.ntmps12
  go_wp2_with fail
  refine HC.out.mono ?_
  rintro e w1 ⟨rfl, q, hw1⟩
  have c0' := c0 q
  have f1' := f1 q
  have y1' := y1 q
  rw [← hw1] at c0' f1' y1'
  have HW := hid' hw1
  clear hw1 c0 f1 y1
  go_wp2
  go_ret
  refine ⟨rfl, ⟨H.out.ge, ?_, ?_, HS.out.1, by rw [HS.out.2.2.2]; exact H.out.le⟩, ?_⟩
  · rw [HW.out]; exact (H.out.drewN q).obj.other HNE.out _ _
  · rw [HS.out.2.2.2, HTS.out, HW.out]
    have := (H.out.drewN q).row
    rw [HN.out] at this ⊢
    exact own_set this _ _
  · rw [HW.out]
    have l1 : LF (RS b (.slice (some ⟨g, 0, none⟩) n cap)) w (w.drewN q) := ⟨rfl, rfl, rfl, Nat.le_refl _, fun _ _ _ => rfl⟩
    have l2 : LF (RS b (.slice (some ⟨g, 0, none⟩) n cap)) (w.drewN q) ((w.drewN q).setCell ⟨g, i * 2 + 1, none⟩ (.bool c)) := LF.of_upd (b := g) (upd_setCell _ g _ _) (.inr rfl)
    exact l1.trans l2 (fun _ _ h => h)

set_option maxHeartbeats 2000000 in
set_option maxRecDepth 20000 in
theorem rset_not (B b : Nat) (v : Value) (ts : List (Int × Bool)) (x : Int) (c : Bool) (w : World) (h : RM w B b v ts) (hm : (x, !c) ∉ ts) :
    Calls Try.prog 12 #[.pointer (some ⟨b, 0, none⟩), .int .i64 x, .bool c] w fun e w' => e = .returned (.bool false) ∧ ∃ q, w' = w.drewN q := by
  obtain ⟨i, hi⟩ : ∃ i, Sd.pl x (Sd.ids ts) = i := ⟨_, rfl⟩
  by_cases hm2 : (x, c) ∈ ts
  · have hat := Sd.at_pl ts x c h.ok hm2
    rw [hi] at hat
    have hil := (List.getElem?_eq_some_iff.1 hat).1
    have hmi : x ∈ Sd.ids ts := List.mem_map.2 ⟨_, hm2, rfl⟩
    have HC := hid' (rat B b v ts x i true hi (decide_eq_true hmi) w h)
    obtain ⟨g, cap, rfl, hnc, hcm⟩ := own_form h.row (by omega)
    obtain ⟨n, hn⟩ : ∃ n, ts.length = n := ⟨_, rfl⟩
    have c0 : ∀ q, (w.drewN q).cell? ⟨b, 0, none⟩ = some (.slice (some ⟨g, 0, none⟩) n cap) := fun q => by rw [← hn]; exact h.obj.cell 0 _ rfl
    have y1 : ∀ q, (w.drewN q).cell? ⟨g, i * 2 + 1, none⟩ = some (.bool c) := fun q => own_cell h.row _ _ (tk_at ts i _ hat).2
    have hl := h.le
    rw [hn] at hil hl
    have hil2 : (i : Int) < (n : Int) := by omega
    have hcc : (c == c) = true := by cases c <;> rfl
    clear h hi hat hmi hm hm2 hn hcm
    go_enter Try.func12, Try.ntmps12
    go_wp2_with fail
    refine HC.out.mono ?_
    rintro e w1 ⟨rfl, q, hw1⟩
    have c0' := c0 q
    have y1' := y1 q
    rw [← hw1] at c0' y1'
    have HW := hid' hw1
    clear hw1 c0 y1
    go_wp2
    go_ret
    exact ⟨rfl, q, HW.out⟩
  · have hmi : x ∉ Sd.ids ts := fun e => by
      obtain ⟨p, hp, rfl⟩ := List.mem_map.1 e
      obtain ⟨p1, p2⟩ := p
      by_cases e2 : p2 = c
      · subst e2; exact hm2 hp
      · have : p2 = !c := by cases p2 <;> cases c <;> simp_all
        subst this; exact hm hp
    have HC := hid' (rat B b v ts x i false hi (decide_eq_false hmi) w h)
    obtain ⟨ao, cap, hv⟩ := own_shape h.row
    subst hv
    clear h hi hmi hm hm2
    go_enter Try.func12, Try.ntmps12
    go_wp2_with fail
    refine HC.out.mono ?_
    rintro e w1 ⟨rfl, q, hw1⟩
    have HW := hid' hw1
    clear hw1
    go_wp2
    go_ret
    exact ⟨rfl, q, HW.out⟩

theorem rset {c : Bool} {ts ts' : List (Int × Bool)} {x : Int} {t : Bool} (ho : SetOf c ts x t ts') (B b : Nat) (v : Value) (w : World) (h : RM w B b v ts) :
    Calls Try.prog 12 #[.pointer (some ⟨b, 0, none⟩), .int .i64 x, .bool c] w fun e w' => e = .returned (.bool t) ∧ ∃ v', RM w' B b v' ts' ∧ LF (RS b v) w w' ∧ ∀ k, v'.ownBlock = some k → v.ownBlock = some k ∨ w.heap.size ≤ k := by
  rcases ho with ⟨rfl, h1, rfl⟩ | ⟨rfl, h1, rfl⟩
  · exact (rset_has B b v ts x c w h h1).mono fun e w' ⟨a1, a2, a3⟩ => ⟨a1, v, a2, a3, fun k hk => .inl hk⟩
  · exact (rset_not B b v ts' x c w h h1).mono fun e w' ⟨a1, q, a2⟩ => ⟨a1, v, by rw [a2]; exact h.drewN q, by rw [a2]; exact ⟨rfl, rfl, rfl, Nat.le_refl _, fun _ _ _ => rfl⟩, fun k hk => .inl hk⟩

theorem row_take (ts : List (Int × Bool)) (k : Nat) (p : Int × Bool) (hp : ts[k]? = some p) : Sd.row true (ts.take (k + 1)) = Sd.row true (ts.take k) ++ if p.2 then [p.1] else [] := by
  rw [List.take_add_one, hp, Sd.row_app]
  obtain ⟨x, d⟩ := p
  rw [show (some (x, d)).toList = [(x, d)] from rfl, Sd.row_cons]
  cases d <;> simp [Sd.row]
theorem row_take_le (ts : List (Int × Bool)) (k : Nat) : (Sd.row true (ts.take k)).length ≤ k := by
  have h1 := Sd.row_len (ts.take k)
  have : (ts.take k).length ≤ k := List.length_take_le _ _
  omega

set_option maxHeartbeats 2000000 in
set_option maxRecDepth 20000 in
theorem rready (B b : Nat) (v : Value) (ts : List (Int × Bool)) (w : World) (h : RM w B b v ts) :
    Calls Try.prog 18 #[.pointer (some ⟨b, 0, none⟩)] w fun e w' => (∃ m ro rc, e = .returned (.slice ro m rc) ∧ (Sd.row true ts).length = m ∧ w'.ownsRow w.heap.size 3 1 (.slice ro m rc) m (nmC (Sd.row true ts))) ∧ Below w.heap.size w w' := by
  obtain ⟨i0, hi0, hz0, hz1, hz2⟩ := sinfo_parts sinfoI
  have HI := hid' hi0
  have HZ0 := hid' hz0
  have HZ1 := hid' hz1
  have HZ2 := hid' hz2
  clear hi0 hz0 hz1 hz2
  have c0 := h.obj.cell 0 _ rfl
  obtain ⟨ao, cap, hv⟩ := own_shape h.row
  subst hv
  have HR := hid' (own2_rr h.row)
  have hl := h.le
  have hbl := h.obj.lt
  obtain ⟨n, hn⟩ : ∃ n, ts.length = n := ⟨_, rfl⟩
  have HN := hid' hn
  rw [hn] at HR c0 hl
  clear h hn
  go_enter Try.func18, Try.ntmps18
  go_wp2
  go_loopw [3, 4] (fun s3 s4 wr => ∃ (k m : Nat) (ro : Option Addr) (rc : Nat), s4 = .int .i64 (k : Int) ∧ s3 = .slice ro m rc ∧ k ≤ n ∧ m ≤ k ∧ Hid ((Sd.row true (ts.take k)).length = m) ∧ Hid (wr.ownsRow w.heap.size 3 1 (.slice ro m rc) m (nmC (Sd.row true (ts.take k)))) ∧ Hid (Below w.heap.size w wr)) (fun _ s4 _ => n - (intOf s4).toNat)
  case atStart => exact ⟨0, 0, none, 0, rfl, rfl, Nat.zero_le _, Nat.zero_le _, hid' rfl, hid' (World.ownsRow_nil _ _ _ _), hid' (Below.refl _ _)⟩
  case round =>
    obtain ⟨k, m, ro, rc, rfl, rfl, hk, hmk, HML, HO, HB⟩ := hrel
    have c0' := (HB.out.cell (p := ⟨b, 0, none⟩) hbl).trans c0
    by_cases hlt : k < n
    · have hlt2 : (k : Int) < (n : Int) := by omega
      obtain ⟨p, hp⟩ : ∃ p, ts[k]? = some p := ⟨_, List.getElem?_eq_getElem (by rw [HN.out]; exact hlt)⟩
      obtain ⟨a, hao, y0, y1⟩ := (HR.out.keep HB.out).two HN.out.symm k p hp
      subst hao
      have hrt := row_take ts k p hp
      obtain ⟨x, d⟩ := p
      simp only at y0 y1 hrt
      clear hp
      cases d
      · simp only [Bool.false_eq_true, if_false, List.append_nil] at hrt
        have HRT := hid' hrt
        clear hrt
        go_wp2
        go_roundw
        case rel => exact ⟨k + 1, m, ro, rc, by go_num, rfl, by omega, by omega, hid' (by rw [HRT.out]; exact HML.out), hid' (by rw [HRT.out]; exact HO.out), HB⟩
        case measure => simp [intOf]; omega
      · simp only [if_true] at hrt
        have HRT := hid' hrt
        have HA : Hid ((wr.alloc (.cells #[.int .i64 x] 3)).ownsRow w.heap.size 3 1 (.slice ro m rc) m (nmC (Sd.row true (ts.take k)))) := hid' (HO.out.alloc _)
        clear hrt
        go_wp2_with (at_builtin; refine wpList_append_own_at _ rfl _ _ 36 rfl w.heap.size 3 i0 (.int .i64 0) 1 8 Try.underlying36 HI.out HZ0.out HZ1.out HZ2.out rfl (by decide) _ m (nmC (Sd.row true (ts.take k))) rfl HA.out ⟨wr.heap.size, 0, none⟩ 1 1 [.int .i64 x] rfl rfl (cell_one_new _ _ _) (by simp [Value.oneCell']) (by unfold maxLen; omega) (by omega) (by simp; have := HB.out.size; omega) ?_; intro v3 w3 hown3 hgrow3 _ _; refine Hid.out ?_)
        refine hid' ?_
        have e : nmC (Sd.row true (ts.take k)) ++ [Value.int .i64 x] = nmC (Sd.row true (ts.take (k + 1))) := by rw [HRT.out, nmC_append]; rfl
        rw [e] at hown3
        obtain ⟨v3o, v3c, hv3⟩ := own_shape hown3
        subst hv3
        have HO3 := hid' hown3
        have HB3 : Hid (Below w.heap.size w w3) := hid' ((HB.out.alloc HB.out.size _).grown hgrow3 (by simp; have := HB.out.size; omega) (fun k hk => (HA.out.lt k hk).1))
        clear hown3 hgrow3 e y0 y1 c0'
        go_wp2
        go_roundw
        case rel => exact ⟨k + 1, m + 1, v3o, v3c, by go_num, rfl, by omega, by omega, hid' (by rw [HRT.out, List.length_append, HML.out]; rfl), HO3, HB3⟩
        case measure => simp [intOf]; omega
    · obtain rfl : k = n := by omega
      have hlt2 : ¬ (k : Int) < (k : Int) := by omega
      have HT : Hid (ts.take k = ts) := hid' (List.take_of_length_le (by rw [HN.out]; exact Nat.le_refl _))
      clear hlt
      go_wp2
      go_ret
      refine ⟨⟨m, ro, rc, rfl, ?_, ?_⟩, HB.out⟩
      · have := HML.out; rwa [HT.out] at this
      · have := HO.out; rwa [HT.out] at this

set_option maxHeartbeats 2000000 in
set_option maxRecDepth 20000 in
theorem rpick_none (B b : Nat) (v : Value) (ts : List (Int × Bool)) (n : Int) (w : World) (h : RM w B b v ts) (h0 : (Sd.row true ts).length = 0) :
    Calls Try.prog 15 #[.pointer (some ⟨b, 0, none⟩), .int .i64 n] w fun e w' => e = .returned (.tuple #[.int .i64 0, .int .i64 120]) ∧ Below w.heap.size w w' := by
  have HC := hid' (rready B b v ts w h)
  have H0 := hid' h0
  clear h h0
  go_enter Try.func15, Try.ntmps15
  go_wp2_with fail
  refine HC.out.mono ?_
  rintro e w1 ⟨⟨m, ro, rc, rfl, hm, _⟩, hb⟩
  have HB := hid' hb
  obtain rfl : m = 0 := by rw [← hm]; exact H0.out
  clear hm hb
  go_wp2
  go_ret2
  exact ⟨rfl, HB.out⟩

set_option maxHeartbeats 2000000 in
set_option maxRecDepth 20000 in
theorem rpick_some (B b : Nat) (v : Value) (ts : List (Int × Bool)) (n : Int) (k j : Nat) (y : Int) (w : World) (h : RM w B b v ts) (hk : (Sd.row true ts).length = k) (h0 : 0 < k) (hj : n % (k : Int) = (j : Int)) (hy : (Sd.row true ts)[j]? = some y) :
    Calls Try.prog 15 #[.pointer (some ⟨b, 0, none⟩), .int .i64 n] w fun e w' => e = .returned (.tuple #[.int .i64 y, .int .i64 0]) ∧ Below w.heap.size w w' := by
  have HC := hid' (rready B b v ts w h)
  have hl : k ≤ 4096 := by have h1 := Sd.row_len ts; have h2 := h.le; omega
  have hjk : j < k := by rw [← hk]; exact (List.getElem?_eq_some_iff.1 hy).1
  have HK := hid' hk
  have HY := hid' hy
  have hk1 : ((k : Int) == 0) = false := beq_false_of_ne (by omega)
  have hk2 : ¬ (k : Int) = 0 := by omega
  have hk3 : ¬ k = 0 := by omega
  have hjk2 : (j : Int) < (k : Int) := by omega
  have hcs := rem_at n k j h0 hj
  have hlo := rem_lo n k h0
  clear h hj hy hk
  rcases hcs with ⟨h1, h2⟩ | ⟨h1, h2⟩
  · rw [h2] at h1 hlo
    have h3 : wrap64 (n.tmod (k : Int)) = (j : Int) := by rw [h2]; unfold wrap64; omega
    go_enter Try.func15, Try.ntmps15
    go_wp2_with fail
    refine HC.out.mono ?_
    rintro e w1 ⟨⟨m, ro, rc, rfl, hm, hr⟩, hb⟩
    have HB := hid' hb
    obtain rfl : m = k := by rw [← hm]; exact HK.out
    obtain ⟨a, hro, y0⟩ := (RQ.of_own hr).at h0 j _ (nm_at HY.out)
    subst hro
    clear hm hb hr
    go_wp2
    go_ret2
    exact ⟨rfl, HB.out⟩
  · obtain ⟨p, hp⟩ : ∃ p, n.tmod (k : Int) = p := ⟨_, rfl⟩
    rw [hp] at h1 h2 hlo
    have h3 : wrap64 (n.tmod (k : Int)) = p := by rw [hp]; unfold wrap64; omega
    go_enter Try.func15, Try.ntmps15
    go_wp2_with fail
    refine HC.out.mono ?_
    rintro e w1 ⟨⟨m, ro, rc, rfl, hm, hr⟩, hb⟩
    have HB := hid' hb
    obtain rfl : m = k := by rw [← hm]; exact HK.out
    obtain ⟨a, hro, y0⟩ := (RQ.of_own hr).at h0 j _ (nm_at HY.out)
    subst hro
    clear hm hb hr
    go_wp2
    go_ret2
    exact ⟨rfl, HB.out⟩

end Go.Proofs.Ytpgfnhfjkplmaaa
