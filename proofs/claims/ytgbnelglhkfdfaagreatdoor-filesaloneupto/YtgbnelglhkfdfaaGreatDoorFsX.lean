/-
  The law's both: a disk of these files, and the document's: by its contract.
-/
import Derived.Test.YtgbnelglhkfdfaaGreatDoorFsU
import Derived.Test.YtgbnelglhkfdfaaGreatDoorFtN
import Derived.Test.YtgbnelglhkfdfaaGreatDoorFtO
import Derived.Deep.RegionHeld3
namespace Go.Proofs.YtgbnelglhkfdfaaGreatDoor
open Go.RowKit

theorem put_en19 {es es' : List Dk.En} {q q' t c : Int} {x y : ByteArray} (h : PutOf13 es q x y t c es' q') (hok : Dk.Ok es) (he : ∀ e ∈ es, EN19 e) (q0 : 0 ≤ q) (q1 : q ≤ 9223372036854775806) : (∀ e ∈ es', EN19 e) ∧ 0 ≤ q' ∧ q' ≤ q + 1 := by
  rcases h with ⟨_, _, rfl, rfl⟩ | ⟨_, _, rfl, rfl⟩ | ⟨_, _, rfl, rfl⟩ | ⟨_, _, rfl, rfl⟩ | ⟨_, ⟨_, h1, h2, _⟩, rfl, rfl⟩
  · exact ⟨he, q0, by omega⟩
  · exact ⟨he, q0, by omega⟩
  · exact ⟨he, q0, by omega⟩
  · exact ⟨he, q0, by omega⟩
  · refine ⟨fun e hm => ?_, by omega, by omega⟩
    rcases (Dk.mem_put hok _ e).1 hm with rfl | ⟨hm, _⟩
    · exact ⟨h1, h2.1, h2.2, by simp only; omega, by simp only; omega⟩
    · exact he e hm
theorem rem_en19 {es es' : List Dk.En} {q q' : Int} {t : Bool} {x : ByteArray} (h : RemOf13 es q x t es' q') (hok : Dk.Ok es) (he : ∀ e ∈ es, EN19 e) : ∀ e ∈ es', EN19 e := by
  rcases h with ⟨_, hh, rfl, _⟩ | ⟨_, _, rfl, _⟩
  · exact fun e hm => he e ((Dk.mem_rem hok hh e).1 hm).1
  · exact he
theorem cd_low19 {w : World} {B B' b : Nat} {K : Nat → Prop} {q : Int} {es : List Dk.En} (h : CD w B b K q es) (hB : B' ≤ B) : CD w B' b K q es := by
  obtain ⟨m, E, clock, h, hk⟩ := h
  exact ⟨m, E, clock, ⟨Nat.le_trans hB h.lo, Nat.le_trans hB h.lm, h.hd, h.mp, h.ok, h.le⟩, hk⟩
theorem CX.ty19 {T : TypeId} {w : World} {B b m : Nat} {q : Int} {es : List Dk.En} {E : Array MapEntry} {clock : Nat} (h : CX T w B b m q es E clock) : ∀ k T' cs, (k = b ∨ k = m) → w.heap[k]? = some (.cells cs T' (0, 0)) → T' = T := by
  rintro k T' cs (rfl | rfl) hk
  · have := h.hd
    unfold Ar at this
    rw [hk] at this
    injection this with this
    injection this
  · have := h.mp.hd
    rw [hk] at this
    cases this
theorem cd_apart19 {w : World} {B B' b bx : Nat} {K : Nat → Prop} {q q' : Int} {r : Value} {es es' : List Dk.En} (hc : CD w B b K q es) (hr : RD w B' bx r q' es') : ∀ k, K k → ¬ DS13 bx r k := by
  rintro k hk (rfl | e)
  · obtain ⟨m, E, clock, h, hK⟩ := hc
    exact absurd (h.ty19 k _ _ ((hK k).1 hk) hr.obj) (by decide)
  · obtain ⟨_, cs, h1⟩ := own_ty hr.row k e
    obtain ⟨m, E, clock, h, hK⟩ := hc
    exact absurd (h.ty19 k _ _ ((hK k).1 hk) h1) (by decide)
/-- Both disks. -/
structure PD19 (w : World) (B b bx : Nat) (K : Nat → Prop) (r : Value) (q : Int) (es : List Dk.En) : Prop where
  cd : CD w B b K q es
  rd : RD w B bx r q es
theorem PD19.keep {w w' : World} {B b bx : Nat} {K : Nat → Prop} {r : Value} {q : Int} {es : List Dk.En} (h : PD19 w B b bx K r q es) (hb : Below w.heap.size w w') : PD19 w' B b bx K r q es := ⟨h.cd.keep hb, h.rd.keep hb⟩
theorem PD19.rdOf {w w' : World} {B b bx : Nat} {K : Nat → Prop} {r : Value} {q : Int} {es : List Dk.En} (h : PD19 w B b bx K r q es) (hf : LF K w w') : RD w' B bx r q es := h.rd.other hf (fun k hk hK => cd_apart19 h.cd h.rd k hK hk)
theorem PD19.made {w wA wD : World} {B b bx : Nat} {K K' : Nat → Prop} {r r' : Value} {q q' : Int} {es es' : List Dk.En} (h : PD19 w B b bx K r q es) (hfa : LF K w wA) (hc : CD wA B b K' q' es') (hfd : LF (DS13 bx r) wA wD) (hr : RD wD B bx r' q' es') : PD19 wD B b bx K' r' q' es' :=
  ⟨hc.other hfd (fun k hk hds => cd_apart19 hc (h.rdOf hfa) k hk hds), hr⟩
theorem PD19.bl {w0 w wA wD : World} {B b bx : Nat} {K : Nat → Prop} {r : Value} {q : Int} {es : List Dk.En} (h : PD19 w B b bx K r q es) (hb : Below B w0 w) (hfa : LF K w wA) (hfd : LF (DS13 bx r) wA wD) : Below B w0 wD :=
  (h.cd.bl hb hfa).trans (hfd.below (h.rdOf hfa).lb (fun k hk => ((h.rdOf hfa).rs k hk).1))
theorem zeroDk19 : (Tryz.prog.info? 50).map (fun i => i.zero) = some (some (.agg #[.slice none 0 0, .int .i64 0])) := by kernel_rfl
theorem sizeDk19 : (Tryz.prog.info? 50).map (·.size) = some 2 := by kernel_rfl
theorem ldDk19 {w : World} {b : Nat} {x0 x1 : Value} (h : Ar w b 50 #[x0, x1]) : (loadVar 50 ⟨b, 0, none⟩).run Tryz.prog w = .ok (.agg #[x0, x1]) w :=
  run_loadVar_row (P := Tryz.prog) w b 50 50 _ (0, 0) _ h Tryz.underlying50 rfl sizeDk19
/-- What both leave. -/
def BP19 (w w' : World) (e : Ending) : Prop :=
  ∃ (d : Nat) (K : Nat → Prop) (q : Int) (es : List Dk.En) (ro : Option Addr) (rn rc : Nat), e = .returned (.tuple #[.pointer (some ⟨d, 0, none⟩), .agg #[.slice ro rn rc, .int .i64 q]]) ∧ CD w' w.heap.size d K q es ∧ (∀ e ∈ es, EN19 e) ∧ 0 ≤ q ∧ q ≤ 1048576
theorem bp19 {w w' : World} {d : Nat} {K : Nat → Prop} {q : Int} {es : List Dk.En} {ro : Option Addr} {rn rc : Nat} (h : CD w' w.heap.size d K q es) (he : ∀ e ∈ es, EN19 e) (q0 : 0 ≤ q) (q1 : q ≤ 1048576) : BP19 w w' (.returned (.tuple #[.pointer (some ⟨d, 0, none⟩), .agg #[.slice ro rn rc, .int .i64 q]])) := ⟨d, K, q, es, ro, rn, rc, rfl, h, he, q0, q1⟩
/-- One entry's cells that both read. -/
def E319 (W : World) (p : Addr) (e : Dk.En) : Prop := W.cell? p = some (.string e.path) ∧ W.cell? ⟨p.block, p.off + 1, none⟩ = some (.string e.body) ∧ W.cell? ⟨p.block, p.off + 2, none⟩ = some (.int .i64 e.time)
theorem EW19.at2 {w w' : World} {ao : Option Addr} {n cap : Nat} {l : List Dk.En} (h : EW19 w (.slice ao n cap) l) (hb : Below w.heap.size w w') (i : Nat) (e : Dk.En) (he : l[i]? = some e) : ∃ a, ao = some a ∧ (a.add (i * 4)).block < w.heap.size ∧ E319 w' (a.add (i * 4)) e := by
  have h0 := h
  rcases h with ⟨_, rfl⟩ | ⟨a, cap', hv, hcs⟩
  · simp at he
  · injection hv with h1 _ _
    obtain ⟨hl, _⟩ := hcs i e he
    obtain ⟨a2, h2, c0, c1, c2, _⟩ := h0.at hb i e he
    obtain rfl : a = a2 := Option.some.inj (h1.symm.trans h2)
    exact ⟨a, h1, hl, c0, c1, c2⟩
theorem e3_keep19 {S : Nat → Prop} {W W' : World} {p : Addr} {e : Dk.En} (h : E319 W p e) (hf : LF S W W') (hs : ¬ S p.block) (hl : p.block < W.heap.size) : E319 W' p e :=
  ⟨(World.cell?_of_block (hf.block _ hl hs)).trans h.1, (World.cell?_of_block (a := ⟨p.block, p.off + 1, none⟩) (hf.block _ hl hs)).trans h.2.1, (World.cell?_of_block (a := ⟨p.block, p.off + 2, none⟩) (hf.block _ hl hs)).trans h.2.2⟩

set_option maxHeartbeats 8000000 in
set_option maxRecDepth 20000 in
theorem cboth19 (v : Value) (l : List Dk.En) (w : World) (h : EW19 w v l) (hl : l.length ≤ 1048576) (hb : ∀ e ∈ l, e.path.size ≤ 1048576 ∧ e.body.size ≤ 1048576) :
    Calls Tryz.prog 17 #[v] w fun e w' => BP19 w w' e ∧ Below w.heap.size w w' := by
  obtain ⟨ao, cap, rfl⟩ := h.shape
  obtain ⟨n, hn⟩ : ∃ n, l.length = n := ⟨_, rfl⟩
  rw [hn] at h hl ⊢
  have H := hid' h
  have HN := hid' hn
  have HS := hid' hb
  clear h hn hb
  go_enter Tryz.func17, Tryz.ntmps17
  go_wp2_with (refine wpl_alloc 50 rfl rfl #[.slice none 0 0, .int .i64 0] (by kernel_rfl) ?_)
  intro rb w0 hrb ha0 hl0
  have HR0 := hid' ha0
  have HB0 := hid' hl0
  have HRB := hid' hrb
  clear hrb ha0 hl0
  go_wp2_with fail
  refine (cnew13 w0).mono ?_
  rintro _ w1 ⟨⟨d, K1, rfl, hd⟩, hb⟩
  have HD1 := hid' hd
  have HB1 := hid' hb
  clear hd hb
  go_wp2_with (refine wpl_alloc 50 rfl rfl #[.slice none 0 0, .int .i64 0] (by kernel_rfl) ?_)
  intro bx w2 hbx hax hb2
  have HP : Hid (PD19 w2 w0.heap.size d bx K1 (.slice none 0 0) 0 []) := hid' ⟨HD1.out.keep hb2, ⟨Nat.le_trans HB1.out.size hbx, hax, World.ownsRow_nil _ _ _ _, List.Pairwise.nil, by simp⟩⟩
  have HB := hid' (below_two HB1.out hb2)
  clear hbx hax hb2 HD1 HB1
  go_wp2
  go_loopw [6] (fun s6 wr => ∃ (i : Nat) (K : Nat → Prop) (r : Value) (q : Int) (es : List Dk.En), s6 = .int .i64 (i : Int) ∧ i ≤ n ∧ 0 ≤ q ∧ q ≤ (i : Int) ∧ Hid (∀ e ∈ es, EN19 e) ∧ Hid (PD19 wr w0.heap.size d bx K r q es) ∧ Hid (Below w0.heap.size w0 wr)) (fun s6 _ => n - (intOf s6).toNat)
  case atStart => exact ⟨0, _, _, _, _, rfl, Nat.zero_le _, by decide, by decide, hid' (fun e he => by cases he), HP, HB⟩
  case round =>
    clear HP HB
    obtain ⟨i, K, r, q, es, rfl, hi, hq0, hq1, HE, HP, HB⟩ := hrel
    by_cases hlt : i < n
    · have hlt2 : (i : Int) < (n : Int) := by omega
      obtain ⟨e, he⟩ : ∃ e, l[i]? = some e := ⟨_, List.getElem?_eq_getElem (by rw [HN.out]; exact hlt)⟩
      have hct2 := HS.out e (List.mem_of_getElem? he)
      have HPS := hid' hct2.1
      have HBS := hid' hct2.2
      obtain ⟨a, hao, hal, h3⟩ := H.out.at2 (below_two HB0.out HB.out) i e he
      subst hao
      obtain ⟨p, y, t, sq⟩ := e
      simp only at HPS HBS
      obtain ⟨c, esN, qN, ho⟩ := putOf13_ex es q p y t
      obtain ⟨henN, hqN0, hqN1⟩ := put_en19 ho HP.out.cd.ok.1 HE.out hq0 (by omega)
      have HO := hid' ho
      have HEN := hid' henN
      have HAL : Hid ((a.add (i * 4)).block < w0.heap.size) := hid' (Nat.lt_of_lt_of_le hal HB0.out.size)
      have H3 := hid' h3
      have HKB : Hid (∀ k, K k → w0.heap.size ≤ k) := hid' (fun k hk => (HP.out.cd.lt k hk).1)
      have hS : wr.drew.cell? (a.add (i * 4)) = some (.string p) ∧ wr.drew.cell? ⟨(a.add (i * 4)).block, (a.add (i * 4)).off + 1, none⟩ = some (.string y) ∧ wr.drew.cell? ⟨(a.add (i * 4)).block, (a.add (i * 4)).off + 2, none⟩ = some (.int .i64 t) := h3
      have HPd := hid' (HP.out.keep (below_dn wr 1))
      have HBd : Hid (Below w0.heap.size w0 wr.drew) := hid' HB.out.drew
      clear he hct2 hal h3 ho henN
      go_upto_region 6 with fail
      go_region_held3 (fun W => W.cell? (a.add (i * 4)) = some (.string p) ∧ W.cell? ⟨(a.add (i * 4)).block, (a.add (i * 4)).off + 1, none⟩ = some (.string y) ∧ W.cell? ⟨(a.add (i * 4)).block, (a.add (i * 4)).off + 2, none⟩ = some (.int .i64 t)) (first | assumption) (first
        | (go_at_call 12; refine (cput13 HO.out _ d _ _ HPd.out.cd (by have := HPS.out; omega) (by have := HBS.out; omega) hq0 (by omega)).mono ?_; rintro e wA ⟨rfl, KN, hcd, hlf, hnew⟩; have h3a := e3_keep19 (e := ⟨p, y, t, 0⟩) hS hlf (fun hk => by have h1 := HKB.out _ hk; have h2 := HAL.out; omega) (Nat.lt_of_lt_of_le HAL.out HBd.out.size); have hSa : wA.cell? (a.add (i * 4)) = some (.string p) ∧ wA.cell? ⟨(a.add (i * 4)).block, (a.add (i * 4)).off + 1, none⟩ = some (.string y) ∧ wA.cell? ⟨(a.add (i * 4)).block, (a.add (i * 4)).off + 2, none⟩ = some (.int .i64 t) := h3a; have HCA := hid' hcd; have HFA := hid' hlf; have HSA := hid' hSa; clear hcd hlf hnew h3a))
      have HFA' : Hid (LF K wr wA) := hid' ((LF.of_below (S := K) (below_dn wr 1)).trans HFA.out (fun _ _ h => h))
      have hSb : wA.drew.cell? (a.add (i * 4)) = some (.string p) ∧ wA.drew.cell? ⟨(a.add (i * 4)).block, (a.add (i * 4)).off + 1, none⟩ = some (.string y) ∧ wA.drew.cell? ⟨(a.add (i * 4)).block, (a.add (i * 4)).off + 2, none⟩ = some (.int .i64 t) := HSA.out
      have HRd : Hid (RD wA.drew w0.heap.size bx r q es) := hid' ((HP.out.rdOf HFA'.out).keep (below_dn wA 1))
      have HCd : Hid (CD wA.drew w0.heap.size d KN qN esN) := hid' (HCA.out.keep (below_dn wA 1))
      have HLd : Hid (LF K wr wA.drew) := hid' (HFA'.out.trans (LF.of_below (S := K) (below_dn wA 1)) (fun _ _ h => h))
      clear hS hSa HPd HBd
      go_upto_region 7 with fail
      go_region_held3 (fun W => W.cell? (a.add (i * 4)) = some (.string p) ∧ W.cell? ⟨(a.add (i * 4)).block, (a.add (i * 4)).off + 1, none⟩ = some (.string y) ∧ W.cell? ⟨(a.add (i * 4)).block, (a.add (i * 4)).off + 2, none⟩ = some (.int .i64 t)) (first | assumption) (first
        | (go_at_call 34; refine (dput HO.out _ bx _ _ HRd.out (by have := HPS.out; omega) hq0 (by omega)).mono ?_; rintro e wD ⟨rfl, rN, hrd, hlf, hnew⟩; have h3d := e3_keep19 (e := ⟨p, y, t, 0⟩) hSb hlf (fun hk => by have h1 := (HRd.out.rs _ hk).1; have h2 := HAL.out; omega) (Nat.lt_of_lt_of_le HAL.out HRd.out.lb); have hSd : wD.cell? (a.add (i * 4)) = some (.string p) ∧ wD.cell? ⟨(a.add (i * 4)).block, (a.add (i * 4)).off + 1, none⟩ = some (.string y) ∧ wD.cell? ⟨(a.add (i * 4)).block, (a.add (i * 4)).off + 2, none⟩ = some (.int .i64 t) := h3d; have HPN := hid' (HP.out.made HLd.out HCd.out hlf hrd); have HBN := hid' (HP.out.bl HB.out HLd.out hlf); clear hrd hlf hnew h3d))
      clear hSb hSd HRd HCd HLd HP HB
      go_wp2
      go_roundw
      case rel => exact ⟨i + 1, KN, rN, qN, esN, by go_num, by omega, hqN0, by omega, HEN, HPN, HBN⟩
      case measure => simp [intOf]; omega
    · obtain rfl : i = n := by omega
      have hlt2 : ¬ (i : Int) < (i : Int) := by omega
      have HRX := hid' (HR0.out.keep HB.out)
      have HD := hid' HP.out.rd
      have HC := hid' (cd_low19 HP.out.cd HB0.out.size)
      have HQ : Hid (0 ≤ q ∧ q ≤ 1048576) := hid' ⟨hq0, by omega⟩
      have HBW := hid' (below_two HB0.out HB.out)
      obtain ⟨ro, rcp, hrv⟩ := down_shape HP.out.rd.row
      obtain ⟨rn, hrn⟩ : ∃ rn, es.length = rn := ⟨_, rfl⟩
      rw [hrn] at hrv
      subst hrv
      have x0 := HD.out.obj.cell 0 _ rfl
      have x1 := HD.out.obj.cell 1 _ rfl
      have HNB : Hid (bx ≠ rb) := hid' (by have h1 := HD.out.ge; have h2 := HR0.out.lt; omega)
      have HNK : Hid (∀ k, K k → k ≠ rb) := hid' (fun k hk => by have h1 := (HP.out.cd.lt k hk).1; have h2 := HR0.out.lt; omega)
      obtain ⟨KK, hKK⟩ : ∃ KK, K = KK := ⟨_, rfl⟩
      rw [hKK] at HC HNK
      clear hlt HP hKK hrn
      go_upto_region 8 with fail
      refine wp_region_held_drew (S := fun W => W.cell? ⟨bx, 0, none⟩ = some (.slice ro rn rcp) ∧ W.cell? ⟨bx, 1, none⟩ = some (.int .i64 q)) (by kernel_rfl) ⟨x0, x1⟩ (fun hHeld => ?_)
      refine take_d19 (i := 0) (d := some 55) (v := ?_) rfl rfl (by kernel_rfl) (by kernel_rfl) (by kernel_rfl) (fun _ _ _ h => h) (Or.inl ⟨by rfl, ?_⟩) (by assumption) ?_
      rotate_left
      · intro w hSw
        (try dsimp only at hSw)
        go_simp
        try with_reducible rfl
      try simp only [Act.put, List.setIfInBounds_toArray, List.set_cons_zero, List.set_cons_succ]
      refine take_d19 (i := 1) (d := some 56) (v := ?_) rfl rfl (by kernel_rfl) (by kernel_rfl) (by kernel_rfl) (fun _ _ _ h => h) (Or.inl ⟨by rfl, ?_⟩) (by assumption) ?_
      rotate_left
      · intro w hSw
        (try dsimp only at hSw)
        obtain ⟨s0, s1⟩ := hSw
        go_simp
        try with_reducible rfl
      try simp only [Act.put, List.setIfInBounds_toArray, List.set_cons_zero, List.set_cons_succ]
      refine take_d19 (i := 2) (d := some 2) (v := ?_) rfl rfl (by kernel_rfl) (by kernel_rfl) (by kernel_rfl) (fun _ _ _ h => h) (Or.inl ⟨by rfl, ?_⟩) (by assumption) ?_
      rotate_left
      · intro w hSw
        (try dsimp only at hSw)
        go_simp
        try with_reducible rfl
      try simp only [Act.put, List.setIfInBounds_toArray, List.set_cons_zero, List.set_cons_succ]
      refine wpAnyH_ready (rs := [3]) (by kernel_rfl) (by simp) ?_
      refine AllReadyH.cons rfl (fun K hK => ?_) AllReadyH.nil
      refine step_store19 rfl 50 _ _ rfl rb #[.slice ro rn rcp, .int .i64 q] rfl rfl 50 _ (show Ar wr.drew rb _ _ from HRX.out) sizeDk19 rfl (by simp [Value.oneCell']) ?_
      intro wf hawf huwf
      refine hK.out _ _ ⟨(World.cell?_of_block (a := ⟨bx, 0, none⟩) (huwf.block bx HNB.out)).trans hHeld.1, (World.cell?_of_block (a := ⟨bx, 1, none⟩) (huwf.block bx HNB.out)).trans hHeld.2⟩ (fun _ => ?_)
      clear hK
      try simp only [Act.put]
      refine wpAnyH_done (by kernel_rfl) ?_ _
      have HWF := hid' hawf
      have HCF : Hid (CD wf w.heap.size d KK q es) := hid' ((HC.out.keep (below_dn wr 1)).other (LF.of_upd (S := fun k => k = rb) huwf rfl) (fun k hk e => HNK.out k hk e))
      have HBF : Hid (Below w.heap.size w wf) := hid' (((HBW.out.drew)).trans (huwf.below HRB.out))
      clear hawf huwf hHeld x0 x1
      go_wp2_with fail
      have hld := ldDk19 HWF.out
      exact bodyPost_ret (v := .tuple #[.pointer (some ⟨d, 0, none⟩), .agg #[.slice ro rn rcp, .int .i64 q]]) (by simp [results, Tryz.results17, asAddr, hld]) rfl ⟨bp19 HCF.out HE.out HQ.out.1 HQ.out.2, HBF.out⟩

end Go.Proofs.YtgbnelglhkfdfaaGreatDoor
