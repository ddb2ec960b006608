/-
  The law DiskPlays, by its contract: it returns true for every row of changes and every text.
-/
import Derived.Test.YtnggablpkgbpaaaDoorDkI
import Derived.Deep.MidRow
namespace Go.Proofs.YtnggablpkgbpaaaDoor
open Go.RowKit

theorem below_drewN13 (w : World) (q : Nat) : Below w.heap.size w (w.drewN q) := ⟨rfl, rfl, rfl, Nat.le_refl _, fun _ _ => rfl⟩
theorem rd_box {w : World} {B b xb : Nat} {v : Value} {q : Int} {es : List Dk.En} {cs : Array Value} (h : RD w B b v q es) (hx : Ar w xb 31 cs) : ¬ DS13 b v xb := by
  rintro (e | e)
  · exact hx.apart' h.obj (by decide) e
  · exact own_apart h.row hx (by decide) xb e rfl
theorem fileV_shape (o : Option Dk.En) : ∃ y i j, fileV o = .agg #[.string y, .int .i64 i, .int .i64 j] := by
  cases o
  · exact ⟨_, _, _, rfl⟩
  · exact ⟨_, _, _, rfl⟩

theorem own_keep {w w' : World} {B : Nat} {e : TypeId} {s : Nat} {v : Value} {n : Nat} {xs : List Value} (h : w.ownsRow B e s v n xs) (hb : Below w.heap.size w w') : w'.ownsRow B e s v n xs := by
  refine ⟨h.1, ?_⟩
  rcases h.2 with h2 | ⟨g, cap, cur, h1, h2, h3, h4⟩
  · exact .inl h2
  · exact .inr ⟨g, cap, cur, h1, h2, (hb.block g (Array.getElem?_eq_some_iff.1 h3).1).trans h3, h4⟩
/-- A row's block, whatever it holds, that lies behind B. -/
def Wip (w : World) (ro : Option Addr) (m B : Nat) : Prop := m = 0 ∨ ∃ g cs, ro = some ⟨g, 0, none⟩ ∧ B ≤ g ∧ Ar w g 45 cs ∧ m * 4 ≤ cs.size
theorem wip_of {w : World} {ro : Option Addr} {B m cap : Nat} {xs : List Value} (h : w.ownsRow B 45 4 (.slice ro m cap) m xs) : Wip w ro m B := by
  rcases h.2 with ⟨hv, hn⟩ | ⟨g, cap, cur, hv, hb, hg, hn, hm, hs, ht⟩
  · exact .inl hn
  · injection hv with hv _ _
    exact .inr ⟨g, cur, hv, hb, hg, by rw [hs]; exact Nat.mul_le_mul_right 4 hn⟩
theorem upd_cells13 {b : Nat} {t : TypeId} (vs : List Value) : ∀ {w : World} {c : Array Value} (i : Nat), Ar w b t c → ∃ c', c'.size = c.size ∧ Ar (w.setCells b i vs) b t c' ∧ Upd b w (w.setCells b i vs) := by
  induction vs with
  | nil => intro w c i h; exact ⟨c, rfl, h, ⟨rfl, rfl, rfl, rfl, fun _ _ => rfl⟩⟩
  | cons v r ih =>
    intro w c i h
    have h1 := upd_setCell w b i v
    obtain ⟨c', hs, ha, h2⟩ := ih (i + 1) (h.set i v)
    exact ⟨c', by simpa using hs, ha, ⟨h2.os.trans h1.os, h2.tape.trans h1.tape, h2.output.trans h1.output, h2.size.trans h1.size, fun k hk => (h2.block k hk).trans (h1.block k hk)⟩⟩
theorem wpl_put4 {P : Program} {ops : Array Oper} {rest : List Oper} {o : Oper} {a : Act} {w : World} {Q : Exit → Act → World → Prop} (ty : TypeId) (x y : Operand) (ho : o.op = .store ty x y) (hgd : o.guard = none) (b i : Nat) (vs : List Value) (hx : a.eval x = .pointer (some ⟨b, i, none⟩)) (hy : a.eval y = .agg vs.toArray)
    (t : TypeId) (c : Array Value) (hg : Ar w b t c) (hi : (P.info? ty).map (·.size) = some vs.length) (hin : i + vs.length ≤ c.size) (h1 : ∀ v ∈ vs, v.oneCell' = true)
    (h : ∀ w' c', c'.size = c.size → Ar w' b t c' → Upd b w w' → wpList P ops Q rest (a.put o.dst undef) w') : wpList P ops Q (o :: rest) a w := by
  obtain ⟨c', hs, ha, hu⟩ := upd_cells13 vs i hg
  refine wpList_store_mid hgd ty x y ho b i vs.toArray hx hy ?_ (by simpa using hi) (all_oneCell_toArray h1) (by simpa using h _ c' hs ha hu)
  intro j hj
  have hj' : i + j < c.size := by have : j < vs.length := by simpa using hj
                                  omega
  exact ⟨by rw [Lib.cell_of_heap hg, Array.getElem?_eq_getElem hj']; rfl, Lib.frozen_of_heap hg _⟩
theorem lst_nil (es : List Dk.En) : Dk.lst (ByteArray.data ⟨#[]⟩).toList es = es := by
  unfold Dk.lst
  exact List.filter_eq_self.2 (fun a _ => by simp)

set_option maxHeartbeats 16000000 in
set_option maxRecDepth 20000 in
theorem diskPlays_any (sv : Value) (cs : List Cl13) (x : ByteArray) (w : World) (hsc : Scr13 w sv cs) (hlen : cs.length ≤ 140737488355328) (htx : ∀ c ∈ cs, c.path.size ≤ 140737488355328 ∧ c.body.size ≤ 140737488355328) (hx : x.size ≤ 140737488355328) :
    Calls Tryd.prog 4 #[sv, .string x] w fun e w' => e = .returned (.bool true) ∧ Below w.heap.size w w' := by
  obtain ⟨ao, cap, hsv⟩ := hsc.shape
  subst hsv
  obtain ⟨N, hN⟩ : ∃ N, cs.length = N := ⟨_, rfl⟩
  have HN := hid' hN
  rw [hN] at hsc hlen ⊢
  have HSC := hid' hsc
  have HTX := hid' htx
  clear hN hsc htx
  go_enter Tryd.func4, Tryd.ntmps4
  go_wp2_with fail
  refine (cnew13 w).mono ?_
  rintro _ w1 ⟨⟨b, K1, rfl, hd⟩, hb⟩
  have HD1 := hid' hd
  have HB1 := hid' hb
  clear hd hb
  go_upto_region 4 with fail
  go_wp2_with (refine wpl_alloc 29 rfl rfl #[.slice none 0 0, .int .i64 0] (by kernel_rfl) ?_)
  intro bx w2 hbx hax hb2
  have HP : Hid (PD w2 w.heap.size b bx K1 (.slice none 0 0) 0 []) := hid' ⟨HD1.out.keep hb2, ⟨Nat.le_trans HB1.out.size hbx, hax, World.ownsRow_nil _ _ _ _, List.Pairwise.nil, by simp⟩⟩
  have HB := hid' (below_two HB1.out hb2)
  clear hbx hax hb2 HD1 HB1
  go_wp2
  go_loopw [7, 8, 9, 10, 11, 12, 13] (fun s7 _ _ _ _ _ _ wr => ∃ (i : Nat) (K : Nat → Prop) (r : Value) (q : Int) (es : List Dk.En), s7 = .int .i64 (i : Int) ∧ i ≤ N ∧ 0 ≤ q ∧ q ≤ (i : Int) ∧ Hid (PD wr w.heap.size b bx K r q es) ∧ Hid (Below w.heap.size w wr)) (fun s7 _ _ _ _ _ _ _ => N - (intOf s7).toNat)
  case atStart => exact ⟨0, _, _, _, _, rfl, Nat.zero_le _, by decide, by decide, HP, HB⟩
  case round =>
    clear HP HB
    obtain ⟨i, K, r, q, es, rfl, hi, hq0, hq1, HP, HB⟩ := hrel
    by_cases hlt : i < N
    · have hlt2 : (i : Int) < (N : Int) := by omega
      obtain ⟨c, hc⟩ : ∃ c, cs[i]? = some c := ⟨_, List.getElem?_eq_getElem (by rw [HN.out]; exact hlt)⟩
      have hct2 := HTX.out c (List.mem_of_getElem? hc)
      have HPS := hid' hct2.1
      have HBSZ := hid' hct2.2
      obtain ⟨a, hao, x0, x1, x2, x3, x4⟩ := HSC.out.at HB.out i c hc
      subst hao
      clear hc hct2
      cases hct : c.take
      · rw [hct] at x0
        obtain ⟨tt, esN, qN, ho⟩ := putOf13_ex es q c.path (bodyOf c) c.time
        have hqN0 : 0 ≤ qN := by rcases ho with ⟨_, _, _, e⟩ | ⟨_, _, _, e⟩ | ⟨_, _, _, e⟩ | ⟨_, _, _, e⟩ | ⟨_, _, _, e⟩ <;> omega
        have hqN1 : qN ≤ (i : Int) + 1 := by rcases ho with ⟨_, _, _, e⟩ | ⟨_, _, _, e⟩ | ⟨_, _, _, e⟩ | ⟨_, _, _, e⟩ | ⟨_, _, _, e⟩ <;> omega
        have HO := hid' ho
        have htt : (tt == tt) = true := beq_self_eq_true _
        have HLB : Hid (∀ W, Calls Tryd.prog 15 #[.agg #[.bool false, .string c.path, .string c.body, .int .i64 c.time, .int .i64 c.long]] W fun e w' => e = .returned (.string (bodyOf c)) ∧ Below W.heap.size W w') := hid' (fun W => by have := lbody c HBSZ.out W; rwa [hct] at this)
        have HBO := hid' (bodyOf_size c HBSZ.out)
        obtain ⟨yb, hyb⟩ : ∃ yb, bodyOf c = yb := ⟨_, rfl⟩
        rw [hyb] at HO HLB HBO
        clear ho hyb
        obtain ⟨fy, fi, fj, hfv⟩ := fileV_shape (Dk.get c.path.data.toList esN)
        obtain ⟨dh, hdh⟩ : ∃ dh, Dk.has c.path.data.toList esN = dh := ⟨_, rfl⟩
        have HFV := hid' hfv
        have HHS := hid' hdh
        clear hfv hdh
        go_upto_region 9 with fail
        have HX1 : Hid (Ar (wr.alloc (.cells #[.bool false, .string c.path, .string c.body, .int .i64 c.time, .int .i64 c.long] 31)) wr.heap.size 31 #[.bool false, .string c.path, .string c.body, .int .i64 c.time, .int .i64 c.long]) := hid' (heap_alloc_last wr _)
        have hb1 : Below wr.heap.size wr (wr.alloc (.cells #[.bool false, .string c.path, .string c.body, .int .i64 c.time, .int .i64 c.long] 31)) := (Below.refl _ _).alloc (Nat.le_refl _) _
        have HP1 := hid' (HP.out.keep hb1)
        have HB1 := hid' (below_from HB.out hb1 HB.out.size)
        obtain ⟨xb, hxb⟩ : ∃ xb, wr.heap.size = xb := ⟨_, rfl⟩
        rw [hxb] at HX1 ⊢
        clear hb1 HP HB
        generalize wr.alloc (.cells #[.bool false, .string c.path, .string c.body, .int .i64 c.time, .int .i64 c.long] 31) = w1 at *
        clear hxb x0 x1 x2 x3 x4
        have x0 := HX1.out.cell 0 _ rfl
        have x1 := HX1.out.cell 1 _ rfl
        have x2 := HX1.out.cell 2 _ rfl
        have x3 := HX1.out.cell 3 _ rfl
        have x4 := HX1.out.cell 4 _ rfl
        go_upto_region 12 with fail
        have hS : w1.drew.cell? ⟨xb, 0, none⟩ = some (.bool false) ∧ w1.drew.cell? ⟨xb, 1, none⟩ = some (.string c.path) ∧ w1.drew.cell? ⟨xb, 2, none⟩ = some (.string c.body) ∧ w1.drew.cell? ⟨xb, 3, none⟩ = some (.int .i64 c.time) ∧ w1.drew.cell? ⟨xb, 4, none⟩ = some (.int .i64 c.long) := ⟨x0, x1, x2, x3, x4⟩
        have HPd := hid' (HP1.out.keep (below_drewN13 w1 1))
        have HXd : Hid (Ar w1.drew xb 31 #[.bool false, .string c.path, .string c.body, .int .i64 c.time, .int .i64 c.long]) := hid' HX1.out
        have HBd : Hid (Below w.heap.size w w1.drew) := hid' (bl_dn13 HB1.out 1)
        have tok1 : True := trivial
        clear x0 x1 x2 x3 x4 HP1 HB1
        go_region_held3 (fun W => W.cell? ⟨xb, 0, none⟩ = some (.bool false) ∧ W.cell? ⟨xb, 1, none⟩ = some (.string c.path) ∧ W.cell? ⟨xb, 2, none⟩ = some (.string c.body) ∧ W.cell? ⟨xb, 3, none⟩ = some (.int .i64 c.time) ∧ W.cell? ⟨xb, 4, none⟩ = some (.int .i64 c.long)) (first | assumption) (first
          | (go_at_call 15; have _t := tok1; refine (HLB.out _).mono ?_; rintro e wp ⟨rfl, hbp⟩; have hxp := HXd.out.keep hbp; have hSp := And.intro (hxp.cell 0 _ rfl) (And.intro (hxp.cell 1 _ rfl) (And.intro (hxp.cell 2 _ rfl) (And.intro (hxp.cell 3 _ rfl) (hxp.cell 4 _ rfl)))); have HXP := hid' hxp; have HPP := hid' (HPd.out.keep hbp); have HBP := hid' (below_from HBd.out hbp HBd.out.size); clear hxp hbp tok1 _t)
          | (go_at_call 14; refine (cput13 HO.out _ b _ _ HPP.out.cd HPS.out HBO.out hq0 (by omega)).mono ?_; rintro e wA ⟨rfl, KN, hcd, hlf, hnew⟩; have hxa := lf_box HXP.out hlf (cd_box HPP.out.cd HXP.out); have hSa := And.intro (hxa.cell 0 _ rfl) (And.intro (hxa.cell 1 _ rfl) (And.intro (hxa.cell 2 _ rfl) (And.intro (hxa.cell 3 _ rfl) (hxa.cell 4 _ rfl)))); have HXA := hid' hxa; have HCA := hid' hcd; have HFA := hid' hlf; clear hxa hcd hlf hnew)
          | (go_at_call 15; refine (HLB.out _).mono ?_; rintro e wq ⟨rfl, hbq⟩; have hxq := HXA.out.keep hbq; have hSq := And.intro (hxq.cell 0 _ rfl) (And.intro (hxq.cell 1 _ rfl) (And.intro (hxq.cell 2 _ rfl) (And.intro (hxq.cell 3 _ rfl) (hxq.cell 4 _ rfl)))); have HXQ := hid' hxq; have HCQ := hid' (HCA.out.keep hbq); have HFQ := hid' (HFA.out.trans (LF.of_below (S := K) hbq) (fun _ _ h => h)); clear hxq hbq)
          | (go_at_call 16; refine (dput HO.out _ bx _ _ (HPP.out.rdOf HFQ.out) (by have := HPS.out; omega) hq0 (by omega)).mono ?_; rintro e wD ⟨rfl, rN, hrd, hlf, hnew⟩; have hxd := lf_box HXQ.out hlf (rd_box (HPP.out.rdOf HFQ.out) HXQ.out); have hSd := And.intro (hxd.cell 0 _ rfl) (And.intro (hxd.cell 1 _ rfl) (And.intro (hxd.cell 2 _ rfl) (And.intro (hxd.cell 3 _ rfl) (hxd.cell 4 _ rfl)))); have HXD := hid' hxd; have HP2 := hid' (HPP.out.made HFQ.out HCQ.out hlf hrd); have HB2 := hid' (HPP.out.bl HBP.out HFQ.out hlf); clear hxd hrd hlf hnew))
        all_goals
          clear HPd HXd HBd HCA HFA HXA HO HXP HPP HBP HXQ HCQ HFQ HLB HBO
          have x1 := HXD.out.cell 1 _ rfl
          go_wp2_with fail
          refine (csnap13 _ b KN qN esN wD HP2.out.cd).mono ?_
          rintro _ w5 ⟨⟨sn, Ks, rfl, hs⟩, hb⟩
          have HS5 := hid' hs
          have HP5 := hid' (HP2.out.keep hb)
          have HB5 := hid' (below_from HB2.out hb HB2.out.size)
          have HX5 := hid' (HXD.out.keep hb)
          have x1 := HX5.out.cell 1 _ rfl
          clear hs hb HP2 HB2 HXD
          go_wp2_with fail
          refine (sget13 _ sn Ks qN esN c.path w5 HS5.out HPS.out).mono ?_
          rw [HFV.out, HHS.out]
          rintro _ w6 ⟨rfl, hb⟩
          have HS6 := hid' (HS5.out.keep hb)
          have HP6 := hid' (HP5.out.keep hb)
          have HB6 := hid' (below_from HB5.out hb HB5.out.size)
          have HX6 := hid' (HX5.out.keep hb)
          clear hb HS5 HP5 HB5 HX5
          go_upto_region 16 with fail
          have HF7 : Hid (Ar (w6.alloc (.cells #[.string fy, .int .i64 fi, .int .i64 fj] 38)) w6.heap.size 38 #[.string fy, .int .i64 fi, .int .i64 fj]) := hid' (heap_alloc_last w6 _)
          have hb7 : Below w6.heap.size w6 (w6.alloc (.cells #[.string fy, .int .i64 fi, .int .i64 fj] 38)) := (Below.refl _ _).alloc (Nat.le_refl _) _
          have HS7 := hid' (HS6.out.keep hb7)
          have HP7 := hid' (HP6.out.keep hb7)
          have HB7 := hid' (below_from HB6.out hb7 HB6.out.size)
          have HX7 := hid' (HX6.out.keep hb7)
          obtain ⟨fb, hfb⟩ : ∃ fb, w6.heap.size = fb := ⟨_, rfl⟩
          clear hb7 HS6 HP6 HB6 HX6
          rw [hfb] at HF7 ⊢
          generalize w6.alloc (.cells #[.string fy, .int .i64 fi, .int .i64 fj] 38) = w7 at *
          clear hfb
          have x1 := HX7.out.cell 1 _ rfl
          go_wp2_with fail
          refine (dget _ bx rN qN esN c.path w7 HP7.out.rd).mono ?_
          rw [HFV.out, HHS.out]
          rintro _ w8 ⟨rfl, hb⟩
          have HS8 := hid' (HS7.out.keep hb)
          have HP8 := hid' (HP7.out.keep hb)
          have HB8 := hid' (below_from HB7.out hb HB7.out.size)
          have HF8 := hid' (HF7.out.keep hb)
          clear hb HS7 HP7 HB7 HX7 HF7
          go_upto_region 17 with fail
          have HG9 : Hid (Ar (w8.alloc (.cells #[.string fy, .int .i64 fi, .int .i64 fj] 38)) w8.heap.size 38 #[.string fy, .int .i64 fi, .int .i64 fj]) := hid' (heap_alloc_last w8 _)
          have hb9 : Below w8.heap.size w8 (w8.alloc (.cells #[.string fy, .int .i64 fi, .int .i64 fj] 38)) := (Below.refl _ _).alloc (Nat.le_refl _) _
          have HS9 := hid' (HS8.out.keep hb9)
          have HP9 := hid' (HP8.out.keep hb9)
          have HB9 := hid' (below_from HB8.out hb9 HB8.out.size)
          have HF9 := hid' (HF8.out.keep hb9)
          obtain ⟨gb, hgb⟩ : ∃ gb, w8.heap.size = gb := ⟨_, rfl⟩
          clear hb9 HS8 HP8 HB8 HF8
          rw [hgb] at HG9 ⊢
          generalize w8.alloc (.cells #[.string fy, .int .i64 fi, .int .i64 fj] 38) = w9 at *
          clear hgb
          have f0 := HF9.out.cell 0 _ rfl
          have f1 := HF9.out.cell 1 _ rfl
          have f2 := HF9.out.cell 2 _ rfl
          have g0 := HG9.out.cell 0 _ rfl
          have g1 := HG9.out.cell 1 _ rfl
          have g2 := HG9.out.cell 2 _ rfl
          have r1 := HP9.out.rd.obj.cell 1 _ rfl
          have hnf : ∀ W, (binOp .neq 38 (.agg #[.string fy, .int .i64 fi, .int .i64 fj]) (.agg #[.string fy, .int .i64 fi, .int .i64 fj])).run Tryd.prog W = .ok (.bool false) W := fun W => by rw [neq_file]; simp
          have hgd := noGuardFi
          have hdd : (dh == dh) = true := beq_self_eq_true _
          have hqq : (qN == qN) = true := beq_self_eq_true _
          go_quiet (first
            | (go_at_call 20; exact Calls.quiet_of_same (cseq13 _ _ _ _ _ _ (HP9.out.keep (below_drewN13 _ _)).cd))
            | (go_at_call 21; exact Calls.quiet_of_same (sseq13 _ _ _ _ _ _ (HS9.out.keep (below_drewN13 _ _)))))
          clear f0 f1 f2 g0 g1 g2 r1 hnf
          go_wp2
          go_roundw
          case rel => exact ⟨i + 1, KN, rN, qN, esN, by go_num, by omega, hqN0, by omega, hid' (HP9.out.keep (below_drewN13 _ _)), hid' (bl_dn13 HB9.out _)⟩
          case measure => simp [intOf]; omega
      · rw [hct] at x0
        obtain ⟨tt, esN, qN, ho⟩ := remOf13_ex es q c.path
        have hqN0 : 0 ≤ qN := by rcases ho with ⟨_, _, _, e⟩ | ⟨_, _, _, e⟩ <;> omega
        have hqN1 : qN ≤ (i : Int) + 1 := by rcases ho with ⟨_, _, _, e⟩ | ⟨_, _, _, e⟩ <;> omega
        have HO := hid' ho
        have htt : (tt == tt) = true := beq_self_eq_true _
        clear ho
        obtain ⟨fy, fi, fj, hfv⟩ := fileV_shape (Dk.get c.path.data.toList esN)
        obtain ⟨dh, hdh⟩ : ∃ dh, Dk.has c.path.data.toList esN = dh := ⟨_, rfl⟩
        have HFV := hid' hfv
        have HHS := hid' hdh
        clear hfv hdh
        go_upto_region 9 with fail
        have HX1 : Hid (Ar (wr.alloc (.cells #[.bool true, .string c.path, .string c.body, .int .i64 c.time, .int .i64 c.long] 31)) wr.heap.size 31 #[.bool true, .string c.path, .string c.body, .int .i64 c.time, .int .i64 c.long]) := hid' (heap_alloc_last wr _)
        have hb1 : Below wr.heap.size wr (wr.alloc (.cells #[.bool true, .string c.path, .string c.body, .int .i64 c.time, .int .i64 c.long] 31)) := (Below.refl _ _).alloc (Nat.le_refl _) _
        have HP1 := hid' (HP.out.keep hb1)
        have HB1 := hid' (below_from HB.out hb1 HB.out.size)
        obtain ⟨xb, hxb⟩ : ∃ xb, wr.heap.size = xb := ⟨_, rfl⟩
        rw [hxb] at HX1 ⊢
        clear hb1 HP HB
        generalize wr.alloc (.cells #[.bool true, .string c.path, .string c.body, .int .i64 c.time, .int .i64 c.long] 31) = w1 at *
        clear hxb x0 x1 x2 x3 x4
        have x0 := HX1.out.cell 0 _ rfl
        have x1 := HX1.out.cell 1 _ rfl
        have x2 := HX1.out.cell 2 _ rfl
        have x3 := HX1.out.cell 3 _ rfl
        have x4 := HX1.out.cell 4 _ rfl
        go_upto_region 10 with fail
        have hS : w1.drew.cell? ⟨xb, 0, none⟩ = some (.bool true) ∧ w1.drew.cell? ⟨xb, 1, none⟩ = some (.string c.path) ∧ w1.drew.cell? ⟨xb, 2, none⟩ = some (.string c.body) ∧ w1.drew.cell? ⟨xb, 3, none⟩ = some (.int .i64 c.time) ∧ w1.drew.cell? ⟨xb, 4, none⟩ = some (.int .i64 c.long) := ⟨x0, x1, x2, x3, x4⟩
        have HPd := hid' (HP1.out.keep (below_drewN13 w1 1))
        have HXd : Hid (Ar w1.drew xb 31 #[.bool true, .string c.path, .string c.body, .int .i64 c.time, .int .i64 c.long]) := hid' HX1.out
        have HBd : Hid (Below w.heap.size w w1.drew) := hid' (bl_dn13 HB1.out 1)
        clear x0 x1 x2 x3 x4 HP1 HB1
        go_region_held3 (fun W => W.cell? ⟨xb, 0, none⟩ = some (.bool true) ∧ W.cell? ⟨xb, 1, none⟩ = some (.string c.path) ∧ W.cell? ⟨xb, 2, none⟩ = some (.string c.body) ∧ W.cell? ⟨xb, 3, none⟩ = some (.int .i64 c.time) ∧ W.cell? ⟨xb, 4, none⟩ = some (.int .i64 c.long)) (first | assumption) (first
          | (go_at_call 12; refine (crem13 HO.out _ b _ _ HPd.out.cd HPS.out hq0 (by omega)).mono ?_; rintro e wA ⟨rfl, KN, hcd, hlf, hnew⟩; have hxa := lf_box HXd.out hlf (cd_box HPd.out.cd HXd.out); have hSa := And.intro (hxa.cell 0 _ rfl) (And.intro (hxa.cell 1 _ rfl) (And.intro (hxa.cell 2 _ rfl) (And.intro (hxa.cell 3 _ rfl) (hxa.cell 4 _ rfl)))); have HXA := hid' hxa; have HCA := hid' hcd; have HFA := hid' hlf; clear hxa hcd hlf hnew)
          | (go_at_call 13; refine (drem HO.out _ bx _ _ (HPd.out.rdOf HFA.out) hq0 (by omega)).mono ?_; rintro e wD ⟨rfl, rN, hrd, hlf, hnew⟩; have hxd := lf_box HXA.out hlf (rd_box (HPd.out.rdOf HFA.out) HXA.out); have hSd := And.intro (hxd.cell 0 _ rfl) (And.intro (hxd.cell 1 _ rfl) (And.intro (hxd.cell 2 _ rfl) (And.intro (hxd.cell 3 _ rfl) (hxd.cell 4 _ rfl)))); have HXD := hid' hxd; have HP2 := hid' (HPd.out.made HFA.out HCA.out hlf hrd); have HB2 := hid' (HPd.out.bl HBd.out HFA.out hlf); clear hxd hrd hlf hnew))
        all_goals
          clear HPd HXd HBd HCA HFA HXA HO
          have x1 := HXD.out.cell 1 _ rfl
          go_wp2_with fail
          refine (csnap13 _ b KN qN esN wD HP2.out.cd).mono ?_
          rintro _ w5 ⟨⟨sn, Ks, rfl, hs⟩, hb⟩
          have HS5 := hid' hs
          have HP5 := hid' (HP2.out.keep hb)
          have HB5 := hid' (below_from HB2.out hb HB2.out.size)
          have HX5 := hid' (HXD.out.keep hb)
          have x1 := HX5.out.cell 1 _ rfl
          clear hs hb HP2 HB2 HXD
          go_wp2_with fail
          refine (sget13 _ sn Ks qN esN c.path w5 HS5.out HPS.out).mono ?_
          rw [HFV.out, HHS.out]
          rintro _ w6 ⟨rfl, hb⟩
          have HS6 := hid' (HS5.out.keep hb)
          have HP6 := hid' (HP5.out.keep hb)
          have HB6 := hid' (below_from HB5.out hb HB5.out.size)
          have HX6 := hid' (HX5.out.keep hb)
          clear hb HS5 HP5 HB5 HX5
          go_upto_region 16 with fail
          have HF7 : Hid (Ar (w6.alloc (.cells #[.string fy, .int .i64 fi, .int .i64 fj] 38)) w6.heap.size 38 #[.string fy, .int .i64 fi, .int .i64 fj]) := hid' (heap_alloc_last w6 _)
          have hb7 : Below w6.heap.size w6 (w6.alloc (.cells #[.string fy, .int .i64 fi, .int .i64 fj] 38)) := (Below.refl _ _).alloc (Nat.le_refl _) _
          have HS7 := hid' (HS6.out.keep hb7)
          have HP7 := hid' (HP6.out.keep hb7)
          have HB7 := hid' (below_from HB6.out hb7 HB6.out.size)
          have HX7 := hid' (HX6.out.keep hb7)
          obtain ⟨fb, hfb⟩ : ∃ fb, w6.heap.size = fb := ⟨_, rfl⟩
          clear hb7 HS6 HP6 HB6 HX6
          rw [hfb] at HF7 ⊢
          generalize w6.alloc (.cells #[.string fy, .int .i64 fi, .int .i64 fj] 38) = w7 at *
          clear hfb
          have x1 := HX7.out.cell 1 _ rfl
          go_wp2_with fail
          refine (dget _ bx rN qN esN c.path w7 HP7.out.rd).mono ?_
          rw [HFV.out, HHS.out]
          rintro _ w8 ⟨rfl, hb⟩
          have HS8 := hid' (HS7.out.keep hb)
          have HP8 := hid' (HP7.out.keep hb)
          have HB8 := hid' (below_from HB7.out hb HB7.out.size)
          have HF8 := hid' (HF7.out.keep hb)
          clear hb HS7 HP7 HB7 HX7 HF7
          go_upto_region 17 with fail
          have HG9 : Hid (Ar (w8.alloc (.cells #[.string fy, .int .i64 fi, .int .i64 fj] 38)) w8.heap.size 38 #[.string fy, .int .i64 fi, .int .i64 fj]) := hid' (heap_alloc_last w8 _)
          have hb9 : Below w8.heap.size w8 (w8.alloc (.cells #[.string fy, .int .i64 fi, .int .i64 fj] 38)) := (Below.refl _ _).alloc (Nat.le_refl _) _
          have HS9 := hid' (HS8.out.keep hb9)
          have HP9 := hid' (HP8.out.keep hb9)
          have HB9 := hid' (below_from HB8.out hb9 HB8.out.size)
          have HF9 := hid' (HF8.out.keep hb9)
          obtain ⟨gb, hgb⟩ : ∃ gb, w8.heap.size = gb := ⟨_, rfl⟩
          clear hb9 HS8 HP8 HB8 HF8
          rw [hgb] at HG9 ⊢
          generalize w8.alloc (.cells #[.string fy, .int .i64 fi, .int .i64 fj] 38) = w9 at *
          clear hgb
          have f0 := HF9.out.cell 0 _ rfl
          have f1 := HF9.out.cell 1 _ rfl
          have f2 := HF9.out.cell 2 _ rfl
          have g0 := HG9.out.cell 0 _ rfl
          have g1 := HG9.out.cell 1 _ rfl
          have g2 := HG9.out.cell 2 _ rfl
          have r1 := HP9.out.rd.obj.cell 1 _ rfl
          have hnf : ∀ W, (binOp .neq 38 (.agg #[.string fy, .int .i64 fi, .int .i64 fj]) (.agg #[.string fy, .int .i64 fi, .int .i64 fj])).run Tryd.prog W = .ok (.bool false) W := fun W => by rw [neq_file]; simp
          have hgd := noGuardFi
          have hdd : (dh == dh) = true := beq_self_eq_true _
          have hqq : (qN == qN) = true := beq_self_eq_true _
          go_quiet (first
            | (go_at_call 20; exact Calls.quiet_of_same (cseq13 _ _ _ _ _ _ (HP9.out.keep (below_drewN13 _ _)).cd))
            | (go_at_call 21; exact Calls.quiet_of_same (sseq13 _ _ _ _ _ _ (HS9.out.keep (below_drewN13 _ _)))))
          clear f0 f1 f2 g0 g1 g2 r1 hnf
          go_wp2
          go_roundw
          case rel => exact ⟨i + 1, KN, rN, qN, esN, by go_num, by omega, hqN0, by omega, hid' (HP9.out.keep (below_drewN13 _ _)), hid' (bl_dn13 HB9.out _)⟩
          case measure => simp [intOf]; omega
    · obtain rfl : i = N := by omega
      have hlt2 : ¬ (i : Int) < (i : Int) := by omega
      clear hlt
      obtain ⟨rao, rcap, hr⟩ := down_shape HP.out.rd.row
      subst hr
      obtain ⟨en, hen⟩ : ∃ en, es.length = en := ⟨_, rfl⟩
      have HEN := hid' hen
      have HEL : Hid (en ≤ 1024) := hid' (by rw [← hen]; exact HP.out.rd.le)
      rw [hen] at HP
      clear hen
      go_wp2_with fail
      refine (csnap13 _ b K q es wr HP.out.cd).mono ?_
      rintro _ w1 ⟨⟨sn, Ks, rfl, hs⟩, hb⟩
      obtain ⟨Bs, hBs⟩ : ∃ Bs, wr.heap.size = Bs := ⟨_, rfl⟩
      have HS1 := hid' hs
      have HP1 := hid' (HP.out.keep hb)
      rw [hBs] at HS1
      have HB1 := hid' (below_from HB.out hb HB.out.size)
      clear hs hb HP HB
      go_wp2_with fail
      refine (slist13 _ sn Ks q es x w1 HS1.out hx).mono ?_
      rintro _ w2 ⟨⟨m, ro, rc, rfl, hm, hown⟩, hb⟩
      have HM := hid' hm
      have HML : Hid (m ≤ 1024) := hid' (by have := HEN.out; have := HEL.out; have := lst_le x.data.toList es; omega)
      have HA2 := hid' hown
      have HS2 := hid' (HS1.out.keep hb)
      have HP2 := hid' (HP1.out.keep hb)
      have HB2 := hid' (below_from HB1.out hb HB1.out.size)
      have HLS : Hid (∀ k, Ks k → k < w1.heap.size) := hid' (fun k hk => (HS1.out.lt k hk).2)
      have HLK : Hid (∀ k, K k → k < w1.heap.size) := hid' (fun k hk => (HP1.out.cd.lt k hk).2)
      have HLR : Hid (∀ k, DS13 bx (.slice rao en rcap) k → k < w1.heap.size) := hid' (fun k hk => (HP1.out.rd.rs k hk).2)
      have HW1 : Hid (w.heap.size ≤ w1.heap.size) := hid' HB1.out.size
      obtain ⟨z1, hz1⟩ : ∃ z1, w1.heap.size = z1 := ⟨_, rfl⟩
      rw [hz1] at HA2 HLS HLK HLR HW1
      clear hm hown hb hz1 HP1 HS1 HB1
      go_upto_region 21 with fail
      have hS : w2.drew.cell? ⟨bx, 0, none⟩ = some (.slice rao en rcap) := HP2.out.rd.obj.cell 0 _ rfl
      have HPd := hid' (HP2.out.keep (below_drewN13 w2 1))
      have HSd := hid' (HS2.out.keep (below_drewN13 w2 1))
      have HAd := hid' (own_keep HA2.out (below_drewN13 w2 1))
      have HBd : Hid (Below w.heap.size w w2.drew) := hid' (bl_dn13 HB2.out 1)
      have tok1 : True := trivial
      have HLE : Hid (Dk.lst (ByteArray.data ⟨#[]⟩).toList es = es) := hid' (lst_nil es)
      clear HP2 HS2 HA2 HB2
      go_region_held3 (fun W => W.cell? ⟨bx, 0, none⟩ = some (.slice rao en rcap)) (first | assumption) (first
        | (go_at_call 24; refine (dlist _ bx _ q es x _ HPd.out.rd).mono ?_; rintro e wA ⟨⟨m', rp, rq, rfl, hm', hown'⟩, hb'⟩; obtain rfl : m = m' := HM.out.symm.trans hm'; have HRA := hid' (RE.of_own hown'); have HPA := hid' (HPd.out.keep hb'); have HSA := hid' (HSd.out.keep hb'); have HAA := hid' (own_keep HAd.out hb'); have HBA := hid' (below_from HBd.out hb' HBd.out.size); have hSA : wA.cell? ⟨bx, 0, none⟩ = some (.slice rao en rcap) := HPA.out.rd.obj.cell 0 _ rfl; clear hm' hown' hb')
        | (go_at_call 23; have _t := tok1; refine (dsame _ _ _ _ m (Dk.lst x.data.toList es) HM.out _ (RE.of_own HAA.out) HRA.out (by have := HML.out; omega)).mono ?_; rintro e wC ⟨rfl, n3, hn3⟩; subst hn3; have hSC : (wA.drewN n3).cell? ⟨bx, 0, none⟩ = some (.slice rao en rcap) := hSA; clear tok1 _t)
        | (go_at_call 22; refine (slist13 _ sn Ks q es _ _ (HSA.out.keep (below_drewN13 _ _)) (by decide)).mono ?_; rw [HLE.out]; rintro e wE ⟨⟨m5, rs, rt, rfl, hm5, hown5⟩, hb5⟩; obtain rfl : en = m5 := HEN.out.symm.trans hm5; have HRE := hid' (RE.of_own hown5); have HPE := hid' ((HPA.out.keep (below_drewN13 _ _)).keep hb5); have HSE := hid' ((HSA.out.keep (below_drewN13 _ _)).keep hb5); have HAE := hid' (own_keep (own_keep HAA.out (below_drewN13 _ _)) hb5); have HBE := hid' (below_from (bl_dn13 HBA.out _) hb5 HBA.out.size); have hSE : wE.cell? ⟨bx, 0, none⟩ = some (.slice rao en rcap) := HPE.out.rd.obj.cell 0 _ rfl; clear hm5 hown5 hb5)
        | (go_at_call 23; refine (dsame _ _ _ _ _ es HEN.out _ HRE.out (by have := RE.of_own HPE.out.rd.row; rwa [HEN.out] at this) (by have := HEL.out; omega)).mono ?_; rintro e wG ⟨rfl, n6, hn6⟩; subst hn6; have hSG : (wE.drewN n6).cell? ⟨bx, 0, none⟩ = some (.slice rao en rcap) := hSE))
      clear hS hSA hSC hSE hSG HPd HSd HAd HBd HRA HPA HSA HAA HBA HRE
      have HP := hid' (HPE.out.keep (below_drewN13 wE n6))
      have HS := hid' (HSE.out.keep (below_drewN13 wE n6))
      have HWI : Hid (Wip (wE.drewN n6) ro m z1) := hid' (wip_of (own_keep HAE.out (below_drewN13 wE n6)))
      have HB : Hid (Below w.heap.size w (wE.drewN n6)) := hid' (bl_dn13 HBE.out n6)
      clear HPE HSE HAE HBE
      generalize wE.drewN n6 = wF at *
      go_wp2
      go_loopw [16] (fun s16 wr => ∃ (k : Nat), s16 = .int .i64 (k : Int) ∧ k ≤ m ∧ Hid (PD wr w.heap.size b bx K (.slice rao en rcap) q es) ∧ Hid (CS wr Bs sn Ks q es) ∧ Hid (Wip wr ro m z1) ∧ Hid (Below w.heap.size w wr)) (fun s16 _ => m - (intOf s16).toNat)
      case atStart => exact ⟨0, rfl, Nat.zero_le _, HP, HS, HWI, HB⟩
      case round =>
        clear HP HS HWI HB
        obtain ⟨k, rfl, hk, HP, HS, HWI, HB⟩ := hrel
        have hml := HML.out
        by_cases hlt : k < m
        · have hlt2 : (k : Int) < (m : Int) := by omega
          obtain ⟨g, ks, hro, hg0, hga, hgs⟩ := HWI.out.resolve_left (by omega)
          subst hro
          go_wp2_with (refine wpl_put4 45 _ _ rfl rfl g (k * 4) [.string ⟨#[]⟩, .string ⟨#[]⟩, .int .i64 0, .int .i64 0] ?_ ?_ 45 ks hga (by kernel_rfl) (by simp; omega) (by simp [Value.oneCell']) ?_)
          · first
              | rfl
              | (simp [Act.eval, Addr.add]; done)
              | (simp [Act.eval]; rfl)
          · first
              | rfl
              | (simp [Act.eval]; done)
          intro w3 ks3 hz3 ha3 hu3
          have hlf : LF (fun j => j = g) _ w3 := LF.of_upd hu3 rfl
          have HP3 : Hid (PD w3 w.heap.size b bx K (.slice rao en rcap) q es) := hid' ⟨HP.out.cd.other hlf (fun j hj e => by have := HLK.out j hj; omega), HP.out.rd.other hlf (fun j hj e => by have := HLR.out j hj; omega)⟩
          have HS3 := hid' (HS.out.other hlf (fun j hj e => by have := HLS.out j hj; omega))
          have HWI3 : Hid (Wip w3 (some ⟨g, 0, none⟩) m z1) := hid' (.inr ⟨g, ks3, rfl, hg0, ha3, by omega⟩)
          have HB3 : Hid (Below w.heap.size w w3) := hid' (HB.out.trans (hlf.below HB.out.size (fun j e => by have := HW1.out; omega)))
          clear hlf hu3 ha3 hga HP HS HWI HB
          go_wp2
          go_roundw
          case rel => exact ⟨k + 1, by go_num, by omega, HP3, HS3, HWI3, HB3⟩
          case measure => simp [intOf]; omega
        · have hlt2 : ¬ (k : Int) < (m : Int) := by omega
          clear hlt
          go_wp2_with fail
          refine (slist13 _ sn Ks q es x _ HS.out hx).mono ?_
          rintro _ w5 ⟨⟨m5, r5, c5, rfl, hm5, hown5⟩, hb5⟩
          obtain rfl : m = m5 := HM.out.symm.trans hm5
          have HR5 := hid' (RE.of_own hown5)
          have HP5 := hid' (HP.out.keep hb5)
          have HB5 := hid' (below_from HB.out hb5 HB.out.size)
          clear hm5 hown5 hb5 HP HB HS
          go_wp2_with fail
          refine (dlist _ bx _ q es x _ HP5.out.rd).mono ?_
          rintro e w6 ⟨⟨m6, r6, c6, rfl, hm6, hown6⟩, hb6⟩
          obtain rfl : m = m6 := HM.out.symm.trans hm6
          have HR6 := hid' (RE.of_own hown6)
          have HR56 := hid' (HR5.out.keep hb6)
          have HB6 := hid' (below_from HB5.out hb6 HB5.out.size)
          clear hm6 hown6 hb6 HP5 HB5 HR5
          go_wp2_with fail
          refine (dsame _ _ _ _ m (Dk.lst x.data.toList es) HM.out _ HR56.out HR6.out (by omega)).mono ?_
          rintro e w7 ⟨rfl, n7, hn7⟩
          subst hn7
          have HB7 := hid' (bl_dn13 HB6.out n7)
          clear HB6 HR56 HR6
          go_wp2_with fail
          refine (awake13 _).mono ?_
          rintro e w8 ⟨rfl, hb8⟩
          have HB8 := hid' (below_from HB7.out hb8 HB7.out.size)
          go_wp2
          go_ret
          exact ⟨rfl, HB8.out⟩

end Go.Proofs.YtnggablpkgbpaaaDoor
