/-
  The law FilesAlone: an answer hangs on the file's own path, and what lies below it, alone (written by mkfsalone.py).
-/
import Derived.Test.YtgbnelglhkfdfaaGreatDoorFsX
import Derived.Test.YtgbnelglhkfdfaaGreatDoorFtQ
namespace Go.Proofs.YtgbnelglhkfdfaaGreatDoor
open Go.RowKit

/-- A response in block ab, made behind w0. -/
structure MB19 (w0 : World) (ab : Nat) (P : Fs.Rp) (vo : Option Addr) (n vc : Nat) (wx : World) : Prop where
  ge : w0.heap.size ≤ ab
  at' : Ar wx ab 24 #[.int .i64 P.s, .slice vo n vc, .string ⟨P.b.toArray⟩, .slice none 0 0]
  len : P.fs.length = n
  own : wx.ownsRow w0.heap.size 42 2 (.slice vo n vc) n (fC P.fs)
  bel : Below w0.heap.size w0 wx
/-- A response that lies between B and C, kept. -/
structure RK19 (w : World) (B C ab : Nat) (P : Fs.Rp) (vo : Option Addr) (n vc : Nat) : Prop where
  ge : B ≤ ab
  lt : ab < C
  at' : Ar w ab 24 #[.int .i64 P.s, .slice vo n vc, .string ⟨P.b.toArray⟩, .slice none 0 0]
  own : w.ownsRow B 42 2 (.slice vo n vc) n (fC P.fs)
  olt : ∀ j, (Value.slice vo n vc).ownBlock = some j → j < C
  len : P.fs.length = n
theorem RK19.other {S : Nat → Prop} {w w' : World} {B C ab : Nat} {P : Fs.Rp} {vo : Option Addr} {n vc : Nat} (h : RK19 w B C ab P vo n vc) (hf : LF S w w') (hs : ∀ k, B ≤ k → k < C → ¬ S k) : RK19 w' B C ab P vo n vc :=
  ⟨h.ge, h.lt, hf.ar h.at' (hs ab h.ge h.lt), own_same h.own (fun j hj => hf.block j (own_lt h.own j hj) (hs j (own_ge19 h.own j hj) (h.olt j hj))), h.olt, h.len⟩
theorem RK19.keep {w w' : World} {B C ab : Nat} {P : Fs.Rp} {vo : Option Addr} {n vc : Nat} (h : RK19 w B C ab P vo n vc) (hb : Below w.heap.size w w') : RK19 w' B C ab P vo n vc := h.other (LF.of_below (S := fun _ => False) hb) (fun _ _ _ => id)
theorem MB19.rk {w0 wx : World} {ab : Nat} {P : Fs.Rp} {vo : Option Addr} {n vc : Nat} (h : MB19 w0 ab P vo n vc wx) : RK19 wx w0.heap.size wx.heap.size ab P vo n vc := ⟨h.ge, h.at'.lt, h.at', h.own, fun j hj => own_lt h.own j hj, h.len⟩
theorem RK19.fw {w : World} {B C ab : Nat} {P : Fs.Rp} {vo : Option Addr} {n vc : Nat} (h : RK19 w B C ab P vo n vc) : FW w (.slice vo n vc) P.fs := fw_own19 h.own h.len
theorem part_len19 (kd : Fs.T8) (e : Dk.En) (g : Bool) (l : List Fd) : (Fs.part kd e g l).fs.length ≤ 5 := by
  unfold Fs.part
  split
  · unfold Fs.rgd
    split
    · exact Nat.le_of_ble_eq_true rfl
    · split
      · split
        · exact Nat.le_of_ble_eq_true rfl
        · exact Nat.le_of_ble_eq_true rfl
      · exact Nat.le_of_ble_eq_true rfl
  · exact Nat.le_of_ble_eq_true rfl
theorem ans_len19 (es : List Dk.En) (r m t s : Fs.T8) (l : List Fd) : (Fs.ans es r m t s l).fs.length ≤ 5 := by
  unfold Fs.ans Fs.ansOf
  split
  · split
    · split
      · exact Nat.le_of_ble_eq_true rfl
      · exact Nat.le_of_ble_eq_true rfl
    · split
      · exact Nat.le_of_ble_eq_true rfl
      · split
        · exact Nat.le_of_ble_eq_true rfl
        · exact part_len19 _ _ _ _
  · exact Nat.le_of_ble_eq_true rfl
/-- The call ahead of the box. -/
theorem MB19.one {w0 w1 wA wf : World} {P : Fs.Rp} {vo : Option Addr} {n vc : Nat} {z : Array Value} (hS : Below w0.heap.size w0 w1) (hb : Below w1.heap.size w1 wA) (hl : P.fs.length = n) (ho : wA.ownsRow w1.heap.size 42 2 (.slice vo n vc) n (fC P.fs)) (ha : Ar wf wA.heap.size 24 #[.int .i64 P.s, .slice vo n vc, .string ⟨P.b.toArray⟩, .slice none 0 0]) (hu : Upd wA.heap.size (wA.alloc (.cells z 24)) wf) : MB19 w0 wA.heap.size P vo n vc wf := by
  have h1 := below_two hS hb
  refine ⟨h1.size, ha, hl, own_base19 (own_same ho (fun j hj => ?_)) hS.size, (below_two h1 (bl_alloc19 wA _)).trans (hu.below h1.size)⟩
  have hlt := own_lt ho j hj
  exact (hu.block j (by omega)).trans ((bl_alloc19 wA _).block j hlt)
/-- The box ahead of the call. -/
theorem MB19.two {w0 w1 wA wf : World} {ab : Nat} {P : Fs.Rp} {vo : Option Addr} {n vc : Nat} (hS : Below w0.heap.size w0 w1) (hge : w0.heap.size ≤ ab) (hab : ab < w1.heap.size) (hb : Below w1.heap.size w1 wA) (hl : P.fs.length = n) (ho : wA.ownsRow w1.heap.size 42 2 (.slice vo n vc) n (fC P.fs)) (ha : Ar wf ab 24 #[.int .i64 P.s, .slice vo n vc, .string ⟨P.b.toArray⟩, .slice none 0 0]) (hu : Upd ab wA wf) : MB19 w0 ab P vo n vc wf :=
  ⟨hge, ha, hl, own_upd19 ho hu hab hS.size, (below_two hS hb).trans (hu.below hge)⟩
theorem ew_keep19 {w w' : World} {v : Value} {l : List Dk.En} (h : EW19 w v l) (hb : Below w.heap.size w w') : EW19 w' v l := by
  have h0 := h
  rcases h with h | ⟨a, cap, hv, hcs⟩
  · exact .inl h
  · refine .inr ⟨a, cap, hv, fun i e he => ?_⟩
    subst hv
    obtain ⟨a2, h2, hc⟩ := h0.at hb i e he
    obtain rfl : a = a2 := Option.some.inj h2
    exact ⟨Nat.lt_of_lt_of_le (hcs i e he).1 hb.size, hc⟩
theorem bl_ge19 {B : Nat} {w w' : World} (h : Below w.heap.size w w') (hB : B ≤ w.heap.size) : Below B w w' := h.mono hB

set_option maxHeartbeats 16000000 in
set_option maxRecDepth 20000 in
theorem filesAlone_any (v : Value) (l : List Dk.En) (w : World) (hw : EW19 w v l) (hl : l.length ≤ 1048576) (hb : ∀ e ∈ l, e.path.size ≤ 1048576 ∧ e.body.size ≤ 1048576) (r m t s : ByteArray) (fv : Value) (fs : List Fd) (hf : FW w fv fs) (hr : r.size ≤ 1048576) (ht : t.size ≤ 1048576) (hs : s.size ≤ 1048576) (hfl : fs.length ≤ 1048576) (hfz : Tg.vsz fs ≤ 1048576) (e : Dk.En) (hep : e.path.size ≤ 1048576) (heb : e.body.size ≤ 1048576) (hT : TB19 w) :
    Calls Tryz.prog 5 #[v, .agg #[.string r, .string m, .string t, .string s, fv], .agg #[.string e.path, .string e.body, .int .i64 e.time, .int .i64 e.seq]] w fun e w' => e = .returned (.bool true) ∧ Below w.heap.size w w' := by
  obtain ⟨fo, fc, hv⟩ := hf.shape
  obtain ⟨fn, hfn⟩ : ∃ fn, fs.length = fn := ⟨_, rfl⟩
  rw [hfn] at hv
  subst hv
  have HA : Hid AnsC19 := hid' cansC19
  have HT := hid' hT
  have HBO := hid' (fun W (h : EW19 W v l) => cboth19 v l W h hl hb)
  have HW := hid' hw
  have HF := hid' hf
  have HEP := hid' hep
  have HEB := hid' heb
  obtain ⟨pre, hpre⟩ : ∃ pre : ByteArray, (r ++ ⟨#[47]⟩) ++ s = pre := ⟨_, rfl⟩
  have hpl : pre.data.toList = r.data.toList ++ 47 :: s.data.toList := by rw [← hpre]; simp [ByteArray.data_append]
  obtain ⟨bg, hbg⟩ : ∃ bg, pre.data.toList.isPrefixOf e.path.data.toList = bg := ⟨_, rfl⟩
  have HBG := hid' (fun W => rbegins e.path pre bg hbg W)
  have HPF : Hid (bg = false → (r.data.toList ++ 47 :: s.data.toList).isPrefixOf e.path.data.toList = false) := hid' (fun h => by rw [← hpl, hbg]; exact h)
  have HANS := hid' (fun (B sb : Nat) (K : Nat → Prop) (q : Int) (es : List Dk.En) W (hc : CS W B sb K q es) (hW : FW W (.slice fo fn fc) fs) (he : ∀ e ∈ es, EN19 e) (hh : TB19 W) => cans19 B sb K q es r m t s (.slice fo fn fc) fs W hc hW hfl hfz hr ht hs he hh)
  have s1 : r.size + 1 ≤ 9223372036854775807 := by omega
  have s2 : r.size + 1 + s.size ≤ 9223372036854775807 := by omega
  have hpp := hpre
  have HFL := hid' hfl
  obtain ⟨ep, eb, et, eq⟩ := e
  simp only at HEP HEB HBG HPF ⊢
  clear hT hw hl hb hf hr ht hs hfl hfz hep heb hfn hpre hpl hbg
  go_enter Tryz.func5, Tryz.ntmps5
  go_wp2_with (refine wpl_box 46 _ rfl rfl #[.string r, .string m, .string t, .string s, .slice fo fn fc] (by kernel_rfl) ?_)
  intro xb w1 hg1 ha1 hb1
  have HX1 := hid' ha1
  have HB1 := hid' hb1
  clear hg1 ha1 hb1
  go_wp2_with (refine wpl_box 48 _ rfl rfl #[.string ep, .string eb, .int .i64 et, .int .i64 eq] (by kernel_rfl) ?_)
  intro yb w2 hg2 ha2 hb2
  have HX2 := hid' (HX1.out.keep hb2)
  have HY2 := hid' ha2
  have HB2 := hid' (below_two HB1.out hb2)
  clear hg2 ha2 hb2 HX1 HB1
  go_wp2_with fail
  refine (HBO.out w2 (ew_keep19 HW.out HB2.out)).mono ?_
  rintro _ w3 ⟨hbp, hb3⟩
  obtain ⟨d, KD, q, es, ro, rn, rc, rfl, hcd, hen, hq0, hq1⟩ := hbp
  have HC3 := hid' hcd
  have HE3 := hid' hen
  have HL3 := hid' hb3
  have hb4 := bl_alloc19 w3 (.cells #[.slice ro rn rc, .int .i64 q] 50)
  have HC4 := hid' (hcd.keep hb4)
  have HL4 := hid' (below_two hb3 hb4)
  clear hcd hen hb3 hb4 HC3 HL3
  go_upto_region 2 with fail
  generalize w3.alloc (.cells #[.slice ro rn rc, .int .i64 q] 50) = w4 at *
  have x0 := (HX2.out.keep HL4.out).cell 0 _ rfl
  have x3 := (HX2.out.keep HL4.out).cell 3 _ rfl
  have y0 := (HY2.out.keep HL4.out).cell 0 _ rfl
  go_wp2_with fail
  refine (HBG.out w4).mono ?_
  rintro _ w5 ⟨rfl, hw5⟩
  subst w5
  cases bg
  · obtain ⟨P, hP⟩ : ∃ P, Fs.ans es r.data.toList m.data.toList t.data.toList s.data.toList fs = P := ⟨_, rfl⟩
    have HP := hid' hP
    have HPB : Hid (P.fs.length ≤ 140737488355328) := hid' (by rw [← hP]; exact Nat.le_trans (ans_len19 _ _ _ _ _ _) (by decide))
    have hpf := HPF.out rfl
    have hok := HC4.out.ok.1
    have HA7 : Hid (∀ (B sb : Nat) (Ks : Nat → Prop) W, CS W B sb Ks q es → FW W (.slice fo fn fc) fs → TB19 W → Calls Tryz.prog 15 #[.pointer (some ⟨sb, 0, none⟩), .string r, .string m, .string t, .string s, .slice fo fn fc] W fun e w' => RP19 W w' e P) := hid' (fun B sb Ks W hc hW hh => by rw [← HP.out]; exact HANS.out B sb Ks q es W hc hW HE3.out hh)
    obtain ⟨c, es1, q1, hput⟩ := putOf13_ex es q ep eb et
    obtain ⟨hen1, hq10, hq11⟩ := put_en19 hput hok HE3.out hq0 (by omega)
    have hans1 : Fs.ans es1 r.data.toList m.data.toList t.data.toList s.data.toList fs = P := by
      rcases hput with ⟨_, _, rfl, _⟩ | ⟨_, _, rfl, _⟩ | ⟨_, _, rfl, _⟩ | ⟨_, _, rfl, _⟩ | ⟨_, _, rfl, _⟩
      · exact hP
      · exact hP
      · exact hP
      · exact hP
      · rw [Fs.ans_put hok ⟨ep, eb, et, q + 1⟩ hpf]; exact hP
    have HE1 := hid' hen1
    have HA9 : Hid (∀ (B sb : Nat) (Ks : Nat → Prop) W, CS W B sb Ks q1 es1 → FW W (.slice fo fn fc) fs → TB19 W → Calls Tryz.prog 15 #[.pointer (some ⟨sb, 0, none⟩), .string r, .string m, .string t, .string s, .slice fo fn fc] W fun e w' => RP19 W w' e P) := hid' (fun B sb Ks W hc hW hh => by have := HANS.out B sb Ks q1 es1 W hc hW HE1.out hh; rwa [hans1] at this)
    have HPU := hid' hput
    have HAN1 := hid' hans1
    have HPFX := hid' hpf
    have HANS2 := hid' HANS.out
    clear hP hput hans1 hen1 hok hpf HP HANS
    have x1 := (HX2.out.keep HL4.out).cell 1 _ rfl
    clear x0 x1 x3 y0
    have HXXa := hid' (HX2.out.keep HL4.out)
    have HCCa := hid' (HC4.out)
    have HFFa := hid' (HF.out.keep (below_two HB2.out HL4.out))
    have HTTa := hid' (tb_below19 HT.out (below_two HB2.out HL4.out))
    go_upto_region 7 with fail
    go_cut [10] from 31 to 43 (fun sd wx => ∃ ab vo n vc, sd = .pointer (some ⟨ab, 0, none⟩) ∧ Hid (MB19 w4 ab P vo n vc wx))
    case first =>
      refine wp_region_held_drew (S := fun W => Below w4.heap.size w4 W) (by kernel_rfl) (show Below w4.heap.size w4 w4.drew from (Below.refl _ _).drew) (fun hHeld => ?_)
      refine take_d19 (i := 0) (d := some 31) (v := ?_) rfl rfl (by kernel_rfl) (by kernel_rfl) (by kernel_rfl) (fun _ _ _ h => h) (Or.inl ⟨by rfl, ?_⟩) (by assumption) ?_
      rotate_left
      · intro w hSw
        (try dsimp only at hSw)
        go_simp
        try with_reducible rfl
      try simp only [Act.put, List.setIfInBounds_toArray, List.set_cons_zero, List.set_cons_succ]
      refine take_d19 (i := 2) (d := some 33) (v := ?_) rfl rfl (by kernel_rfl) (by kernel_rfl) (by kernel_rfl) (fun _ _ _ h => h) (Or.inl ⟨by rfl, ?_⟩) (by assumption) ?_
      rotate_left
      · intro w hSw
        (try dsimp only at hSw)
        have ha := HXXa.out.keep hSw
        have c0 := ha.cell 0 _ rfl
        have c1 := ha.cell 1 _ rfl
        have c2 := ha.cell 2 _ rfl
        have c3 := ha.cell 3 _ rfl
        have c4 := ha.cell 4 _ rfl
        go_simp
        try with_reducible rfl
      try simp only [Act.put, List.setIfInBounds_toArray, List.set_cons_zero, List.set_cons_succ]
      refine take_d19 (i := 3) (d := some 34) (v := ?_) rfl rfl (by kernel_rfl) (by kernel_rfl) (by kernel_rfl) (fun _ _ _ h => h) (Or.inl ⟨by rfl, ?_⟩) (by assumption) ?_
      rotate_left
      · intro w hSw
        (try dsimp only at hSw)
        have ha := HXXa.out.keep hSw
        have c0 := ha.cell 0 _ rfl
        have c1 := ha.cell 1 _ rfl
        have c2 := ha.cell 2 _ rfl
        have c3 := ha.cell 3 _ rfl
        have c4 := ha.cell 4 _ rfl
        go_simp
        try with_reducible rfl
      try simp only [Act.put, List.setIfInBounds_toArray, List.set_cons_zero, List.set_cons_succ]
      refine take_d19 (i := 4) (d := some 35) (v := ?_) rfl rfl (by kernel_rfl) (by kernel_rfl) (by kernel_rfl) (fun _ _ _ h => h) (Or.inl ⟨by rfl, ?_⟩) (by assumption) ?_
      rotate_left
      · intro w hSw
        (try dsimp only at hSw)
        have ha := HXXa.out.keep hSw
        have c0 := ha.cell 0 _ rfl
        have c1 := ha.cell 1 _ rfl
        have c2 := ha.cell 2 _ rfl
        have c3 := ha.cell 3 _ rfl
        have c4 := ha.cell 4 _ rfl
        go_simp
        try with_reducible rfl
      try simp only [Act.put, List.setIfInBounds_toArray, List.set_cons_zero, List.set_cons_succ]
      refine take_d19 (i := 5) (d := some 36) (v := ?_) rfl rfl (by kernel_rfl) (by kernel_rfl) (by kernel_rfl) (fun _ _ _ h => h) (Or.inl ⟨by rfl, ?_⟩) (by assumption) ?_
      rotate_left
      · intro w hSw
        (try dsimp only at hSw)
        have ha := HXXa.out.keep hSw
        have c0 := ha.cell 0 _ rfl
        have c1 := ha.cell 1 _ rfl
        have c2 := ha.cell 2 _ rfl
        have c3 := ha.cell 3 _ rfl
        have c4 := ha.cell 4 _ rfl
        go_simp
        try with_reducible rfl
      try simp only [Act.put, List.setIfInBounds_toArray, List.set_cons_zero, List.set_cons_succ]
      refine take_d19 (i := 6) (d := some 37) (v := ?_) rfl rfl (by kernel_rfl) (by kernel_rfl) (by kernel_rfl) (fun _ _ _ h => h) (Or.inl ⟨by rfl, ?_⟩) (by assumption) ?_
      rotate_left
      · intro w hSw
        (try dsimp only at hSw)
        have ha := HXXa.out.keep hSw
        have c0 := ha.cell 0 _ rfl
        have c1 := ha.cell 1 _ rfl
        have c2 := ha.cell 2 _ rfl
        have c3 := ha.cell 3 _ rfl
        have c4 := ha.cell 4 _ rfl
        go_simp
        try with_reducible rfl
      try simp only [Act.put, List.setIfInBounds_toArray, List.set_cons_zero, List.set_cons_succ]
      refine take_d19 (i := 7) (d := some 38) (v := ?_) rfl rfl (by kernel_rfl) (by kernel_rfl) (by kernel_rfl) (fun _ _ _ h => h) (Or.inl ⟨by rfl, ?_⟩) (by assumption) ?_
      rotate_left
      · intro w hSw
        (try dsimp only at hSw)
        have ha := HXXa.out.keep hSw
        have c0 := ha.cell 0 _ rfl
        have c1 := ha.cell 1 _ rfl
        have c2 := ha.cell 2 _ rfl
        have c3 := ha.cell 3 _ rfl
        have c4 := ha.cell 4 _ rfl
        go_simp
        try with_reducible rfl
      try simp only [Act.put, List.setIfInBounds_toArray, List.set_cons_zero, List.set_cons_succ]
      refine take_d19 (i := 8) (d := some 39) (v := ?_) rfl rfl (by kernel_rfl) (by kernel_rfl) (by kernel_rfl) (fun _ _ _ h => h) (Or.inl ⟨by rfl, ?_⟩) (by assumption) ?_
      rotate_left
      · intro w hSw
        (try dsimp only at hSw)
        have ha := HXXa.out.keep hSw
        have c0 := ha.cell 0 _ rfl
        have c1 := ha.cell 1 _ rfl
        have c2 := ha.cell 2 _ rfl
        have c3 := ha.cell 3 _ rfl
        have c4 := ha.cell 4 _ rfl
        go_simp
        try with_reducible rfl
      try simp only [Act.put, List.setIfInBounds_toArray, List.set_cons_zero, List.set_cons_succ]
      refine take_d19 (i := 9) (d := some 40) (v := ?_) rfl rfl (by kernel_rfl) (by kernel_rfl) (by kernel_rfl) (fun _ _ _ h => h) (Or.inl ⟨by rfl, ?_⟩) (by assumption) ?_
      rotate_left
      · intro w hSw
        (try dsimp only at hSw)
        have ha := HXXa.out.keep hSw
        have c0 := ha.cell 0 _ rfl
        have c1 := ha.cell 1 _ rfl
        have c2 := ha.cell 2 _ rfl
        have c3 := ha.cell 3 _ rfl
        have c4 := ha.cell 4 _ rfl
        go_simp
        try with_reducible rfl
      try simp only [Act.put, List.setIfInBounds_toArray, List.set_cons_zero, List.set_cons_succ]
      refine take_d19 (i := 10) (d := some 41) (v := ?_) rfl rfl (by kernel_rfl) (by kernel_rfl) (by kernel_rfl) (fun _ _ _ h => h) (Or.inl ⟨by rfl, ?_⟩) (by assumption) ?_
      rotate_left
      · intro w hSw
        (try dsimp only at hSw)
        have ha := HXXa.out.keep hSw
        have c0 := ha.cell 0 _ rfl
        have c1 := ha.cell 1 _ rfl
        have c2 := ha.cell 2 _ rfl
        have c3 := ha.cell 3 _ rfl
        have c4 := ha.cell 4 _ rfl
        go_simp
        try with_reducible rfl
      try simp only [Act.put, List.setIfInBounds_toArray, List.set_cons_zero, List.set_cons_succ]
      refine take_d19 (i := 11) (d := some 42) (v := ?_) rfl rfl (by kernel_rfl) (by kernel_rfl) (by kernel_rfl) (fun _ _ _ h => h) (Or.inl ⟨by rfl, ?_⟩) (by assumption) ?_
      rotate_left
      · intro w hSw
        (try dsimp only at hSw)
        have ha := HXXa.out.keep hSw
        have c0 := ha.cell 0 _ rfl
        have c1 := ha.cell 1 _ rfl
        have c2 := ha.cell 2 _ rfl
        have c3 := ha.cell 3 _ rfl
        have c4 := ha.cell 4 _ rfl
        go_simp
        try with_reducible rfl
      try simp only [Act.put, List.setIfInBounds_toArray, List.set_cons_zero, List.set_cons_succ]
      refine wpAnyH_ready (rs := [1, 13]) (by kernel_rfl) (by simp) ?_
      refine AllReadyH.cons rfl (fun K hK => ?_) (AllReadyH.cons rfl (fun K hK => ?_) AllReadyH.nil)
      · go_simp
        refine (csnap13 _ d KD q es w4.drew (HCCa.out.keep hHeld)).mono ?_
        rintro _ wS ⟨⟨sb, Ks, rfl, hsn⟩, hbwS⟩
        go_wp2_with fail
        refine hK.out _ _ (below_two hHeld hbwS) (fun h1 => ?_)
        clear hK K
        try simp only [Act.put, List.setIfInBounds_toArray, List.set_cons_zero, List.set_cons_succ]
        refine wpAnyH_ready (rs := [12, 13]) (by kernel_rfl) (by simp) ?_
        refine AllReadyH.cons rfl (fun K hK => ?_) (AllReadyH.cons rfl (fun K hK => ?_) AllReadyH.nil)
        · go_simp
          refine (HA7.out _ sb Ks _ (hsn) (HFFa.out.keep h1) (tb_below19 HTTa.out h1)).mono ?_
          rintro _ wA ⟨⟨vo, n, vc, rfl, hn, ho⟩, hbwA⟩
          go_wp2_with fail
          refine hK.out _ _ (below_two h1 hbwA) (fun h2 => ?_)
          clear hK K
          try simp only [Act.put, List.setIfInBounds_toArray, List.set_cons_zero, List.set_cons_succ]
          refine wpAnyH_ready (rs := [13]) (by kernel_rfl) (by simp) ?_
          refine AllReadyH.cons rfl (fun K hK => ?_) AllReadyH.nil
          go_simp
          refine hK.out _ _ (below_two h2 (bl_alloc19 wA _)) (fun h3 => ?_)
          clear hK K
          try simp only [Act.put, List.setIfInBounds_toArray, List.set_cons_zero, List.set_cons_succ]
          refine wpAnyH_ready (rs := [14]) (by kernel_rfl) (by simp) ?_
          refine AllReadyH.cons rfl (fun K hK => ?_) AllReadyH.nil
          refine step_store19 rfl 24 _ _ rfl wA.heap.size #[.int .i64 P.s, .slice vo n vc, .string ⟨P.b.toArray⟩, .slice none 0 0] rfl rfl 24 _ (heap_alloc_last wA _) sizeRp19 rfl (by simp [Value.oneCell']) ?_
          intro wf haf huf
          have hmb := MB19.one (w1 := wS) h1 hbwA hn ho haf huf
          refine hK.out _ _ hmb.bel (fun _ => ?_)
          clear hK K
          try simp only [Act.put]
          refine wpAnyH_done (by kernel_rfl) ?_ _
          go_wp2_with fail
          go_meet
          exact ⟨_, _, _, _, rfl, hid' hmb⟩
        · go_simp
          refine hK.out _ _ (below_two h1 (bl_alloc19 wS _)) (fun h2 => ?_)
          clear hK K
          try simp only [Act.put, List.setIfInBounds_toArray, List.set_cons_zero, List.set_cons_succ]
          refine wpAnyH_ready (rs := [12]) (by kernel_rfl) (by simp) ?_
          refine AllReadyH.cons rfl (fun K hK => ?_) AllReadyH.nil
          go_simp
          refine (HA7.out _ sb Ks _ (cs_keep19 hsn (bl_alloc19 wS _)) (HFFa.out.keep h2) (tb_below19 HTTa.out h2)).mono ?_
          rintro _ wA ⟨⟨vo, n, vc, rfl, hn, ho⟩, hbwA⟩
          go_wp2_with fail
          refine hK.out _ _ (below_two h2 hbwA) (fun h3 => ?_)
          clear hK K
          try simp only [Act.put, List.setIfInBounds_toArray, List.set_cons_zero, List.set_cons_succ]
          refine wpAnyH_ready (rs := [14]) (by kernel_rfl) (by simp) ?_
          refine AllReadyH.cons rfl (fun K hK => ?_) AllReadyH.nil
          refine step_store19 rfl 24 _ _ rfl wS.heap.size #[.int .i64 P.s, .slice vo n vc, .string ⟨P.b.toArray⟩, .slice none 0 0] rfl rfl 24 _ (Ar.keep (heap_alloc_last wS (.cells #[.int .i64 0, .slice none 0 0, .string ⟨#[]⟩, .slice none 0 0] 24)) hbwA) sizeRp19 rfl (by simp [Value.oneCell']) ?_
          intro wf haf huf
          have hmb := MB19.two h2 h1.size (by simp) hbwA hn ho haf huf
          refine hK.out _ _ hmb.bel (fun _ => ?_)
          clear hK K
          try simp only [Act.put]
          refine wpAnyH_done (by kernel_rfl) ?_ _
          go_wp2_with fail
          go_meet
          exact ⟨_, _, _, _, rfl, hid' hmb⟩
      · go_simp
        refine hK.out _ _ (below_two hHeld (bl_alloc19 w4.drew _)) (fun h1 => ?_)
        clear hK K
        try simp only [Act.put, List.setIfInBounds_toArray, List.set_cons_zero, List.set_cons_succ]
        refine wpAnyH_ready (rs := [1]) (by kernel_rfl) (by simp) ?_
        refine AllReadyH.cons rfl (fun K hK => ?_) AllReadyH.nil
        go_simp
        refine (csnap13 _ d KD q es (w4.drew.alloc _) (HCCa.out.keep h1)).mono ?_
        rintro _ wS ⟨⟨sb, Ks, rfl, hsn⟩, hbwS⟩
        go_wp2_with fail
        refine hK.out _ _ (below_two h1 hbwS) (fun h2 => ?_)
        clear hK K
        try simp only [Act.put, List.setIfInBounds_toArray, List.set_cons_zero, List.set_cons_succ]
        refine wpAnyH_ready (rs := [12]) (by kernel_rfl) (by simp) ?_
        refine AllReadyH.cons rfl (fun K hK => ?_) AllReadyH.nil
        go_simp
        refine (HA7.out _ sb Ks _ (hsn) (HFFa.out.keep h2) (tb_below19 HTTa.out h2)).mono ?_
        rintro _ wA ⟨⟨vo, n, vc, rfl, hn, ho⟩, hbwA⟩
        go_wp2_with fail
        refine hK.out _ _ (below_two h2 hbwA) (fun h3 => ?_)
        clear hK K
        try simp only [Act.put, List.setIfInBounds_toArray, List.set_cons_zero, List.set_cons_succ]
        refine wpAnyH_ready (rs := [14]) (by kernel_rfl) (by simp) ?_
        refine AllReadyH.cons rfl (fun K hK => ?_) AllReadyH.nil
        refine step_store19 rfl 24 _ _ rfl w4.heap.size #[.int .i64 P.s, .slice vo n vc, .string ⟨P.b.toArray⟩, .slice none 0 0] rfl rfl 24 _ (Ar.keep (Ar.keep (heap_alloc_last w4.drew (.cells #[.int .i64 0, .slice none 0 0, .string ⟨#[]⟩, .slice none 0 0] 24)) hbwS) hbwA) sizeRp19 rfl (by simp [Value.oneCell']) ?_
        intro wf haf huf
        have hmb := MB19.two h2 (Nat.le_refl _) (Nat.lt_of_lt_of_le (show w4.heap.size < (w4.drew.alloc (.cells #[.int .i64 0, .slice none 0 0, .string ⟨#[]⟩, .slice none 0 0] 24)).heap.size by simp) hbwS.size) hbwA hn ho haf huf
        refine hK.out _ _ hmb.bel (fun _ => ?_)
        clear hK K
        try simp only [Act.put]
        refine wpAnyH_done (by kernel_rfl) ?_ _
        go_wp2_with fail
        go_meet
        exact ⟨_, _, _, _, rfl, hid' hmb⟩
    case rest =>
      obtain ⟨ab, vo, n, vc, rfl, HM1⟩ := hcut
      generalize wc = w5 at *
      have HL5 := hid' (below_from HL4.out HM1.out.bel HL4.out.size)
      have HC5 := hid' (HC4.out.keep HM1.out.bel)
      have HK4 : Hid (∀ k, KD k → k < w4.heap.size) := hid' (fun k hk => (HC4.out.lt k hk).2)
      have HRA5 := hid' HM1.out.rk
      have y0 := (HY2.out.keep HL5.out).cell 0 _ rfl
      have y1 := (HY2.out.keep HL5.out).cell 1 _ rfl
      have y2 := (HY2.out.keep HL5.out).cell 2 _ rfl
      clear HM1 HC4 HXXa HCCa HFFa HTTa HA7
      go_wp2_with fail
      refine (cput13 HPU.out _ d KD w5 HC5.out (by have := HEP.out; omega) (by have := HEB.out; omega) hq0 (by omega)).mono ?_
      rintro _ w6 ⟨rfl, KN, hcd, hlf, hnew⟩
      have HL6 := hid' (HL5.out.trans (hlf.below HL5.out.size (fun k hk => (HC5.out.lt k hk).1)))
      have HRA6 := hid' (HRA5.out.other hlf (fun k h1 _ hk => by have := HK4.out k hk; omega))
      have HC6 := hid' hcd
      have HK6 : Hid (∀ k, KN k → k < w4.heap.size ∨ w5.heap.size ≤ k) := hid' (fun k hk => (hnew k hk).imp (HK4.out k) id)
      have HK6b : Hid (∀ k, KN k → k < w6.heap.size) := hid' (fun k hk => (hcd.lt k hk).2)
      clear hcd hlf hnew HC5 HL5 HRA5 y0 y1 y2 HL4
      have HXXb := hid' (HX2.out.keep HL6.out)
      have HCCb := hid' (HC6.out)
      have HFFb := hid' (HF.out.keep (below_two HB2.out HL6.out))
      have HTTb := hid' (tb_below19 HT.out (below_two HB2.out HL6.out))
      go_upto_region 9 with fail
      go_cut [11] from 54 to 66 (fun sd wx => ∃ ab vo n vc, sd = .pointer (some ⟨ab, 0, none⟩) ∧ Hid (MB19 w6 ab P vo n vc wx))
      case first =>
        refine wp_region_held_drew (S := fun W => Below w6.heap.size w6 W) (by kernel_rfl) (show Below w6.heap.size w6 w6.drew from (Below.refl _ _).drew) (fun hHeld => ?_)
        refine take_d19 (i := 0) (d := some 54) (v := ?_) rfl rfl (by kernel_rfl) (by kernel_rfl) (by kernel_rfl) (fun _ _ _ h => h) (Or.inl ⟨by rfl, ?_⟩) (by assumption) ?_
        rotate_left
        · intro w hSw
          (try dsimp only at hSw)
          go_simp
          try with_reducible rfl
        try simp only [Act.put, List.setIfInBounds_toArray, List.set_cons_zero, List.set_cons_succ]
        refine take_d19 (i := 2) (d := some 56) (v := ?_) rfl rfl (by kernel_rfl) (by kernel_rfl) (by kernel_rfl) (fun _ _ _ h => h) (Or.inl ⟨by rfl, ?_⟩) (by assumption) ?_
        rotate_left
        · intro w hSw
          (try dsimp only at hSw)
          have ha := HXXb.out.keep hSw
          have c0 := ha.cell 0 _ rfl
          have c1 := ha.cell 1 _ rfl
          have c2 := ha.cell 2 _ rfl
          have c3 := ha.cell 3 _ rfl
          have c4 := ha.cell 4 _ rfl
          go_simp
          try with_reducible rfl
        try simp only [Act.put, List.setIfInBounds_toArray, List.set_cons_zero, List.set_cons_succ]
        refine take_d19 (i := 3) (d := some 57) (v := ?_) rfl rfl (by kernel_rfl) (by kernel_rfl) (by kernel_rfl) (fun _ _ _ h => h) (Or.inl ⟨by rfl, ?_⟩) (by assumption) ?_
        rotate_left
        · intro w hSw
          (try dsimp only at hSw)
          have ha := HXXb.out.keep hSw
          have c0 := ha.cell 0 _ rfl
          have c1 := ha.cell 1 _ rfl
          have c2 := ha.cell 2 _ rfl
          have c3 := ha.cell 3 _ rfl
          have c4 := ha.cell 4 _ rfl
          go_simp
          try with_reducible rfl
        try simp only [Act.put, List.setIfInBounds_toArray, List.set_cons_zero, List.set_cons_succ]
        refine take_d19 (i := 4) (d := some 58) (v := ?_) rfl rfl (by kernel_rfl) (by kernel_rfl) (by kernel_rfl) (fun _ _ _ h => h) (Or.inl ⟨by rfl, ?_⟩) (by assumption) ?_
        rotate_left
        · intro w hSw
          (try dsimp only at hSw)
          have ha := HXXb.out.keep hSw
          have c0 := ha.cell 0 _ rfl
          have c1 := ha.cell 1 _ rfl
          have c2 := ha.cell 2 _ rfl
          have c3 := ha.cell 3 _ rfl
          have c4 := ha.cell 4 _ rfl
          go_simp
          try with_reducible rfl
        try simp only [Act.put, List.setIfInBounds_toArray, List.set_cons_zero, List.set_cons_succ]
        refine take_d19 (i := 5) (d := some 59) (v := ?_) rfl rfl (by kernel_rfl) (by kernel_rfl) (by kernel_rfl) (fun _ _ _ h => h) (Or.inl ⟨by rfl, ?_⟩) (by assumption) ?_
        rotate_left
        · intro w hSw
          (try dsimp only at hSw)
          have ha := HXXb.out.keep hSw
          have c0 := ha.cell 0 _ rfl
          have c1 := ha.cell 1 _ rfl
          have c2 := ha.cell 2 _ rfl
          have c3 := ha.cell 3 _ rfl
          have c4 := ha.cell 4 _ rfl
          go_simp
          try with_reducible rfl
        try simp only [Act.put, List.setIfInBounds_toArray, List.set_cons_zero, List.set_cons_succ]
        refine take_d19 (i := 6) (d := some 60) (v := ?_) rfl rfl (by kernel_rfl) (by kernel_rfl) (by kernel_rfl) (fun _ _ _ h => h) (Or.inl ⟨by rfl, ?_⟩) (by assumption) ?_
        rotate_left
        · intro w hSw
          (try dsimp only at hSw)
          have ha := HXXb.out.keep hSw
          have c0 := ha.cell 0 _ rfl
          have c1 := ha.cell 1 _ rfl
          have c2 := ha.cell 2 _ rfl
          have c3 := ha.cell 3 _ rfl
          have c4 := ha.cell 4 _ rfl
          go_simp
          try with_reducible rfl
        try simp only [Act.put, List.setIfInBounds_toArray, List.set_cons_zero, List.set_cons_succ]
        refine take_d19 (i := 7) (d := some 61) (v := ?_) rfl rfl (by kernel_rfl) (by kernel_rfl) (by kernel_rfl) (fun _ _ _ h => h) (Or.inl ⟨by rfl, ?_⟩) (by assumption) ?_
        rotate_left
        · intro w hSw
          (try dsimp only at hSw)
          have ha := HXXb.out.keep hSw
          have c0 := ha.cell 0 _ rfl
          have c1 := ha.cell 1 _ rfl
          have c2 := ha.cell 2 _ rfl
          have c3 := ha.cell 3 _ rfl
          have c4 := ha.cell 4 _ rfl
          go_simp
          try with_reducible rfl
        try simp only [Act.put, List.setIfInBounds_toArray, List.set_cons_zero, List.set_cons_succ]
        refine take_d19 (i := 8) (d := some 62) (v := ?_) rfl rfl (by kernel_rfl) (by kernel_rfl) (by kernel_rfl) (fun _ _ _ h => h) (Or.inl ⟨by rfl, ?_⟩) (by assumption) ?_
        rotate_left
        · intro w hSw
          (try dsimp only at hSw)
          have ha := HXXb.out.keep hSw
          have c0 := ha.cell 0 _ rfl
          have c1 := ha.cell 1 _ rfl
          have c2 := ha.cell 2 _ rfl
          have c3 := ha.cell 3 _ rfl
          have c4 := ha.cell 4 _ rfl
          go_simp
          try with_reducible rfl
        try simp only [Act.put, List.setIfInBounds_toArray, List.set_cons_zero, List.set_cons_succ]
        refine take_d19 (i := 9) (d := some 63) (v := ?_) rfl rfl (by kernel_rfl) (by kernel_rfl) (by kernel_rfl) (fun _ _ _ h => h) (Or.inl ⟨by rfl, ?_⟩) (by assumption) ?_
        rotate_left
        · intro w hSw
          (try dsimp only at hSw)
          have ha := HXXb.out.keep hSw
          have c0 := ha.cell 0 _ rfl
          have c1 := ha.cell 1 _ rfl
          have c2 := ha.cell 2 _ rfl
          have c3 := ha.cell 3 _ rfl
          have c4 := ha.cell 4 _ rfl
          go_simp
          try with_reducible rfl
        try simp only [Act.put, List.setIfInBounds_toArray, List.set_cons_zero, List.set_cons_succ]
        refine take_d19 (i := 10) (d := some 64) (v := ?_) rfl rfl (by kernel_rfl) (by kernel_rfl) (by kernel_rfl) (fun _ _ _ h => h) (Or.inl ⟨by rfl, ?_⟩) (by assumption) ?_
        rotate_left
        · intro w hSw
          (try dsimp only at hSw)
          have ha := HXXb.out.keep hSw
          have c0 := ha.cell 0 _ rfl
          have c1 := ha.cell 1 _ rfl
          have c2 := ha.cell 2 _ rfl
          have c3 := ha.cell 3 _ rfl
          have c4 := ha.cell 4 _ rfl
          go_simp
          try with_reducible rfl
        try simp only [Act.put, List.setIfInBounds_toArray, List.set_cons_zero, List.set_cons_succ]
        refine take_d19 (i := 11) (d := some 65) (v := ?_) rfl rfl (by kernel_rfl) (by kernel_rfl) (by kernel_rfl) (fun _ _ _ h => h) (Or.inl ⟨by rfl, ?_⟩) (by assumption) ?_
        rotate_left
        · intro w hSw
          (try dsimp only at hSw)
          have ha := HXXb.out.keep hSw
          have c0 := ha.cell 0 _ rfl
          have c1 := ha.cell 1 _ rfl
          have c2 := ha.cell 2 _ rfl
          have c3 := ha.cell 3 _ rfl
          have c4 := ha.cell 4 _ rfl
          go_simp
          try with_reducible rfl
        try simp only [Act.put, List.setIfInBounds_toArray, List.set_cons_zero, List.set_cons_succ]
        refine wpAnyH_ready (rs := [1, 13]) (by kernel_rfl) (by simp) ?_
        refine AllReadyH.cons rfl (fun K hK => ?_) (AllReadyH.cons rfl (fun K hK => ?_) AllReadyH.nil)
        · go_simp
          refine (csnap13 _ d KN q1 es1 w6.drew (HCCb.out.keep hHeld)).mono ?_
          rintro _ wS ⟨⟨sb, Ks, rfl, hsn⟩, hbwS⟩
          go_wp2_with fail
          refine hK.out _ _ (below_two hHeld hbwS) (fun h1 => ?_)
          clear hK K
          try simp only [Act.put, List.setIfInBounds_toArray, List.set_cons_zero, List.set_cons_succ]
          refine wpAnyH_ready (rs := [12, 13]) (by kernel_rfl) (by simp) ?_
          refine AllReadyH.cons rfl (fun K hK => ?_) (AllReadyH.cons rfl (fun K hK => ?_) AllReadyH.nil)
          · go_simp
            refine (HA9.out _ sb Ks _ (hsn) (HFFb.out.keep h1) (tb_below19 HTTb.out h1)).mono ?_
            rintro _ wA ⟨⟨vo, n, vc, rfl, hn, ho⟩, hbwA⟩
            go_wp2_with fail
            refine hK.out _ _ (below_two h1 hbwA) (fun h2 => ?_)
            clear hK K
            try simp only [Act.put, List.setIfInBounds_toArray, List.set_cons_zero, List.set_cons_succ]
            refine wpAnyH_ready (rs := [13]) (by kernel_rfl) (by simp) ?_
            refine AllReadyH.cons rfl (fun K hK => ?_) AllReadyH.nil
            go_simp
            refine hK.out _ _ (below_two h2 (bl_alloc19 wA _)) (fun h3 => ?_)
            clear hK K
            try simp only [Act.put, List.setIfInBounds_toArray, List.set_cons_zero, List.set_cons_succ]
            refine wpAnyH_ready (rs := [14]) (by kernel_rfl) (by simp) ?_
            refine AllReadyH.cons rfl (fun K hK => ?_) AllReadyH.nil
            refine step_store19 rfl 24 _ _ rfl wA.heap.size #[.int .i64 P.s, .slice vo n vc, .string ⟨P.b.toArray⟩, .slice none 0 0] rfl rfl 24 _ (heap_alloc_last wA _) sizeRp19 rfl (by simp [Value.oneCell']) ?_
            intro wf haf huf
            have hmb := MB19.one (w1 := wS) h1 hbwA hn ho haf huf
            refine hK.out _ _ hmb.bel (fun _ => ?_)
            clear hK K
            try simp only [Act.put]
            refine wpAnyH_done (by kernel_rfl) ?_ _
            go_wp2_with fail
            go_meet
            exact ⟨_, _, _, _, rfl, hid' hmb⟩
          · go_simp
            refine hK.out _ _ (below_two h1 (bl_alloc19 wS _)) (fun h2 => ?_)
            clear hK K
            try simp only [Act.put, List.setIfInBounds_toArray, List.set_cons_zero, List.set_cons_succ]
            refine wpAnyH_ready (rs := [12]) (by kernel_rfl) (by simp) ?_
            refine AllReadyH.cons rfl (fun K hK => ?_) AllReadyH.nil
            go_simp
            refine (HA9.out _ sb Ks _ (cs_keep19 hsn (bl_alloc19 wS _)) (HFFb.out.keep h2) (tb_below19 HTTb.out h2)).mono ?_
            rintro _ wA ⟨⟨vo, n, vc, rfl, hn, ho⟩, hbwA⟩
            go_wp2_with fail
            refine hK.out _ _ (below_two h2 hbwA) (fun h3 => ?_)
            clear hK K
            try simp only [Act.put, List.setIfInBounds_toArray, List.set_cons_zero, List.set_cons_succ]
            refine wpAnyH_ready (rs := [14]) (by kernel_rfl) (by simp) ?_
            refine AllReadyH.cons rfl (fun K hK => ?_) AllReadyH.nil
            refine step_store19 rfl 24 _ _ rfl wS.heap.size #[.int .i64 P.s, .slice vo n vc, .string ⟨P.b.toArray⟩, .slice none 0 0] rfl rfl 24 _ (Ar.keep (heap_alloc_last wS (.cells #[.int .i64 0, .slice none 0 0, .string ⟨#[]⟩, .slice none 0 0] 24)) hbwA) sizeRp19 rfl (by simp [Value.oneCell']) ?_
            intro wf haf huf
            have hmb := MB19.two h2 h1.size (by simp) hbwA hn ho haf huf
            refine hK.out _ _ hmb.bel (fun _ => ?_)
            clear hK K
            try simp only [Act.put]
            refine wpAnyH_done (by kernel_rfl) ?_ _
            go_wp2_with fail
            go_meet
            exact ⟨_, _, _, _, rfl, hid' hmb⟩
        · go_simp
          refine hK.out _ _ (below_two hHeld (bl_alloc19 w6.drew _)) (fun h1 => ?_)
          clear hK K
          try simp only [Act.put, List.setIfInBounds_toArray, List.set_cons_zero, List.set_cons_succ]
          refine wpAnyH_ready (rs := [1]) (by kernel_rfl) (by simp) ?_
          refine AllReadyH.cons rfl (fun K hK => ?_) AllReadyH.nil
          go_simp
          refine (csnap13 _ d KN q1 es1 (w6.drew.alloc _) (HCCb.out.keep h1)).mono ?_
          rintro _ wS ⟨⟨sb, Ks, rfl, hsn⟩, hbwS⟩
          go_wp2_with fail
          refine hK.out _ _ (below_two h1 hbwS) (fun h2 => ?_)
          clear hK K
          try simp only [Act.put, List.setIfInBounds_toArray, List.set_cons_zero, List.set_cons_succ]
          refine wpAnyH_ready (rs := [12]) (by kernel_rfl) (by simp) ?_
          refine AllReadyH.cons rfl (fun K hK => ?_) AllReadyH.nil
          go_simp
          refine (HA9.out _ sb Ks _ (hsn) (HFFb.out.keep h2) (tb_below19 HTTb.out h2)).mono ?_
          rintro _ wA ⟨⟨vo, n, vc, rfl, hn, ho⟩, hbwA⟩
          go_wp2_with fail
          refine hK.out _ _ (below_two h2 hbwA) (fun h3 => ?_)
          clear hK K
          try simp only [Act.put, List.setIfInBounds_toArray, List.set_cons_zero, List.set_cons_succ]
          refine wpAnyH_ready (rs := [14]) (by kernel_rfl) (by simp) ?_
          refine AllReadyH.cons rfl (fun K hK => ?_) AllReadyH.nil
          refine step_store19 rfl 24 _ _ rfl w6.heap.size #[.int .i64 P.s, .slice vo n vc, .string ⟨P.b.toArray⟩, .slice none 0 0] rfl rfl 24 _ (Ar.keep (Ar.keep (heap_alloc_last w6.drew (.cells #[.int .i64 0, .slice none 0 0, .string ⟨#[]⟩, .slice none 0 0] 24)) hbwS) hbwA) sizeRp19 rfl (by simp [Value.oneCell']) ?_
          intro wf haf huf
          have hmb := MB19.two h2 (Nat.le_refl _) (Nat.lt_of_lt_of_le (show w6.heap.size < (w6.drew.alloc (.cells #[.int .i64 0, .slice none 0 0, .string ⟨#[]⟩, .slice none 0 0] 24)).heap.size by simp) hbwS.size) hbwA hn ho haf huf
          refine hK.out _ _ hmb.bel (fun _ => ?_)
          clear hK K
          try simp only [Act.put]
          refine wpAnyH_done (by kernel_rfl) ?_ _
          go_wp2_with fail
          go_meet
          exact ⟨_, _, _, _, rfl, hid' hmb⟩
      case rest =>
        obtain ⟨bb, uo, n2, uc, rfl, HM2⟩ := hcut
        generalize wc = w7 at *
        have HL7 := hid' (below_from HL6.out HM2.out.bel HL6.out.size)
        have HC7 := hid' (HC6.out.keep HM2.out.bel)
        have HRA7 := hid' (HRA6.out.keep HM2.out.bel)
        have HRB7 := hid' HM2.out.rk
        have y0 := (HY2.out.keep HL7.out).cell 0 _ rfl
        obtain ⟨tt, es2, q2, hrem⟩ := remOf13_ex es1 q1 ep
        have hok := HC7.out.ok.1
        have HE2 := hid' (rem_en19 hrem hok HE1.out)
        have hans2 : Fs.ans es2 r.data.toList m.data.toList t.data.toList s.data.toList fs = P := by
          rcases hrem with ⟨_, hh, rfl, _⟩ | ⟨_, _, rfl, _⟩
          · rw [Fs.ans_rem hok hh HPFX.out]; exact HAN1.out
          · exact HAN1.out
        have HA11 : Hid (∀ (B sb : Nat) (Ks : Nat → Prop) W, CS W B sb Ks q2 es2 → FW W (.slice fo fn fc) fs → TB19 W → Calls Tryz.prog 15 #[.pointer (some ⟨sb, 0, none⟩), .string r, .string m, .string t, .string s, .slice fo fn fc] W fun e w' => RP19 W w' e P) := hid' (fun B sb Ks W hc hW hh => by have := HANS2.out B sb Ks q2 es2 W hc hW HE2.out hh; rwa [hans2] at this)
        have HRM := hid' hrem
        clear HM2 HC6 HL6 HRA6 hrem hans2 hok HXXb HCCb HFFb HTTb HA9 HPU
        go_wp2_with fail
        refine (crem13 HRM.out _ d KN w7 HC7.out (by have := HEP.out; omega) hq10 (by omega)).mono ?_
        rintro _ w8 ⟨rfl, KM, hcd, hlf, hnew⟩
        have HL8 := hid' (HL7.out.trans (hlf.below HL7.out.size (fun k hk => (HC7.out.lt k hk).1)))
        have HRA8 := hid' (HRA7.out.other hlf (fun k h1 h2 hk => by have := HK6.out k hk; omega))
        have HRB8 := hid' (HRB7.out.other hlf (fun k h1 h2 hk => by have := HK6b.out k hk; omega))
        have HC8 := hid' hcd
        clear hcd hlf hnew HC7 HL7 HRA7 HRB7 y0
        have HXXc := hid' (HX2.out.keep HL8.out)
        have HCCc := hid' (HC8.out)
        have HFFc := hid' (HF.out.keep (below_two HB2.out HL8.out))
        have HTTc := hid' (tb_below19 HT.out (below_two HB2.out HL8.out))
        go_upto_region 11 with fail
        go_cut [12] from 71 to 83 (fun sd wx => ∃ ab vo n vc, sd = .pointer (some ⟨ab, 0, none⟩) ∧ Hid (MB19 w8 ab P vo n vc wx))
        case first =>
          refine wp_region_held_drew (S := fun W => Below w8.heap.size w8 W) (by kernel_rfl) (show Below w8.heap.size w8 w8.drew from (Below.refl _ _).drew) (fun hHeld => ?_)
          refine take_d19 (i := 0) (d := some 71) (v := ?_) rfl rfl (by kernel_rfl) (by kernel_rfl) (by kernel_rfl) (fun _ _ _ h => h) (Or.inl ⟨by rfl, ?_⟩) (by assumption) ?_
          rotate_left
          · intro w hSw
            (try dsimp only at hSw)
            go_simp
            try with_reducible rfl
          try simp only [Act.put, List.setIfInBounds_toArray, List.set_cons_zero, List.set_cons_succ]
          refine take_d19 (i := 2) (d := some 73) (v := ?_) rfl rfl (by kernel_rfl) (by kernel_rfl) (by kernel_rfl) (fun _ _ _ h => h) (Or.inl ⟨by rfl, ?_⟩) (by assumption) ?_
          rotate_left
          · intro w hSw
            (try dsimp only at hSw)
            have ha := HXXc.out.keep hSw
            have c0 := ha.cell 0 _ rfl
            have c1 := ha.cell 1 _ rfl
            have c2 := ha.cell 2 _ rfl
            have c3 := ha.cell 3 _ rfl
            have c4 := ha.cell 4 _ rfl
            go_simp
            try with_reducible rfl
          try simp only [Act.put, List.setIfInBounds_toArray, List.set_cons_zero, List.set_cons_succ]
          refine take_d19 (i := 3) (d := some 74) (v := ?_) rfl rfl (by kernel_rfl) (by kernel_rfl) (by kernel_rfl) (fun _ _ _ h => h) (Or.inl ⟨by rfl, ?_⟩) (by assumption) ?_
          rotate_left
          · intro w hSw
            (try dsimp only at hSw)
            have ha := HXXc.out.keep hSw
            have c0 := ha.cell 0 _ rfl
            have c1 := ha.cell 1 _ rfl
            have c2 := ha.cell 2 _ rfl
            have c3 := ha.cell 3 _ rfl
            have c4 := ha.cell 4 _ rfl
            go_simp
            try with_reducible rfl
          try simp only [Act.put, List.setIfInBounds_toArray, List.set_cons_zero, List.set_cons_succ]
          refine take_d19 (i := 4) (d := some 75) (v := ?_) rfl rfl (by kernel_rfl) (by kernel_rfl) (by kernel_rfl) (fun _ _ _ h => h) (Or.inl ⟨by rfl, ?_⟩) (by assumption) ?_
          rotate_left
          · intro w hSw
            (try dsimp only at hSw)
            have ha := HXXc.out.keep hSw
            have c0 := ha.cell 0 _ rfl
            have c1 := ha.cell 1 _ rfl
            have c2 := ha.cell 2 _ rfl
            have c3 := ha.cell 3 _ rfl
            have c4 := ha.cell 4 _ rfl
            go_simp
            try with_reducible rfl
          try simp only [Act.put, List.setIfInBounds_toArray, List.set_cons_zero, List.set_cons_succ]
          refine take_d19 (i := 5) (d := some 76) (v := ?_) rfl rfl (by kernel_rfl) (by kernel_rfl) (by kernel_rfl) (fun _ _ _ h => h) (Or.inl ⟨by rfl, ?_⟩) (by assumption) ?_
          rotate_left
          · intro w hSw
            (try dsimp only at hSw)
            have ha := HXXc.out.keep hSw
            have c0 := ha.cell 0 _ rfl
            have c1 := ha.cell 1 _ rfl
            have c2 := ha.cell 2 _ rfl
            have c3 := ha.cell 3 _ rfl
            have c4 := ha.cell 4 _ rfl
            go_simp
            try with_reducible rfl
          try simp only [Act.put, List.setIfInBounds_toArray, List.set_cons_zero, List.set_cons_succ]
          refine take_d19 (i := 6) (d := some 77) (v := ?_) rfl rfl (by kernel_rfl) (by kernel_rfl) (by kernel_rfl) (fun _ _ _ h => h) (Or.inl ⟨by rfl, ?_⟩) (by assumption) ?_
          rotate_left
          · intro w hSw
            (try dsimp only at hSw)
            have ha := HXXc.out.keep hSw
            have c0 := ha.cell 0 _ rfl
            have c1 := ha.cell 1 _ rfl
            have c2 := ha.cell 2 _ rfl
            have c3 := ha.cell 3 _ rfl
            have c4 := ha.cell 4 _ rfl
            go_simp
            try with_reducible rfl
          try simp only [Act.put, List.setIfInBounds_toArray, List.set_cons_zero, List.set_cons_succ]
          refine take_d19 (i := 7) (d := some 78) (v := ?_) rfl rfl (by kernel_rfl) (by kernel_rfl) (by kernel_rfl) (fun _ _ _ h => h) (Or.inl ⟨by rfl, ?_⟩) (by assumption) ?_
          rotate_left
          · intro w hSw
            (try dsimp only at hSw)
            have ha := HXXc.out.keep hSw
            have c0 := ha.cell 0 _ rfl
            have c1 := ha.cell 1 _ rfl
            have c2 := ha.cell 2 _ rfl
            have c3 := ha.cell 3 _ rfl
            have c4 := ha.cell 4 _ rfl
            go_simp
            try with_reducible rfl
          try simp only [Act.put, List.setIfInBounds_toArray, List.set_cons_zero, List.set_cons_succ]
          refine take_d19 (i := 8) (d := some 79) (v := ?_) rfl rfl (by kernel_rfl) (by kernel_rfl) (by kernel_rfl) (fun _ _ _ h => h) (Or.inl ⟨by rfl, ?_⟩) (by assumption) ?_
          rotate_left
          · intro w hSw
            (try dsimp only at hSw)
            have ha := HXXc.out.keep hSw
            have c0 := ha.cell 0 _ rfl
            have c1 := ha.cell 1 _ rfl
            have c2 := ha.cell 2 _ rfl
            have c3 := ha.cell 3 _ rfl
            have c4 := ha.cell 4 _ rfl
            go_simp
            try with_reducible rfl
          try simp only [Act.put, List.setIfInBounds_toArray, List.set_cons_zero, List.set_cons_succ]
          refine take_d19 (i := 9) (d := some 80) (v := ?_) rfl rfl (by kernel_rfl) (by kernel_rfl) (by kernel_rfl) (fun _ _ _ h => h) (Or.inl ⟨by rfl, ?_⟩) (by assumption) ?_
          rotate_left
          · intro w hSw
            (try dsimp only at hSw)
            have ha := HXXc.out.keep hSw
            have c0 := ha.cell 0 _ rfl
            have c1 := ha.cell 1 _ rfl
            have c2 := ha.cell 2 _ rfl
            have c3 := ha.cell 3 _ rfl
            have c4 := ha.cell 4 _ rfl
            go_simp
            try with_reducible rfl
          try simp only [Act.put, List.setIfInBounds_toArray, List.set_cons_zero, List.set_cons_succ]
          refine take_d19 (i := 10) (d := some 81) (v := ?_) rfl rfl (by kernel_rfl) (by kernel_rfl) (by kernel_rfl) (fun _ _ _ h => h) (Or.inl ⟨by rfl, ?_⟩) (by assumption) ?_
          rotate_left
          · intro w hSw
            (try dsimp only at hSw)
            have ha := HXXc.out.keep hSw
            have c0 := ha.cell 0 _ rfl
            have c1 := ha.cell 1 _ rfl
            have c2 := ha.cell 2 _ rfl
            have c3 := ha.cell 3 _ rfl
            have c4 := ha.cell 4 _ rfl
            go_simp
            try with_reducible rfl
          try simp only [Act.put, List.setIfInBounds_toArray, List.set_cons_zero, List.set_cons_succ]
          refine take_d19 (i := 11) (d := some 82) (v := ?_) rfl rfl (by kernel_rfl) (by kernel_rfl) (by kernel_rfl) (fun _ _ _ h => h) (Or.inl ⟨by rfl, ?_⟩) (by assumption) ?_
          rotate_left
          · intro w hSw
            (try dsimp only at hSw)
            have ha := HXXc.out.keep hSw
            have c0 := ha.cell 0 _ rfl
            have c1 := ha.cell 1 _ rfl
            have c2 := ha.cell 2 _ rfl
            have c3 := ha.cell 3 _ rfl
            have c4 := ha.cell 4 _ rfl
            go_simp
            try with_reducible rfl
          try simp only [Act.put, List.setIfInBounds_toArray, List.set_cons_zero, List.set_cons_succ]
          refine wpAnyH_ready (rs := [1, 13]) (by kernel_rfl) (by simp) ?_
          refine AllReadyH.cons rfl (fun K hK => ?_) (AllReadyH.cons rfl (fun K hK => ?_) AllReadyH.nil)
          · go_simp
            refine (csnap13 _ d KM q2 es2 w8.drew (HCCc.out.keep hHeld)).mono ?_
            rintro _ wS ⟨⟨sb, Ks, rfl, hsn⟩, hbwS⟩
            go_wp2_with fail
            refine hK.out _ _ (below_two hHeld hbwS) (fun h1 => ?_)
            clear hK K
            try simp only [Act.put, List.setIfInBounds_toArray, List.set_cons_zero, List.set_cons_succ]
            refine wpAnyH_ready (rs := [12, 13]) (by kernel_rfl) (by simp) ?_
            refine AllReadyH.cons rfl (fun K hK => ?_) (AllReadyH.cons rfl (fun K hK => ?_) AllReadyH.nil)
            · go_simp
              refine (HA11.out _ sb Ks _ (hsn) (HFFc.out.keep h1) (tb_below19 HTTc.out h1)).mono ?_
              rintro _ wA ⟨⟨vo, n, vc, rfl, hn, ho⟩, hbwA⟩
              go_wp2_with fail
              refine hK.out _ _ (below_two h1 hbwA) (fun h2 => ?_)
              clear hK K
              try simp only [Act.put, List.setIfInBounds_toArray, List.set_cons_zero, List.set_cons_succ]
              refine wpAnyH_ready (rs := [13]) (by kernel_rfl) (by simp) ?_
              refine AllReadyH.cons rfl (fun K hK => ?_) AllReadyH.nil
              go_simp
              refine hK.out _ _ (below_two h2 (bl_alloc19 wA _)) (fun h3 => ?_)
              clear hK K
              try simp only [Act.put, List.setIfInBounds_toArray, List.set_cons_zero, List.set_cons_succ]
              refine wpAnyH_ready (rs := [14]) (by kernel_rfl) (by simp) ?_
              refine AllReadyH.cons rfl (fun K hK => ?_) AllReadyH.nil
              refine step_store19 rfl 24 _ _ rfl wA.heap.size #[.int .i64 P.s, .slice vo n vc, .string ⟨P.b.toArray⟩, .slice none 0 0] rfl rfl 24 _ (heap_alloc_last wA _) sizeRp19 rfl (by simp [Value.oneCell']) ?_
              intro wf haf huf
              have hmb := MB19.one (w1 := wS) h1 hbwA hn ho haf huf
              refine hK.out _ _ hmb.bel (fun _ => ?_)
              clear hK K
              try simp only [Act.put]
              refine wpAnyH_done (by kernel_rfl) ?_ _
              go_wp2_with fail
              go_meet
              exact ⟨_, _, _, _, rfl, hid' hmb⟩
            · go_simp
              refine hK.out _ _ (below_two h1 (bl_alloc19 wS _)) (fun h2 => ?_)
              clear hK K
              try simp only [Act.put, List.setIfInBounds_toArray, List.set_cons_zero, List.set_cons_succ]
              refine wpAnyH_ready (rs := [12]) (by kernel_rfl) (by simp) ?_
              refine AllReadyH.cons rfl (fun K hK => ?_) AllReadyH.nil
              go_simp
              refine (HA11.out _ sb Ks _ (cs_keep19 hsn (bl_alloc19 wS _)) (HFFc.out.keep h2) (tb_below19 HTTc.out h2)).mono ?_
              rintro _ wA ⟨⟨vo, n, vc, rfl, hn, ho⟩, hbwA⟩
              go_wp2_with fail
              refine hK.out _ _ (below_two h2 hbwA) (fun h3 => ?_)
              clear hK K
              try simp only [Act.put, List.setIfInBounds_toArray, List.set_cons_zero, List.set_cons_succ]
              refine wpAnyH_ready (rs := [14]) (by kernel_rfl) (by simp) ?_
              refine AllReadyH.cons rfl (fun K hK => ?_) AllReadyH.nil
              refine step_store19 rfl 24 _ _ rfl wS.heap.size #[.int .i64 P.s, .slice vo n vc, .string ⟨P.b.toArray⟩, .slice none 0 0] rfl rfl 24 _ (Ar.keep (heap_alloc_last wS (.cells #[.int .i64 0, .slice none 0 0, .string ⟨#[]⟩, .slice none 0 0] 24)) hbwA) sizeRp19 rfl (by simp [Value.oneCell']) ?_
              intro wf haf huf
              have hmb := MB19.two h2 h1.size (by simp) hbwA hn ho haf huf
              refine hK.out _ _ hmb.bel (fun _ => ?_)
              clear hK K
              try simp only [Act.put]
              refine wpAnyH_done (by kernel_rfl) ?_ _
              go_wp2_with fail
              go_meet
              exact ⟨_, _, _, _, rfl, hid' hmb⟩
          · go_simp
            refine hK.out _ _ (below_two hHeld (bl_alloc19 w8.drew _)) (fun h1 => ?_)
            clear hK K
            try simp only [Act.put, List.setIfInBounds_toArray, List.set_cons_zero, List.set_cons_succ]
            refine wpAnyH_ready (rs := [1]) (by kernel_rfl) (by simp) ?_
            refine AllReadyH.cons rfl (fun K hK => ?_) AllReadyH.nil
            go_simp
            refine (csnap13 _ d KM q2 es2 (w8.drew.alloc _) (HCCc.out.keep h1)).mono ?_
            rintro _ wS ⟨⟨sb, Ks, rfl, hsn⟩, hbwS⟩
            go_wp2_with fail
            refine hK.out _ _ (below_two h1 hbwS) (fun h2 => ?_)
            clear hK K
            try simp only [Act.put, List.setIfInBounds_toArray, List.set_cons_zero, List.set_cons_succ]
            refine wpAnyH_ready (rs := [12]) (by kernel_rfl) (by simp) ?_
            refine AllReadyH.cons rfl (fun K hK => ?_) AllReadyH.nil
            go_simp
            refine (HA11.out _ sb Ks _ (hsn) (HFFc.out.keep h2) (tb_below19 HTTc.out h2)).mono ?_
            rintro _ wA ⟨⟨vo, n, vc, rfl, hn, ho⟩, hbwA⟩
            go_wp2_with fail
            refine hK.out _ _ (below_two h2 hbwA) (fun h3 => ?_)
            clear hK K
            try simp only [Act.put, List.setIfInBounds_toArray, List.set_cons_zero, List.set_cons_succ]
            refine wpAnyH_ready (rs := [14]) (by kernel_rfl) (by simp) ?_
            refine AllReadyH.cons rfl (fun K hK => ?_) AllReadyH.nil
            refine step_store19 rfl 24 _ _ rfl w8.heap.size #[.int .i64 P.s, .slice vo n vc, .string ⟨P.b.toArray⟩, .slice none 0 0] rfl rfl 24 _ (Ar.keep (Ar.keep (heap_alloc_last w8.drew (.cells #[.int .i64 0, .slice none 0 0, .string ⟨#[]⟩, .slice none 0 0] 24)) hbwS) hbwA) sizeRp19 rfl (by simp [Value.oneCell']) ?_
            intro wf haf huf
            have hmb := MB19.two h2 (Nat.le_refl _) (Nat.lt_of_lt_of_le (show w8.heap.size < (w8.drew.alloc (.cells #[.int .i64 0, .slice none 0 0, .string ⟨#[]⟩, .slice none 0 0] 24)).heap.size by simp) hbwS.size) hbwA hn ho haf huf
            refine hK.out _ _ hmb.bel (fun _ => ?_)
            clear hK K
            try simp only [Act.put]
            refine wpAnyH_done (by kernel_rfl) ?_ _
            go_wp2_with fail
            go_meet
            exact ⟨_, _, _, _, rfl, hid' hmb⟩
        case rest =>
          obtain ⟨cb, to', n3, tc, rfl, HM3⟩ := hcut
          generalize wc = w9 at *
          have HL9 := hid' (below_from HL8.out HM3.out.bel HL8.out.size)
          have HRA9 := hid' (HRA8.out.keep HM3.out.bel)
          have HRB9 := hid' (HRB8.out.keep HM3.out.bel)
          have HRC9 := hid' HM3.out.rk
          clear HM3 HC8 HL8 HRA8 HRB8 HXXc HCCc HFFc HTTc HA11
          have a0 := HRA9.out.at'.cell 0 _ rfl
          have a1 := HRA9.out.at'.cell 1 _ rfl
          have a2 := HRA9.out.at'.cell 2 _ rfl
          have a3 := HRA9.out.at'.cell 3 _ rfl
          have b0 := HRB9.out.at'.cell 0 _ rfl
          have b1 := HRB9.out.at'.cell 1 _ rfl
          have b2 := HRB9.out.at'.cell 2 _ rfl
          have b3 := HRB9.out.at'.cell 3 _ rfl
          go_wp2_with fail
          refine (rsameRes19 P.s ⟨P.b.toArray⟩ (.slice vo n vc) (.slice uo n2 uc) (.slice none 0 0) (.slice none 0 0) P.fs [] w9 HRA9.out.fw HRB9.out.fw (fw_nil19 _) (fw_nil19 _) HPB.out (by decide)).mono ?_
          rintro _ w10 ⟨rfl, hb⟩
          have HL10 := hid' (below_from HL9.out hb HL9.out.size)
          have HRA10 := hid' (HRA9.out.keep hb)
          have HRC10 := hid' (HRC9.out.keep hb)
          clear a0 a1 a2 a3 b0 b1 b2 b3 hb HRA9 HRB9 HRC9 HL9
          have a0 := HRA10.out.at'.cell 0 _ rfl
          have a1 := HRA10.out.at'.cell 1 _ rfl
          have a2 := HRA10.out.at'.cell 2 _ rfl
          have a3 := HRA10.out.at'.cell 3 _ rfl
          have b0 := HRC10.out.at'.cell 0 _ rfl
          have b1 := HRC10.out.at'.cell 1 _ rfl
          have b2 := HRC10.out.at'.cell 2 _ rfl
          have b3 := HRC10.out.at'.cell 3 _ rfl
          go_wp2_with fail
          refine (rsameRes19 P.s ⟨P.b.toArray⟩ (.slice vo n vc) (.slice to' n3 tc) (.slice none 0 0) (.slice none 0 0) P.fs [] w10 HRA10.out.fw HRC10.out.fw (fw_nil19 _) (fw_nil19 _) HPB.out (by decide)).mono ?_
          rintro _ w11 ⟨rfl, hb⟩
          have HL11 := hid' (below_from HL10.out hb HL10.out.size)
          clear a0 a1 a2 a3 b0 b1 b2 b3 hb HRA10 HRC10 HL10
          go_wp2_with fail
          refine (awake19 HA.out w11 (tb_below19 HT.out (below_two HB2.out HL11.out))).mono ?_
          rintro _ w12 ⟨rfl, hb⟩
          have HB12 := hid' (below_two (below_two HB2.out HL11.out) hb)
          clear hb
          go_wp2
          go_ret
          exact ⟨rfl, HB12.out⟩
  · go_wp2_with fail
    refine (awake19 HA.out w4 (tb_below19 HT.out (below_two HB2.out HL4.out))).mono ?_
    rintro _ w5 ⟨rfl, hb⟩
    have HB5 := hid' (below_two (below_two HB2.out HL4.out) hb)
    clear hb
    go_wp2
    go_ret
    exact ⟨rfl, HB5.out⟩

end Go.Proofs.YtgbnelglhkfdfaaGreatDoor
