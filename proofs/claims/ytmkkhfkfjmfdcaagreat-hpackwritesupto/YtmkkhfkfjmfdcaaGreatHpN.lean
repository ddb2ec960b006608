/-
  Decoder.next: by its contracts.
-/
import Derived.Test.YtmkkhfkfjmfdcaaGreatHpG
namespace Go.Proofs.YtmkkhfkfjmfdcaaGreat
open Go.RowKit

/-- A decoder on its way: the decoder, what is unread, what is gathered. -/
structure NS (w : World) (B d b : Nat) (v : Value) (list : Int) (lim M : Nat) (fs : List (List UInt8 × List UInt8)) (c : Nat) (l : List UInt8) (B2 g : Nat) (gv : Value) (out : List (List UInt8 × List UInt8)) : Prop where
  cd : CD w B d b v list lim M fs
  cur : Ar w c 88 #[.string ⟨l.toArray⟩]
  ga : GA w B2 g gv list out
  apart : ∀ k, v.ownBlock = some k → gv.ownBlock ≠ some k
theorem GA.keep {w w' : World} {B g : Nat} {v : Value} {list : Int} {out : List (List UInt8 × List UInt8)} (h : GA w B g v list out) (hb : Below w.heap.size w w') : GA w' B g v list out := RG.keep h hb
theorem NS.keep {w w' : World} {B d b : Nat} {v : Value} {list : Int} {lim M : Nat} {fs : List (List UInt8 × List UInt8)} {c : Nat} {l : List UInt8} {B2 g : Nat} {gv : Value} {out : List (List UInt8 × List UInt8)} (h : NS w B d b v list lim M fs c l B2 g gv out) (hb : Below w.heap.size w w') : NS w' B d b v list lim M fs c l B2 g gv out :=
  ⟨h.cd.keep hb, h.cur.keep hb, h.ga.keep hb, h.apart⟩
theorem NS.ofCur {w w' : World} {B d b : Nat} {v : Value} {list : Int} {lim M : Nat} {fs : List (List UInt8 × List UInt8)} {c : Nat} {l l' : List UInt8} {B2 g : Nat} {gv : Value} {out : List (List UInt8 × List UInt8)} (h : NS w B d b v list lim M fs c l B2 g gv out) (hc : Ar w' c 88 #[.string ⟨l'.toArray⟩]) (hf : Fr (· = c) w w') : NS w' B d b v list lim M fs c l' B2 g gv out :=
  ⟨h.cd.fr hf (h.cd.obj.ne h.cur (by decide)) (h.cd.tab.ring.obj.ne h.cur (by decide)) (h.cd.tab.ring.row.nak h.cur (by decide)), hc, hf.rg h.ga (Ar.ne (RG.obj h.ga) h.cur (by decide)) ((RG.row h.ga).nak h.cur (by decide)), h.apart⟩
theorem NS.ofTab {w w' : World} {B d b : Nat} {v v' : Value} {list : Int} {lim M M' : Nat} {fs fs' : List (List UInt8 × List UInt8)} {c : Nat} {l : List UInt8} {B2 g : Nat} {gv : Value} {out : List (List UInt8 × List UInt8)} (h : NS w B d b v list lim M fs c l B2 g gv out) (hc : CT w' B b v' M' fs') (ht : Two b v.ownBlock w w') (hv : ∀ k, v'.ownBlock = some k → v.ownBlock = some k ∨ w.heap.size ≤ k) : NS w' B d b v' list lim M' fs' c l B2 g gv out :=
  ⟨h.cd.put ht hc, ht.ar h.cur (h.cur.ne h.cd.tab.ring.obj (by decide)) (h.cd.tab.ring.row.ne h.cur (by decide)), RG.two h.ga ht (Ar.ne (RG.obj h.ga) h.cd.tab.ring.obj (by decide)) (h.cd.tab.ring.row.ne (RG.obj h.ga) (by decide)) ((RG.row h.ga).ne h.cd.tab.ring.obj (by decide)) (fun k hk e => h.apart k e hk),
    fun k hk e => by
      rcases hv k hk with h1 | h1
      · exact h.apart k h1 e
      · have := ((RG.row h.ga).lt k e).2; omega⟩
theorem NS.ofGa {w w' : World} {B d b : Nat} {v : Value} {list : Int} {lim M : Nat} {fs : List (List UInt8 × List UInt8)} {c : Nat} {l : List UInt8} {B2 g : Nat} {gv gv' : Value} {out out' : List (List UInt8 × List UInt8)} (h : NS w B d b v list lim M fs c l B2 g gv out) (hc : GA w' B2 g gv' list out') (ht : Two g gv.ownBlock w w') (hv : ∀ k, gv'.ownBlock = some k → gv.ownBlock = some k ∨ w.heap.size ≤ k) : NS w' B d b v list lim M fs c l B2 g gv' out' :=
  ⟨h.cd.fr (Fr.of_two (S := fun k => k = g ∨ gv.ownBlock = some k) ht (.inl rfl) (fun k hk => .inr hk)) (by rintro (e | e); exact h.cd.obj.ne (RG.obj h.ga) (by decide) e; exact (RG.row h.ga).ne h.cd.obj (by decide) e) (by rintro (e | e); exact h.cd.tab.ring.obj.ne (RG.obj h.ga) (by decide) e; exact (RG.row h.ga).ne h.cd.tab.ring.obj (by decide) e) (by intro k hk; rintro (e | e); exact h.cd.tab.ring.row.nak (RG.obj h.ga) (by decide) k hk e; exact h.apart k hk e),
    ht.ar h.cur (h.cur.ne (RG.obj h.ga) (by decide)) ((RG.row h.ga).ne h.cur (by decide)), hc,
    fun k hk e => by
      rcases hv k e with h1 | h1
      · exact h.apart k hk h1
      · have := (h.cd.tab.ring.row.lt k hk).2; omega⟩
/-- The blocks that a step may change. -/
def NSet (c g b : Nat) (gv v : Value) : Nat → Prop := fun k => k = c ∨ k = g ∨ gv.ownBlock = some k ∨ k = b ∨ v.ownBlock = some k

theorem CT.drewN {w : World} {B b : Nat} {v : Value} {M : Nat} {fs : List (List UInt8 × List UInt8)} (h : CT w B b v M fs) (n : Nat) : CT (w.drewN n) B b v M fs := ⟨⟨h.ring.ge, h.ring.obj, h.ring.row, h.ring.ne⟩⟩
theorem NS.drewN {w : World} {B d b : Nat} {v : Value} {list : Int} {lim M : Nat} {fs : List (List UInt8 × List UInt8)} {c : Nat} {l : List UInt8} {B2 g : Nat} {gv : Value} {out : List (List UInt8 × List UInt8)} (h : NS w B d b v list lim M fs c l B2 g gv out) (n : Nat) : NS (w.drewN n) B d b v list lim M fs c l B2 g gv out := h.keep ⟨rfl, rfl, rfl, Nat.le_refl _, fun _ _ => rfl⟩
theorem field_k_ok (B d b : Nat) (v : Value) (list : Int) (lim M : Nat) (fs : List (List UInt8 × List UInt8)) (x : UInt8) (K : Nat) (hK : hiOf x = K) (n c : Nat) (l : List UInt8) (f1 f2 : List UInt8) (r : List UInt8) (w : World) (h : CD w B d b v list lim M fs) (hs : Tb.size fs ≤ 1048576) (hl : l.length ≤ 281474976710656) (hc : Ar w c 88 #[.string ⟨l.toArray⟩]) (hf : Hp.field Hp.rs fs (Hp.kind x).1 n l = .ok (f1, f2) r) :
    Calls Tryz.prog 71 #[.pointer (some ⟨d, 0, none⟩), .int .u8 (K : Int), .int .i64 (n : Int), .pointer (some ⟨c, 0, none⟩)] w fun e w' => e = .returned (.tuple #[.agg #[.string ⟨f1.toArray⟩, .string ⟨f2.toArray⟩], .int .i64 0]) ∧ Ar w' c 88 #[.string ⟨r.toArray⟩] ∧ Fr (· = c) w w' := by
  subst hK; exact field_all_ok B d b v list lim M fs x n c l (f1, f2) r w h hs hl hc hf
theorem field_k_er (B d b : Nat) (v : Value) (list : Int) (lim M : Nat) (fs : List (List UInt8 × List UInt8)) (x : UInt8) (K : Nat) (hK : hiOf x = K) (n c : Nat) (hn : n ≤ 2147483647) (l : List UInt8) (er : Nat) (w : World) (h : CD w B d b v list lim M fs) (hs : Tb.size fs ≤ 1048576) (hl : l.length ≤ 281474976710656) (hc : Ar w c 88 #[.string ⟨l.toArray⟩]) (hf : Hp.field Hp.rs fs (Hp.kind x).1 n l = .err er) :
    Calls Tryz.prog 71 #[.pointer (some ⟨d, 0, none⟩), .int .u8 (K : Int), .int .i64 (n : Int), .pointer (some ⟨c, 0, none⟩)] w fun e w' => e = .returned (.tuple #[.agg #[.string ⟨#[]⟩, .string ⟨#[]⟩], .int .i64 (er : Int)]) ∧ Fr (· = c) w w' := by
  subst hK; exact field_all_er B d b v list lim M fs x n c hn l er w h hs hl hc hf
theorem late_or {out : List (List UInt8 × List UInt8)} {late : Bool} {lim n : Nat} (h : decide (0 < (Tb.size out : Int)) = late) (hno : out ≠ [] ∨ lim < n) : late = true ∨ lim < n := by
  rcases hno with h1 | h1
  · left
    rw [← h]
    have : 0 < Tb.size out := by
      cases out with
      | nil => exact absurd rfl h1
      | cons f r => rw [Tb.size_cons]; unfold Tb.wt; omega
    exact decide_eq_true (by omega)
  · exact .inr h1
theorem add_ns {w : World} {B d b : Nat} {v : Value} {list : Int} {lim M : Nat} {fs : List (List UInt8 × List UInt8)} {c : Nat} {l : List UInt8} {B2 g : Nat} {gv : Value} {out : List (List UInt8 × List UInt8)} (h : NS w B d b v list lim M fs c l B2 g gv out) (f1 f2 : List UInt8) (fb : Nat) (hA : Ar w fb 54 #[.string ⟨f1.toArray⟩, .string ⟨f2.toArray⟩]) (hfb : fb ≠ b) (hfv : ∀ k, v.ownBlock = some k → k ≠ fb) (hM : M ≤ 65536) (hs : Tb.size fs ≤ 1048576) (hB : B ≤ w.heap.size) (h1 : f1.length ≤ 140737488355328) (h2 : f2.length ≤ 140737488355328) :
    Calls Tryz.prog 40 #[.pointer (some ⟨d, 0, none⟩), .agg #[.string ⟨f1.toArray⟩, .string ⟨f2.toArray⟩]] w.drew fun e w' => e = .returned (.tuple #[]) ∧ ∃ v', w'.cell? ⟨fb, 0, none⟩ = some (.string ⟨f1.toArray⟩) ∧ w'.cell? ⟨fb, 1, none⟩ = some (.string ⟨f2.toArray⟩) ∧ Hid (NS w' B d b v' list lim M (Tb.add M fs (f1, f2)) c l B2 g gv out ∧ (∀ k, v'.ownBlock = some k → v.ownBlock = some k ∨ w.heap.size ≤ k) ∧ Two b v.ownBlock w w') := by
  refine (eadd_at B b v M fs f1 f2 d w.drew (h.cd.obj.cell 0 _ rfl) h.cd.tab.drew hM hs hB h1 h2).mono ?_
  rintro e w' ⟨rfl, v', hC, hv, hT⟩
  have hT' : Two b v.ownBlock w w' := ⟨hT.os, hT.tape, hT.output, hT.size, hT.block⟩
  have hA' := hT'.ar hA hfb (fun e => hfv fb e rfl)
  exact ⟨rfl, v', hA'.cell 0 _ rfl, hA'.cell 1 _ rfl, hid' ⟨h.ofTab hC hT' hv, hv, hT'⟩⟩

set_option maxHeartbeats 2000000 in
set_option maxRecDepth 20000 in
theorem next_num (B d b : Nat) (v : Value) (list : Int) (lim M : Nat) (fs : List (List UInt8 × List UInt8)) (c : Nat) (x : UInt8) (l : List UInt8) (B2 g : Nat) (gv : Value) (out : List (List UInt8 × List UInt8)) (w : World) (h : NS w B d b v list lim M fs c (x :: l) B2 g gv out) (hrd : ∀ n k, Pm.rd (Hp.kind x).2 (x :: l) ≠ .ok n k) :
    Calls Tryz.prog 48 #[.pointer (some ⟨d, 0, none⟩), .pointer (some ⟨c, 0, none⟩), .pointer (some ⟨g, 0, none⟩)] w fun e w' => e = .returned (.int .i64 (Hp.rErr (Pm.rd (Hp.kind x).2 (x :: l)) : Int)) ∧ Fr (· = c) w w' := by
  obtain ⟨er, her⟩ : ∃ er, Hp.rErr (Pm.rd (Hp.kind x).2 (x :: l)) = er := ⟨_, rfl⟩
  obtain ⟨K, hK⟩ : ∃ K, hiOf x = K := ⟨_, rfl⟩
  have hpos := (Hp.rErr_le _ hrd).1
  rw [her] at hpos ⊢
  have HK := hid' hK
  have HER := hid' her
  have he1 : ((er : Int) == 0) = false := beq_false_of_ne (by omega)
  have he2 : (er == 0) = false := beq_false_of_ne (by omega)
  clear hK her hpos
  obtain ⟨bits, hbits⟩ : ∃ bits, (Hp.kind x).2 = bits := ⟨_, rfl⟩
  have h12 := (kind_hi x).2.2.2
  rw [hbits] at hrd h12
  obtain ⟨s, hs⟩ : ∃ s : ByteArray, s = ⟨(x :: l).toArray⟩ := ⟨_, rfl⟩
  have c0 : w.cell? ⟨c, 0, none⟩ = some (.string s) := by rw [hs]; exact h.cur.cell 0 _ rfl
  obtain ⟨hs0, hx⟩ : ∃ hh : 0 < s.size, s[0] = x := by subst hs; exact ⟨by simp [ByteArray.size], rfl⟩
  have H := hid' h
  have HBI := hid' hbits
  have HRD := hid' hrd
  have H12 := hid' h12
  clear h hrd hbits h12 hs
  go_enter Tryz.func48, Tryz.ntmps48
  go_wp2_with fail
  refine (split_at x x.toNat rfl K bits HK.out HBI.out _).mono ?_
  rintro e w1 ⟨rfl, rfl⟩
  clear c0 hs0 hx
  go_wp2_with fail
  refine (number_at (x :: l) bits H12.out.1 H12.out.2 0 0 er ⟨by rw [← HBI.out]; exact HER.out, .inr ⟨HRD.out, rfl, rfl⟩⟩ c _ H.out.cur).mono ?_
  rintro e w2 ⟨rfl, h2, hf2⟩
  have HF := hid' hf2
  clear h2 hf2
  go_wp2
  go_ret
  exact ⟨rfl, HF.out⟩

set_option maxHeartbeats 2000000 in
set_option maxRecDepth 20000 in
theorem next_upno (B d b : Nat) (v : Value) (list : Int) (lim M : Nat) (fs : List (List UInt8 × List UInt8)) (c : Nat) (x : UInt8) (l : List UInt8) (B2 g : Nat) (gv : Value) (out : List (List UInt8 × List UInt8)) (w : World) (h : NS w B d b v list lim M fs c (x :: l) B2 g gv out) (n k : Nat) (hrd : Pm.rd (Hp.kind x).2 (x :: l) = .ok n k) (hu : (Hp.kind x).1 = 2) (hno : out ≠ [] ∨ lim < n) :
    Calls Tryz.prog 48 #[.pointer (some ⟨d, 0, none⟩), .pointer (some ⟨c, 0, none⟩), .pointer (some ⟨g, 0, none⟩)] w fun e w' => e = .returned (.int .i64 60) ∧ Fr (· = c) w w' := by
  have hK : hiOf x = 32 := (kind_hi x).2.1.1 hu
  have HK := hid' hK
  clear hK hu
  have HNO := hid' hno
  clear hno
  obtain ⟨bits, hbits⟩ : ∃ bits, (Hp.kind x).2 = bits := ⟨_, rfl⟩
  have h12 := (kind_hi x).2.2.2
  rw [hbits] at hrd h12
  obtain ⟨s, hs⟩ : ∃ s : ByteArray, s = ⟨(x :: l).toArray⟩ := ⟨_, rfl⟩
  have c0 : w.cell? ⟨c, 0, none⟩ = some (.string s) := by rw [hs]; exact h.cur.cell 0 _ rfl
  obtain ⟨hs0, hx⟩ : ∃ hh : 0 < s.size, s[0] = x := by subst hs; exact ⟨by simp [ByteArray.size], rfl⟩
  have H := hid' h
  have HBI := hid' hbits
  have HRD := hid' hrd
  have H12 := hid' h12
  clear h hrd hbits h12 hs
  go_enter Tryz.func48, Tryz.ntmps48
  go_wp2_with fail
  refine (split_at x x.toNat rfl 32 bits HK.out HBI.out _).mono ?_
  rintro e w1 ⟨rfl, rfl⟩
  clear c0 hs0 hx
  go_wp2_with fail
  refine (number_at (x :: l) bits H12.out.1 H12.out.2 n k 0 ⟨by rw [HRD.out]; rfl, .inl HRD.out⟩ c _ H.out.cur).mono ?_
  rintro e w2 ⟨rfl, hc2, hf2⟩
  have H2 := hid' (H.out.ofCur hc2 hf2)
  have HF2 := hid' hf2
  clear hc2 hf2
  obtain ⟨late, hlate⟩ : ∃ late, decide (0 < (Tb.size out : Int)) = late := ⟨_, rfl⟩
  have HLATE := hid' hlate
  clear hlate
  go_wp2_with fail
  refine (any_at B2 g gv (Tb.size out : Int) list _ _ late HLATE.out _ H2.out.ga).mono ?_
  rintro e w3 ⟨rfl, rfl⟩
  go_wp2_with fail
  refine (update_no d lim n late _ (H2.out.cd.obj.cell 2 _ rfl) (late_or HLATE.out HNO.out)).mono ?_
  rintro e w3 ⟨rfl, rfl⟩
  go_wp2
  go_ret
  exact ⟨rfl, HF2.out⟩

set_option maxHeartbeats 2000000 in
set_option maxRecDepth 20000 in
theorem next_upyes (B d b : Nat) (v : Value) (list : Int) (lim M : Nat) (fs : List (List UInt8 × List UInt8)) (c : Nat) (x : UInt8) (l : List UInt8) (B2 g : Nat) (gv : Value) (out : List (List UInt8 × List UInt8)) (w : World) (h : NS w B d b v list lim M fs c (x :: l) B2 g gv out) (n k : Nat) (hrd : Pm.rd (Hp.kind x).2 (x :: l) = .ok n k) (hu : (Hp.kind x).1 = 2) (hno : out = []) (hn : n ≤ lim) (hlim : lim ≤ 65536) (hsz : Tb.size fs ≤ 1048576) :
    Calls Tryz.prog 48 #[.pointer (some ⟨d, 0, none⟩), .pointer (some ⟨c, 0, none⟩), .pointer (some ⟨g, 0, none⟩)] w fun e w' => e = .returned (.int .i64 0) ∧ ∃ v', NS w' B d b v' list lim n (Tb.shr n fs) c ((x :: l).drop k) B2 g gv out ∧ (∀ k, v'.ownBlock = some k → v.ownBlock = some k) ∧ Fr (NSet c g b gv v) w w' := by
  have hK : hiOf x = 32 := (kind_hi x).2.1.1 hu
  have HK := hid' hK
  clear hK hu
  have HNO := hid' hno
  have HN := hid' hn
  have HLIM := hid' hlim
  have HSZ := hid' hsz
  clear hno hn hlim hsz
  obtain ⟨bits, hbits⟩ : ∃ bits, (Hp.kind x).2 = bits := ⟨_, rfl⟩
  have h12 := (kind_hi x).2.2.2
  rw [hbits] at hrd h12
  obtain ⟨s, hs⟩ : ∃ s : ByteArray, s = ⟨(x :: l).toArray⟩ := ⟨_, rfl⟩
  have c0 : w.cell? ⟨c, 0, none⟩ = some (.string s) := by rw [hs]; exact h.cur.cell 0 _ rfl
  obtain ⟨hs0, hx⟩ : ∃ hh : 0 < s.size, s[0] = x := by subst hs; exact ⟨by simp [ByteArray.size], rfl⟩
  have H := hid' h
  have HBI := hid' hbits
  have HRD := hid' hrd
  have H12 := hid' h12
  clear h hrd hbits h12 hs
  go_enter Tryz.func48, Tryz.ntmps48
  go_wp2_with fail
  refine (split_at x x.toNat rfl 32 bits HK.out HBI.out _).mono ?_
  rintro e w1 ⟨rfl, rfl⟩
  clear c0 hs0 hx
  go_wp2_with fail
  refine (number_at (x :: l) bits H12.out.1 H12.out.2 n k 0 ⟨by rw [HRD.out]; rfl, .inl HRD.out⟩ c _ H.out.cur).mono ?_
  rintro e w2 ⟨rfl, hc2, hf2⟩
  have H2 := hid' (H.out.ofCur hc2 hf2)
  have HF2 := hid' hf2
  clear hc2 hf2
  go_wp2_with fail
  refine (any_at B2 g gv (Tb.size out : Int) list _ _ false (by rw [HNO.out]; rfl) _ H2.out.ga).mono ?_
  rintro e w3 ⟨rfl, rfl⟩
  go_wp2_with fail
  refine (update_yes B d b v list lim M fs n _ H2.out.cd HN.out HLIM.out HSZ.out).mono ?_
  rintro e w3 ⟨rfl, v', hC, hv, hT⟩
  have H3 := hid' (H2.out.ofTab hC.tab hT (fun k hk => .inl (hv k hk)))
  have HV := hid' hv
  have HF3 : Hid (Fr (NSet c g b gv v) _ w3) := hid' ((HF2.out.mono (fun k hk => .inl hk)).and (Fr.of_two hT (.inr (.inr (.inr (.inl rfl)))) (fun k hk => .inr (.inr (.inr (.inr hk))))))
  clear hC hv hT
  go_wp2
  go_ret
  exact ⟨rfl, v', H3.out, HV.out, HF3.out⟩

set_option maxHeartbeats 2000000 in
set_option maxRecDepth 20000 in
theorem next_want (B d b : Nat) (v : Value) (list : Int) (lim M : Nat) (fs : List (List UInt8 × List UInt8)) (c : Nat) (x : UInt8) (l : List UInt8) (B2 g : Nat) (gv : Value) (out : List (List UInt8 × List UInt8)) (w : World) (h : NS w B d b v list lim M fs c (x :: l) B2 g gv out) (n k : Nat) (hrd : Pm.rd (Hp.kind x).2 (x :: l) = .ok n k) (hu : (Hp.kind x).1 ≠ 2) (hw : lim < M) :
    Calls Tryz.prog 48 #[.pointer (some ⟨d, 0, none⟩), .pointer (some ⟨c, 0, none⟩), .pointer (some ⟨g, 0, none⟩)] w fun e w' => e = .returned (.int .i64 60) ∧ Fr (· = c) w w' := by
  obtain ⟨K, hK⟩ : ∃ K, hiOf x = K := ⟨_, rfl⟩
  have hK32 : ((K : Int) == 32) = false := beq_false_of_ne (fun e => hu ((kind_hi x).2.1.2 (by omega)))
  have HK := hid' hK
  clear hK hu
  have HW := hid' hw
  clear hw
  obtain ⟨bits, hbits⟩ : ∃ bits, (Hp.kind x).2 = bits := ⟨_, rfl⟩
  have h12 := (kind_hi x).2.2.2
  rw [hbits] at hrd h12
  obtain ⟨s, hs⟩ : ∃ s : ByteArray, s = ⟨(x :: l).toArray⟩ := ⟨_, rfl⟩
  have c0 : w.cell? ⟨c, 0, none⟩ = some (.string s) := by rw [hs]; exact h.cur.cell 0 _ rfl
  obtain ⟨hs0, hx⟩ : ∃ hh : 0 < s.size, s[0] = x := by subst hs; exact ⟨by simp [ByteArray.size], rfl⟩
  have H := hid' h
  have HBI := hid' hbits
  have HRD := hid' hrd
  have H12 := hid' h12
  clear h hrd hbits h12 hs
  go_enter Tryz.func48, Tryz.ntmps48
  go_wp2_with fail
  refine (split_at x x.toNat rfl K bits HK.out HBI.out _).mono ?_
  rintro e w1 ⟨rfl, rfl⟩
  clear c0 hs0 hx
  go_wp2_with fail
  refine (number_at (x :: l) bits H12.out.1 H12.out.2 n k 0 ⟨by rw [HRD.out]; rfl, .inl HRD.out⟩ c _ H.out.cur).mono ?_
  rintro e w2 ⟨rfl, hc2, hf2⟩
  have H2 := hid' (H.out.ofCur hc2 hf2)
  have HF2 := hid' hf2
  clear hc2 hf2
  have c0 := H2.out.cd.obj.cell 0 _ rfl
  have c2 := H2.out.cd.obj.cell 2 _ rfl
  have hd1 : decide ((lim : Int) < (M : Int)) = true := decide_eq_true (by have := HW.out; omega)
  have hd2 : decide (lim < M) = true := decide_eq_true (by have := HW.out; omega)
  go_wp2
  go_quiet ((go_at_call 36; exact Calls.quiet_of_same (eroom_at B b v M fs d _ c0 (CT.drewN H2.out.cd.tab _))))
  clear c0 c2
  go_wp2
  go_ret
  exact ⟨rfl, HF2.out.drewN _⟩

set_option maxHeartbeats 2000000 in
set_option maxRecDepth 20000 in
theorem next_fer (B d b : Nat) (v : Value) (list : Int) (lim M : Nat) (fs : List (List UInt8 × List UInt8)) (c : Nat) (x : UInt8) (l : List UInt8) (B2 g : Nat) (gv : Value) (out : List (List UInt8 × List UInt8)) (w : World) (h : NS w B d b v list lim M fs c (x :: l) B2 g gv out) (n k : Nat) (hrd : Pm.rd (Hp.kind x).2 (x :: l) = .ok n k) (hu : (Hp.kind x).1 ≠ 2) (hw : M ≤ lim) (hsz : Tb.size fs ≤ 1048576) (hl : l.length ≤ 281474976710655) (er : Nat) (hfd : Hp.field Hp.rs fs (Hp.kind x).1 n ((x :: l).drop k) = .err er) :
    Calls Tryz.prog 48 #[.pointer (some ⟨d, 0, none⟩), .pointer (some ⟨c, 0, none⟩), .pointer (some ⟨g, 0, none⟩)] w fun e w' => e = .returned (.int .i64 (er : Int)) ∧ Fr (· = c) w w' := by
  obtain ⟨K, hK⟩ : ∃ K, hiOf x = K := ⟨_, rfl⟩
  have hK32 : ((K : Int) == 32) = false := beq_false_of_ne (fun e => hu ((kind_hi x).2.1.2 (by omega)))
  have HK := hid' hK
  clear hK hu
  have HW := hid' hw
  clear hw
  have hpos := (Hp.field_err hfd).1
  have he1 : ((er : Int) == 0) = false := beq_false_of_ne (by omega)
  have he2 : (er == 0) = false := beq_false_of_ne (by omega)
  clear hpos
  have HSZ := hid' hsz
  have HL : Hid (((x :: l).drop k).length ≤ 281474976710656) := hid' (by rw [List.length_drop, List.length_cons]; omega)
  have HFD := hid' hfd
  have hkx := (kind_hi x).2.2.2.2
  have HNN : Hid (n ≤ 2147483647) := hid' (Pm.rd_le _ n k hkx _ hrd).2.2.2
  clear hsz hl hfd hkx
  obtain ⟨bits, hbits⟩ : ∃ bits, (Hp.kind x).2 = bits := ⟨_, rfl⟩
  have h12 := (kind_hi x).2.2.2
  rw [hbits] at hrd h12
  obtain ⟨s, hs⟩ : ∃ s : ByteArray, s = ⟨(x :: l).toArray⟩ := ⟨_, rfl⟩
  have c0 : w.cell? ⟨c, 0, none⟩ = some (.string s) := by rw [hs]; exact h.cur.cell 0 _ rfl
  obtain ⟨hs0, hx⟩ : ∃ hh : 0 < s.size, s[0] = x := by subst hs; exact ⟨by simp [ByteArray.size], rfl⟩
  have H := hid' h
  have HBI := hid' hbits
  have HRD := hid' hrd
  have H12 := hid' h12
  clear h hrd hbits h12 hs
  go_enter Tryz.func48, Tryz.ntmps48
  go_wp2_with fail
  refine (split_at x x.toNat rfl K bits HK.out HBI.out _).mono ?_
  rintro e w1 ⟨rfl, rfl⟩
  clear c0 hs0 hx
  go_wp2_with fail
  refine (number_at (x :: l) bits H12.out.1 H12.out.2 n k 0 ⟨by rw [HRD.out]; rfl, .inl HRD.out⟩ c _ H.out.cur).mono ?_
  rintro e w2 ⟨rfl, hc2, hf2⟩
  have H2 := hid' (H.out.ofCur hc2 hf2)
  have HF2 := hid' hf2
  clear hc2 hf2
  have c0 := H2.out.cd.obj.cell 0 _ rfl
  have c2 := H2.out.cd.obj.cell 2 _ rfl
  have hd1 : decide ((lim : Int) < (M : Int)) = false := decide_eq_false (by have := HW.out; omega)
  have hd2 : decide (lim < M) = false := decide_eq_false (by have := HW.out; omega)
  go_wp2
  go_quiet ((go_at_call 36; exact Calls.quiet_of_same (eroom_at B b v M fs d _ c0 (CT.drewN H2.out.cd.tab _))))
  clear c0 c2
  go_wp2_with fail
  refine (field_k_er B d b v list lim M fs x K HK.out n c HNN.out ((x :: l).drop k) er _ (H2.out.drewN _).cd HSZ.out HL.out (H2.out.drewN _).cur HFD.out).mono ?_
  rintro e w3 ⟨rfl, hf3⟩
  have HF3 := hid' ((HF2.out.drewN _).and hf3)
  clear hf3
  go_wp2
  go_ret
  exact ⟨rfl, HF3.out.and (Fr.of_below ((Below.refl _ _).alloc (Nat.le_refl _) _))⟩

set_option maxHeartbeats 2000000 in
set_option maxRecDepth 20000 in
theorem next_plain (B d b : Nat) (v : Value) (list : Int) (lim M : Nat) (fs : List (List UInt8 × List UInt8)) (c : Nat) (x : UInt8) (l : List UInt8) (B2 g : Nat) (gv : Value) (out : List (List UInt8 × List UInt8)) (w : World) (h : NS w B d b v list lim M fs c (x :: l) B2 g gv out) (n k : Nat) (hrd : Pm.rd (Hp.kind x).2 (x :: l) = .ok n k) (hu : (Hp.kind x).1 ≠ 2) (hw : M ≤ lim) (hsz : Tb.size fs ≤ 1048576) (hl : l.length ≤ 281474976710655) (hu1 : (Hp.kind x).1 ≠ 1) (f1 f2 r : List UInt8) (hfd : Hp.field Hp.rs fs (Hp.kind x).1 n ((x :: l).drop k) = .ok (f1, f2) r) (hM : M ≤ 65536) (hB : B ≤ w.heap.size) (hB2 : B2 ≤ w.heap.size) (h1 : f1.length ≤ 140737488355328) (h2 : f2.length ≤ 140737488355328) (hsum : Tb.size out + Tb.wt (f1, f2) ≤ 140737488355328) :
    Calls Tryz.prog 48 #[.pointer (some ⟨d, 0, none⟩), .pointer (some ⟨c, 0, none⟩), .pointer (some ⟨g, 0, none⟩)] w fun e w' => e = .returned (.int .i64 0) ∧ ∃ v' gv', NS w' B d b v' list lim M (fs) c r B2 g gv' (out ++ [(f1, f2)]) ∧ (∀ k, v'.ownBlock = some k → v.ownBlock = some k ∨ w.heap.size ≤ k) ∧ (∀ k, gv'.ownBlock = some k → gv.ownBlock = some k ∨ w.heap.size ≤ k) ∧ Fr (NSet c g b gv v) w w' := by
  obtain ⟨K, hK⟩ : ∃ K, hiOf x = K := ⟨_, rfl⟩
  have hK32 : ((K : Int) == 32) = false := beq_false_of_ne (fun e => hu ((kind_hi x).2.1.2 (by omega)))
  have hK64 : ((K : Int) == 64) = false := beq_false_of_ne (fun e => hu1 ((kind_hi x).2.2.1.2 (by omega)))
  have HK := hid' hK
  clear hK hu hu1
  have HW := hid' hw
  have HM := hid' hM
  have HB1 := hid' hB
  have HB2 := hid' hB2
  have HN1 := hid' h1
  have HN2 := hid' h2
  have HSUM := hid' hsum
  have hcw := h.cur.lt
  clear hw hM hB hB2 h1 h2 hsum
  have HSZ := hid' hsz
  have HL : Hid (((x :: l).drop k).length ≤ 281474976710656) := hid' (by rw [List.length_drop, List.length_cons]; omega)
  have HFD := hid' hfd
  have hkx := (kind_hi x).2.2.2.2
  have HNN : Hid (n ≤ 2147483647) := hid' (Pm.rd_le _ n k hkx _ hrd).2.2.2
  clear hsz hl hfd hkx
  obtain ⟨bits, hbits⟩ : ∃ bits, (Hp.kind x).2 = bits := ⟨_, rfl⟩
  have h12 := (kind_hi x).2.2.2
  rw [hbits] at hrd h12
  obtain ⟨s, hs⟩ : ∃ s : ByteArray, s = ⟨(x :: l).toArray⟩ := ⟨_, rfl⟩
  have c0 : w.cell? ⟨c, 0, none⟩ = some (.string s) := by rw [hs]; exact h.cur.cell 0 _ rfl
  obtain ⟨hs0, hx⟩ : ∃ hh : 0 < s.size, s[0] = x := by subst hs; exact ⟨by simp [ByteArray.size], rfl⟩
  have H := hid' h
  have HBI := hid' hbits
  have HRD := hid' hrd
  have H12 := hid' h12
  clear h hrd hbits h12 hs
  go_enter Tryz.func48, Tryz.ntmps48
  go_wp2_with fail
  refine (split_at x x.toNat rfl K bits HK.out HBI.out _).mono ?_
  rintro e w1 ⟨rfl, rfl⟩
  clear c0 hs0 hx
  go_wp2_with fail
  refine (number_at (x :: l) bits H12.out.1 H12.out.2 n k 0 ⟨by rw [HRD.out]; rfl, .inl HRD.out⟩ c _ H.out.cur).mono ?_
  rintro e w2 ⟨rfl, hc2, hf2⟩
  have H2 := hid' (H.out.ofCur hc2 hf2)
  have HF2 := hid' hf2
  clear hc2 hf2
  have c0 := H2.out.cd.obj.cell 0 _ rfl
  have c2 := H2.out.cd.obj.cell 2 _ rfl
  have hd1 : decide ((lim : Int) < (M : Int)) = false := decide_eq_false (by have := HW.out; omega)
  have hd2 : decide (lim < M) = false := decide_eq_false (by have := HW.out; omega)
  go_wp2
  go_quiet ((go_at_call 36; exact Calls.quiet_of_same (eroom_at B b v M fs d _ c0 (CT.drewN H2.out.cd.tab _))))
  clear c0 c2
  go_wp2_with fail
  refine (field_k_ok B d b v list lim M fs x K HK.out n c ((x :: l).drop k) f1 f2 r _ (H2.out.drewN _).cd HSZ.out HL.out (H2.out.drewN _).cur HFD.out).mono ?_
  rintro e w3 ⟨rfl, hc3, hf3⟩
  have hb4 : Below w3.heap.size w3 (w3.alloc (.cells #[.string ⟨f1.toArray⟩, .string ⟨f2.toArray⟩] 54)) := (Below.refl _ _).alloc (Nat.le_refl _) _
  have H4 := hid' (((H2.out.drewN _).ofCur hc3 hf3).keep hb4)
  have HF4 := hid' (((HF2.out.drewN _).and hf3).and (Fr.of_below hb4))
  have hA4 : Ar (w3.alloc (.cells #[.string ⟨f1.toArray⟩, .string ⟨f2.toArray⟩] 54)) w3.heap.size 54 #[.string ⟨f1.toArray⟩, .string ⟨f2.toArray⟩] := heap_alloc_last w3 _
  have hb3 : w1.heap.size ≤ w3.heap.size := ((HF2.out.drewN _).and hf3).size
  have HA4 := hid' hA4
  have HB3 := hid' hb3
  clear hc3 hf3 hb4 hA4 hb3
  go_wp2_with fail
  have hlv := H4.out.cd.tab.ring.row.lt
  have hlg := (RG.row H4.out.ga).lt
  have hv3 : ∀ k, v.ownBlock = some k → k ≠ w3.heap.size := fun k hk => by have := (H.out.cd.tab.ring.row.lt k hk).2; have := HB3.out; omega
  have hg3 : ∀ k, gv.ownBlock = some k → k ≠ w3.heap.size := fun k hk => by have := ((RG.row H.out.ga).lt k hk).2; have := HB3.out; omega
  have hbf : w3.heap.size ≠ b := fun e => by have := H.out.cd.tab.ring.obj.lt; have := HB3.out; omega
  have hgf : w3.heap.size ≠ g := fun e => by have := (RG.obj H.out.ga).lt; have := HB3.out; omega
  have HV3 := hid' hv3
  have HG3 := hid' hg3
  have HBF := hid' hbf
  clear hlv hlg hv3 hg3 hbf hgf hcw
  obtain ⟨fb, hfb⟩ : ∃ fb, w3.heap.size = fb := ⟨_, rfl⟩
  have HFB := hid' hfb
  rw [hfb] at HV3 HG3 HBF HA4 ⊢
  clear hfb
  generalize (w3.alloc (.cells #[.string ⟨f1.toArray⟩, .string ⟨f2.toArray⟩] 54)) = w4 at *
  have x0 := HA4.out.cell 0 _ rfl
  have x1 := HA4.out.cell 1 _ rfl
  have hsz4 : w1.heap.size ≤ w4.heap.size := HF4.out.size
  have HSZ4 := hid' hsz4
  clear hsz4
  refine (take_ga B2 g gv list out f1 f2 HSUM.out _ H4.out.ga (Nat.le_trans HB2.out HSZ4.out)).mono ?_
  rintro e w6 ⟨rfl, gv', hG6, hgv6, hT6⟩
  have HX6 : Hid (GA w6 B2 g gv' list (out ++ [(f1, f2)]) ∧ (∀ k, gv'.ownBlock = some k → gv.ownBlock = some k ∨ w4.heap.size ≤ k) ∧ Two g gv.ownBlock w4 w6) := hid' ⟨hG6, hgv6, hT6⟩
  clear hG6 hgv6 hT6
  go_wp2
  go_ret
  exact ⟨rfl, v, gv', H4.out.ofGa HX6.out.1 HX6.out.2.2 HX6.out.2.1, fun k hk => .inl hk, fun k hk => (HX6.out.2.1 k hk).imp id (fun h => Nat.le_trans HSZ4.out h), (HF4.out.mono (fun k hk => .inl hk)).and (Fr.of_two HX6.out.2.2 (.inr (.inl rfl)) (fun k hk => .inr (.inr (.inl hk))))⟩

set_option maxHeartbeats 2000000 in
set_option maxRecDepth 20000 in
theorem next_added (B d b : Nat) (v : Value) (list : Int) (lim M : Nat) (fs : List (List UInt8 × List UInt8)) (c : Nat) (x : UInt8) (l : List UInt8) (B2 g : Nat) (gv : Value) (out : List (List UInt8 × List UInt8)) (w : World) (h : NS w B d b v list lim M fs c (x :: l) B2 g gv out) (n k : Nat) (hrd : Pm.rd (Hp.kind x).2 (x :: l) = .ok n k) (_hu : (Hp.kind x).1 ≠ 2) (hw : M ≤ lim) (hsz : Tb.size fs ≤ 1048576) (hl : l.length ≤ 281474976710655) (hu1 : (Hp.kind x).1 = 1) (f1 f2 r : List UInt8) (hfd : Hp.field Hp.rs fs (Hp.kind x).1 n ((x :: l).drop k) = .ok (f1, f2) r) (hM : M ≤ 65536) (hB : B ≤ w.heap.size) (hB2 : B2 ≤ w.heap.size) (h1 : f1.length ≤ 140737488355328) (h2 : f2.length ≤ 140737488355328) (hsum : Tb.size out + Tb.wt (f1, f2) ≤ 140737488355328) :
    Calls Tryz.prog 48 #[.pointer (some ⟨d, 0, none⟩), .pointer (some ⟨c, 0, none⟩), .pointer (some ⟨g, 0, none⟩)] w fun e w' => e = .returned (.int .i64 0) ∧ ∃ v' gv', NS w' B d b v' list lim M (Tb.add M fs (f1, f2)) c r B2 g gv' (out ++ [(f1, f2)]) ∧ (∀ k, v'.ownBlock = some k → v.ownBlock = some k ∨ w.heap.size ≤ k) ∧ (∀ k, gv'.ownBlock = some k → gv.ownBlock = some k ∨ w.heap.size ≤ k) ∧ Fr (NSet c g b gv v) w w' := by
  have hK : hiOf x = 64 := (kind_hi x).2.2.1.1 hu1
  have HK := hid' hK
  clear hK _hu hu1
  have HW := hid' hw
  have HM := hid' hM
  have HB1 := hid' hB
  have HB2 := hid' hB2
  have HN1 := hid' h1
  have HN2 := hid' h2
  have HSUM := hid' hsum
  have hcw := h.cur.lt
  clear hw hM hB hB2 h1 h2 hsum
  have HSZ := hid' hsz
  have HL : Hid (((x :: l).drop k).length ≤ 281474976710656) := hid' (by rw [List.length_drop, List.length_cons]; omega)
  have HFD := hid' hfd
  have hkx := (kind_hi x).2.2.2.2
  have HNN : Hid (n ≤ 2147483647) := hid' (Pm.rd_le _ n k hkx _ hrd).2.2.2
  clear hsz hl hfd hkx
  obtain ⟨bits, hbits⟩ : ∃ bits, (Hp.kind x).2 = bits := ⟨_, rfl⟩
  have h12 := (kind_hi x).2.2.2
  rw [hbits] at hrd h12
  obtain ⟨s, hs⟩ : ∃ s : ByteArray, s = ⟨(x :: l).toArray⟩ := ⟨_, rfl⟩
  have c0 : w.cell? ⟨c, 0, none⟩ = some (.string s) := by rw [hs]; exact h.cur.cell 0 _ rfl
  obtain ⟨hs0, hx⟩ : ∃ hh : 0 < s.size, s[0] = x := by subst hs; exact ⟨by simp [ByteArray.size], rfl⟩
  have H := hid' h
  have HBI := hid' hbits
  have HRD := hid' hrd
  have H12 := hid' h12
  clear h hrd hbits h12 hs
  go_enter Tryz.func48, Tryz.ntmps48
  go_wp2_with fail
  refine (split_at x x.toNat rfl 64 bits HK.out HBI.out _).mono ?_
  rintro e w1 ⟨rfl, rfl⟩
  clear c0 hs0 hx
  go_wp2_with fail
  refine (number_at (x :: l) bits H12.out.1 H12.out.2 n k 0 ⟨by rw [HRD.out]; rfl, .inl HRD.out⟩ c _ H.out.cur).mono ?_
  rintro e w2 ⟨rfl, hc2, hf2⟩
  have H2 := hid' (H.out.ofCur hc2 hf2)
  have HF2 := hid' hf2
  clear hc2 hf2
  have c0 := H2.out.cd.obj.cell 0 _ rfl
  have c2 := H2.out.cd.obj.cell 2 _ rfl
  have hd1 : decide ((lim : Int) < (M : Int)) = false := decide_eq_false (by have := HW.out; omega)
  have hd2 : decide (lim < M) = false := decide_eq_false (by have := HW.out; omega)
  go_wp2
  go_quiet ((go_at_call 36; exact Calls.quiet_of_same (eroom_at B b v M fs d _ c0 (CT.drewN H2.out.cd.tab _))))
  clear c0 c2
  go_wp2_with fail
  refine (field_k_ok B d b v list lim M fs x 64 HK.out n c ((x :: l).drop k) f1 f2 r _ (H2.out.drewN _).cd HSZ.out HL.out (H2.out.drewN _).cur HFD.out).mono ?_
  rintro e w3 ⟨rfl, hc3, hf3⟩
  have hb4 : Below w3.heap.size w3 (w3.alloc (.cells #[.string ⟨f1.toArray⟩, .string ⟨f2.toArray⟩] 54)) := (Below.refl _ _).alloc (Nat.le_refl _) _
  have H4 := hid' (((H2.out.drewN _).ofCur hc3 hf3).keep hb4)
  have HF4 := hid' (((HF2.out.drewN _).and hf3).and (Fr.of_below hb4))
  have hA4 : Ar (w3.alloc (.cells #[.string ⟨f1.toArray⟩, .string ⟨f2.toArray⟩] 54)) w3.heap.size 54 #[.string ⟨f1.toArray⟩, .string ⟨f2.toArray⟩] := heap_alloc_last w3 _
  have hb3 : w1.heap.size ≤ w3.heap.size := ((HF2.out.drewN _).and hf3).size
  have HA4 := hid' hA4
  have HB3 := hid' hb3
  clear hc3 hf3 hb4 hA4 hb3
  go_wp2
  have hlv := H4.out.cd.tab.ring.row.lt
  have hlg := (RG.row H4.out.ga).lt
  have hv3 : ∀ k, v.ownBlock = some k → k ≠ w3.heap.size := fun k hk => by have := (H.out.cd.tab.ring.row.lt k hk).2; have := HB3.out; omega
  have hg3 : ∀ k, gv.ownBlock = some k → k ≠ w3.heap.size := fun k hk => by have := ((RG.row H.out.ga).lt k hk).2; have := HB3.out; omega
  have hbf : w3.heap.size ≠ b := fun e => by have := H.out.cd.tab.ring.obj.lt; have := HB3.out; omega
  have hgf : w3.heap.size ≠ g := fun e => by have := (RG.obj H.out.ga).lt; have := HB3.out; omega
  have HV3 := hid' hv3
  have HG3 := hid' hg3
  have HBF := hid' hbf
  clear hlv hlg hv3 hg3 hbf hgf hcw
  obtain ⟨fb, hfb⟩ : ∃ fb, w3.heap.size = fb := ⟨_, rfl⟩
  have HFB := hid' hfb
  rw [hfb] at HV3 HG3 HBF HA4 ⊢
  clear hfb
  generalize (w3.alloc (.cells #[.string ⟨f1.toArray⟩, .string ⟨f2.toArray⟩] 54)) = w4 at *
  have x0 := HA4.out.cell 0 _ rfl
  have x1 := HA4.out.cell 1 _ rfl
  have c0 := H4.out.cd.obj.cell 0 _ rfl
  have hsz4 : w1.heap.size ≤ w4.heap.size := HF4.out.size
  have HSZ4 := hid' hsz4
  clear hsz4
  go_region_with (go_at_call 40; refine (add_ns H4.out f1 f2 fb HA4.out HBF.out HV3.out HM.out HSZ.out (Nat.le_trans HB1.out HSZ4.out) HN1.out HN2.out).mono ?_; rintro e w5 ⟨rfl, v', y0, y1, HX5⟩)
  all_goals
    have H5 := hid' HX5.out.1
    have hsz5 : w1.heap.size ≤ w5.heap.size := Nat.le_trans HSZ4.out HX5.out.2.2.size
    have HSZ5 := hid' hsz5
    clear x0 x1 c0 hsz5
    go_wp2_with fail
    refine (take_ga B2 g gv list out f1 f2 HSUM.out _ H5.out.ga (Nat.le_trans HB2.out HSZ5.out)).mono ?_
    rintro e w6 ⟨rfl, gv', hG6, hgv6, hT6⟩
    have HX6 : Hid (GA w6 B2 g gv' list (out ++ [(f1, f2)]) ∧ (∀ k, gv'.ownBlock = some k → gv.ownBlock = some k ∨ w5.heap.size ≤ k) ∧ Two g gv.ownBlock w5 w6) := hid' ⟨hG6, hgv6, hT6⟩
    clear hG6 hgv6 hT6
    go_wp2
    go_ret
    exact ⟨rfl, v', gv', H5.out.ofGa HX6.out.1 HX6.out.2.2 HX6.out.2.1, fun k hk => (HX5.out.2.1 k hk).imp id (fun h => Nat.le_trans HSZ4.out h), fun k hk => (HX6.out.2.1 k hk).imp id (fun h => Nat.le_trans HSZ5.out h), ((HF4.out.mono (fun k hk => .inl hk)).and (Fr.of_two HX5.out.2.2 (.inr (.inr (.inr (.inl rfl)))) (fun k hk => .inr (.inr (.inr (.inr hk)))))).and (Fr.of_two HX6.out.2.2 (.inr (.inl rfl)) (fun k hk => .inr (.inr (.inl hk))))⟩

theorem next_er (B d b : Nat) (v : Value) (list : Int) (lim M : Nat) (fs : List (List UInt8 × List UInt8)) (c : Nat) (x : UInt8) (l : List UInt8) (B2 g : Nat) (gv : Value) (out : List (List UInt8 × List UInt8)) (w : World) (h : NS w B d b v list lim M fs c (x :: l) B2 g gv out) (hsz : Tb.size fs ≤ 1048576) (hl : l.length ≤ 281474976710655) (er : Nat) (hst : Hp.step Hp.rs lim ⟨M, fs, out⟩ x l = .err er) :
    Calls Tryz.prog 48 #[.pointer (some ⟨d, 0, none⟩), .pointer (some ⟨c, 0, none⟩), .pointer (some ⟨g, 0, none⟩)] w fun e w' => e = .returned (.int .i64 (er : Int)) ∧ Fr (· = c) w w' := by
  unfold Hp.step at hst
  generalize hr : Pm.rd (Hp.kind x).2 (x :: l) = r at hst
  have hbad : (∀ n k, r ≠ .ok n k) → er = Hp.rErr r → Calls Tryz.prog 48 #[.pointer (some ⟨d, 0, none⟩), .pointer (some ⟨c, 0, none⟩), .pointer (some ⟨g, 0, none⟩)] w fun e w' => e = .returned (.int .i64 (er : Int)) ∧ Fr (· = c) w w' := by
    intro hne he
    have := next_num B d b v list lim M fs c x l B2 g gv out w h (by rw [hr]; exact hne)
    rw [hr, ← he] at this
    exact this
  cases r with
  | ok n k =>
    simp only at hst
    by_cases hu : (Hp.kind x).1 = 2
    · rw [if_pos hu] at hst
      by_cases hno : out ≠ [] ∨ lim < n
      · rw [if_pos hno] at hst
        injection hst with hst
        subst hst
        exact next_upno B d b v list lim M fs c x l B2 g gv out w h n k hr hu hno
      · rw [if_neg hno] at hst
        cases hst
    · rw [if_neg hu] at hst
      by_cases hw : lim < M
      · rw [if_pos hw] at hst
        injection hst with hst
        subst hst
        exact next_want B d b v list lim M fs c x l B2 g gv out w h n k hr hu hw
      · rw [if_neg hw] at hst
        generalize hf : Hp.field Hp.rs fs (Hp.kind x).1 n ((x :: l).drop k) = q at hst
        cases q with
        | err e' =>
          simp only at hst
          injection hst with hst
          subst hst
          exact next_fer B d b v list lim M fs c x l B2 g gv out w h n k hr hu (by omega) hsz hl e' hf
        | ok f r => simp at hst
  | arg => exact hbad (by simp) (by simp only at hst; injection hst with hst; exact hst.symm)
  | short => exact hbad (by simp) (by simp only at hst; injection hst with hst; exact hst.symm)
  | number => exact hbad (by simp) (by simp only at hst; injection hst with hst; exact hst.symm)

theorem next_go (B d b : Nat) (v : Value) (list : Int) (lim M : Nat) (fs : List (List UInt8 × List UInt8)) (c : Nat) (x : UInt8) (l : List UInt8) (B2 g : Nat) (gv : Value) (out : List (List UInt8 × List UInt8)) (w : World) (h : NS w B d b v list lim M fs c (x :: l) B2 g gv out) (hlim : lim ≤ 65536) (hM : M ≤ 65536) (hsz : Tb.size fs ≤ 65536) (hl : l.length ≤ 1073741824) (hB : B ≤ w.heap.size) (hB2 : B2 ≤ w.heap.size) (hout : Tb.size out + 70000 * (l.length + 1) ≤ 140737488355328) (D' : Hp.D) (rest : List UInt8) (hst : Hp.step Hp.rs lim ⟨M, fs, out⟩ x l = .go D' rest) :
    Calls Tryz.prog 48 #[.pointer (some ⟨d, 0, none⟩), .pointer (some ⟨c, 0, none⟩), .pointer (some ⟨g, 0, none⟩)] w fun e w' => e = .returned (.int .i64 0) ∧ ∃ v' gv', NS w' B d b v' list lim D'.room D'.fs c rest B2 g gv' D'.out ∧ (∀ k, v'.ownBlock = some k → v.ownBlock = some k ∨ w.heap.size ≤ k) ∧ (∀ k, gv'.ownBlock = some k → gv.ownBlock = some k ∨ w.heap.size ≤ k) ∧ Fr (NSet c g b gv v) w w' := by
  unfold Hp.step at hst
  generalize hr : Pm.rd (Hp.kind x).2 (x :: l) = r at hst
  cases r with
  | ok n k =>
    simp only at hst
    have hk := Pm.rd_le _ n k (kind_hi x).2.2.2.2 _ hr
    by_cases hu : (Hp.kind x).1 = 2
    · rw [if_pos hu] at hst
      by_cases hno : out ≠ [] ∨ lim < n
      · rw [if_pos hno] at hst
        cases hst
      · rw [if_neg hno] at hst
        injection hst with h1 h2
        subst h1 h2
        have ho : out = [] := by
          by_cases e : out = []
          · exact e
          · exact absurd (.inl e) hno
        have hn : n ≤ lim := by
          by_cases e : n ≤ lim
          · exact e
          · exact absurd (.inr (by omega)) hno
        refine (next_upyes B d b v list lim M fs c x l B2 g gv out w h n k hr hu ho hn hlim (by omega)).mono ?_
        rintro e w' ⟨rfl, v', hN, hv, hF⟩
        exact ⟨rfl, v', gv, hN, fun k hk => .inl (hv k hk), fun k hk => .inl hk, hF⟩
    · rw [if_neg hu] at hst
      by_cases hw : lim < M
      · rw [if_pos hw] at hst
        cases hst
      · rw [if_neg hw] at hst
        generalize hf : Hp.field Hp.rs fs (Hp.kind x).1 n ((x :: l).drop k) = q at hst
        cases q with
        | err e' => simp at hst
        | ok f r =>
          obtain ⟨f1, f2⟩ := f
          simp only at hst
          injection hst with h1 h2
          subst h1 h2
          have hw2 := Hp.field_ok2 hf
          rw [List.length_drop, List.length_cons] at hw2
          have hwt : Tb.wt (f1, f2) = 32 + f1.length + f2.length := rfl
          have hsum : Tb.size out + Tb.wt (f1, f2) ≤ 140737488355328 := by omega
          by_cases h1 : (Hp.kind x).1 = 1
          · simp only [h1, if_true]
            exact next_added B d b v list lim M fs c x l B2 g gv out w h n k hr hu (by omega) (by omega) (by omega) h1 f1 f2 r hf hM hB hB2 (by omega) (by omega) hsum
          · simp only [h1, if_false]
            exact next_plain B d b v list lim M fs c x l B2 g gv out w h n k hr hu (by omega) (by omega) (by omega) h1 f1 f2 r hf hM hB hB2 (by omega) (by omega) hsum
  | arg => simp at hst
  | short => simp at hst
  | number => simp at hst

end Go.Proofs.YtmkkhfkfjmfdcaaGreat
