/-
  The scheduler in memory: New, Add, Drop, Wake, Sleep: by their contracts.
-/
import Derived.Test.YtpgfnhfjkplmaaaSdD
import Derived.BigRegion
namespace Go.Proofs.Ytpgfnhfjkplmaaa
open Go.RowKit

/-- The code's scheduler in memory. -/
structure SM (w : World) (B b : Nat) (v u : Value) (ts : List (Int × Bool)) : Prop where
  ge : B ≤ b
  obj : Ar w b 46 #[v, u]
  asl : w.ownsRow B 3 1 v (Sd.row false ts).length (nmC (Sd.row false ts))
  rdy : w.ownsRow B 3 1 u (Sd.row true ts).length (nmC (Sd.row true ts))
  ap : ∀ k, v.ownBlock = some k → u.ownBlock ≠ some k
  ok : Sd.Ok ts
  le : ts.length ≤ 4096
/-- Its blocks. -/
def SS (b : Nat) (v u : Value) (k : Nat) : Prop := k = b ∨ v.ownBlock = some k ∨ u.ownBlock = some k
theorem SM.lb {w : World} {B b : Nat} {v u : Value} {ts : List (Int × Bool)} (h : SM w B b v u ts) : B ≤ w.heap.size := Nat.le_trans h.ge (Nat.le_of_lt h.obj.lt)
theorem SM.ss {w : World} {B b : Nat} {v u : Value} {ts : List (Int × Bool)} (h : SM w B b v u ts) : ∀ k, SS b v u k → B ≤ k ∧ k < w.heap.size := by
  rintro k (rfl | hk | hk)
  · exact ⟨h.ge, h.obj.lt⟩
  · exact ⟨(own_ty h.asl k hk).1, own_lt h.asl k hk⟩
  · exact ⟨(own_ty h.rdy k hk).1, own_lt h.rdy k hk⟩
theorem SM.other {S : Nat → Prop} {w w' : World} {B b : Nat} {v u : Value} {ts : List (Int × Bool)} (h : SM w B b v u ts) (hf : LF S w w') (hs : ∀ k, SS b v u k → ¬ S k) : SM w' B b v u ts :=
  ⟨h.ge, hf.ar h.obj (hs b (.inl rfl)), own_same h.asl (fun k hk => hf.block k (own_lt h.asl k hk) (hs k (.inr (.inl hk)))), own_same h.rdy (fun k hk => hf.block k (own_lt h.rdy k hk) (hs k (.inr (.inr hk)))), h.ap, h.ok, h.le⟩
theorem SM.keep {w w' : World} {B b : Nat} {v u : Value} {ts : List (Int × Bool)} (h : SM w B b v u ts) (hb : Below w.heap.size w w') : SM w' B b v u ts :=
  h.other (LF.of_below (S := fun _ => False) hb) (fun _ _ => id)
theorem SM.drewN {w : World} {B b : Nat} {v u : Value} {ts : List (Int × Bool)} (h : SM w B b v u ts) (q : Nat) : SM (w.drewN q) B b v u ts := h.keep ⟨rfl, rfl, rfl, Nat.le_refl _, fun _ _ => rfl⟩
theorem SM.len {w : World} {B b : Nat} {v u : Value} {ts : List (Int × Bool)} (h : SM w B b v u ts) (c : Bool) : (Sd.row c ts).length ≤ 4096 := by
  have h1 := Sd.row_len ts
  have h2 := h.le
  cases c <;> omega
/-- Its rows by name. -/
def rowOf (c : Bool) (v u : Value) : Value := if c then u else v
/-- What becomes of it. -/
def NewB (w : World) (b : Nat) (v u v' u' : Value) : Prop := ∀ k, SS b v' u' k → SS b v u k ∨ w.heap.size ≤ k

/-- What Add, Drop, Wake and Sleep answer, and what becomes of the tasks. -/
def AddOf (ts : List (Int × Bool)) (x : Int) (c : Int) (ts' : List (Int × Bool)) : Prop :=
  (c = 1 ∧ (x < 0 ∨ x ∈ Sd.ids ts) ∧ ts' = ts) ∨ (c = 4 ∧ (0 ≤ x ∧ x ∉ Sd.ids ts ∧ 4096 ≤ ts.length) ∧ ts' = ts) ∨ (c = 0 ∧ (0 ≤ x ∧ x ∉ Sd.ids ts ∧ ts.length < 4096) ∧ ts' = Sd.tadd x ts)
def DropOf (ts : List (Int × Bool)) (x : Int) (t : Bool) (ts' : List (Int × Bool)) : Prop :=
  (t = true ∧ (∃ c, (x, c) ∈ ts) ∧ ts' = Sd.tdrop x ts) ∨ (t = false ∧ x ∉ Sd.ids ts ∧ ts' = ts)
def SetOf (c : Bool) (ts : List (Int × Bool)) (x : Int) (t : Bool) (ts' : List (Int × Bool)) : Prop :=
  (t = true ∧ (x, !c) ∈ ts ∧ ts' = Sd.tset x c ts) ∨ (t = false ∧ (x, !c) ∉ ts ∧ ts' = ts)
theorem addOf_ex (ts : List (Int × Bool)) (x : Int) : ∃ c ts', AddOf ts x c ts' := by
  by_cases h1 : x < 0 ∨ x ∈ Sd.ids ts
  · exact ⟨1, ts, .inl ⟨rfl, h1, rfl⟩⟩
  · have h2 : 0 ≤ x ∧ x ∉ Sd.ids ts := ⟨by omega, fun h => h1 (.inr h)⟩
    by_cases h3 : 4096 ≤ ts.length
    · exact ⟨4, ts, .inr (.inl ⟨rfl, ⟨h2.1, h2.2, h3⟩, rfl⟩)⟩
    · exact ⟨0, _, .inr (.inr ⟨rfl, ⟨h2.1, h2.2, by omega⟩, rfl⟩)⟩
theorem dropOf_ex (ts : List (Int × Bool)) (x : Int) : ∃ t ts', DropOf ts x t ts' := by
  by_cases h : x ∈ Sd.ids ts
  · refine ⟨true, _, .inl ⟨rfl, ?_, rfl⟩⟩
    rw [Sd.ids_mem, Sd.row_mem, Sd.row_mem] at h
    rcases h with h | h
    · exact ⟨_, h⟩
    · exact ⟨_, h⟩
  · exact ⟨false, _, .inr ⟨rfl, h, rfl⟩⟩
theorem setOf_ex (c : Bool) (ts : List (Int × Bool)) (x : Int) : ∃ t ts', SetOf c ts x t ts' := by
  by_cases h : (x, !c) ∈ ts
  · exact ⟨true, _, .inl ⟨rfl, h, rfl⟩⟩
  · exact ⟨false, _, .inr ⟨rfl, h, rfl⟩⟩

theorem snew (w : World) : Calls Try.prog 6 #[] w fun e w' => (∃ b, e = .returned (.pointer (some ⟨b, 0, none⟩)) ∧ SM w' w.heap.size b (.slice none 0 0) (.slice none 0 0) []) ∧ Below w.heap.size w w' := by
  go_enter Try.func6, Try.ntmps6
  go_wp2
  go_ret
  exact ⟨⟨_, rfl, Nat.le_refl _, heap_alloc_last w _, World.ownsRow_nil _ _ _ _, World.ownsRow_nil _ _ _ _, fun k hk => by simp [Value.ownBlock] at hk, List.Pairwise.nil, by simp⟩, (Below.refl _ _).alloc (Nat.le_refl _) _⟩

set_option maxHeartbeats 2000000 in
set_option maxRecDepth 20000 in
theorem sadd_arg (B b : Nat) (v u : Value) (ts : List (Int × Bool)) (x : Int) (w : World) (h : SM w B b v u ts) (hx : x < 0 ∨ x ∈ Sd.ids ts) :
    Calls Try.prog 7 #[.pointer (some ⟨b, 0, none⟩), .int .i64 x] w fun e w' => e = .returned (.int .i64 1) ∧ w' = w := by
  by_cases h0 : x < 0
  · clear hx h
    go_enter Try.func7, Try.ntmps7
    go_wp2
    go_ret
    exact ⟨rfl, rfl⟩
  · have h1 : 0 ≤ x := by omega
    have c0 := h.obj.cell 0 _ rfl
    have c1 := h.obj.cell 1 _ rfl
    have hm := (Sd.ids_mem ts x).1 (hx.resolve_left h0)
    by_cases ha : x ∈ Sd.row false ts
    · have HA := hid' (rhas v _ x true (decide_eq_true ha) w (RQ.of_own h.asl) (Nat.le_trans (h.len false) (by omega)) (Sd.row_rise _ _ h.ok))
      obtain ⟨ao, ac, hv⟩ := own_shape h.asl
      subst hv
      clear hx h hm ha
      go_enter Try.func7, Try.ntmps7
      go_wp2_with fail
      refine HA.out.mono ?_
      rintro e w1 ⟨rfl, rfl⟩
      go_wp2
      go_ret
      exact ⟨rfl, rfl⟩
    · have HA := hid' (rhas v _ x false (decide_eq_false ha) w (RQ.of_own h.asl) (Nat.le_trans (h.len false) (by omega)) (Sd.row_rise _ _ h.ok))
      have HR := hid' (rhas u _ x true (decide_eq_true (hm.resolve_left ha)) w (RQ.of_own h.rdy) (Nat.le_trans (h.len true) (by omega)) (Sd.row_rise _ _ h.ok))
      obtain ⟨ao, ac, hv⟩ := own_shape h.asl
      obtain ⟨ro, rc, hu⟩ := own_shape h.rdy
      subst hv hu
      clear hx h hm ha
      go_enter Try.func7, Try.ntmps7
      go_wp2_with fail
      refine HA.out.mono ?_
      rintro e w1 ⟨rfl, rfl⟩
      go_wp2_with fail
      refine HR.out.mono ?_
      rintro e w1 ⟨rfl, rfl⟩
      go_wp2
      go_ret
      exact ⟨rfl, rfl⟩

set_option maxHeartbeats 2000000 in
set_option maxRecDepth 20000 in
theorem sadd_many (B b : Nat) (v u : Value) (ts : List (Int × Bool)) (x : Int) (w : World) (h : SM w B b v u ts) (h0 : 0 ≤ x) (hn : x ∉ Sd.ids ts) (hm : 4096 ≤ ts.length) :
    Calls Try.prog 7 #[.pointer (some ⟨b, 0, none⟩), .int .i64 x] w fun e w' => e = .returned (.int .i64 4) ∧ ∃ q, w' = w.drewN q := by
  have h1 : ¬ x < 0 := by omega
  have c0 := h.obj.cell 0 _ rfl
  have c1 := h.obj.cell 1 _ rfl
  rw [Sd.ids_mem] at hn
  have HA := hid' (rhas v _ x false (decide_eq_false (fun e => hn (.inl e))) w (RQ.of_own h.asl) (Nat.le_trans (h.len false) (by omega)) (Sd.row_rise _ _ h.ok))
  have HR := hid' (rhas u _ x false (decide_eq_false (fun e => hn (.inr e))) w (RQ.of_own h.rdy) (Nat.le_trans (h.len true) (by omega)) (Sd.row_rise _ _ h.ok))
  obtain ⟨ao, ac, hv⟩ := own_shape h.asl
  obtain ⟨ro, rc, hu⟩ := own_shape h.rdy
  have hl := Sd.row_len ts
  have l1 := h.len false
  have l2 := h.len true
  generalize (Sd.row false ts).length = n1 at *
  generalize (Sd.row true ts).length = n2 at *
  subst hv hu
  have hge : (4096 : Int) ≤ (n1 : Int) + (n2 : Int) := by omega
  have hwr : IntKind.i64.wrap ((n1 : Int) + (n2 : Int)) = (n1 : Int) + (n2 : Int) := by rw [IntKind.wrap_i64]; omega
  clear h hn hl hm
  go_enter Try.func7, Try.ntmps7
  go_wp2_with fail
  refine HA.out.mono ?_
  rintro e w1 ⟨rfl, rfl⟩
  go_wp2_with fail
  refine HR.out.mono ?_
  rintro e w1 ⟨rfl, rfl⟩
  go_wp2
  go_quiet (fail)
  go_wp2
  go_ret
  exact ⟨rfl, _, rfl⟩

set_option maxHeartbeats 2000000 in
set_option maxRecDepth 20000 in
theorem sadd_ok (B b : Nat) (v u : Value) (ts : List (Int × Bool)) (x : Int) (w : World) (h : SM w B b v u ts) (h0 : 0 ≤ x) (hn : x ∉ Sd.ids ts) (hm : ts.length < 4096) :
    Calls Try.prog 7 #[.pointer (some ⟨b, 0, none⟩), .int .i64 x] w fun e w' => e = .returned (.int .i64 0) ∧ ∃ v', SM w' B b v' u (Sd.tadd x ts) ∧ LF (SS b v u) w w' ∧ NewB w b v u v' u := by
  have h1 : ¬ x < 0 := by omega
  have c0 := h.obj.cell 0 _ rfl
  have c1 := h.obj.cell 1 _ rfl
  obtain ⟨s1, s2, s3, s4⟩ := Sd.add_spec ts x h.ok hn
  rw [Sd.ids_mem] at hn
  have HA := hid' (rhas v _ x false (decide_eq_false (fun e => hn (.inl e))) w (RQ.of_own h.asl) (Nat.le_trans (h.len false) (by omega)) (Sd.row_rise _ _ h.ok))
  have HR := hid' (rhas u _ x false (decide_eq_false (fun e => hn (.inr e))) w (RQ.of_own h.rdy) (Nat.le_trans (h.len true) (by omega)) (Sd.row_rise _ _ h.ok))
  have HP : Hid (∀ q, Calls Try.prog 22 #[.pointer (some ⟨b, 0, none⟩), .int .i64 x] (w.drewN q) fun e w' => e = .returned (.tuple #[]) ∧ ∃ v', SM w' B b v' u (Sd.tadd x ts) ∧ LF (SS b v u) w w' ∧ NewB w b v u v' u) := hid' (fun q => by
    have hq := h.drewN q
    refine (rput B b 0 46 #[v, u] v (Sd.row false ts) x (w.drewN q) hq.obj (by decide) rfl hq.asl (Nat.le_trans (h.len false) (by omega)) (Sd.row_rise _ _ h.ok) hq.lb).mono ?_
    rintro e w' ⟨rfl, v', hat, hob, hrw, hlf⟩
    have hlf2 : LF (SS b v u) w w' := ⟨hlf.os, hlf.tape, hlf.output, hlf.size, fun k hk hs => hlf.block k hk (fun e => hs (e.elim .inl (fun e => .inr (.inl e))))⟩
    refine ⟨rfl, v', ⟨h.ge, by simpa using hob, by rw [s2]; exact hrw, ?_, ?_, s1, by omega⟩, hlf2, ?_⟩
    · rw [s3]
      refine own_same hq.rdy (fun k hk => hlf.block k (own_lt hq.rdy k hk) ?_)
      rintro (rfl | e)
      · exact own_apart h.rdy h.obj (by decide) _ hk rfl
      · exact h.ap k e hk
    · intro k hk hk2
      rcases hat with e | e
      · exact h.ap k (e ▸ hk) hk2
      · rw [e] at hk
        injection hk with hk
        have h5 := own_lt h.rdy k hk2
        have h6 : (w.drewN q).heap.size = w.heap.size := rfl
        omega
    · rintro k (rfl | hk | hk)
      · exact .inl (.inl rfl)
      · rcases hat with e | e
        · exact .inl (.inr (.inl (e ▸ hk)))
        · rw [e] at hk
          injection hk with hk
          have h6 : (w.drewN q).heap.size = w.heap.size := rfl
          exact .inr (by omega)
      · exact .inl (.inr (.inr hk)))
  obtain ⟨ao, ac, hv⟩ := own_shape h.asl
  obtain ⟨ro, rc, hu⟩ := own_shape h.rdy
  have hl := Sd.row_len ts
  have l1 := h.len false
  have l2 := h.len true
  generalize (Sd.row false ts).length = n1 at *
  generalize (Sd.row true ts).length = n2 at *
  subst hv hu
  have hge : ¬ (4096 : Int) ≤ (n1 : Int) + (n2 : Int) := by omega
  have hwr : IntKind.i64.wrap ((n1 : Int) + (n2 : Int)) = (n1 : Int) + (n2 : Int) := by rw [IntKind.wrap_i64]; omega
  clear h hn hl hm s1 s2 s3 s4
  go_enter Try.func7, Try.ntmps7
  go_wp2_with fail
  refine HA.out.mono ?_
  rintro e w1 ⟨rfl, rfl⟩
  go_wp2_with fail
  refine HR.out.mono ?_
  rintro e w1 ⟨rfl, rfl⟩
  go_wp2
  go_quiet (fail)
  go_wp2_with fail
  refine (HP.out _).mono ?_
  rintro e w2 ⟨rfl, v', hs, hl, hb⟩
  have HE := hid' (And.intro hs (And.intro hl hb))
  clear hs hl hb
  go_wp2
  go_ret
  exact ⟨rfl, v', HE.out⟩

theorem sadd {ts ts' : List (Int × Bool)} {x c : Int} (ho : AddOf ts x c ts') (B b : Nat) (v u : Value) (w : World) (h : SM w B b v u ts) :
    Calls Try.prog 7 #[.pointer (some ⟨b, 0, none⟩), .int .i64 x] w fun e w' => e = .returned (.int .i64 c) ∧ ∃ v' u', SM w' B b v' u' ts' ∧ LF (SS b v u) w w' ∧ NewB w b v u v' u' := by
  rcases ho with ⟨rfl, h1, rfl⟩ | ⟨rfl, ⟨h1, h2, h3⟩, rfl⟩ | ⟨rfl, ⟨h1, h2, h3⟩, rfl⟩
  · exact (sadd_arg B b v u ts' x w h h1).mono fun e w' ⟨a1, a2⟩ => ⟨a1, v, u, by rw [a2]; exact h, by rw [a2]; exact LF.refl _ _, fun k hk => .inl hk⟩
  · exact (sadd_many B b v u ts' x w h h1 h2 h3).mono fun e w' ⟨a1, q, a2⟩ => ⟨a1, v, u, by rw [a2]; exact h.drewN q, by rw [a2]; exact ⟨rfl, rfl, rfl, Nat.le_refl _, fun _ _ _ => rfl⟩, fun k hk => .inl hk⟩
  · exact (sadd_ok B b v u ts x w h h1 h2 h3).mono fun e w' ⟨a1, v', a2⟩ => ⟨a1, v', u, a2⟩

end Go.Proofs.Ytpgfnhfjkplmaaa
