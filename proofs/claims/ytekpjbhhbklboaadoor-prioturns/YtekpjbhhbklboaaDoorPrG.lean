/-
  The code's line in memory: New, Len, Remove, urgency, before: by their contracts.
-/
import Derived.Test.YtekpjbhhbklboaaDoorPrB
import Derived.Test.YtekpjbhhbklboaaDoorPrN
import Derived.Test.YtekpjbhhbklboaaDoorMpA
namespace Go.Proofs.YtekpjbhhbklboaaDoor
open Go.RowKit
open Go.ChangeMaps (setBlock heap_setBlock_same heap_setBlock_other)

/-- A number as a key, and a way to wait as an element. -/
def iv (k : Int) : Value := .int .i64 k
def prV (x : Nat × Bool) : Value := .agg #[.int .i64 (x.1 : Int), .bool x.2]
theorem ky : Ky Tryd.prog 3 iv (.int .i64) := ⟨Tryd.underlying3, fun _ => rfl, fun a b h => by unfold iv at h; injection h⟩
theorem zeroP (W : World) : (zeroValue 24).run Tryd.prog W = .ok (.agg #[.int .i64 0, .bool false]) W := by kernel_rfl
/-- A map, or none. -/
def Mo (w : World) (B : Nat) (mv : Value) (f : Int → Option (Nat × Bool)) (n : Nat) : Prop :=
  (mv = .map none ∧ (∀ k, f k = none) ∧ n = 0) ∨ ∃ m es clock, mv = .map (some m) ∧ B ≤ m ∧ Mp iv prV w m f n es clock
theorem Mo.same {w w' : World} {B : Nat} {mv : Value} {f : Int → Option (Nat × Bool)} {n : Nat} (h : Mo w B mv f n) (hb : ∀ k, mv = .map (some k) → k < w.heap.size → w'.heap[k]? = w.heap[k]?) : Mo w' B mv f n := by
  rcases h with h | ⟨m, es, clock, h1, h2, h3⟩
  · exact .inl h
  · exact .inr ⟨m, es, clock, h1, h2, h3.other (hb m h1 h3.lt)⟩
theorem Mo.keep {w w' : World} {B : Nat} {mv : Value} {f : Int → Option (Nat × Bool)} {n : Nat} (h : Mo w B mv f n) (hb : Below w.heap.size w w') : Mo w' B mv f n := h.same (fun k _ hk => hb.block k hk)
theorem Mo.look_no {w : World} {B : Nat} {mv : Value} {f : Int → Option (Nat × Bool)} {n : Nat} (h : Mo w B mv f n) (c : Bool) {k : Int} (hk : f k = none) :
    (Instr.lookup 60 mv (.int .i64 k) c).run Tryd.prog w = .ok (if c = true then .tuple #[.agg #[.int .i64 0, .bool false], .bool false] else .agg #[.int .i64 0, .bool false]) w := by
  rcases h with ⟨rfl, _, _⟩ | ⟨m, es, clock, rfl, _, h3⟩
  · simp [Instr.lookup, run_underlying Tryd.underlying60, MapKept.run_checkKey ky.ty (ky.is k) _ 9999, MapKept.run_findKey ky.ty (show Instr.findNow (.int .i64) (iv k) [] 0 = some none from rfl), Result.andThen, show (Value.int .i64 k) = iv k from rfl]
  · exact h3.look_no ky Tryd.underlying60 zeroP c hk
theorem Mo.look_yes {w : World} {B : Nat} {mv : Value} {f : Int → Option (Nat × Bool)} {n : Nat} (h : Mo w B mv f n) (c : Bool) {k : Int} {u : Nat} {p : Bool} (hk : f k = some (u, p)) :
    (Instr.lookup 60 mv (.int .i64 k) c).run Tryd.prog w = .ok (if c = true then .tuple #[.agg #[.int .i64 (u : Int), .bool p], .bool true] else .agg #[.int .i64 (u : Int), .bool p]) w := by
  rcases h with ⟨_, h2, _⟩ | ⟨m, es, clock, rfl, _, h3⟩
  · rw [h2 k] at hk; cases hk
  · exact h3.look_yes ky Tryd.underlying60 c hk
theorem Mo.len {w : World} {B : Nat} {mv : Value} {f : Int → Option (Nat × Bool)} {n : Nat} (h : Mo w B mv f n) (ty : TypeId) : (Builtin.len_ #[60] ty #[mv]).run Tryd.prog w = .ok (.int .i64 (n : Int)) w := by
  rcases h with ⟨rfl, _, rfl⟩ | ⟨m, es, clock, rfl, _, h3⟩
  · simp [Builtin.len_, run_underlying Tryd.underlying60, goInt, Result.andThen]
  · exact h3.len Tryd.underlying60 ty

/-- Who was answered last, as cells. -/
def tnC : List Bool → List Int → List Value
  | a :: ws, b :: ls => .bool a :: .int .i64 b :: tnC ws ls
  | _, _ => []
theorem tnC_at : ∀ {was : List Bool} {last : List Int} {i : Nat} {x : Bool} {y : Int}, was[i]? = some x → last[i]? = some y → (tnC was last)[i * 2]? = some (.bool x) ∧ (tnC was last)[i * 2 + 1]? = some (.int .i64 y)
  | [], _, _, _, _, h, _ => by simp at h
  | _ :: _, [], _, _, _, _, h => by simp at h
  | a :: ws, b :: ls, 0, x, y, h1, h2 => by
    simp at h1 h2
    subst h1 h2
    simp [tnC]
  | a :: ws, b :: ls, i + 1, x, y, h1, h2 => by
    have := tnC_at (was := ws) (last := ls) (i := i) (by simpa using h1) (by simpa using h2)
    simp only [tnC]
    rw [show (i + 1) * 2 = i * 2 + 1 + 1 by omega]
    simpa using this
theorem tnC_set : ∀ (was : List Bool) (last : List Int) (i : Nat) (x : Bool) (y : Int), was.length = last.length → ((tnC was last).set (i * 2) (.bool x)).set (i * 2 + 1) (.int .i64 y) = tnC (was.set i x) (last.set i y)
  | [], [], _, _, _, _ => by simp [tnC]
  | [], _ :: _, _, _, _, h => by simp at h
  | _ :: _, [], _, _, _, h => by simp at h
  | a :: ws, b :: ls, 0, x, y, _ => by simp [tnC]
  | a :: ws, b :: ls, i + 1, x, y, h => by
    have := tnC_set ws ls i x y (by simpa using h)
    simp only [tnC, List.set_cons_succ]
    rw [show (i + 1) * 2 = i * 2 + 1 + 1 by omega]
    simp only [List.set_cons_succ]
    rw [this]
theorem tnC_len : ∀ {was : List Bool} {last : List Int}, was.length = last.length → (tnC was last).length = was.length * 2
  | [], [], _ => rfl
  | [], _ :: _, h => by simp at h
  | _ :: _, [], h => by simp at h
  | a :: ws, b :: ls, h => by
    have := tnC_len (was := ws) (last := ls) (by simpa using h)
    simp only [tnC, List.length_cons, this]
    omega
/-- A line's cells. -/
def clC (mv : Value) (was : List Bool) (last : List Int) : Array Value := (mv :: tnC was last).toArray
theorem clC0 (mv : Value) (was : List Bool) (last : List Int) : (clC mv was last)[0]? = some mv := by simp [clC]
theorem clC_set0 (mv mv' : Value) (was : List Bool) (last : List Int) : (clC mv was last).setIfInBounds 0 mv' = clC mv' was last := by simp [clC]
theorem clC_w {mv : Value} {was : List Bool} {last : List Int} {i : Nat} {x : Bool} {y : Int} (h1 : was[i]? = some x) (h2 : last[i]? = some y) : (clC mv was last)[1 + i * 2]? = some (.bool x) ∧ (clC mv was last)[1 + i * 2 + 1]? = some (.int .i64 y) := by
  have := tnC_at h1 h2
  simp only [clC, List.getElem?_toArray]
  rw [show 1 + i * 2 + 1 = (i * 2 + 1) + 1 by omega, show 1 + i * 2 = i * 2 + 1 by omega, List.getElem?_cons_succ, List.getElem?_cons_succ]
  exact this
theorem clC_setw (mv : Value) (was : List Bool) (last : List Int) (i : Nat) (x : Bool) (y : Int) (h : was.length = last.length) : ((clC mv was last).setIfInBounds (1 + i * 2) (.bool x)).setIfInBounds (1 + i * 2 + 1) (.int .i64 y) = clC mv (was.set i x) (last.set i y) := by
  simp only [clC, List.setIfInBounds_toArray]
  rw [show 1 + i * 2 + 1 = (i * 2 + 1) + 1 by omega, show 1 + i * 2 = i * 2 + 1 by omega, List.set_cons_succ, List.set_cons_succ, tnC_set _ _ _ _ _ h]

/-- The code's line in memory. -/
structure CM (w : World) (B b : Nat) (mv : Value) (l : Pr.Ln) : Prop where
  lo : B ≤ b
  hd : Ar w b 65 (clC mv l.was l.last)
  mp : Mo w B mv (Pr.wt l) l.ids.length
  ok : Pr.Ok l
/-- The blocks of a line. -/
def CS (b : Nat) (mv : Value) (k : Nat) : Prop := k = b ∨ mv = .map (some k)
theorem CM.keep {w w' : World} {B b : Nat} {mv : Value} {l : Pr.Ln} (h : CM w B b mv l) (hb : Below w.heap.size w w') : CM w' B b mv l := ⟨h.lo, h.hd.keep hb, h.mp.keep hb, h.ok⟩
theorem CM.size {w : World} {B b : Nat} {mv : Value} {l : Pr.Ln} (h : CM w B b mv l) : B ≤ w.heap.size := Nat.le_of_lt (Nat.lt_of_le_of_lt h.lo h.hd.lt)
theorem Mo.lo {w : World} {B : Nat} {mv : Value} {f : Int → Option (Nat × Bool)} {n : Nat} (h : Mo w B mv f n) : ∀ k, mv = .map (some k) → B ≤ k ∧ k < w.heap.size := by
  intro k hk
  rcases h with ⟨rfl, _⟩ | ⟨m, es, clock, rfl, h2, h3⟩
  · cases hk
  · injection hk with hk
    injection hk with hk
    subst hk
    exact ⟨h2, h3.lt⟩
theorem CM.cs {w : World} {B b : Nat} {mv : Value} {l : Pr.Ln} (h : CM w B b mv l) : ∀ k, CS b mv k → B ≤ k := by
  rintro k (rfl | hk)
  · exact h.lo
  · exact (h.mp.lo k hk).1
theorem CM.other {S : Nat → Prop} {w w' : World} {B b : Nat} {mv : Value} {l : Pr.Ln} (h : CM w B b mv l) (hf : LF S w w') (hs : ∀ k, CS b mv k → ¬ S k) : CM w' B b mv l :=
  ⟨h.lo, hf.ar h.hd (hs b (.inl rfl)), h.mp.same (fun k hk hl => hf.block k hl (hs k (.inr hk))), h.ok⟩
/-- An empty line. -/
def Pr.ln0 : Pr.Ln := ⟨[], [], List.replicate 8 false, List.replicate 8 0⟩
theorem Pr.ln0_ok : Pr.Ok Pr.ln0 := ⟨rfl, by simp [Pr.ln0], fun h hh => by simp [Pr.ln0] at hh, rfl, rfl⟩
theorem Pr.ln0_wt (k : Int) : Pr.wt Pr.ln0 k = none := rfl

set_option maxHeartbeats 1000000 in
theorem cnew_any (w : World) : Calls Tryd.prog 14 #[] w fun e w' => ∃ b, e = .returned (.pointer (some ⟨b, 0, none⟩)) ∧ w.heap.size ≤ b ∧ CM w' w.heap.size b (.map none) Pr.ln0 ∧ Below w.heap.size w w' := by
  go_enter Tryd.func14, Tryd.ntmps14
  go_wp2_with (refine wpl_box 65 _ rfl rfl (clC (.map none) Pr.ln0.was Pr.ln0.last) (by kernel_rfl) ?_)
  intro b w1 hb ha hbl
  have HB := hid' hb
  have HA := hid' ha
  have HBL := hid' hbl
  clear hb ha hbl
  go_wp2
  go_ret
  exact ⟨b, rfl, HB.out, ⟨HB.out, HA.out, .inl ⟨rfl, Pr.ln0_wt, rfl⟩, Pr.ln0_ok⟩, HBL.out⟩

set_option maxHeartbeats 1000000 in
theorem curg_any (x : Int) (q : Bool) (w : World) :
    Calls Tryd.prog 31 #[.agg #[.int .i64 x, .bool q]] w fun e w' => e = .returned (.int .i64 ((Pr.kept x : Nat) : Int)) ∧ Below w.heap.size w w' := by
  have hk := Pr.kept_int x
  obtain ⟨m, hm⟩ : ∃ m : Nat, Pr.kept x = m := ⟨_, rfl⟩
  rw [hm] at hk ⊢
  clear hm
  by_cases h0 : x < 0
  · obtain rfl : m = 0 := by omega
    clear hk
    go_enter Tryd.func31, Tryd.ntmps31
    go_wp2
    go_ret
    exact ⟨rfl, (Below.refl _ _).alloc (Nat.le_refl _) _⟩
  by_cases h7 : 7 < x
  · obtain rfl : m = 7 := by omega
    clear hk
    go_enter Tryd.func31, Tryd.ntmps31
    go_wp2
    go_ret
    exact ⟨rfl, (Below.refl _ _).alloc (Nat.le_refl _) _⟩
  · obtain rfl : x = (m : Int) := by omega
    clear hk
    go_enter Tryd.func31, Tryd.ntmps31
    go_wp2
    go_ret
    exact ⟨rfl, (Below.refl _ _).alloc (Nat.le_refl _) _⟩

set_option maxHeartbeats 1000000 in
theorem cbefore_any (t : Bool) (y id : Int) (w : World) (r : Bool) (hr : (t && decide (y < id)) = r) :
    Calls Tryd.prog 43 #[.agg #[.bool t, .int .i64 y], .int .i64 id] w fun e w' => e = .returned (.bool r) ∧ Below w.heap.size w w' := by
  subst hr
  cases t with
  | false =>
    go_enter Tryd.func43, Tryd.ntmps43
    go_wp2
    go_ret
    exact ⟨by simp, (Below.refl _ _).alloc (Nat.le_refl _) _⟩
  | true =>
    go_enter Tryd.func43, Tryd.ntmps43
    go_wp2
    go_ret
    exact ⟨by simp, (Below.refl _ _).alloc (Nat.le_refl _) _⟩

theorem Mo.form {w : World} {B : Nat} {mv : Value} {f : Int → Option (Nat × Bool)} {n : Nat} (h : Mo w B mv f n) : ∃ mo, mv = .map mo := by
  rcases h with ⟨rfl, _⟩ | ⟨m, _, _, rfl, _⟩
  · exact ⟨none, rfl⟩
  · exact ⟨some m, rfl⟩

set_option maxHeartbeats 1000000 in
theorem clen_any (B b : Nat) (mv : Value) (l : Pr.Ln) (w : World) (h : CM w B b mv l) (n : Nat) (hn : l.ids.length = n) :
    Calls Tryd.prog 23 #[.pointer (some ⟨b, 0, none⟩)] w fun e w' => e = .returned (.int .i64 (n : Int)) ∧ w' = w := by
  have c0 := h.hd.cell 0 _ (clC0 _ _ _)
  have hl := h.mp.len 3
  rw [hn] at hl
  obtain ⟨mo, rfl⟩ := h.mp.form
  clear h hn
  go_enter Tryd.func23, Tryd.ntmps23
  go_wp2
  go_ret
  exact ⟨rfl, rfl⟩

theorem lf_setBlock {w : World} {m : Nat} {es es' : Array MapEntry} {clock clock' : Nat} (h : w.heap[m]? = some (.map es clock)) : LF (fun k => k = m) w (setBlock w m (.map es' clock')) :=
  ⟨rfl, rfl, rfl, by simp [setBlock], fun k _ hk => heap_setBlock_other h _ hk⟩
/-- The block of a map. -/
def MB (mv : Value) (j : Nat) : Prop := mv = .map (some j)
/-- What a map is when one is left out. -/
theorem Mo.drop {w : World} {B : Nat} {mv : Value} {f : Int → Option (Nat × Bool)} {n : Nat} (h : Mo w B mv f n) (k : Int) (ty : TypeId) :
    ∃ w', (Builtin.delete_ #[60, 3] ty #[mv, .int .i64 k]).run Tryd.prog w = .ok (.tuple #[]) w' ∧ Mo w' B mv (mdel f k) (if (f k).isSome = true then n - 1 else n) ∧ LF (MB mv) w w' := by
  rcases h with ⟨rfl, h2, rfl⟩ | ⟨m, es, clock, rfl, h2, h3⟩
  · refine ⟨w, ?_, .inl ⟨rfl, fun j => ?_, ?_⟩, LF.refl _ _⟩
    · simp [Builtin.delete_, run_underlying Tryd.underlying60, show (Value.int .i64 k) = iv k from rfl, MapKept.run_checkKey ky.ty (ky.is k) _ 9999, Result.andThen]
    · unfold mdel; split
      · rfl
      · exact h2 j
    · simp
  · obtain ⟨es', hr, hm⟩ := h3.drop ky Tryd.underlying60 k ty
    refine ⟨_, hr, .inr ⟨m, es', clock, rfl, h2, hm⟩, ?_⟩
    have t := lf_setBlock (es' := es') (clock' := clock) h3.hd
    exact ⟨t.os, t.tape, t.output, t.size, fun j hj hn => t.block j hj (fun e => hn (by unfold MB; rw [e]))⟩
/-- What a map is when one is put in. -/
theorem Mp.put {w : World} {B m : Nat} {f : Int → Option (Nat × Bool)} {n : Nat} {es : Array MapEntry} {clock : Nat} (h : Mp iv prV w m f n es clock) (hB : B ≤ m) (k : Int) (u : Nat) (p : Bool) :
    ∃ w', (Instr.mapUpdate 60 (.map (some m)) (.int .i64 k) (.agg #[.int .i64 (u : Int), .bool p])).run Tryd.prog w = .ok () w' ∧ Mo w' B (.map (some m)) (mput f k (u, p)) (if (f k).isSome = true then n else n + 1) ∧ LF (fun j => j = m) w w' := by
  obtain ⟨es', clock', hr, hm⟩ := h.store ky Tryd.underlying60 k (u, p)
  exact ⟨_, hr, .inr ⟨m, es', clock', rfl, hB, hm⟩, lf_setBlock h.hd⟩

section
variable {ops : Array Oper} {rest : List Oper} {o : Oper} {a : Act} {w : World} {Q : Exit → Act → World → Prop}
theorem wpl_delete (x y : Operand) (ho : o.op = Op.call { callee := Callee.builtin Builtin.delete, args := #[x, y], argTypes := #[60, 3] }) (hgd : o.guard = none) (B : Nat) (mv : Value) (f : Int → Option (Nat × Bool)) (n n' : Nat) (k : Int) (hx : a.eval x = mv) (hy : a.eval y = .int .i64 k) (h : Mo w B mv f n) (f' : Int → Option (Nat × Bool)) (hf' : mdel f k = f') (hn' : (if (f k).isSome = true then n - 1 else n) = n')
    (hK : ∀ w', Mo w' B mv f' n' → LF (MB mv) w w' → wpList Tryd.prog ops Q rest (a.put o.dst (.tuple #[])) w') : wpList Tryd.prog ops Q (o :: rest) a w := by
  refine wpList_plain hgd fun K' hK' => ?_
  obtain ⟨w', hrun, r1, r2⟩ := h.drop k o.type
  unfold Oper.wp
  simp [execOp, ho, resolve, invoke, builtin, hx, hy, hrun, Result.andThen]
  subst hf' hn'
  exact hK' _ _ (hK w' r1 r2)
end

theorem cm_map {w w' : World} {B b : Nat} {mv : Value} {l l' : Pr.Ln} (h : CM w B b mv l) (hf : LF (MB mv) w w') (hm : Mo w' B mv (Pr.wt l') l'.ids.length) (hw : l'.was = l.was) (hl : l'.last = l.last) (ok : Pr.Ok l') : CM w' B b mv l' := by
  refine ⟨h.lo, ?_, hm, ok⟩
  rw [hw, hl]
  refine hf.ar h.hd (fun e => ?_)
  have h2 := h.hd
  unfold Ar at h2
  rcases h.mp with ⟨e1, _⟩ | ⟨m, es, clock, e1, _, h3⟩
  · rw [e1] at e; cases e
  · rw [e1] at e
    injection e with e
    injection e with e
    subst e
    have := h3.hd
    rw [h2] at this
    cases this
theorem rem_was (l : Pr.Ln) (id : Int) : (Pr.rem l id).was = l.was ∧ (Pr.rem l id).last = l.last := by
  unfold Pr.rem; split <;> exact ⟨rfl, rfl⟩
theorem set_was (l : Pr.Ln) (id : Int) (x : Nat × Bool) : (Pr.set l id x).was = l.was ∧ (Pr.set l id x).last = l.last := by
  unfold Pr.set; split <;> exact ⟨rfl, rfl⟩
theorem mdel_rem {l : Pr.Ln} (ok : Pr.Ok l) (id : Int) : mdel (Pr.wt l) id = Pr.wt (Pr.rem l id) := by
  funext k; rw [Pr.wt_rem ok]; rfl
theorem mput_set {l : Pr.Ln} (ok : Pr.Ok l) (id : Int) (x : Nat × Bool) : mput (Pr.wt l) id x = Pr.wt (Pr.set l id x) := by
  funext k; rw [Pr.wt_set ok]; rfl
theorem rem_size {l : Pr.Ln} (ok : Pr.Ok l) (id : Int) : (if (Pr.wt l id).isSome = true then l.ids.length - 1 else l.ids.length) = (Pr.rem l id).ids.length := by
  rw [Pr.rem_len ok]; cases Pr.wt l id <;> simp
theorem set_size {l : Pr.Ln} (ok : Pr.Ok l) (id : Int) (x : Nat × Bool) : (if (Pr.wt l id).isSome = true then l.ids.length else l.ids.length + 1) = (Pr.set l id x).ids.length := by
  rw [Pr.set_len ok]; cases Pr.wt l id <;> simp

set_option maxHeartbeats 1000000 in
theorem crem_any (B b : Nat) (mv : Value) (l : Pr.Ln) (id : Int) (w : World) (h : CM w B b mv l) :
    Calls Tryd.prog 17 #[.pointer (some ⟨b, 0, none⟩), .int .i64 id] w fun e w' => e = .returned (.tuple #[]) ∧ CM w' B b mv (Pr.rem l id) ∧ LF (CS b mv) w w' := by
  have c0 := h.hd.cell 0 _ (clC0 _ _ _)
  have H := hid' h
  obtain ⟨mo, rfl⟩ := h.mp.form
  clear h
  go_enter Tryd.func17, Tryd.ntmps17
  go_wp2_with (refine wpl_delete _ _ rfl rfl B (.map mo) (Pr.wt l) l.ids.length _ id rfl rfl H.out.mp _ (mdel_rem H.out.ok id) (rem_size H.out.ok id) ?_)
  intro w1 hm hf
  have HM := hid' hm
  have HF := hid' hf
  clear hm hf
  go_wp2
  go_end0
  exact ⟨rfl, cm_map H.out HF.out HM.out (rem_was _ _).1 (rem_was _ _).2 (Pr.rem_ok H.out.ok id), ⟨HF.out.os, HF.out.tape, HF.out.output, HF.out.size, fun k hk hn => HF.out.block k hk (fun e => hn (.inr e))⟩⟩

end Go.Proofs.YtekpjbhhbklboaaDoor
