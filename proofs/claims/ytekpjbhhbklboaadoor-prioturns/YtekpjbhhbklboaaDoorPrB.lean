/-
  The document's Set: by its contract.
-/
import Derived.Test.YtekpjbhhbklboaaDoorPrA
import Derived.Maps.AppendAt
namespace Go.Proofs.YtekpjbhhbklboaaDoor
open Go.RowKit

/-- All but some blocks is as it was. -/
structure LF (S : Nat → Prop) (w w' : World) : Prop where
  os : w'.os = w.os
  tape : w'.tape = w.tape
  output : w'.output = w.output
  size : w.heap.size ≤ w'.heap.size
  block : ∀ k, k < w.heap.size → ¬ S k → w'.heap[k]? = w.heap[k]?
theorem LF.refl (S : Nat → Prop) (w : World) : LF S w w := ⟨rfl, rfl, rfl, Nat.le_refl _, fun _ _ _ => rfl⟩
theorem LF.of_below {S : Nat → Prop} {w w' : World} (h : Below w.heap.size w w') : LF S w w' := ⟨h.os, h.tape, h.output, h.size, fun k hk _ => h.block k hk⟩
theorem LF.of_upd {S : Nat → Prop} {b : Nat} {w w' : World} (h : Upd b w w') (hb : S b) : LF S w w' := ⟨h.os, h.tape, h.output, by rw [h.size]; exact Nat.le_refl _, fun k _ hs => h.block k (fun e => hs (e ▸ hb))⟩
theorem LF.of_grown {S : Nat → Prop} {row : Option Nat} {w w' : World} (h : w.grownBy w' row) (hr : ∀ k, row = some k → S k) : LF S w w' := ⟨h.os, h.tape, h.output, h.size, fun k hk hs => h.block k hk (fun e => hs (hr k e.symm))⟩
theorem LF.trans {S S' : Nat → Prop} {w w1 w2 : World} (h1 : LF S w w1) (h2 : LF S' w1 w2) (hs : ∀ k, k < w.heap.size → S' k → S k) : LF S w w2 :=
  ⟨h2.os.trans h1.os, h2.tape.trans h1.tape, h2.output.trans h1.output, Nat.le_trans h1.size h2.size, fun k hk hn => (h2.block k (Nat.lt_of_lt_of_le hk h1.size) (fun h => hn (hs k hk h))).trans (h1.block k hk hn)⟩
theorem LF.below {S : Nat → Prop} {w w' : World} {B : Nat} (h : LF S w w') (hB : B ≤ w.heap.size) (hs : ∀ k, S k → B ≤ k) : Below B w w' :=
  ⟨h.os, h.tape, h.output, h.size, fun k hk => h.block k (by omega) (fun hS => by have := hs k hS; omega)⟩
theorem LF.ar {S : Nat → Prop} {w w' : World} {k : Nat} {T : TypeId} {c : Array Value} (h : LF S w w') (ha : Ar w k T c) (hs : ¬ S k) : Ar w' k T c := by
  unfold Ar at *; rw [h.block k (Array.getElem?_eq_some_iff.1 ha).1 hs]; exact ha

/-- The blocks of a line. -/
def LS (b : Nat) (v u : Value) (k : Nat) : Prop := k = b ∨ v.ownBlock = some k ∨ u.ownBlock = some k
theorem own_ty {w : World} {B : Nat} {e : TypeId} {s : Nat} {v : Value} {n : Nat} {xs : List Value} (h : w.ownsRow B e s v n xs) : ∀ k, v.ownBlock = some k → B ≤ k ∧ ∃ cs, w.heap[k]? = some (.cells cs e (0, 0)) := by
  intro k hk
  rcases h.2 with ⟨rfl, _⟩ | ⟨g, cap, cur, rfl, h1, h3, _⟩
  · simp [Value.ownBlock] at hk
  · simp [Value.ownBlock] at hk
    subst hk
    exact ⟨h1, _, h3⟩
theorem own_apart {w : World} {B : Nat} {e T : TypeId} {s : Nat} {v : Value} {n : Nat} {xs : List Value} {b : Nat} {c : Array Value} (h : w.ownsRow B e s v n xs) (ha : Ar w b T c) (hne : T ≠ e) : ∀ k, v.ownBlock = some k → k ≠ b := by
  intro k hk e'
  subst e'
  obtain ⟨_, cs, h3⟩ := own_ty h k hk
  unfold Ar at ha
  rw [ha] at h3
  injection h3 with h3
  injection h3 with _ h4 _
  exact hne h4
theorem own_own {w : World} {B B' : Nat} {e e' : TypeId} {s s' : Nat} {v v' : Value} {n n' : Nat} {xs xs' : List Value} (h : w.ownsRow B e s v n xs) (h' : w.ownsRow B' e' s' v' n' xs') (hne : e ≠ e') : ∀ k, v.ownBlock = some k → some k ≠ v'.ownBlock := by
  intro k hk hk'
  obtain ⟨_, cs, h1⟩ := own_ty h k hk
  obtain ⟨_, cs', h2⟩ := own_ty h' k hk'.symm
  rw [h1] at h2
  injection h2 with h2
  injection h2 with _ h3 _
  exact hne h3
theorem own_same {w w' : World} {B : Nat} {e : TypeId} {s : Nat} {v : Value} {n : Nat} {xs : List Value} (h : w.ownsRow B e s v n xs) (hb : ∀ k, v.ownBlock = some k → w'.heap[k]? = w.heap[k]?) : w'.ownsRow B e s v n xs := by
  refine ⟨h.1, ?_⟩
  rcases h.2 with h2 | ⟨g, cap, cur, h1, h2, h3, h4⟩
  · exact .inl h2
  · exact .inr ⟨g, cap, cur, h1, h2, (hb g (by rw [h1]; rfl)).trans h3, h4⟩
theorem ar_grown {w w' : World} {b : Nat} {T : TypeId} {c : Array Value} {row : Option Nat} (h : Ar w b T c) (hg : w.grownBy w' row) (hn : ∀ k, row = some k → k ≠ b) : Ar w' b T c := by
  unfold Ar at *
  rw [hg.block b (Array.getElem?_eq_some_iff.1 h).1 (fun e => hn b e.symm rfl)]
  exact h
theorem own_grown {w w' : World} {B : Nat} {e : TypeId} {s : Nat} {v : Value} {n : Nat} {xs : List Value} {row : Option Nat} (h : w.ownsRow B e s v n xs) (hg : w.grownBy w' row) (hn : ∀ k, v.ownBlock = some k → some k ≠ row) : w'.ownsRow B e s v n xs :=
  own_same h (fun k hk => hg.block k (by obtain ⟨_, _, h1⟩ := own_ty h k hk; exact (Array.getElem?_eq_some_iff.1 h1).1) (hn k hk))
theorem Ar.apart' {w : World} {a b : Nat} {T T' : TypeId} {cs cs' : Array Value} (h : Ar w a T cs) (h' : Ar w b T' cs') (hne : T ≠ T') : a ≠ b := by
  rintro rfl
  unfold Ar at h h'
  rw [h] at h'
  injection h' with h'
  injection h' with _ h2 _
  exact hne h2
theorem own_lt {w : World} {B : Nat} {e : TypeId} {s : Nat} {v : Value} {n : Nat} {xs : List Value} (h : w.ownsRow B e s v n xs) : ∀ k, v.ownBlock = some k → k < w.heap.size := fun k hk => by
  obtain ⟨_, _, h1⟩ := own_ty h k hk
  exact (Array.getElem?_eq_some_iff.1 h1).1
theorem LM.ls {w : World} {B b : Nat} {l : Pr.Ln} {v u : Value} (h : LM w B b l v u) : ∀ k, LS b v u k → B ≤ k := by
  rintro k (rfl | hk | hk)
  · exact h.lo
  · exact (own_ty h.is k hk).1
  · exact (own_ty h.hw k hk).1
/-- What is none of a line's blocks was written: the line is as it was. -/
theorem LM.other {S : Nat → Prop} {w w' : World} {B b : Nat} {l : Pr.Ln} {v u : Value} (h : LM w B b l v u) (hf : LF S w w') (hs : ∀ k, LS b v u k → ¬ S k) : LM w' B b l v u :=
  ⟨h.lo, hf.ar h.hd (hs b (.inl rfl)), own_same h.is (fun k hk => hf.block k (own_lt h.is k hk) (hs k (.inr (.inl hk)))), own_same h.hw (fun k hk => hf.block k (own_lt h.hw k hk) (hs k (.inr (.inr hk)))), h.ok⟩

section
variable {P : Program} {w : World}
/-- An append to a row of one's own in a region that draws, with where the new row lies. -/
theorem step_app_at {ops : Array Oper} {o : Oper} {a : Act} {K : Act → World → Prop} {Q : Exit → Act → World → Prop} {E : Prop} (hgd : o.guard = none) (s x : Operand) (t : TypeId)
    (ho : o.op = .call { callee := .builtin .append, args := #[s, x], argTypes := #[t, t] })
    (base : Nat) (e : TypeId) (i : TypeInfo) (z : Value) (size bytes : Nat) (ht : P.underlying t = some (.slice e)) (hi : P.info? e = some i) (hz : i.zero = some z)
    (hsize : i.size = size) (hby : i.bytes = bytes) (hzs : z.cells.size = size) (hsz : 0 < size)
    (v : Value) (n : Nat) (xs : List Value) (hs : a.eval s = v) (hown : w.ownsRow base e size v n xs)
    (ad : Addr) (m c : Nat) (news : List Value) (hx : a.eval x = .slice (some ad) m c) (hl : news.length = m * size) (hnews : ∀ j u, news[j]? = some u → w.cell? (ad.add j) = some u) (h1 : ∀ u ∈ news, u.oneCell' = true)
    (h63 : n + m ≤ maxLen) (hbytes : (n + m) * bytes ≤ 140737488355328) (hbase : base ≤ w.heap.size)
    (h : ∀ v' w', w'.ownsRow base e size v' (n + m) (xs ++ news) → w.grownBy w' v.ownBlock → (v'.ownBlock = v.ownBlock ∨ v'.ownBlock = some w.heap.size) → K (a.put o.dst v') w') :
    if Region.wanted o (yielded ops a.tmps) = true then Oper.wp P o a w K Q else E := by
  have hw : Region.wanted o (yielded ops a.tmps) = true := by simp [Region.wanted, hgd]
  rw [if_pos hw]
  obtain ⟨v', w', hr, h2, h3, _, h5⟩ := run_append_own_at (P := P) w base t o.type e i z size bytes ht hi hz hsize hby hzs hsz v n xs hown ad m c news hl hnews h1 h63 hbytes hbase
  unfold Oper.wp execOp
  simp only [ho, resolve, invoke, builtin, Sem.run_bind, Sem.run_pure, Result.andThen_ok, List.map_toArray, List.map_cons, List.map_nil, hs, hx, hr]
  exact h v' w' h2 h3 h5
/-- A slice is built of a literal, in a region that draws. -/
theorem step_lit {ops : Array Oper} {o : Oper} {a : Act} {K : Act → World → Prop} {Q : Exit → Act → World → Prop} {E : Prop} (hgd : o.guard = none) (e : TypeId) (n : Nat) (cs : Array Value)
    (hrun : (execOp a.eval o).run P w = .ok (.value (.slice (some ⟨w.heap.size, 0, none⟩) n n)) (w.alloc (.cells cs e)))
    (h : ∀ b w', w.heap.size = b → Ar w' b e cs → Below w.heap.size w w' → K (a.put o.dst (.slice (some ⟨b, 0, none⟩) n n)) w') :
    if Region.wanted o (yielded ops a.tmps) = true then Oper.wp P o a w K Q else E := by
  have hw : Region.wanted o (yielded ops a.tmps) = true := by simp [Region.wanted, hgd]
  rw [if_pos hw]
  unfold Oper.wp
  rw [hrun]
  exact h _ _ rfl (heap_alloc_last w _) ((Below.refl _ w).alloc (Nat.le_refl _) _)
variable {md : Region.Mode} {ops : Array Oper} {Q : Exit → Act → World → Prop} {S : World → Prop}
/-- An operation is taken first, its slot written out. -/
theorem take_d {i : Nat} {oi : Oper} {d : Option Tmp} {v : Value} {fuel : Nat} {listed : Array Bool} {a : Act} {w : World} (hi : ops[i]? = some oi) (hd : oi.dst = d)
    (hs : Region.noSelect ops = true) (hf : Region.free md ops listed i = true) (hr : (Region.ready md ops listed).contains i = true)
    (hQ : ∀ c a w, Q (.panic c) (a.put d v) w → Q (.panic c) a w) (hy : YieldsIf P ops S oi v a) (hS : S w)
    (h : wpAnyH P md ops Q S fuel (listed.setIfInBounds i true) (a.put d v) w) : wpAnyH P md ops Q S (fuel + 1) listed a w := by
  subst hd
  exact wpAnyH_take hi hs hf hr hQ hy hS h
end
theorem infoI : (Tryd.prog.info? 3).map (fun i => (i.zero, i.size, i.bytes)) = some (some (.int .i64 0), 1, 8) := by kernel_rfl
theorem infoP : (Tryd.prog.info? 24).map (fun i => (i.zero, i.size, i.bytes)) = some (some (.agg #[.int .i64 0, .bool false]), 2, 16) := by kernel_rfl
theorem info_parts {P : Program} {t : TypeId} {z : Option Value} {s b : Nat} (h : (P.info? t).map (fun i => (i.zero, i.size, i.bytes)) = some (z, s, b)) : ∃ i, P.info? t = some i ∧ i.zero = z ∧ i.size = s ∧ i.bytes = b := by
  cases hq : P.info? t with
  | none => simp [hq] at h
  | some i => simp [hq] at h; exact ⟨i, rfl, h.1, h.2.1, h.2.2⟩
theorem lit_cells {w : World} {b : Nat} {T : TypeId} {cs : Array Value} (h : Ar w b T cs) (j : Nat) (u : Value) (hj : cs.toList[j]? = some u) : w.cell? ((⟨b, 0, none⟩ : Addr).add j) = some u := by
  rw [Addr.add_mid, Nat.zero_add]
  exact h.cell j u (by simpa using hj)
theorem lnC_set0 (v u v' : Value) (was : List Bool) (last : List Int) : (lnC v u was last).setIfInBounds 0 v' = lnC v' u was last := by simp [lnC]
theorem lnC_set1 (v u u' : Value) (was : List Bool) (last : List Int) : (lnC v u was last).setIfInBounds 1 u' = lnC v u' was last := by simp [lnC]

end Go.Proofs.YtekpjbhhbklboaaDoor
