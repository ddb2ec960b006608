/-
  Windows in a row, and their sizes in another.
-/
import Derived.Test.YthbidfcfkjamdaaLawFlowPlays
import Derived.Laws.OwnMore
import Derived.Laws.MakeOwn
namespace Go.Proofs.Ythbidfcfkjamdaa
open Go.RowKit

theorem own_keep {w w' : World} {B : Nat} {e : TypeId} {s : Nat} {v : Value} {n : Nat} {xs : List Value} (h : w.ownsRow B e s v n xs) (hb : Below w.heap.size w w') : w'.ownsRow B e s v n xs := by
  refine ⟨h.1, ?_⟩
  rcases h.2 with h2 | ⟨g, cap, cur, h1, h2, h3, h4⟩
  · exact .inl h2
  · exact .inr ⟨g, cap, cur, h1, h2, (hb.block g (Array.getElem?_eq_some_iff.1 h3).1).trans h3, h4⟩
theorem own_ty {w : World} {B : Nat} {e : TypeId} {s : Nat} {v : Value} {n : Nat} {xs : List Value} (h : w.ownsRow B e s v n xs) : ∀ k, v.ownBlock = some k → B ≤ k ∧ ∃ cs, w.heap[k]? = some (.cells cs e (0, 0)) := by
  intro k hk
  rcases h.2 with ⟨rfl, _⟩ | ⟨g, cap, cur, rfl, h1, h3, _⟩
  · simp [Value.ownBlock] at hk
  · simp [Value.ownBlock] at hk
    subst hk
    exact ⟨h1, _, h3⟩
theorem own_apart {w : World} {B : Nat} {e T : TypeId} {s : Nat} {v : Value} {n : Nat} {xs : List Value} {b : Nat} {c : Array Value} (h : w.ownsRow B e s v n xs) (ha : Ar w b T c) (hne : T ≠ e) : ∀ k, v.ownBlock = some k → k ≠ b := by
  intro k hk e'
  subst e'
  obtain ⟨_, cs, h3⟩ := own_ty h k hk
  unfold Ar at ha
  rw [ha] at h3
  injection h3 with h3
  injection h3 with _ h4 _
  exact hne h4
theorem own_same {w w' : World} {B : Nat} {e : TypeId} {s : Nat} {v : Value} {n : Nat} {xs : List Value} (h : w.ownsRow B e s v n xs) (hb : ∀ k, v.ownBlock = some k → w'.heap[k]? = w.heap[k]?) : w'.ownsRow B e s v n xs := by
  refine ⟨h.1, ?_⟩
  rcases h.2 with h2 | ⟨g, cap, cur, h1, h2, h3, h4⟩
  · exact .inl h2
  · exact .inr ⟨g, cap, cur, h1, h2, (hb g (by rw [h1]; rfl)).trans h3, h4⟩
theorem own_shape {w : World} {B : Nat} {e : TypeId} {s : Nat} {v : Value} {n : Nat} {xs : List Value} (h : w.ownsRow B e s v n xs) : ∃ ao cap, v = .slice ao n cap := by
  rcases h.2 with ⟨h, h0⟩ | ⟨g, cap, cur, h, _⟩
  · exact ⟨none, 0, by rw [h, h0]⟩
  · exact ⟨_, _, h⟩
theorem ar_grown {w w' : World} {b : Nat} {T : TypeId} {c : Array Value} {row : Option Nat} (h : Ar w b T c) (hg : w.grownBy w' row) (hn : ∀ k, row = some k → k ≠ b) : Ar w' b T c := by
  unfold Ar at *
  rw [hg.block b (Array.getElem?_eq_some_iff.1 h).1 (fun e => hn b e.symm rfl)]
  exact h
theorem own_own {w : World} {B B' : Nat} {e e' : TypeId} {s s' : Nat} {v v' : Value} {n n' : Nat} {xs xs' : List Value} (h : w.ownsRow B e s v n xs) (h' : w.ownsRow B' e' s' v' n' xs') (hne : e ≠ e') : ∀ k, v.ownBlock = some k → some k ≠ v'.ownBlock := by
  intro k hk hk'
  obtain ⟨_, cs, h1⟩ := own_ty h k hk
  obtain ⟨_, cs', h2⟩ := own_ty h' k hk'.symm
  rw [h1] at h2
  injection h2 with h2
  injection h2 with _ h3 _
  exact hne h3
theorem own_grown {w w' : World} {B : Nat} {e : TypeId} {s : Nat} {v : Value} {n : Nat} {xs : List Value} {row : Option Nat} (h : w.ownsRow B e s v n xs) (hg : w.grownBy w' row) (hn : ∀ k, v.ownBlock = some k → some k ≠ row) : w'.ownsRow B e s v n xs :=
  own_same h (fun k hk => hg.block k (by obtain ⟨_, _, h1⟩ := own_ty h k hk; exact (Array.getElem?_eq_some_iff.1 h1).1) (hn k hk))
theorem Below.of_grown {w w' : World} {row : Option Nat} {B : Nat} (hg : w.grownBy w' row) (hr : ∀ k, row = some k → B ≤ k) (hB : B ≤ w.heap.size) : Below B w w' := (Below.refl B w).grown hg hB hr

/-- The windows' cells. -/
def pvC (qs : List (Nat × Int)) : List Value := qs.map fun q => .pointer (some ⟨q.1, 0, none⟩)
theorem pvC_length (qs : List (Nat × Int)) : (pvC qs).length = qs.length := by simp [pvC]
theorem pvC_wpC (qs : List (Nat × Int)) : (qs.map fun q => (some q.1, q.2)).map wpC = pvC qs := by
  unfold pvC
  rw [List.map_map]
  rfl
theorem pvC_set (qs : List (Nat × Int)) (j b : Nat) (s s' : Int) (h : qs[j]? = some (b, s)) : pvC (qs.set j (b, s')) = pvC qs := by
  unfold pvC
  rw [List.map_set]
  apply List.ext_getElem? 
  intro i
  rw [List.getElem?_set]
  split
  · subst_vars
    split
    · simp [h]
    · rename_i h2
      exact absurd (by simpa using (List.getElem?_eq_some_iff.1 h).1) h2
  · rfl
theorem fst_set (qs : List (Nat × Int)) (j b : Nat) (s s' : Int) (h : qs[j]? = some (b, s)) : (qs.set j (b, s')).map (·.1) = qs.map (·.1) := by
  rw [List.map_set]
  apply List.ext_getElem?
  intro i
  rw [List.getElem?_set]
  split
  · subst_vars
    split
    · simp [h]
    · rename_i h2
      exact absurd (by simpa using (List.getElem?_eq_some_iff.1 h).1) h2
  · rfl

/-- Windows in a row, numbers in another. -/
structure WS (w : World) (B : Nat) (v u : Value) (qs : List (Nat × Int)) (ss : List Int) : Prop where
  ws : w.ownsRow B 39 1 v qs.length (pvC qs)
  nw : w.ownsRow B 3 1 u ss.length (nmC ss)
  ar : ∀ q ∈ qs, B ≤ q.1 ∧ Ar w q.1 80 #[.int .i64 q.2] ∧ Fw.In q.2
  nd : (qs.map (·.1)).Nodup
  lo : B ≤ w.heap.size

theorem WS.new (w : World) : WS w w.heap.size (.slice none 0 0) (.slice none 0 0) [] [] :=
  ⟨World.ownsRow_nil _ _ _ _, World.ownsRow_nil _ _ _ _, fun q hq => by simp at hq, by simp, Nat.le_refl _⟩

theorem WS.keep {w w' : World} {B : Nat} {v u : Value} {qs : List (Nat × Int)} {ss : List Int} (h : WS w B v u qs ss) (hb : Below w.heap.size w w') : WS w' B v u qs ss :=
  ⟨own_keep h.ws hb, own_keep h.nw hb, fun q hq => ⟨(h.ar q hq).1, (h.ar q hq).2.1.keep hb, (h.ar q hq).2.2⟩, h.nd, Nat.le_trans h.lo hb.size⟩

/-- A window that is none of them was written. -/
theorem WS.upd {w w' : World} {B b : Nat} {v u : Value} {qs : List (Nat × Int)} {ss : List Int} {c : Array Value} (h : WS w B v u qs ss) (hu : Upd b w w') (ha : Ar w b 80 c) (hn : b ∉ qs.map (·.1)) : WS w' B v u qs ss :=
  ⟨own_same h.ws (fun k hk => hu.block k (own_apart h.ws ha (by decide) k hk)), own_same h.nw (fun k hk => hu.block k (own_apart h.nw ha (by decide) k hk)),
    fun q hq => ⟨(h.ar q hq).1, hu.keep (h.ar q hq).2.1 (fun e => hn (e ▸ List.mem_map_of_mem hq)), (h.ar q hq).2.2⟩, h.nd, by rw [hu.size]; exact h.lo⟩

/-- One more window. -/
theorem WS.push {w w' : World} {B b : Nat} {s : Int} {v v' u : Value} {qs : List (Nat × Int)} {ss : List Int} (h : WS w B v u qs ss) (hb : B ≤ b) (ha : Ar w b 80 #[.int .i64 s]) (hs : Fw.In s) (hn : b ∉ qs.map (·.1)) (hg : w.grownBy w' v.ownBlock) (ho : w'.ownsRow B 39 1 v' (qs.length + 1) (pvC qs ++ [.pointer (some ⟨b, 0, none⟩)])) : WS w' B v' u (qs ++ [(b, s)]) ss ∧ Ar w' b 80 #[.int .i64 s] ∧ Below B w w' := by
  have hk : ∀ {k c}, Ar w k 80 c → Ar w' k 80 c := fun hx => ar_grown hx hg (own_apart h.ws hx (by decide))
  have hB := Below.of_grown hg (fun k hk => (own_ty h.ws k hk).1) h.lo
  refine ⟨⟨?_, own_grown h.nw hg (own_own h.nw h.ws (by decide)), ?_, ?_, Nat.le_trans h.lo hB.size⟩, hk ha, hB⟩
  · rw [List.length_append]
    have : pvC (qs ++ [(b, s)]) = pvC qs ++ [.pointer (some ⟨b, 0, none⟩)] := by simp [pvC]
    rw [this]
    exact ho
  · intro q hq
    rcases List.mem_append.1 hq with hq | hq
    · exact ⟨(h.ar q hq).1, hk (h.ar q hq).2.1, (h.ar q hq).2.2⟩
    · obtain rfl : q = (b, s) := by simpa using hq
      exact ⟨hb, hk ha, hs⟩
  · rw [List.map_append]
    refine List.nodup_append.2 ⟨h.nd, by simp, ?_⟩
    intro x hx y hy e
    obtain rfl : y = b := by simpa using hy
    exact hn (e ▸ hx)

/-- One more number. -/
theorem WS.num {w w' : World} {B : Nat} {s : Int} {v u u' : Value} {qs : List (Nat × Int)} {ss : List Int} (h : WS w B v u qs ss) (hg : w.grownBy w' u.ownBlock) (ho : w'.ownsRow B 3 1 u' (ss.length + 1) (nmC ss ++ [.int .i64 s])) : WS w' B v u' qs (ss ++ [s]) ∧ Below B w w' := by
  have hB := Below.of_grown hg (fun k hk => (own_ty h.nw k hk).1) h.lo
  refine ⟨⟨own_grown h.ws hg (own_own h.ws h.nw (by decide)), ?_, ?_, h.nd, Nat.le_trans h.lo hB.size⟩, hB⟩
  · rw [List.length_append]
    have : nmC (ss ++ [s]) = nmC ss ++ [.int .i64 s] := by simp [nmC]
    rw [this]
    exact ho
  · intro q hq
    exact ⟨(h.ar q hq).1, ar_grown (h.ar q hq).2.1 hg (own_apart h.nw (h.ar q hq).2.1 (by decide)), (h.ar q hq).2.2⟩

/-- One of the windows was written. -/
theorem WS.put {w w' : World} {B j b : Nat} {s s' : Int} {v u : Value} {qs : List (Nat × Int)} {ss : List Int} (h : WS w B v u qs ss) (hj : qs[j]? = some (b, s)) (hu : Upd b w w') (ha : Ar w' b 80 #[.int .i64 s']) (hs : Fw.In s') : WS w' B v u (qs.set j (b, s')) ss ∧ Below B w w' := by
  have hm := List.mem_of_getElem? hj
  have ha0 := (h.ar _ hm).2.1
  refine ⟨⟨?_, own_same h.nw (fun k hk => hu.block k (own_apart h.nw ha0 (by decide) k hk)), ?_, by rw [fst_set qs j b s s' hj]; exact h.nd, by rw [hu.size]; exact h.lo⟩, hu.below (h.ar _ hm).1⟩
  · rw [pvC_set qs j b s s' hj, List.length_set]
    exact own_same h.ws (fun k hk => hu.block k (own_apart h.ws ha0 (by decide) k hk))
  · intro q hq
    obtain ⟨i, hi⟩ := List.getElem?_of_mem hq
    rw [List.getElem?_set] at hi
    split at hi
    · split at hi
      · obtain rfl : (b, s') = q := by simpa using hi
        exact ⟨(h.ar _ hm).1, ha, hs⟩
      · cases hi
    · rename_i hne
      have hq' := List.mem_of_getElem? hi
      refine ⟨(h.ar q hq').1, hu.keep (h.ar q hq').2.1 (fun e => hne ?_), (h.ar q hq').2.2⟩
      have e1 : (qs.map (·.1))[i]? = some b := by simp [hi, e]
      have e2 : (qs.map (·.1))[j]? = some b := by simp [hj]
      obtain ⟨hi1, hi2⟩ := List.getElem?_eq_some_iff.1 e1
      obtain ⟨hj1, hj2⟩ := List.getElem?_eq_some_iff.1 e2
      exact ((List.getElem_inj h.nd).1 (hj2.trans hi2.symm))

theorem WS.wn {w : World} {B : Nat} {v u : Value} {qs : List (Nat × Int)} {ss : List Int} (h : WS w B v u qs ss) : ∀ q ∈ qs.map (fun q => ((some q.1 : Option Nat), q.2)), Wn w q := by
  intro q hq
  obtain ⟨p, hp, rfl⟩ := List.mem_map.1 hq
  exact (h.ar p hp).2.1

end Go.Proofs.Ythbidfcfkjamdaa
