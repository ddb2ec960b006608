/-
  Plain: what is true of a disk's files all the way: their numbers, their paths; where a path stands.
-/
import Derived.Test.YtnggablpkgbpaaaDoorDkQ
namespace Go.Proofs.YtnggablpkgbpaaaDoor
open Go.RowKit

namespace Dk
/-- Each file's number is of 1 to q, no two are the same, and its path may be one. -/
structure Sq (q : Int) (es : List En) : Prop where
  rng : ∀ e ∈ es, 1 ≤ e.seq ∧ e.seq ≤ q
  dif : (es.map (·.seq)).Nodup
  pth : ∀ e ∈ es, path (key e) = true
theorem sq_nil : Sq 0 [] := ⟨by simp, by simp, by simp⟩
theorem Sq.sub {q : Int} {es es' : List En} (h : Sq q es) (hs : List.Sublist es' es) : Sq q es' :=
  ⟨fun e he => h.rng e (hs.subset he), h.dif.sublist (hs.map _), fun e he => h.pth e (hs.subset he)⟩
theorem Sq.mid {q : Int} {A R : List En} {e : En} (h : Sq q (A ++ R)) (hq : 0 ≤ q) (he : e.seq = q + 1) (hp : path (key e) = true) : Sq (q + 1) (A ++ e :: R) := by
  refine ⟨fun p hp' => ?_, ?_, fun p hp' => ?_⟩
  · rcases List.mem_append.1 hp' with h1 | h1
    · have := h.rng p (List.mem_append.2 (.inl h1)); omega
    · rcases List.mem_cons.1 h1 with rfl | h1
      · omega
      · have := h.rng p (List.mem_append.2 (.inr h1)); omega
  · have h0 := h.dif
    rw [List.map_append] at h0
    rw [List.map_append, List.map_cons]
    refine (List.perm_middle.nodup_iff).2 (List.nodup_cons.2 ⟨?_, h0⟩)
    rw [← List.map_append]
    intro hm
    obtain ⟨p, h1, h2⟩ := List.mem_map.1 hm
    have := h.rng p h1
    omega
  · rcases List.mem_append.1 hp' with h1 | h1
    · exact h.pth p (List.mem_append.2 (.inl h1))
    · rcases List.mem_cons.1 h1 with rfl | h1
      · exact hp
      · exact h.pth p (List.mem_append.2 (.inr h1))
theorem Sq.put {q : Int} {es : List En} {e : En} (h : Sq q es) (hok : Ok es) (hq : 0 ≤ q) (he : e.seq = q + 1) (hp : path (key e) = true) : Sq (q + 1) (put e es) := by
  cases hh : has (key e) es
  · obtain ⟨A, R, h1, h3, _⟩ := put_no es e hok hh
    rw [h3]
    rw [h1] at h
    exact h.mid hq he hp
  · obtain ⟨A, f, R, h1, _, h3, _⟩ := put_yes es e hok hh
    rw [h3]
    rw [h1] at h
    exact (h.sub (List.Sublist.append (List.Sublist.refl A) (List.sublist_cons_self f R))).mid hq he hp
theorem Sq.rem {q : Int} {es : List En} {x : Tx8} (h : Sq q es) (hok : Ok es) (hm : has x es = true) : Sq (q + 1) (rem x es) := by
  obtain ⟨A, f, R, h1, _, h3, _⟩ := rem_yes es x hok hm
  rw [h3]
  rw [h1] at h
  have h4 := h.sub (List.Sublist.append (List.Sublist.refl A) (List.sublist_cons_self f R))
  exact ⟨fun e he => by have := h4.rng e he; omega, h4.dif, h4.pth⟩
theorem rise_at (es : List En) (h : Ok es) (i k : Nat) (a b : En) (hik : i < k) (ha : es[i]? = some a) (hb : es[k]? = some b) : key a < key b := by
  have ho : List.Pairwise (fun a b : Tx8 => a < b) (ks es) := h
  obtain ⟨hi, ha'⟩ := List.getElem?_eq_some_iff.1 ha
  obtain ⟨hk, hb'⟩ := List.getElem?_eq_some_iff.1 hb
  have := List.pairwise_iff_getElem.1 ho i k (by rw [ks_len]; exact hi) (by rw [ks_len]; exact hk) hik
  unfold ks at this
  rw [List.getElem_map, List.getElem_map, ha', hb'] at this
  exact this
/-- Where a path stands. -/
theorem at_iff (es : List En) (h : Ok es) (j : Nat) (p : En) (hp : es[j]? = some p) (x : Tx8) : key p = x ↔ has x es = true ∧ at' x es = j := by
  constructor
  · rintro rfl
    have hm : has (key p) es = true := decide_eq_true (List.mem_map.2 ⟨p, List.mem_of_getElem? hp, rfl⟩)
    refine ⟨hm, ?_⟩
    obtain ⟨e, h1, h2⟩ := has_lt (key p) es h hm
    have hr := rise_at es h
    rcases Nat.lt_trichotomy (at' (key p) es) j with hlt | heq | hgt
    · have := hr _ _ _ _ hlt h1 hp; rw [h2] at this; exact absurd this (lt_irrefl _)
    · exact heq
    · have := hr _ _ _ _ hgt hp h1; rw [h2] at this; exact absurd this (lt_irrefl _)
  · rintro ⟨hm, rfl⟩
    obtain ⟨e, h1, h2⟩ := has_lt x es h hm
    rw [hp] at h1
    injection h1 with h1
    rw [h1]; exact h2
theorem get_at (es : List En) (h : Ok es) (x : Tx8) (hm : has x es = true) : ∃ e, get x es = some e ∧ es[at' x es]? = some e := by
  obtain ⟨e, h1, _⟩ := has_lt x es h hm
  exact ⟨e, by unfold get; rw [hm, if_pos rfl, h1], h1⟩
theorem dif_at (q : Int) (es : List En) (h : Sq q es) (i k : Nat) (a b : En) (hik : i < k) (ha : es[i]? = some a) (hb : es[k]? = some b) : a.seq ≠ b.seq := by
  have ho : List.Pairwise (fun a b : Int => a ≠ b) (es.map (·.seq)) := h.dif
  obtain ⟨hi, ha'⟩ := List.getElem?_eq_some_iff.1 ha
  obtain ⟨hk, hb'⟩ := List.getElem?_eq_some_iff.1 hb
  have := List.pairwise_iff_getElem.1 ho i k (by simpa using hi) (by simpa using hk) hik
  rw [List.getElem_map, List.getElem_map, ha', hb'] at this
  exact this
end Dk

/-- A change keeps it. -/
theorem chOf_sq {c : Cl13} {es es' : List Dk.En} {q q' : Int} (h : ChOf c es q es' q') (hok : Dk.Ok es) (hq : 0 ≤ q) (hs : Dk.Sq q es) : Dk.Sq q' es' ∧ 0 ≤ q' ∧ q' ≤ q + 1 := by
  rcases h with ⟨_, t, ⟨_, h2, rfl, rfl⟩ | ⟨_, h2, rfl, rfl⟩⟩ | ⟨_, k, ⟨_, _, rfl, rfl⟩ | ⟨_, _, rfl, rfl⟩ | ⟨_, _, rfl, rfl⟩ | ⟨_, _, rfl, rfl⟩ | ⟨_, h2, rfl, rfl⟩⟩
  · exact ⟨hs.rem hok h2, by omega, by omega⟩
  · exact ⟨hs, by omega, by omega⟩
  · exact ⟨hs, by omega, by omega⟩
  · exact ⟨hs, by omega, by omega⟩
  · exact ⟨hs, by omega, by omega⟩
  · exact ⟨hs, by omega, by omega⟩
  · exact ⟨hs.put (e := ⟨c.path, bodyOf c, c.time, q + 1⟩) hok hq rfl h2.1, by omega, by omega⟩

end Go.Proofs.YtnggablpkgbpaaaDoor
