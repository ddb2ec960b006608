/-
  The document's Put: by its contract.
-/
import Derived.Test.YtnggablpkgbpaaaDoorDkB
import Derived.Maps.AppendAt
namespace Go.Proofs.YtnggablpkgbpaaaDoor
open Go.RowKit

theorem dinfo_parts {P : Program} {t : TypeId} {z : Option Value} {s b : Nat} (h : (P.info? t).map (fun i => (i.zero, i.size, i.bytes)) = some (z, s, b)) : ∃ i, P.info? t = some i ∧ i.zero = z ∧ i.size = s ∧ i.bytes = b := by
  cases hq : P.info? t with
  | none => simp [hq] at h
  | some i => simp [hq] at h; exact ⟨i, rfl, h.1, h.2.1, h.2.2⟩
theorem dinfoE : (Tryd.prog.info? 45).map (fun i => (i.zero, i.size, i.bytes)) = some (some (.agg #[.string ⟨#[]⟩, .string ⟨#[]⟩, .int .i64 0, .int .i64 0]), 4, 48) := by kernel_rfl
theorem down_le {w : World} {B B' : Nat} {e : TypeId} {s : Nat} {v : Value} {n : Nat} {xs : List Value} (h : w.ownsRow B e s v n xs) (hB : B' ≤ B) : w.ownsRow B' e s v n xs := by
  refine ⟨h.1, ?_⟩
  rcases h.2 with h0 | ⟨g, cap, cur, hv, hb, r⟩
  · exact .inl h0
  · exact .inr ⟨g, cap, cur, hv, Nat.le_trans hB hb, r⟩
theorem down_cell {w : World} {B : Nat} {e : TypeId} {s g n cap : Nat} {xs : List Value} (h : w.ownsRow B e s (.slice (some ⟨g, 0, none⟩) n cap) n xs) (j : Nat) (u : Value) (hj : xs[j]? = some u) : w.cell? ⟨g, j, none⟩ = some u := by
  have := h.cells (g := g) rfl j u hj
  rwa [Addr.add_mid, Nat.zero_add] at this
theorem down_form {w : World} {B : Nat} {e : TypeId} {s n : Nat} {v : Value} {xs : List Value} (h : w.ownsRow B e s v n xs) (hn : 0 < n) : ∃ g cap, v = .slice (some ⟨g, 0, none⟩) n cap ∧ n ≤ cap ∧ cap ≤ maxLen := by
  rcases h.2 with ⟨_, h0⟩ | ⟨g, cap, cur, hv, _, _, h1, h2, _⟩
  · omega
  · exact ⟨g, cap, hv, h1, h2⟩
/-- What Put and Remove answer, and what becomes of the files. -/
def PutOf13 (es : List Dk.En) (q : Int) (x y : ByteArray) (t : Int) (c : Int) (es' : List Dk.En) (q' : Int) : Prop :=
  (c = 130 ∧ Dk.path x.data.toList = false ∧ es' = es ∧ q' = q) ∨
  (c = 3 ∧ (Dk.path x.data.toList = true ∧ 65536 < y.size) ∧ es' = es ∧ q' = q) ∨
  (c = 5 ∧ (Dk.path x.data.toList = true ∧ y.size ≤ 65536 ∧ (t < 0 ∨ 253402300799 < t)) ∧ es' = es ∧ q' = q) ∨
  (c = 4 ∧ (Dk.path x.data.toList = true ∧ y.size ≤ 65536 ∧ (0 ≤ t ∧ t ≤ 253402300799) ∧ Dk.has x.data.toList es = false ∧ 1024 ≤ es.length) ∧ es' = es ∧ q' = q) ∨
  (c = 0 ∧ (Dk.path x.data.toList = true ∧ y.size ≤ 65536 ∧ (0 ≤ t ∧ t ≤ 253402300799) ∧ (Dk.has x.data.toList es = true ∨ es.length < 1024)) ∧ es' = Dk.put ⟨x, y, t, q + 1⟩ es ∧ q' = q + 1)
theorem putOf13_ex (es : List Dk.En) (q : Int) (x y : ByteArray) (t : Int) : ∃ c es' q', PutOf13 es q x y t c es' q' := by
  cases h1 : Dk.path x.data.toList
  · exact ⟨130, _, _, .inl ⟨rfl, h1, rfl, rfl⟩⟩
  by_cases h2 : 65536 < y.size
  · exact ⟨3, _, _, .inr (.inl ⟨rfl, ⟨h1, h2⟩, rfl, rfl⟩)⟩
  by_cases h3 : t < 0 ∨ 253402300799 < t
  · exact ⟨5, _, _, .inr (.inr (.inl ⟨rfl, ⟨h1, by omega, h3⟩, rfl, rfl⟩))⟩
  by_cases h4 : Dk.has x.data.toList es = false ∧ 1024 ≤ es.length
  · exact ⟨4, _, _, .inr (.inr (.inr (.inl ⟨rfl, ⟨h1, by omega, by omega, h4.1, h4.2⟩, rfl, rfl⟩)))⟩
  · refine ⟨0, _, _, .inr (.inr (.inr (.inr ⟨rfl, ⟨h1, by omega, by omega, ?_⟩, rfl, rfl⟩)))⟩
    cases h5 : Dk.has x.data.toList es
    · exact .inr (by have : ¬ 1024 ≤ es.length := fun h => h4 ⟨h5, h⟩; omega)
    · exact .inl rfl

set_option maxHeartbeats 2000000 in
set_option maxRecDepth 20000 in
theorem dput_no (B b : Nat) (v : Value) (q : Int) (es : List Dk.En) (x y : ByteArray) (t : Int) (w : World) (h : RD w B b v q es) (hx : x.size ≤ 9223372036854775807) (c : Int)
    (hc : (c = 130 ∧ Dk.path x.data.toList = false) ∨ (c = 3 ∧ (Dk.path x.data.toList = true ∧ 65536 < y.size)) ∨ (c = 5 ∧ (Dk.path x.data.toList = true ∧ y.size ≤ 65536 ∧ (t < 0 ∨ 253402300799 < t))) ∨ (c = 4 ∧ (Dk.path x.data.toList = true ∧ y.size ≤ 65536 ∧ (0 ≤ t ∧ t ≤ 253402300799) ∧ Dk.has x.data.toList es = false ∧ 1024 ≤ es.length))) :
    Calls Tryd.prog 16 #[.pointer (some ⟨b, 0, none⟩), .string x, .string y, .int .i64 t] w fun e w' => e = .returned (.int .i64 c) ∧ ∃ m, w' = w.drewN m := by
  rcases hc with ⟨rfl, h1⟩ | ⟨rfl, h1, h2⟩ | ⟨rfl, h1, h2, h3⟩ | ⟨rfl, h1, h2, h3, h4, h5⟩
  · have HP := hid' (rpath x false h1 w hx)
    clear h h1
    go_enter Tryd.func16, Tryd.ntmps16
    go_wp2_with fail
    refine HP.out.mono ?_
    rintro e w1 ⟨rfl, rfl⟩
    go_wp2
    go_ret
    exact ⟨rfl, 0, rfl⟩
  · have HP := hid' (rpath x true h1 w hx)
    have h2' : (65536 : Int) < (y.size : Int) := by omega
    clear h h1
    go_enter Tryd.func16, Tryd.ntmps16
    go_wp2_with fail
    refine HP.out.mono ?_
    rintro e w1 ⟨rfl, rfl⟩
    go_wp2
    go_ret
    exact ⟨rfl, 0, rfl⟩
  · have HP := hid' (rpath x true h1 w hx)
    have h2' : ¬ (65536 : Int) < (y.size : Int) := by omega
    clear h h1
    rcases h3 with h3 | h3
    · go_enter Tryd.func16, Tryd.ntmps16
      go_wp2_with fail
      refine HP.out.mono ?_
      rintro e w1 ⟨rfl, rfl⟩
      go_wp2
      go_ret
      exact ⟨rfl, 0, rfl⟩
    · have h4 : ¬ t < 0 := by omega
      go_enter Tryd.func16, Tryd.ntmps16
      go_wp2_with fail
      refine HP.out.mono ?_
      rintro e w1 ⟨rfl, rfl⟩
      go_wp2
      go_ret
      exact ⟨rfl, 0, rfl⟩
  · have HP := hid' (rpath x true h1 w hx)
    have h2' : ¬ (65536 : Int) < (y.size : Int) := by omega
    have h3' : ¬ t < 0 := by omega
    have h3'' : ¬ 253402300799 < t := by omega
    have HA := hid' (dat B b v q es x _ false rfl h4 w h)
    have c0 : ∀ m, (w.drewN m).cell? ⟨b, 0, none⟩ = some v := fun m => h.obj.cell 0 _ rfl
    obtain ⟨ao, cap, hv⟩ := down_shape h.row
    obtain ⟨n, hn⟩ : ∃ n, es.length = n := ⟨_, rfl⟩
    rw [hn] at hv h5
    subst hv
    have hge : (1024 : Int) ≤ (n : Int) := by omega
    clear h h1 h3 h4 hn
    go_enter Tryd.func16, Tryd.ntmps16
    go_wp2_with fail
    refine HP.out.mono ?_
    rintro e w1 ⟨rfl, rfl⟩
    go_wp2_with fail
    refine HA.out.mono ?_
    rintro e w2 ⟨rfl, m, hw2⟩
    have c0' := c0 m
    rw [← hw2] at c0'
    have HW := hid' hw2
    clear hw2 c0
    go_wp2
    go_ret
    exact ⟨rfl, m, HW.out⟩

end Go.Proofs.YtnggablpkgbpaaaDoor
