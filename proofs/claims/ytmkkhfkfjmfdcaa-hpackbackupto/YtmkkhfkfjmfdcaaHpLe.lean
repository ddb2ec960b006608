/-
  The laws' own lent: by its contract.
-/
import Derived.Test.YtmkkhfkfjmfdcaaHpLn
namespace Go.Proofs.Ytmkkhfkfjmfdcaa
open Go.RowKit

theorem sl_front {w : World} {B : Nat} {e : TypeId} {s g n cap : Nat} {xs ys : List Value} (h : w.ownsRow B e s (.slice (some ⟨g, 0, none⟩) (n + 1) cap) (n + 1) (xs ++ ys)) (hl : xs.length = n * s) : Sl w B e s (.slice (some ⟨g, 0, none⟩) n cap) n xs := by
  refine ⟨hl, ?_⟩
  rcases h.2 with ⟨hv, _⟩ | ⟨g', cap', cur, hv, hb, hg, hn, hm, hs, ht⟩
  · cases hv
  · injection hv with h1 _ h3
    injection h1 with h1
    injection h1 with h1
    subst h1 h3
    refine .inr ⟨g, 0, cap, cur, rfl, hb, hg, by omega, hm, by omega, ?_⟩
    rw [List.drop_zero]
    have h2 : (cur.toList.take ((n + 1) * s)).take (n * s) = (xs ++ ys).take (n * s) := by rw [ht]
    rw [List.take_take, Nat.min_eq_left (Nat.mul_le_mul_right _ (by omega))] at h2
    rw [h2, ← hl, List.take_left]

set_option maxHeartbeats 2000000 in
set_option maxRecDepth 20000 in
theorem lent_any (ao : Option Addr) (cap : Nat) (l : List (List UInt8 × List UInt8)) (w : World) (h : FS w (.slice ao l.length cap) l) (hb : l.length ≤ 1099511627776) :
    Calls Try.prog 14 #[.slice ao l.length cap] w fun e w' => ∃ g c', e = .returned (.slice (some ⟨g, 0, none⟩) l.length c') ∧ Sl w' w.heap.size 55 2 (.slice (some ⟨g, 0, none⟩) l.length c') l.length (Tb.cells l) ∧ Below w.heap.size w w' := by
  obtain ⟨i0, hi, hz0, hz1, hz2⟩ := info_parts infoFd
  obtain ⟨n, hn⟩ : ∃ n, l.length = n := ⟨_, rfl⟩
  rw [hn] at h hb ⊢
  have HN := hid' hn
  have HI := hid' hi
  have HZ0 := hid' hz0
  have HZ1 := hid' hz1
  have HZ2 := hid' hz2
  have HCL : Hid ((Tb.cells l).length = n * 2) := hid' (by rw [Tb.cells_length, hn])
  clear hn hi hz0 hz1 hz2
  have hno : w.ownsRow w.heap.size 55 2 (.slice none 0 0) 0 [] := World.ownsRow_nil _ _ _ _
  have HNO := hid' hno
  clear hno
  rcases h with ⟨hv, rfl⟩ | ⟨a, cap', hv, hc⟩
  · injection hv with h1 h2 h3
    subst h1 h2 h3
    go_enter Try.func14, Try.ntmps14
    go_wp2_with (at_builtin; refine wpList_append_own_none rfl _ _ 30 rfl w.heap.size 55 i0 2 Try.underlying30 HI.out (.slice none 0 0) 0 [] rfl HNO.out rfl ?_; refine Hid.out ?_)
    refine hid' ?_
    have hown1 : w.ownsRow w.heap.size 55 2 (.slice none 0 0) 0 (Tb.cells []) := HNO.out
    have hbl1 := Below.refl w.heap.size w
    have HOWN1 := hid' hown1
    have HB1 := hid' hbl1
    clear hown1 hbl1
    go_wp2_with fail
    refine (fld_any _ _ _).mono ?_
    rintro e w2 ⟨rfl, hb2⟩
    have hb3 : Below w2.heap.size w2 (w2.alloc (.cells #[.string ⟨#[45, 109, 97, 114, 107]⟩, .string ⟨#[]⟩] 55)) := (Below.refl _ _).alloc (Nat.le_refl _) _
    have HA3 : Hid (Ar (w2.alloc (.cells #[.string ⟨#[45, 109, 97, 114, 107]⟩, .string ⟨#[]⟩] 55)) w2.heap.size 55 #[.string ⟨#[45, 109, 97, 114, 107]⟩, .string ⟨#[]⟩]) := hid' (heap_alloc_last w2 _)
    have HBB := hid' (below_two (below_two HB1.out hb2) hb3)
    have HOWN : Hid ((w2.alloc (.cells #[.string ⟨#[45, 109, 97, 114, 107]⟩, .string ⟨#[]⟩] 55)).ownsRow w.heap.size 55 2 (.slice none 0 0) 0 (Tb.cells [])) := hid' (HOWN1.out.kept (row := none) (grown_of_below (below_two hb2 hb3) _) (by simp [Value.ownBlock]))
    have HNW : Hid (∀ j u, [Value.string ⟨#[45, 109, 97, 114, 107]⟩, .string ⟨#[]⟩][j]? = some u → (w2.alloc (.cells #[.string ⟨#[45, 109, 97, 114, 107]⟩, .string ⟨#[]⟩] 55)).cell? ((⟨w2.heap.size, 0, none⟩ : Addr).add j) = some u) := hid' fun j u hj => by
      rw [Addr.add_mid, Nat.zero_add]
      exact HA3.out.cell j u (by simpa using hj)
    clear hb2 hb3 HOWN1
    go_wp2_with (at_builtin; refine wpList_append_own _ rfl _ _ 30 rfl w.heap.size 55 i0 (.agg #[.string ⟨#[]⟩, .string ⟨#[]⟩]) 2 32 Try.underlying30 HI.out HZ0.out HZ1.out HZ2.out rfl (by decide) (.slice none 0 0) 0 (Tb.cells []) rfl HOWN.out ⟨w2.heap.size, 0, none⟩ 1 1 [.string ⟨#[45, 109, 97, 114, 107]⟩, .string ⟨#[]⟩] rfl rfl HNW.out (by simp [Value.oneCell']) (by unfold maxLen; omega) (by omega) HBB.out.size ?_; intro v3 w3 hown3 hgrow3 _; refine Hid.out ?_)
    refine hid' ?_
    obtain ⟨g, cap3, rfl, hcap⟩ : ∃ g cap3, v3 = .slice (some ⟨g, 0, none⟩) (0 + 1) cap3 ∧ 0 + 1 ≤ cap3 := by
      rcases hown3.2 with ⟨_, h0⟩ | ⟨g, c3, cur, hv, _, _, hle, _⟩
      · omega
      · exact ⟨g, c3, hv, hle⟩
    have HSL : Hid (Sl w3 w.heap.size 55 2 (.slice (some ⟨g, 0, none⟩) 0 cap3) 0 (Tb.cells [])) := hid' (sl_front hown3 HCL.out)
    have HB3 : Hid (Below w.heap.size w w3) := hid' (HBB.out.grown hgrow3 HBB.out.size (fun k hk => (HOWN.out.lt k hk).1))
    have hc2 : 0 ≤ cap3 := by omega
    have hc4 : ¬ cap3 = 0 := by omega
    have hc5 : (cap3 == 0) = false := beq_false_of_ne hc4
    clear hown3 hgrow3 hcap
    go_wp2
    go_ret
    exact ⟨g, cap3, rfl, HSL.out, HB3.out⟩
  · injection hv with h1 h2 h3
    subst h1 h3
    have HC := hid' hc
    clear hc h2
    go_enter Try.func14, Try.ntmps14
    go_wp2_with (at_builtin; refine wpList_append_own _ rfl _ _ 30 rfl w.heap.size 55 i0 (.agg #[.string ⟨#[]⟩, .string ⟨#[]⟩]) 2 32 Try.underlying30 HI.out HZ0.out HZ1.out HZ2.out rfl (by decide) (.slice none 0 0) 0 [] rfl HNO.out a n cap (Tb.cells l) rfl HCL.out (fun j u hj => (HC.out j u hj).2) (Tb.cells_one l) (by unfold maxLen; omega) (by omega) (Nat.le_refl _) ?_; intro v1 w1 hown1 hgrow1 _; refine Hid.out ?_)
    refine hid' ?_
    rw [Nat.zero_add, List.nil_append] at hown1
    have hbl1 : Below w.heap.size w w1 := (Below.refl w.heap.size w).grown hgrow1 (Nat.le_refl _) (fun k hk => by simp [Value.ownBlock] at hk)
    clear hgrow1
    have HOWN1 := hid' hown1
    have HB1 := hid' hbl1
    clear hown1 hbl1
    go_wp2_with fail
    refine (fld_any _ _ _).mono ?_
    rintro e w2 ⟨rfl, hb2⟩
    have hb3 : Below w2.heap.size w2 (w2.alloc (.cells #[.string ⟨#[45, 109, 97, 114, 107]⟩, .string ⟨#[]⟩] 55)) := (Below.refl _ _).alloc (Nat.le_refl _) _
    have HA3 : Hid (Ar (w2.alloc (.cells #[.string ⟨#[45, 109, 97, 114, 107]⟩, .string ⟨#[]⟩] 55)) w2.heap.size 55 #[.string ⟨#[45, 109, 97, 114, 107]⟩, .string ⟨#[]⟩]) := hid' (heap_alloc_last w2 _)
    have HBB := hid' (below_two (below_two HB1.out hb2) hb3)
    have HOWN : Hid ((w2.alloc (.cells #[.string ⟨#[45, 109, 97, 114, 107]⟩, .string ⟨#[]⟩] 55)).ownsRow w.heap.size 55 2 v1 n (Tb.cells l)) := hid' (HOWN1.out.kept (row := none) (grown_of_below (below_two hb2 hb3) _) (by cases v1.ownBlock <;> simp))
    have HNW : Hid (∀ j u, [Value.string ⟨#[45, 109, 97, 114, 107]⟩, .string ⟨#[]⟩][j]? = some u → (w2.alloc (.cells #[.string ⟨#[45, 109, 97, 114, 107]⟩, .string ⟨#[]⟩] 55)).cell? ((⟨w2.heap.size, 0, none⟩ : Addr).add j) = some u) := hid' fun j u hj => by
      rw [Addr.add_mid, Nat.zero_add]
      exact HA3.out.cell j u (by simpa using hj)
    clear hb2 hb3 HOWN1
    go_wp2_with (at_builtin; refine wpList_append_own _ rfl _ _ 30 rfl w.heap.size 55 i0 (.agg #[.string ⟨#[]⟩, .string ⟨#[]⟩]) 2 32 Try.underlying30 HI.out HZ0.out HZ1.out HZ2.out rfl (by decide) v1 n (Tb.cells l) rfl HOWN.out ⟨w2.heap.size, 0, none⟩ 1 1 [.string ⟨#[45, 109, 97, 114, 107]⟩, .string ⟨#[]⟩] rfl rfl HNW.out (by simp [Value.oneCell']) (by unfold maxLen; omega) (by omega) HBB.out.size ?_; intro v3 w3 hown3 hgrow3 _; refine Hid.out ?_)
    refine hid' ?_
    obtain ⟨g, cap3, rfl, hcap⟩ : ∃ g cap3, v3 = .slice (some ⟨g, 0, none⟩) (n + 1) cap3 ∧ n + 1 ≤ cap3 := by
      rcases hown3.2 with ⟨_, h0⟩ | ⟨g, c3, cur, hv, _, _, hle, _⟩
      · omega
      · exact ⟨g, c3, hv, hle⟩
    have HSL : Hid (Sl w3 w.heap.size 55 2 (.slice (some ⟨g, 0, none⟩) n cap3) n (Tb.cells l)) := hid' (sl_front hown3 HCL.out)
    have HB3 : Hid (Below w.heap.size w w3) := hid' (HBB.out.grown hgrow3 HBB.out.size (fun k hk => (HOWN.out.lt k hk).1))
    have hc2 : n ≤ cap3 := by omega
    have hc4 : ¬ cap3 = 0 := by omega
    have hc5 : (cap3 == 0) = false := beq_false_of_ne hc4
    clear hown3 hgrow3 hcap
    go_wp2
    go_ret
    exact ⟨g, cap3, rfl, HSL.out, HB3.out⟩

end Go.Proofs.Ytmkkhfkfjmfdcaa
