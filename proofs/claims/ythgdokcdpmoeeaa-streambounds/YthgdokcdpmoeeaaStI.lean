/-
  (*Book).Phase, Open: by their contracts.
-/
import Derived.Test.YthgdokcdpmoeeaaStH
namespace Go.Proofs.Ythgdokcdpmoeeaa
open Go.RowKit

theorem look_at {l : List (Nat × Nat)} {i n p : Nat} (hs : l.Pairwise (fun x y => x.1 < y.1)) (h : l[i]? = some (n, p)) : Sm.look l n = some p := by
  induction l generalizing i with
  | nil => simp at h
  | cons x r ih =>
    rw [Sm.look_cons]
    cases i with
    | zero => simp at h; subst h; simp
    | succ i =>
      simp at h
      have h1 := (List.pairwise_cons.1 hs).1 (n, p) (List.mem_of_getElem? h)
      rw [if_neg (by simp at h1; omega)]
      exact ih (List.pairwise_cons.1 hs).2 h
theorem phaseI_nat (k : Sm.Bk) (n : Nat) : Sm.phaseI k (n : Int) = Sm.phase k n := by
  unfold Sm.phaseI
  split
  · simp
  · have : n = 0 := by omega
    subst this
    simp [Sm.phase]

set_option maxHeartbeats 4000000 in
theorem sphase_any (B b : Nat) (k : Sm.Bk) (v u : Value) (id : Int) (p : Nat) (hp : Sm.phaseI k id = p) (w : World) (h : BK w B b k v u) :
    Calls Try.prog 20 #[.pointer (some ⟨b, 0, none⟩), .int .i64 id] w fun e w' => e = .returned (.int .u8 (p : Int)) ∧ Below w.heap.size w w' := by
  have c1 := h.cells.2.1
  have c2 := h.cells.2.2.1
  have c3 := h.cells.2.2.2.1
  obtain ⟨la, hla⟩ : ∃ la, k.last = la := ⟨_, rfl⟩
  rw [hla] at c1
  have HP := hid' hp
  have H := hid' h
  have HLA := hid' hla
  clear h hp hla
  obtain ⟨cl, hcl⟩ : ∃ cl, (decide (1 ≤ id) && decide (id % 2 = 1)) = cl := ⟨_, rfl⟩
  have HC := hid' (sclient_any id cl hcl)
  cases cl
  · obtain rfl : 0 = p := by
      rw [← HP.out]
      unfold Sm.phaseI
      split
      · rename_i h1
        have : ¬ id % 2 = 1 := by simpa [h1] using hcl
        unfold Sm.phase
        rw [if_neg (by omega)]
      · rfl
    clear hcl
    go_enter Try.func20, Try.ntmps20
    go_wp2_with fail
    refine (HC.out _).mono ?_
    rintro e w1 ⟨rfl, hw1⟩
    subst w1
    go_wp2
    go_ret
    exact ⟨rfl, Below.refl _ _⟩
  · have hid1 : 1 ≤ id ∧ id % 2 = 1 := by simpa using hcl
    obtain ⟨n, rfl⟩ : ∃ n : Nat, id = n := ⟨id.toNat, by omega⟩
    have hno : n % 2 = 1 := by omega
    have HNO := hid' hno
    clear hcl hid1 hno
    by_cases hlt : la < n
    · have hlti : (la : Int) < (n : Int) := by omega
      obtain rfl : 0 = p := by
        rw [← HP.out, phaseI_nat]
        unfold Sm.phase
        rw [if_neg (by rw [HLA.out]; omega)]
      go_enter Try.func20, Try.ntmps20
      go_wp2_with fail
      refine (HC.out _).mono ?_
      rintro e w1 ⟨rfl, hw1⟩
      subst w1
      go_wp2
      go_ret
      exact ⟨rfl, Below.refl _ _⟩
    · have hlti : ¬ (la : Int) < (n : Int) := by omega
      have HPH : Hid ((match Sm.look k.op n with | some p => p | none => if n ∈ k.dr then 5 else 4) = p) := hid' (by
        rw [← HP.out, phaseI_nat]
        unfold Sm.phase
        have hc : n % 2 = 1 ∧ n ≤ k.last := ⟨HNO.out, by rw [HLA.out]; omega⟩
        rw [if_pos hc]
        cases Sm.look k.op n <;> rfl)
      clear HP HNO
      go_enter Try.func20, Try.ntmps20
      go_wp2_with fail
      refine (HC.out _).mono ?_
      rintro e w1 ⟨rfl, hw1⟩
      subst w1
      go_wp2_with fail
      refine (sfind_any B b k v u n w H.out).mono ?_
      rintro e w1 ⟨⟨q, rfl, hq⟩, hb1⟩
      obtain ⟨i, fb⟩ := q
      have HB1 := hid' hb1
      have H1 := hid' (H.out.keep hb1)
      have hs2 := (hb1.cell (p := ⟨b, 2, none⟩) H.out.hd.lt).trans c2
      have hs3 := (hb1.cell (p := ⟨b, 3, none⟩) H.out.hd.lt).trans c3
      clear hb1 c1 c2 c3
      simp only at hq ⊢
      rcases hq with ⟨rfl, ph, hph⟩ | ⟨rfl, hno⟩
      · obtain rfl : ph = p := by rw [← HPH.out, look_at H.out.ok.srt hph]
        have hil := (List.getElem?_eq_some_iff.1 hph).1
        have hil2 : (i : Int) < (k.op.length : Int) := by omega
        have hlen := H.out.opn
        obtain ⟨g, cap, cur, rfl, _⟩ : ∃ g cap, ∃ cur : Nat, v = .slice (some ⟨g, 0, none⟩) k.op.length cap ∧ cur = 0 := by
          rcases H1.out.op.2 with ⟨_, h0⟩ | ⟨g, cap, cur, hv, _⟩
          · omega
          · exact ⟨g, cap, 0, hv, rfl⟩
        have hcell : w1.cell? ⟨g, i * 2 + 1, none⟩ = some (.int .u8 (ph : Int)) := by
          have := H1.out.op.cells (g := g) rfl (i * 2 + 1) _ (en_at _ _ _ hph).2
          rwa [Addr.add_lit, Nat.zero_add] at this
        obtain ⟨m, hm⟩ : ∃ m, k.op.length = m := ⟨_, rfl⟩
        rw [hm] at hil hil2 hlen hs2 H1
        clear hph HPH H H1 hm
        go_wp2
        go_ret
        exact ⟨rfl, HB1.out⟩
      · have hlk : Sm.look k.op n = none := Sm.look_none.2 hno
        obtain ⟨md, hmd⟩ : ∃ md, decide (n ∈ k.dr) = md := ⟨_, rfl⟩
        have HD := hid' (scontains_any u k.dr n md hmd w1 (RR.of_own H1.out.dr) H1.out.drn)
        have HPM : Hid (p = if md then 5 else 4) := hid' (by rw [← HPH.out, hlk, ← hmd]; simp)
        clear hno hlk hmd HPH
        go_wp2_with fail
        refine HD.out.mono ?_
        rintro e w2 ⟨rfl, hw2⟩
        subst w2
        cases md
        · obtain rfl : p = 4 := HPM.out
          go_wp2
          go_ret
          exact ⟨rfl, HB1.out⟩
        · obtain rfl : p = 5 := HPM.out
          go_wp2
          go_ret
          exact ⟨rfl, HB1.out⟩

end Go.Proofs.Ythgdokcdpmoeeaa
