/-
  Members that are joined by commas are found again: plain lemmas, with no program in sight.
-/
import Derived.Test.YtpngddfehaonhabDoorPureList
namespace Go.Proofs.YtpngddfehaonhabDoor
namespace Tx

def joined (gap : List UInt8) : List (List UInt8) → List UInt8
  | [] => []
  | [x] => x
  | x :: y :: r => x ++ gap ++ joined gap (y :: r)
theorem joined_snoc (gap : List UInt8) (x : List UInt8) : ∀ ws : List (List UInt8), ws ≠ [] → joined gap (ws ++ [x]) = joined gap ws ++ gap ++ x
  | [], h => absurd rfl h
  | [y], _ => rfl
  | y :: z :: r, _ => by
    have ih := joined_snoc gap x (z :: r) (by simp)
    show y ++ gap ++ joined gap ((z :: r) ++ [x]) = _
    rw [ih]
    show _ = (y ++ gap ++ joined gap (z :: r)) ++ gap ++ x
    simp only [List.append_assoc]
theorem joined_le (gap : List UInt8) : ∀ ws : List (List UInt8), (joined gap ws).length ≤ ws.flatten.length + ws.length * gap.length
  | [] => by simp [joined]
  | [x] => by simp [joined]
  | x :: y :: r => by
    have ih := joined_le gap (y :: r)
    show (x ++ gap ++ joined gap (y :: r)).length ≤ _
    rw [List.length_append, List.length_append, List.flatten_cons, List.length_append, List.length_cons, Nat.succ_mul]
    omega
theorem tok_fin : ∀ n : Fin 256, tokC (n.val : Int) = true → n.val ≠ 34 ∧ n.val ≠ 44 ∧ blkC (n.val : Int) = false := by decide +kernel
theorem tok_byte (c : UInt8) (h : tokC (c.toNat : Int) = true) : c ≠ 34 ∧ c ≠ 44 ∧ blkB c = false := by
  have := tok_fin ⟨c.toNat, c.toNat_lt⟩ h
  exact ⟨fun e => this.1 (by rw [e]; rfl), fun e => this.2.1 (by rw [e]; rfl), this.2.2⟩
theorem tok_mem (l : List UInt8) (h : isTok l = true) : ∀ c ∈ l, tokC (c.toNat : Int) = true := by
  unfold isTok allC at h
  rw [Bool.and_eq_true, List.all_eq_true] at h
  exact h.1
theorem tok_ne (l : List UInt8) (h : isTok l = true) : l ≠ [] := by
  intro e; subst e; simp [isTok] at h
theorem mems_plain (x r : List UInt8) : ∀ cur : List UInt8, (∀ c ∈ x, c ≠ 34 ∧ c ≠ 44) → mems cur false false (x ++ r) = mems (cur ++ x) false false r := by
  induction x with
  | nil => intro cur _; rw [List.nil_append, List.append_nil]
  | cons c x ih =>
    intro cur h
    obtain ⟨h1, h2⟩ := h c (List.mem_cons_self ..)
    rw [List.cons_append, mems, if_neg (by simp), if_neg (by simpa using h1), if_neg (by simp), if_neg (by simpa using h2), ih _ fun d hd => h d (List.mem_cons_of_mem _ hd), List.append_assoc]
    rfl
theorem addm_tok (sp x : List UInt8) (hs : ∀ c ∈ sp, blkB c = true) (hx : isTok x = true) : addm (sp ++ x) = [x] := by
  have hm := tok_mem x hx
  have e : trim (sp ++ x) = x := by
    unfold trim
    rw [trimL_skip sp x hs, trimL_stop x fun c hc => (tok_byte c (hm c (List.mem_of_mem_head? hc))).2.2, trimR_stop x fun c hc => (tok_byte c (hm c (List.mem_of_mem_getLast? hc))).2.2]
  unfold addm
  rw [e, if_neg (by rw [List.isEmpty_iff]; exact tok_ne x hx)]
theorem mems_joined (j : Nat) : ∀ (ws : List (List UInt8)) (sp : List UInt8), ws ≠ [] → (∀ c ∈ sp, blkB c = true) → (∀ x ∈ ws, isTok x = true) → mems sp false false (joined (44 :: List.replicate j 32) ws) = ws
  | [], _, h, _, _ => absurd rfl h
  | [x], sp, _, hs, hw => by
    have hx := hw x (List.mem_cons_self ..)
    show mems sp false false x = [x]
    rw [show x = x ++ [] from (List.append_nil x).symm, mems_plain x [] sp fun c hc => ⟨(tok_byte c (tok_mem x hx c hc)).1, (tok_byte c (tok_mem x hx c hc)).2.1⟩, mems, List.append_nil]
    exact addm_tok sp x hs hx
  | x :: y :: r, sp, _, hs, hw => by
    have hx := hw x (List.mem_cons_self ..)
    have ih := mems_joined j (y :: r) (List.replicate j 32) (by simp) (fun c hc => by obtain rfl := (List.mem_replicate.1 hc).2; rfl) (fun z hz => hw z (List.mem_cons_of_mem _ hz))
    show mems sp false false (x ++ (44 :: List.replicate j 32) ++ joined (44 :: List.replicate j 32) (y :: r)) = _
    rw [List.append_assoc, mems_plain x _ sp fun c hc => ⟨(tok_byte c (tok_mem x hx c hc)).1, (tok_byte c (tok_mem x hx c hc)).2.1⟩]
    rw [List.cons_append, mems, if_neg (by simp), if_neg (by decide), if_neg (by simp), if_pos (by decide), addm_tok sp x hs hx]
    rw [mems_plain (List.replicate j 32) _ [] fun c hc => by obtain rfl := (List.mem_replicate.1 hc).2; decide]
    rw [List.nil_append, ih]; rfl
/-- P1.7 -/
theorem list_joined (j : Nat) (ws : List (List UInt8)) (h : ∀ x ∈ ws, isTok x = true) : list (joined (44 :: List.replicate j 32) ws) = ws := by
  cases ws with
  | nil => rfl
  | cons x r => exact mems_joined j (x :: r) [] (by simp) (fun c hc => by simp at hc) h

end Tx
end Go.Proofs.YtpngddfehaonhabDoor
