/-
  Rows of numbers and of fields beside each other; texts of zeros.
-/
import Derived.Test.YtjpgnifogacpcaaTabW
import Derived.Laws.MakeOwn
import Derived.Laws.BytesString
namespace Go.Proofs.Ytjpgnifogacpcaa
open Go.RowKit

theorem i64_and63 (n : Int) : bits .and .i64 n 63 = n % 64 := by
  have h63 : (BitVec.ofInt 64 63).toNat = 2 ^ 6 - 1 := by decide
  have key : (BitVec.ofInt 64 n &&& BitVec.ofInt 64 63).toNat = (n % ((2 ^ 64 : Nat) : Int)).toNat % 2 ^ 6 := by
    rw [BitVec.toNat_and, BitVec.toNat_ofInt, h63, Nat.and_two_pow_sub_one_eq_mod]
  show IntKind.i64.wrap ((BitVec.ofInt 64 n &&& BitVec.ofInt 64 63).toNat : Nat) = n % 64
  rw [key, IntKind.wrap_i64]
  omega

/-- A text of zeros. -/
def zb (m : Nat) : ByteArray := (List.replicate m (0 : Int)).foldl (fun r n => r.push (UInt8.ofNat n.toNat)) ByteArray.empty
theorem fold_size : ∀ (l : List Int) (s : ByteArray), (l.foldl (fun r n => r.push (UInt8.ofNat n.toNat)) s).size = s.size + l.length := by
  intro l
  induction l with
  | nil => intro s; simp
  | cons n l ih => intro s; rw [List.foldl_cons, ih, ByteArray.size_push, List.length_cons]; omega
theorem zb_size (m : Nat) : (zb m).size = m := by unfold zb; rw [fold_size]; simp
theorem made_list (v : Value) (m : Nat) : (madeCells #[v] m).toList = List.replicate m v := by
  apply List.ext_getElem
  · simp [size_madeCells]
  · intro i h1 h2
    simp [madeCells, Nat.mod_one]

section
variable {P : Program} {ops : Array Oper} {rest : List Oper} {o : Oper} {a : Act} {w : World} {Q : Exit → Act → World → Prop}
theorem wpl_make (t e : TypeId) (x y : Operand) (ho : o.op = .makeSlice t x y) (hgd : o.guard = none) (i : TypeInfo) (v : Value) (ht : P.underlying t = some (.slice e)) (hi : P.info? e = some i) (hz : i.zero = some v) (hs : i.size = 1) (hby : i.bytes = 1) (hc : v.cells = #[v])
    (m : Nat) (hm : m ≤ 1048576) (hx : a.eval x = .int .i64 (m : Int)) (hy : a.eval y = .int .i64 (m : Int))
    (h : ∀ b w', w.heap.size ≤ b → Ar w' b e (madeCells #[v] m) → Below w.heap.size w w' → wpList P ops Q rest (a.put o.dst (.slice (some ⟨b, 0, none⟩) m m)) w') : wpList P ops Q (o :: rest) a w := by
  refine wpList_plain hgd fun _ hK => ?_
  have hr := run_make (P := P) w t e i v ht hi hz .i64 .i64 (m : Int) (m : Int) (by omega) (by omega) (by rw [hby]; omega) (by omega)
  rw [hs, hc, Int.toNat_natCast, Nat.mul_one] at hr
  unfold Oper.wp execOp
  simp only [ho, hx, hy, Sem.run_bind, Sem.run_pure, hr, Result.andThen_ok]
  exact hK _ _ (h _ _ (Nat.le_refl _) (heap_alloc_last w _) ((Below.refl _ w).alloc (Nat.le_refl _) _))
theorem wpl_zeros (src dst e : TypeId) (x : Operand) (ho : o.op = .convert src dst x) (hgd : o.guard = none) (hs : P.underlying src = some (.slice e)) (he : P.underlying e = some (.int .u8)) (hd : P.underlying dst = some .string)
    (b m c : Nat) (hx : a.eval x = .slice (some ⟨b, 0, none⟩) m c) (T : TypeId) (hA : Ar w b T (madeCells #[.int .u8 0] m))
    (h : wpList P ops Q rest (a.put o.dst (.string (zb m))) w) : wpList P ops Q (o :: rest) a w := by
  refine wpList_plain hgd fun _ hK => ?_
  have hl : (loadCells ⟨b, 0, none⟩ m).run P w = .ok ((List.replicate m (0 : Int)).map (Value.int .u8)).toArray w := by
    have := run_loadCells_list (P := P) w ⟨b, 0, none⟩ ((List.replicate m (0 : Int)).map (Value.int .u8)) (fun j v hv => by
      rw [Addr.add_mid, Nat.zero_add]
      refine hA.cell j v ?_
      rw [← Array.getElem?_toList, made_list]
      simpa using hv)
    simpa using this
  have hr := run_bytesToString (P := P) w ⟨b, 0, none⟩ m c (List.replicate m 0) hl
  unfold Oper.wp execOp
  simp only [ho, hx, Sem.run_bind, Sem.run_pure, run_convert_bytes_string w src dst e (some ⟨b, 0, none⟩) m c hs he hd, hr, Result.andThen_ok]
  exact hK _ _ h
end
theorem infoU8 : (Try.prog.info? 5).map (fun i => (i.zero, i.size, i.bytes)) = some (some (.int .u8 0), 1, 1) := by kernel_rfl

/-- The numbers as cells; the fields that stand for them. -/
def iv (L : List Int) : List Value := L.map (Value.int .i64)
def fv (L : List Int) : List Value := L.flatMap fun x => [.string (zb (x % 64).toNat), .string ⟨#[]⟩]
theorem iv_cons (x : Int) (L : List Int) : iv (x :: L) = .int .i64 x :: iv L := rfl
theorem iv_snoc (x : Int) (L : List Int) : iv (L ++ [x]) = iv L ++ [.int .i64 x] := by simp [iv]
theorem fv_cons (x : Int) (L : List Int) : fv (x :: L) = .string (zb (x % 64).toNat) :: .string ⟨#[]⟩ :: fv L := rfl
theorem fv_snoc (x : Int) (L : List Int) : fv (L ++ [x]) = fv L ++ [.string (zb (x % 64).toNat), .string ⟨#[]⟩] := by simp [fv]
theorem iv_at (L : List Int) (i : Nat) (x : Int) (h : L[i]? = some x) : (iv L)[i]? = some (.int .i64 x) := by simp [iv, h]

/-- A row of numbers, a row of fields and a slice of one's own, apart from each other. -/
structure RI (W w : World) (r s : Nat) (u v l : Value) (A F L : List Int) : Prop where
  ring : RG w W.heap.size r 74 3 1 u [] A.length (iv A)
  fld : RG w W.heap.size s 67 32 2 v [] F.length (fv F)
  loc : Sl w W.heap.size 3 1 l L.length (iv L)
  apart : ∀ k, u.ownBlock = some k → l.ownBlock ≠ some k
  bel : Below W.heap.size W w
theorem RI.ne {W w : World} {r s : Nat} {u v l : Value} {A F L : List Int} (h : RI W w r s u v l A F L) : r ≠ s := by
  intro e
  have h1 := h.ring.obj
  have h2 := h.fld.obj
  unfold Ar at h1 h2
  rw [e, h2] at h1
  injection h1 with h1
  injection h1 with _ h3 _
  exact absurd h3 (by decide)
theorem RI.keep {W w w' : World} {r s : Nat} {u v l : Value} {A F L : List Int} (h : RI W w r s u v l A F L) (hb : Below w.heap.size w w') : RI W w' r s u v l A F L :=
  ⟨h.ring.keep hb, h.fld.keep hb, h.loc.keep hb, h.apart, below_two h.bel hb⟩
theorem RI.ofI {W w w' : World} {r s : Nat} {u u' v l : Value} {A A' F L : List Int} (h : RI W w r s u v l A F L) (ht : Two r u.ownBlock w w') (hr : RG w' W.heap.size r 74 3 1 u' [] A'.length (iv A')) (hu : ∀ k, u'.ownBlock = some k → u.ownBlock = some k ∨ w.heap.size ≤ k) : RI W w' r s u' v l A' F L :=
  ⟨hr, h.fld.two ht (fun e => h.ne e.symm) (h.ring.row.ne h.fld.obj (by decide)) (h.fld.row.ne h.ring.obj (by decide)) (h.fld.row.apart h.ring.row (by decide)),
    ht.sl h.loc (h.loc.ne h.ring.obj (by decide)) (fun k hk e => h.apart k e hk),
    fun k hk hl => by
      rcases hu k hk with h1 | h1
      · exact h.apart k h1 hl
      · have := (h.loc.lt k hl).2
        omega,
    h.bel.trans (ht.below h.ring.ge (fun k hk => (h.ring.row.lt k hk).1) h.bel.size)⟩
theorem RI.ofF {W w w' : World} {r s : Nat} {u v v' l : Value} {A F F' L : List Int} (h : RI W w r s u v l A F L) (ht : Two s v.ownBlock w w') (hr : RG w' W.heap.size s 67 32 2 v' [] F'.length (fv F')) : RI W w' r s u v' l A F' L :=
  ⟨h.ring.two ht h.ne (h.fld.row.ne h.ring.obj (by decide)) (h.ring.row.ne h.fld.obj (by decide)) (h.ring.row.apart h.fld.row (by decide)), hr,
    ht.sl h.loc (h.loc.ne h.fld.obj (by decide)) (h.loc.apart h.fld.row (by decide)), h.apart,
    h.bel.trans (ht.below h.fld.ge (fun k hk => (h.fld.row.lt k hk).1) h.bel.size)⟩
theorem RI.ofL {W w w' : World} {r s : Nat} {u v l l' : Value} {A F L L' : List Int} (h : RI W w r s u v l A F L) (hg : w.grownBy w' l.ownBlock) (hl : Sl w' W.heap.size 3 1 l' L'.length (iv L')) (hat : ∀ k, l'.ownBlock = some k → l.ownBlock = some k ∨ w.heap.size ≤ k) : RI W w' r s u v l' A F L' :=
  have h1 : ∀ b T cs, Ar w b T cs → T ≠ 3 → Ar w' b T cs := fun b T cs ha hT => by
    have hlt := ha.lt
    have hne := h.loc.ne ha hT
    unfold Ar at *
    rw [hg.block b hlt (fun e => hne e.symm)]; exact ha
  ⟨⟨h.ring.ge, h1 _ _ _ h.ring.obj (by decide), h.ring.row.same fun k hk => hg.block k (h.ring.row.lt k hk).2 (fun e => h.apart k hk e.symm), h.ring.ne⟩,
    ⟨h.fld.ge, h1 _ _ _ h.fld.obj (by decide), h.fld.row.same fun k hk => hg.block k (h.fld.row.lt k hk).2 (fun e => h.fld.row.apart h.loc (by decide) k hk e.symm), h.fld.ne⟩, hl,
    fun k hk hk' => by
      rcases hat k hk' with h1 | h1
      · exact h.apart k hk h1
      · have := (h.ring.row.lt k hk).2
        omega,
    h.bel.trans (Two.below (b := r) (Two.of_grown hg) h.ring.ge (fun k hk => (h.loc.lt k hk).1) h.bel.size)⟩
theorem RI.setL {W w : World} {r s : Nat} {u v l l' : Value} {A F L L' : List Int} (h : RI W w r s u v l A F L) (hl : Sl w W.heap.size 3 1 l' L'.length (iv L')) (hat : ∀ k, l'.ownBlock = some k → l.ownBlock = some k) : RI W w r s u v l' A F L' :=
  ⟨h.ring, h.fld, hl, fun k hk hk' => h.apart k hk (hat k hk'), h.bel⟩

end Go.Proofs.Ytjpgnifogacpcaa
