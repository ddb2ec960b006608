/-
  Rows that grow, and what they were: laws on append for the reader.
  What the members of a list hold: plain lemmas, with no program in sight.
  The reader's members, withHost, isLast: by their contracts.
-/
import Derived.Maps.AppendAt
import Derived.Laws.AppendOwnNone
import Derived.Deep.DeepAppendRoom
import Derived.ArgAppend
import Derived.Test.YtbpdhcfmdkmoiaaGreatDoorPnAL
import Derived.Test.YtbpdhcfmdkmoiaaGreatDoorPnAB
import Derived.Test.YtbpdhcfmdkmoiaaGreatDoorPnAO
namespace Go.Proofs.YtbpdhcfmdkmoiaaGreatDoor
open Go.RowKit

theorem own_take21 {w : World} {B : Nat} {e : TypeId} {size g n k cap : Nat} {xs ys : List Value} (h : w.ownsRow B e size (.slice (some ⟨g, 0, none⟩) (n + k) cap) (n + k) (xs ++ ys)) (hx : xs.length = n * size) : w.ownsRow B e size (.slice (some ⟨g, 0, none⟩) n cap) n xs := by
  rcases h.2 with ⟨h0, _⟩ | ⟨g', cap', cur, h1, h2, h3, h4, h5, h6, h7⟩
  · simp at h0
  · simp only [Value.slice.injEq, Option.some.injEq, Addr.mk.injEq, and_true, true_and] at h1
    obtain ⟨rfl, rfl⟩ := h1
    refine ⟨hx, .inr ⟨g, cap, cur, rfl, h2, h3, by omega, h5, h6, ?_⟩⟩
    have : (cur.toList.take ((n + k) * size)).take (n * size) = (xs ++ ys).take (n * size) := by rw [h7]
    rw [List.take_take, Nat.min_eq_left (Nat.mul_le_mul_right _ (Nat.le_add_right _ _))] at this
    rw [this, ← hx, List.take_left]
theorem own_base21 {w : World} {B C : Nat} {e : TypeId} {size : Nat} {v : Value} {n : Nat} {xs : List Value} (h : w.ownsRow C e size v n xs) (hb : B ≤ C) : w.ownsRow B e size v n xs := by
  rcases h with ⟨h1, h2 | ⟨g, cap, cur, h3, h4, h5⟩⟩
  · exact ⟨h1, .inl h2⟩
  · exact ⟨h1, .inr ⟨g, cap, cur, h3, Nat.le_trans hb h4, h5⟩⟩
theorem own_le21 {w : World} {B : Nat} {e : TypeId} {size : Nat} {v : Value} {n : Nat} {xs : List Value} (h : w.ownsRow B e size v n xs) : ∀ k, v.ownBlock = some k → B ≤ k := by
  rcases h.2 with ⟨rfl, _⟩ | ⟨g, cap, cur, rfl, h4, _⟩
  · intro k hk; simp [Value.ownBlock] at hk
  · intro k hk; simp only [Value.ownBlock, Option.some.injEq] at hk; omega

section
variable {P : Program} {Q : Exit → Act → World → Prop}
/-- What is laid behind a row: the new row, and the old one as it was. -/
theorem run_app21 (w : World) (base : Nat) (t ty e : TypeId) (i : TypeInfo) (z : Value) (size bytes : Nat) (ht : P.underlying t = some (.slice e)) (hi : P.info? e = some i) (hz : i.zero = some z)
    (hsize : i.size = size) (hby : i.bytes = bytes) (hzs : z.cells.size = size) (hsz : 0 < size)
    (v : Value) (n : Nat) (xs : List Value) (hown : w.ownsRow base e size v n xs)
    (a : Addr) (m c : Nat) (news : List Value) (hl : news.length = m * size) (hnews : ∀ j u, news[j]? = some u → w.cell? (a.add j) = some u) (h1 : ∀ u ∈ news, u.oneCell' = true)
    (h63 : n + m ≤ maxLen) (hbytes : (n + m) * bytes ≤ 140737488355328) (hbase : base ≤ w.heap.size) :
    ∃ v' w', (Builtin.append_ #[t, t] ty #[v, .slice (some a) m c]).run P w = .ok v' w' ∧ w'.ownsRow base e size v' (n + m) (xs ++ news) ∧ w'.ownsRow base e size v n xs ∧ w.grownBy w' v.ownBlock ∧
      (∀ k, v'.ownBlock = some k → v.ownBlock = some k ∨ w.heap.size ≤ k) := by
  rcases hown.2 with ⟨rfl, rfl⟩ | ⟨g, cap, cur, rfl, hbg, hg, hnc, hcm, hcs, htake⟩
  · obtain ⟨v', w', hr, h2, h3, _, h5⟩ := run_append_own_at (P := P) w base t ty e i z size bytes ht hi hz hsize hby hzs hsz _ _ xs hown a m c news hl hnews h1 h63 hbytes hbase
    have hx : xs = [] := List.eq_nil_of_length_eq_zero (by rw [hown.1, Nat.zero_mul])
    subst hx
    exact ⟨v', w', hr, h2, World.ownsRow_nil _ _ _ _, h3, fun k hk => by rcases h5 with h5 | h5 <;> rw [h5] at hk <;> simp [Value.ownBlock] at hk; exact .inr (by omega)⟩
  · by_cases hroom : n + m ≤ cap
    · obtain ⟨w', hr, h2, h3⟩ := run_append_own_spare (P := P) w base t ty e i size ht hi hsize g n cap xs hown a m c news hl hnews h1 hroom
      exact ⟨_, w', hr, h2, own_take21 h2 hown.1, h3, fun k hk => .inl hk⟩
    · obtain ⟨v', w', hr, h2, h3⟩ := run_append_arg_grows (P := P) w t ty e i z size bytes ht hi hz hsize hby hzs hsz ⟨g, 0, none⟩ n cap xs hown.1 (fun j u hj => hown.cells (g := g) rfl j u hj) a m c news hl hnews (by omega) h63 hbytes
      refine ⟨v', w', hr, own_base21 h2 hbase, hown.kept h3 (.inr (by simp [Value.ownBlock])), ⟨h3.os, h3.tape, h3.output, h3.size, fun k hk _ => h3.block k hk (by simp)⟩, fun k hk => .inr (own_le21 h2 k hk)⟩
theorem wpl_appk21 {w : World} {ops : Array Oper} {rest : List Oper} {o : Oper} {a : Act} (hgd : o.guard = none) (s x : Operand) (t : TypeId)
    (ho : o.op = .call { callee := .builtin .append, args := #[s, x], argTypes := #[t, t] })
    (base : Nat) (e : TypeId) (i : TypeInfo) (z : Value) (size bytes : Nat) (ht : P.underlying t = some (.slice e)) (hi : P.info? e = some i) (hz : i.zero = some z)
    (hsize : i.size = size) (hby : i.bytes = bytes) (hzs : z.cells.size = size) (hsz : 0 < size)
    (v : Value) (n : Nat) (xs : List Value) (hs : a.eval s = v) (hown : w.ownsRow base e size v n xs)
    (ad : Addr) (m c : Nat) (news : List Value) (hx : a.eval x = .slice (some ad) m c) (hl : news.length = m * size) (hnews : ∀ j u, news[j]? = some u → w.cell? (ad.add j) = some u) (h1 : ∀ u ∈ news, u.oneCell' = true)
    (h63 : n + m ≤ maxLen) (hbytes : (n + m) * bytes ≤ 140737488355328) (hbase : base ≤ w.heap.size)
    (h : ∀ v' w', w'.ownsRow base e size v' (n + m) (xs ++ news) → w'.ownsRow base e size v n xs → w.grownBy w' v.ownBlock → (∀ k, v'.ownBlock = some k → v.ownBlock = some k ∨ w.heap.size ≤ k) → wpList P ops Q rest (a.put o.dst v') w') :
    wpList P ops Q (o :: rest) a w := by
  refine wpList_plain hgd fun K hK => ?_
  obtain ⟨v', w', hr, h2, h3, h4, h5⟩ := run_app21 (P := P) w base t o.type e i z size bytes ht hi hz hsize hby hzs hsz v n xs hown ad m c news hl hnews h1 h63 hbytes hbase
  unfold Oper.wp execOp
  simp only [ho, resolve, invoke, builtin, Sem.run_bind, Sem.run_pure, Result.andThen_ok, List.map_toArray, List.map_cons, List.map_nil, hs, hx, hr]
  exact hK _ _ (h v' w' h2 h3 h4 h5)
/-- The same in a region that draws. -/
theorem step_appk21 {w : World} {ops : Array Oper} {o : Oper} {a : Act} {K : Act → World → Prop} {E : Prop} (hgd : o.guard = none) (d : Option Tmp) (hd : o.dst = d) (s x : Operand) (t : TypeId)
    (ho : o.op = .call { callee := .builtin .append, args := #[s, x], argTypes := #[t, t] })
    (base : Nat) (e : TypeId) (i : TypeInfo) (z : Value) (size bytes : Nat) (ht : P.underlying t = some (.slice e)) (hi : P.info? e = some i) (hz : i.zero = some z)
    (hsize : i.size = size) (hby : i.bytes = bytes) (hzs : z.cells.size = size) (hsz : 0 < size)
    (v : Value) (n : Nat) (xs : List Value) (hs : a.eval s = v) (hown : w.ownsRow base e size v n xs)
    (ad : Addr) (m c : Nat) (news : List Value) (hx : a.eval x = .slice (some ad) m c) (hl : news.length = m * size) (hnews : ∀ j u, news[j]? = some u → w.cell? (ad.add j) = some u) (h1 : ∀ u ∈ news, u.oneCell' = true)
    (h63 : n + m ≤ maxLen) (hbytes : (n + m) * bytes ≤ 140737488355328) (hbase : base ≤ w.heap.size)
    (h : ∀ v' w', w'.ownsRow base e size v' (n + m) (xs ++ news) → w'.ownsRow base e size v n xs → w.grownBy w' v.ownBlock → (∀ k, v'.ownBlock = some k → v.ownBlock = some k ∨ w.heap.size ≤ k) → K (a.put d v') w') :
    if Region.wanted o (yielded ops a.tmps) = true then Oper.wp P o a w K Q else E := by
  subst hd
  have hw : Region.wanted o (yielded ops a.tmps) = true := by simp [Region.wanted, hgd]
  rw [if_pos hw]
  obtain ⟨v', w', hr, h2, h3, h4, h5⟩ := run_app21 (P := P) w base t o.type e i z size bytes ht hi hz hsize hby hzs hsz v n xs hown ad m c news hl hnews h1 h63 hbytes hbase
  unfold Oper.wp execOp
  simp only [ho, resolve, invoke, builtin, Sem.run_bind, Sem.run_pure, Result.andThen_ok, List.map_toArray, List.map_cons, List.map_nil, hs, hx, hr]
  exact h v' w' h2 h3 h4 h5
/-- A row is laid behind a row, whatever its shape. -/
theorem wpl_app21 {w : World} {ops : Array Oper} {rest : List Oper} {o : Oper} {a : Act} (hgd : o.guard = none) (s x : Operand) (t : TypeId)
    (ho : o.op = .call { callee := .builtin .append, args := #[s, x], argTypes := #[t, t] })
    (base base2 : Nat) (e : TypeId) (i : TypeInfo) (z : Value) (size bytes : Nat) (ht : P.underlying t = some (.slice e)) (hi : P.info? e = some i) (hz : i.zero = some z)
    (hsize : i.size = size) (hby : i.bytes = bytes) (hzs : z.cells.size = size) (hsz : 0 < size)
    (v : Value) (n : Nat) (xs : List Value) (hs : a.eval s = v) (hown : w.ownsRow base e size v n xs)
    (vx : Value) (m : Nat) (news : List Value) (hx : a.eval x = vx) (h2 : w.ownsRow base2 e size vx m news) (h1 : ∀ u ∈ news, u.oneCell' = true)
    (h63 : n + m ≤ maxLen) (hbytes : (n + m) * bytes ≤ 140737488355328) (hbase : base ≤ w.heap.size)
    (h : ∀ v' w', w'.ownsRow base e size v' (n + m) (xs ++ news) → w.grownBy w' v.ownBlock → (∀ k, v'.ownBlock = some k → v.ownBlock = some k ∨ w.heap.size ≤ k) → wpList P ops Q rest (a.put o.dst v') w') :
    wpList P ops Q (o :: rest) a w := by
  rcases h2.2 with ⟨hv, hm⟩ | ⟨g, cap, cur, hv, hg⟩
  · have hn : news = [] := List.eq_nil_of_length_eq_zero (by rw [h2.1, hm, Nat.zero_mul])
    subst hn hm
    rw [List.append_nil, Nat.add_zero] at h
    exact wpList_append_own_none hgd s x t ho base e i size ht hi v n xs hs hown (hx.trans hv) (h v w hown ⟨rfl, rfl, rfl, Nat.le_refl _, fun _ _ _ => rfl⟩ (fun _ hk => .inl hk))
  · subst hv
    exact wpl_appk21 hgd s x t ho base e i z size bytes ht hi hz hsize hby hzs hsz v n xs hs hown ⟨g, 0, none⟩ m cap news hx h2.1 (fun j u hj => h2.cells (g := g) rfl j u hj) h1 h63 hbytes hbase (fun v' w' k1 _ k2 k3 => h v' w' k1 k2 k3)
end

end Go.Proofs.YtbpdhcfmdkmoiaaGreatDoor

namespace Go.Proofs.YtbpdhcfmdkmoiaaGreatDoor
namespace Tx

/-- No comma, no blank. -/
def keepB (c : UInt8) : Bool := c != 44 && !blkB c
def keep (l : List UInt8) : List UInt8 := l.filter keepB

theorem addm_le (p : List UInt8) : (addm p).flatten.length ≤ p.length := by
  unfold addm
  split
  · simp
  · have := trim_le p; simpa using this
theorem flat_mems (r : List UInt8) : ∀ (cur : List UInt8) (q e : Bool), (mems cur q e r).flatten.length ≤ cur.length + r.length := by
  induction r with
  | nil => intro cur q e; have := addm_le cur; rw [mems]; omega
  | cons c r ih =>
    intro cur q e
    rw [mems, List.length_cons]
    have h1 : ∀ q' e', (mems (cur ++ [c]) q' e' r).flatten.length ≤ cur.length + (r.length + 1) := fun q' e' => by
      have := ih (cur ++ [c]) q' e'; rw [List.length_append] at this; simp at this ⊢; omega
    repeat' split
    · exact h1 _ _
    · exact h1 _ _
    · exact h1 _ _
    · have h2 := ih [] q false
      have h3 := addm_le cur
      rw [List.flatten_append, List.length_append]; rw [List.length_nil] at h2; omega
    · exact h1 _ _
theorem flat_list (l : List UInt8) : (list l).flatten.length ≤ l.length := by
  have := flat_mems l [] false false; simpa [list] using this

end Tx
end Go.Proofs.YtbpdhcfmdkmoiaaGreatDoor

namespace Go.Proofs.YtbpdhcfmdkmoiaaGreatDoor
open Go.RowKit

namespace Hr
theorem mems_len (r : List UInt8) : ∀ (cur : List UInt8) (q e : Bool), (Tx.mems cur q e r).length ≤ r.length + 1 := by
  induction r with
  | nil =>
    intro cur q e
    simp only [Tx.mems, Tx.addm]
    split <;> simp
  | cons c r ih =>
    intro cur q e
    simp only [Tx.mems]
    split
    · have := ih (cur ++ [c]) q false; simp only [List.length_cons]; omega
    · split
      · have := ih (cur ++ [c]) (!q) false; simp only [List.length_cons]; omega
      · split
        · have := ih (cur ++ [c]) q true; simp only [List.length_cons]; omega
        · split
          · have := ih [] q false
            have h2 : (Tx.addm cur).length ≤ 1 := by unfold Tx.addm; split <;> simp
            simp only [List.length_cons, List.length_append]; omega
          · have := ih (cur ++ [c]) q false; simp only [List.length_cons]; omega
theorem mem_flat {ms : List (List UInt8)} {m : List UInt8} (h : m ∈ ms) : m.length ≤ ms.flatten.length := by
  induction ms with
  | nil => cases h
  | cons x r ih =>
    simp only [List.flatten_cons, List.length_append]
    rcases List.mem_cons.1 h with rfl | h
    · omega
    · have := ih h; omega
theorem list_mem {l m : List UInt8} (h : m ∈ Tx.list l) : m.length ≤ l.length := Nat.le_trans (mem_flat h) (Tx.flat_list l)
theorem list_len (l : List UInt8) : (Tx.list l).length ≤ l.length + 1 := mems_len l [] false false
theorem mems_take {l : List Fd} {i : Nat} {p : Fd} (x : T8) (h : l[i]? = some p) : mems (l.take (i + 1)) x = mems (l.take i) x ++ (if p.n.toList == x then Tx.list p.v.data.toList else []) := by
  obtain ⟨hl, rfl⟩ := List.getElem?_eq_some_iff.1 h
  unfold mems
  rw [List.take_succ_eq_append_getElem hl, List.filter_append, List.flatMap_append]
  congr 1
  cases hq : (l[i].n.toList == x) <;> simp [List.filter, hq]
theorem mems_le (x : T8) (K : Nat) : ∀ (l : List Fd), (∀ f ∈ l, (Tx.list f.v.data.toList).length ≤ K) → (mems l x).length ≤ l.length * K
  | [], _ => Nat.zero_le _
  | f :: r, h => by
    have ih := mems_le x K r (fun g hg => h g (List.mem_cons_of_mem _ hg))
    have h0 := h f (List.mem_cons_self ..)
    have e : (f :: r).length * K = r.length * K + K := by rw [List.length_cons, Nat.add_mul, Nat.one_mul]
    rw [e]
    unfold mems at *
    cases hq : (f.n.toList == x)
    · rw [List.filter_cons]; simp only [hq, Bool.false_eq_true, if_false]; omega
    · rw [List.filter_cons]; simp only [hq, if_true, List.flatMap_cons, List.length_append]; omega
end Hr

theorem infoS21 : (Tryz.prog.info? 9).map (fun i => (i.zero, i.size, i.bytes)) = some (some (.string ⟨#[]⟩), 1, 16) := by kernel_rfl
theorem str_one21 (l : List (List UInt8)) : ∀ u ∈ strCells l, u.oneCell' = true := by
  intro u hu
  unfold strCells at hu
  obtain ⟨m, _, rfl⟩ := List.mem_map.1 hu
  rfl

set_option maxHeartbeats 4000000 in
set_option maxRecDepth 20000 in
theorem cmems21 (v : Value) (l : List Fd) (x : ByteArray) (w : World) (h : FW w v l) (hl : l.length ≤ 1048576) (hs : ∀ f ∈ l, f.v.size ≤ 1048576) :
    Calls Tryz.prog 77 #[v, .string x] w fun e w' => (∃ vo, e = .returned vo ∧ w'.ownsRow w.heap.size 9 1 vo (Hr.mems l x.toList).length (strCells (Hr.mems l x.toList))) ∧ Below w.heap.size w w' := by
  obtain ⟨ao, cap, hv⟩ := h.shape
  subst hv
  obtain ⟨n, hn⟩ : ∃ n, l.length = n := ⟨_, rfl⟩
  have HBD : Hid (∀ i, (Hr.mems (l.take i) x.toList).length ≤ 1048576 * 1048577) := hid' (fun i => by
    have := Hr.mems_le x.toList 1048577 (l.take i) (fun f hf => by
      have h1 := Hr.list_len f.v.data.toList
      have h2 := hs f (List.mem_of_mem_take hf)
      rw [Lib.size_eq] at h2
      omega)
    have h3 : (l.take i).length ≤ 1048576 := Nat.le_trans (List.length_take_le' _ _) hl
    exact Nat.le_trans this (Nat.mul_le_mul_right _ h3))
  rw [hn] at h hl ⊢
  have H := hid' h
  have HN := hid' hn
  have HS := hid' hs
  obtain ⟨i0, hi0, hz0, hz1, hz2⟩ := minfo_parts infoS21
  have HI := hid' hi0
  have HZ0 := hid' hz0
  have HZ1 := hid' hz1
  have HZ2 := hid' hz2
  clear h hn hs hi0 hz0 hz1 hz2
  go_enter Tryz.func77, Tryz.ntmps77
  go_wp2
  go_loopw [5, 10] (fun s5 s10 wr => ∃ (i m : Nat) (ro : Option Addr) (rc : Nat), s5 = .slice ro m rc ∧ s10 = .int .i64 (i : Int) ∧ i ≤ n ∧ Hid ((Hr.mems (l.take i) x.toList).length = m ∧ wr.ownsRow w.heap.size 9 1 (.slice ro m rc) m (strCells (Hr.mems (l.take i) x.toList))) ∧ Hid (Below w.heap.size w wr)) (fun _ s10 _ => n - (intOf s10).toNat)
  case atStart => exact ⟨0, 0, none, 0, rfl, rfl, Nat.zero_le _, hid' ⟨rfl, World.ownsRow_nil _ _ _ _⟩, hid' (Below.refl _ _)⟩
  case round =>
    obtain ⟨i, m, ro, rc, rfl, rfl, hi, HO, HBR⟩ := hrel
    by_cases hlt : i < n
    · have hlt2 : (i : Int) < (n : Int) := by omega
      obtain ⟨f, hfi⟩ : ∃ f, l[i]? = some f := ⟨_, List.getElem?_eq_getElem (by rw [HN.out]; exact hlt)⟩
      obtain ⟨a, hfo, y0, y1⟩ := (H.out.keep HBR.out).two i f hfi
      subst hfo
      have HM := hid' (Hr.mems_take x.toList hfi)
      have HV := hid' (HS.out f (List.mem_of_getElem? hfi))
      have HLT := hid' hlt
      clear hfi hlt
      have HW : Hid (Ar (wr.alloc (.cells #[.string f.n, .string f.v] 52)) wr.heap.size 52 #[.string f.n, .string f.v]) := hid' (heap_alloc_last wr _)
      have HB1 := hid' (bl_alloc wr (.cells #[.string f.n, .string f.v] 52))
      have HOW : Hid ((Hr.mems (l.take i) x.toList).length = m ∧ (wr.alloc (.cells #[.string f.n, .string f.v] 52)).ownsRow w.heap.size 9 1 (.slice ro m rc) m (strCells (Hr.mems (l.take i) x.toList))) := hid' ⟨HO.out.1, own_keep21 HO.out.2 HB1.out⟩
      have HBW := hid' (below_two HBR.out HB1.out)
      go_upto_region 5 with fail
      obtain ⟨sb, hsb⟩ : ∃ sb, wr.heap.size = sb := ⟨_, rfl⟩
      rw [hsb] at HW ⊢
      clear HB1 HO HBR
      generalize wr.alloc (.cells #[.string f.n, .string f.v] 52) = w2 at *
      clear hsb y0 y1
      have z0 := HW.out.cell 0 _ rfl
      have z1 := HW.out.cell 1 _ rfl
      cases c1 : (f.n.toList == x.toList)
      · have HE : Hid (Hr.mems (l.take (i + 1)) x.toList = Hr.mems (l.take i) x.toList) := hid' (by rw [HM.out, c1]; simp)
        go_wp2_with fail
        go_roundw
        case rel => exact ⟨i + 1, m, ro, rc, rfl, by go_num, by have := HLT.out; omega, by rw [HE.out]; exact HOW, HBW⟩
        case measure => have := HLT.out; simp [intOf]; omega
      · have HE : Hid (Hr.mems (l.take (i + 1)) x.toList = Hr.mems (l.take i) x.toList ++ Tx.list f.v.data.toList) := hid' (by rw [HM.out, c1]; rfl)
        obtain ⟨k, hk⟩ : ∃ k, (Tx.list f.v.data.toList).length = k := ⟨_, rfl⟩
        have HK := hid' hk
        have hmk : m + k ≤ 1048576 * 1048577 := by have := HBD.out (i + 1); rw [HE.out, List.length_append, HOW.out.1, hk] at this; exact this
        clear hk
        go_wp2_with fail
        refine (list_any f.v _ (by have := HV.out; omega)).mono ?_
        rintro e w3 ⟨vl, rfl, hol, hb3⟩
        obtain ⟨lo, lc, hvl⟩ := own_shape hol
        rw [HK.out] at hol hvl
        subst hvl
        have HOL := hid' hol
        have HO3 := hid' (own_keep21 HOW.out.2 hb3)
        have HB3 := hid' (below_two HBW.out hb3)
        clear hol hb3
        go_wp2_with (at_builtin; refine wpl_app21 rfl _ _ 77 rfl w.heap.size w2.heap.size 9 i0 (.string ⟨#[]⟩) 1 16 Tryz.underlying77 HI.out HZ0.out HZ1.out HZ2.out rfl (by decide) (.slice ro m rc) m _ rfl HO3.out (.slice lo k lc) k _ rfl HOL.out (str_one21 _) (by unfold maxLen; omega) (by omega) HB3.out.size ?_)
        intro v' w4 ho4 hg4 _
        obtain ⟨ro4, rc4, hv4⟩ := own_shape ho4
        subst hv4
        have HO4 := hid' ho4
        have HB4 := hid' (HB3.out.grown hg4 HB3.out.size (fun k hk => (own_ty HO3.out k hk).1))
        clear ho4 hg4
        go_wp2_with fail
        go_roundw
        case rel => exact ⟨i + 1, m + k, ro4, rc4, rfl, by go_num, by have := HLT.out; omega, hid' ⟨by rw [HE.out, List.length_append, HOW.out.1, HK.out], by rw [HE.out, strCells, List.map_append]; exact HO4.out⟩, HB4⟩
        case measure => have := HLT.out; simp [intOf]; omega
    · obtain rfl : i = n := by omega
      have hlt2 : ¬ (i : Int) < (i : Int) := by omega
      have HE : Hid (l.take i = l) := hid' (List.take_of_length_le (by rw [HN.out]; exact Nat.le_refl _))
      clear hlt
      go_wp2_with fail
      go_ret
      exact ⟨⟨_, rfl, by have := HO.out.2; rw [HE.out] at this; rw [← HE.out, HO.out.1, HE.out]; exact this⟩, HBR.out⟩

end Go.Proofs.YtbpdhcfmdkmoiaaGreatDoor
