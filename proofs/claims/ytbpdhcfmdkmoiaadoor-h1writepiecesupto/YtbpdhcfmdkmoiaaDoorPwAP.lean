/-
  The document's lines and hex: by their contracts.
  Rows that grow, and what they were: laws on append (as in HrM, for a seat that has no reader).
-/
import Derived.BigQuiet
import Derived.Test.YtbpdhcfmdkmoiaaDoorPwAI
import Derived.Test.YtbpdhcfmdkmoiaaDoorPwAN
import Derived.Test.YtbpdhcfmdkmoiaaDoorPwAO
import Derived.Maps.AppendAt
import Derived.Laws.AppendOwnNone
import Derived.Deep.DeepAppendRoom
import Derived.ArgAppend
import Derived.Test.YtbpdhcfmdkmoiaaDoorPwAE
namespace Go.Proofs.YtbpdhcfmdkmoiaaDoor
open Go.RowKit

namespace Hw
theorem ln_cat (T N V : T8) : ((((⟨T.toArray⟩ : ByteArray) ++ ⟨N.toArray⟩) ++ ⟨#[58, 32]⟩) ++ ⟨V.toArray⟩) ++ ⟨#[13, 10]⟩ = ⟨(T ++ N ++ [58, 32] ++ V ++ [13, 10]).toArray⟩ := by
  apply ByteArray.ext; simp [ByteArray.data_append]
end Hw

set_option maxHeartbeats 4000000 in
set_option maxRecDepth 20000 in
theorem rlns22 (v : Value) (l : List Fd) (w : World) (h : FW w v l) (hl : l.length ≤ 1048576) (hs : ∀ f ∈ l, f.n.size ≤ 140737488355328) (hz : (Hw.lns l).length ≤ 70368744177664) :
    Calls Tryd.prog 34 #[v] w fun e w' => e = .returned (.string ⟨(Hw.lns l).toArray⟩) ∧ Below w.heap.size w w' := by
  have HST := hid' (rstrip14 v l w h hl hs)
  obtain ⟨L, hL⟩ : ∃ L, Ms.strip l = L := ⟨_, rfl⟩
  have HZ : Hid ((L.flatMap Hw.line).length ≤ 70368744177664) := hid' (by rw [← hL]; exact hz)
  have HR : Hid (Hw.lns l = L.flatMap Hw.line) := hid' (by unfold Hw.lns; rw [hL])
  have HSL : Hid (∀ f ∈ L, f.n.size ≤ 140737488355328) := hid' (fun f hf => hs f (by rw [← hL] at hf; exact (List.mem_filter.1 hf).1))
  have HLL : Hid (L.length ≤ 1048576) := hid' (by rw [← hL]; exact Nat.le_trans (List.length_filter_le _ _) hl)
  rw [hL] at HST
  clear h hl hs hz hL
  go_enter Tryd.func34, Tryd.ntmps34
  go_wp2_with (go_at_call 39; refine HST.out.mono ?_; rintro e w2 ⟨⟨m, ro, rc, rfl, hm, ho⟩, hb2⟩; refine Hid.out ?_)
  refine hid' ?_
  have HM := hid' hm
  have hm9 : m ≤ 1048576 := by rw [← hm]; exact HLL.out
  have HRW : Hid (FW w2 (.slice ro m rc) L) := hid' (FW.of_own (l := L) (by rw [hm]; exact ho))
  have HB2 := hid' hb2
  clear hm ho hb2
  go_wp2
  go_loopw [3, 4] (fun s3 s4 wr => ∃ (k : Nat) (T : List UInt8), s4 = .int .i64 (k : Int) ∧ s3 = .string ⟨T.toArray⟩ ∧ k ≤ m ∧ Hid (T = (L.take k).flatMap Hw.line) ∧ Hid (Below w2.heap.size w2 wr)) (fun _ s4 _ => m - (intOf s4).toNat)
  case atStart => exact ⟨0, [], rfl, rfl, Nat.zero_le _, hid' (by simp), hid' (Below.refl _ _)⟩
  case round =>
    obtain ⟨k, T, rfl, rfl, hk, HT, HB⟩ := hrel
    by_cases hlt : k < m
    · have hlt2 : (k : Int) < (m : Int) := by omega
      have HLT := hid' hlt
      obtain ⟨p, hp⟩ : ∃ p, L[k]? = some p := ⟨_, List.getElem?_eq_getElem (by rw [HM.out]; exact hlt)⟩
      obtain ⟨a, hao, y0, y1⟩ := (HRW.out.keep HB.out).two k p hp
      subst hao
      obtain ⟨N, hN⟩ : ∃ N, Tx.lower p.n.data.toList = N := ⟨_, rfl⟩
      obtain ⟨V, hV⟩ : ∃ V, p.v.data.toList = V := ⟨_, rfl⟩
      have hv2 : p.v = ⟨V.toArray⟩ := by rw [← hV]
      rw [hv2] at y1
      have HTK : Hid ((L.take (k + 1)).flatMap Hw.line = T ++ N ++ [58, 32] ++ V ++ [13, 10]) := hid' (by rw [Hw.lns_take hp, Hw.line, hN, hV, HT.out]; simp [Hw.crlf])
      have hle : (T ++ N ++ [58, 32] ++ V ++ [13, 10]).length ≤ 70368744177664 := by
        rw [← HTK.out]; exact Nat.le_trans (Hw.lns_le L (k + 1)) HZ.out
      simp only [List.length_append, List.length_cons, List.length_nil] at hle
      have k1 : ¬ 9223372036854775807 < T.length + N.length := by omega
      have k2 : ¬ 9223372036854775807 < T.length + N.length + 2 := by omega
      have k3 : ¬ 9223372036854775807 < T.length + N.length + 2 + V.length := by omega
      have k4 : ¬ 9223372036854775807 < T.length + N.length + 2 + V.length + 2 := by omega
      have HLo : Hid (∀ W, Calls Tryd.prog 40 #[.string p.n] W fun e w' => e = .returned (.string ⟨N.toArray⟩) ∧ Below W.heap.size W w') := hid' (fun W => by have := rLower_any p.n W (by have := HSL.out p (List.mem_of_getElem? hp); unfold maxLen; omega); rwa [hN] at this)
      have q0 : ∀ z : BW wr, z.W.cell? (a.add (k * 2)) = some (.string p.n) := fun z => (z.h.cell (cell_lt y0)).trans y0
      have q1 : ∀ z : BW wr, z.W.cell? ⟨(a.add (k * 2)).block, (a.add (k * 2)).off + 1, none⟩ = some (.string ⟨V.toArray⟩) := fun z => (z.h.cell (cell_lt y1)).trans y1
      have hne : Nonempty (BW wr) := ⟨⟨wr, Below.refl _ _⟩⟩
      clear hp hN hV hv2 y0 y1 hle
      go_upto_region 6 with fail
      refine wp_region_below_s (by kernel_rfl) (by kernel_rfl) ?_
      repeat (refine QS.step (fun K hK => ?_); go_simp; first | (refine hK _ ?_; clear hK K) | (apply Exists.intro; refine ⟨fun _ => ?_, hK _ ?_⟩; (first | (go_at_call 40; exact Calls.below_of (HLo.out _))); clear hK K))
      refine QS.nil ?_
      rintro _ ⟨⟨wq, hBq⟩, rfl⟩
      have HBq := hid' (below_two HB.out hBq)
      clear hBq q0 q1
      go_wp2
      go_roundw
      case rel => exact ⟨k + 1, T ++ N ++ [58, 32] ++ V ++ [13, 10], by go_num, by first | rfl | rw [← Hw.ln_cat], by have := HLT.out; omega, hid' HTK.out.symm, HBq⟩
      case measure => have := HLT.out; simp [intOf]; omega
    · obtain rfl : k = m := by omega
      have hlt2 : ¬ (k : Int) < (k : Int) := by omega
      have HF : Hid (T = L.flatMap Hw.line) := hid' (by rw [HT.out, List.take_of_length_le (by rw [HM.out]; exact Nat.le_refl _)])
      have HB9 := hid' (below_two HB2.out HB.out)
      clear hlt
      go_wp2
      go_ret
      exact ⟨by rw [HR.out, ← HF.out]; rfl, HB9.out⟩

namespace Hw
theorem dig_cut (a : Nat) (h : a < 16) : (⟨#[48, 49, 50, 51, 52, 53, 54, 55, 56, 57, 97, 98, 99, 100, 101, 102]⟩ : ByteArray).extract a (a + 1) = ⟨[hexD a].toArray⟩ := by
  have : ∀ a : Nat, a < 16 → (⟨#[48, 49, 50, 51, 52, 53, 54, 55, 56, 57, 97, 98, 99, 100, 101, 102]⟩ : ByteArray).extract a (a + 1) = ⟨[hexD a].toArray⟩ := by decide
  exact this a h
end Hw

set_option maxHeartbeats 4000000 in
set_option maxRecDepth 20000 in
theorem rhex22 (n : Nat) (h2 : n ≤ 16384) (w : World) : Calls Tryd.prog 35 #[.int .i64 (n : Int)] w fun e w' => e = .returned (.string ⟨(Hw.hex n).toArray⟩) ∧ w' = w := by
  go_enter Tryd.func35, Tryd.ntmps35
  go_wp2
  go_loopw [0, 4] (fun s0 s4 wr => ∃ (u : Nat) (D : List UInt8), s0 = .int .i64 (u : Int) ∧ s4 = .string ⟨D.toArray⟩ ∧ u ≤ 16384 ∧ D.length + u ≤ 16384 ∧ Hid (Hw.hex n = Hw.hex u ++ D) ∧ wr = w) (fun s0 _ _ => (intOf s0).toNat)
  case atStart => exact ⟨n, [], rfl, rfl, h2, by simp; omega, hid' (by simp), rfl⟩
  case round =>
    obtain ⟨u, D, rfl, rfl, hu, hD, HH, hwr⟩ := hrel
    subst hwr
    by_cases hlt : u < 16
    · have hlt2 : ¬ (u : Int) ≥ 16 := by omega
      have hk : ¬ 9223372036854775807 < 1 + D.length := by omega
      have HF : Hid (Hw.hex n = Hw.hexD u :: D) := hid' (by rw [HH.out, Hw.hex_one u hlt]; rfl)
      have HC : Hid ((⟨#[48, 49, 50, 51, 52, 53, 54, 55, 56, 57, 97, 98, 99, 100, 101, 102]⟩ : ByteArray).extract u (u + 1) ++ ⟨D.toArray⟩ = ⟨(Hw.hexD u :: D).toArray⟩) := hid' (by rw [Hw.dig_cut u hlt]; apply ByteArray.ext; simp [ByteArray.data_append])
      go_wp2_with fail
      go_ret
      refine ⟨?_, rfl⟩
      rw [HF.out, ← HC.out]
      rfl
    · have hlt2 : (u : Int) ≥ 16 := by omega
      have hk : ¬ 9223372036854775807 < 1 + D.length := by omega
      have HF : Hid (Hw.hex n = Hw.hex (u / 16) ++ (Hw.hexD (u % 16) :: D)) := hid' (by rw [HH.out, Hw.hex_step u hlt, List.append_assoc]; rfl)
      have HC : Hid ((⟨#[48, 49, 50, 51, 52, 53, 54, 55, 56, 57, 97, 98, 99, 100, 101, 102]⟩ : ByteArray).extract (u % 16) (u % 16 + 1) ++ ⟨D.toArray⟩ = ⟨(Hw.hexD (u % 16) :: D).toArray⟩) := hid' (by rw [Hw.dig_cut _ (Nat.mod_lt _ (by decide))]; apply ByteArray.ext; simp [ByteArray.data_append])
      go_wp2_with fail
      go_roundw
      case rel => exact ⟨u / 16, Hw.hexD (u % 16) :: D, congrArg _ (by omega), by rw [HC.out], by omega, by rw [List.length_cons]; omega, HF, by first | rfl | trivial⟩
      case measure => simp [intOf]; omega

end Go.Proofs.YtbpdhcfmdkmoiaaDoor

namespace Go.Proofs.YtbpdhcfmdkmoiaaDoor
open Go.RowKit

theorem own_take21 {w : World} {B : Nat} {e : TypeId} {size g n k cap : Nat} {xs ys : List Value} (h : w.ownsRow B e size (.slice (some ⟨g, 0, none⟩) (n + k) cap) (n + k) (xs ++ ys)) (hx : xs.length = n * size) : w.ownsRow B e size (.slice (some ⟨g, 0, none⟩) n cap) n xs := by
  rcases h.2 with ⟨h0, _⟩ | ⟨g', cap', cur, h1, h2, h3, h4, h5, h6, h7⟩
  · simp at h0
  · simp only [Value.slice.injEq, Option.some.injEq, Addr.mk.injEq, and_true, true_and] at h1
    obtain ⟨rfl, rfl⟩ := h1
    refine ⟨hx, .inr ⟨g, cap, cur, rfl, h2, h3, by omega, h5, h6, ?_⟩⟩
    have : (cur.toList.take ((n + k) * size)).take (n * size) = (xs ++ ys).take (n * size) := by rw [h7]
    rw [List.take_take, Nat.min_eq_left (Nat.mul_le_mul_right _ (Nat.le_add_right _ _))] at this
    rw [this, ← hx, List.take_left]
theorem own_base21 {w : World} {B C : Nat} {e : TypeId} {size : Nat} {v : Value} {n : Nat} {xs : List Value} (h : w.ownsRow C e size v n xs) (hb : B ≤ C) : w.ownsRow B e size v n xs := by
  rcases h with ⟨h1, h2 | ⟨g, cap, cur, h3, h4, h5⟩⟩
  · exact ⟨h1, .inl h2⟩
  · exact ⟨h1, .inr ⟨g, cap, cur, h3, Nat.le_trans hb h4, h5⟩⟩
theorem own_le21 {w : World} {B : Nat} {e : TypeId} {size : Nat} {v : Value} {n : Nat} {xs : List Value} (h : w.ownsRow B e size v n xs) : ∀ k, v.ownBlock = some k → B ≤ k := by
  rcases h.2 with ⟨rfl, _⟩ | ⟨g, cap, cur, rfl, h4, _⟩
  · intro k hk; simp [Value.ownBlock] at hk
  · intro k hk; simp only [Value.ownBlock, Option.some.injEq] at hk; omega

section
variable {P : Program} {Q : Exit → Act → World → Prop}
/-- What is laid behind a row: the new row, and the old one as it was. -/
theorem run_app21 (w : World) (base : Nat) (t ty e : TypeId) (i : TypeInfo) (z : Value) (size bytes : Nat) (ht : P.underlying t = some (.slice e)) (hi : P.info? e = some i) (hz : i.zero = some z)
    (hsize : i.size = size) (hby : i.bytes = bytes) (hzs : z.cells.size = size) (hsz : 0 < size)
    (v : Value) (n : Nat) (xs : List Value) (hown : w.ownsRow base e size v n xs)
    (a : Addr) (m c : Nat) (news : List Value) (hl : news.length = m * size) (hnews : ∀ j u, news[j]? = some u → w.cell? (a.add j) = some u) (h1 : ∀ u ∈ news, u.oneCell' = true)
    (h63 : n + m ≤ maxLen) (hbytes : (n + m) * bytes ≤ 140737488355328) (hbase : base ≤ w.heap.size) :
    ∃ v' w', (Builtin.append_ #[t, t] ty #[v, .slice (some a) m c]).run P w = .ok v' w' ∧ w'.ownsRow base e size v' (n + m) (xs ++ news) ∧ w'.ownsRow base e size v n xs ∧ w.grownBy w' v.ownBlock ∧
      (∀ k, v'.ownBlock = some k → v.ownBlock = some k ∨ w.heap.size ≤ k) := by
  rcases hown.2 with ⟨rfl, rfl⟩ | ⟨g, cap, cur, rfl, hbg, hg, hnc, hcm, hcs, htake⟩
  · obtain ⟨v', w', hr, h2, h3, _, h5⟩ := run_append_own_at (P := P) w base t ty e i z size bytes ht hi hz hsize hby hzs hsz _ _ xs hown a m c news hl hnews h1 h63 hbytes hbase
    have hx : xs = [] := List.eq_nil_of_length_eq_zero (by rw [hown.1, Nat.zero_mul])
    subst hx
    exact ⟨v', w', hr, h2, World.ownsRow_nil _ _ _ _, h3, fun k hk => by rcases h5 with h5 | h5 <;> rw [h5] at hk <;> simp [Value.ownBlock] at hk; exact .inr (by omega)⟩
  · by_cases hroom : n + m ≤ cap
    · obtain ⟨w', hr, h2, h3⟩ := run_append_own_spare (P := P) w base t ty e i size ht hi hsize g n cap xs hown a m c news hl hnews h1 hroom
      exact ⟨_, w', hr, h2, own_take21 h2 hown.1, h3, fun k hk => .inl hk⟩
    · obtain ⟨v', w', hr, h2, h3⟩ := run_append_arg_grows (P := P) w t ty e i z size bytes ht hi hz hsize hby hzs hsz ⟨g, 0, none⟩ n cap xs hown.1 (fun j u hj => hown.cells (g := g) rfl j u hj) a m c news hl hnews (by omega) h63 hbytes
      refine ⟨v', w', hr, own_base21 h2 hbase, hown.kept h3 (.inr (by simp [Value.ownBlock])), ⟨h3.os, h3.tape, h3.output, h3.size, fun k hk _ => h3.block k hk (by simp)⟩, fun k hk => .inr (own_le21 h2 k hk)⟩
theorem wpl_appk21 {w : World} {ops : Array Oper} {rest : List Oper} {o : Oper} {a : Act} (hgd : o.guard = none) (s x : Operand) (t : TypeId)
    (ho : o.op = .call { callee := .builtin .append, args := #[s, x], argTypes := #[t, t] })
    (base : Nat) (e : TypeId) (i : TypeInfo) (z : Value) (size bytes : Nat) (ht : P.underlying t = some (.slice e)) (hi : P.info? e = some i) (hz : i.zero = some z)
    (hsize : i.size = size) (hby : i.bytes = bytes) (hzs : z.cells.size = size) (hsz : 0 < size)
    (v : Value) (n : Nat) (xs : List Value) (hs : a.eval s = v) (hown : w.ownsRow base e size v n xs)
    (ad : Addr) (m c : Nat) (news : List Value) (hx : a.eval x = .slice (some ad) m c) (hl : news.length = m * size) (hnews : ∀ j u, news[j]? = some u → w.cell? (ad.add j) = some u) (h1 : ∀ u ∈ news, u.oneCell' = true)
    (h63 : n + m ≤ maxLen) (hbytes : (n + m) * bytes ≤ 140737488355328) (hbase : base ≤ w.heap.size)
    (h : ∀ v' w', w'.ownsRow base e size v' (n + m) (xs ++ news) → w'.ownsRow base e size v n xs → w.grownBy w' v.ownBlock → (∀ k, v'.ownBlock = some k → v.ownBlock = some k ∨ w.heap.size ≤ k) → wpList P ops Q rest (a.put o.dst v') w') :
    wpList P ops Q (o :: rest) a w := by
  refine wpList_plain hgd fun K hK => ?_
  obtain ⟨v', w', hr, h2, h3, h4, h5⟩ := run_app21 (P := P) w base t o.type e i z size bytes ht hi hz hsize hby hzs hsz v n xs hown ad m c news hl hnews h1 h63 hbytes hbase
  unfold Oper.wp execOp
  simp only [ho, resolve, invoke, builtin, Sem.run_bind, Sem.run_pure, Result.andThen_ok, List.map_toArray, List.map_cons, List.map_nil, hs, hx, hr]
  exact hK _ _ (h v' w' h2 h3 h4 h5)
/-- A row is laid behind a row, whatever its shape. -/
theorem wpl_app21 {w : World} {ops : Array Oper} {rest : List Oper} {o : Oper} {a : Act} (hgd : o.guard = none) (s x : Operand) (t : TypeId)
    (ho : o.op = .call { callee := .builtin .append, args := #[s, x], argTypes := #[t, t] })
    (base base2 : Nat) (e : TypeId) (i : TypeInfo) (z : Value) (size bytes : Nat) (ht : P.underlying t = some (.slice e)) (hi : P.info? e = some i) (hz : i.zero = some z)
    (hsize : i.size = size) (hby : i.bytes = bytes) (hzs : z.cells.size = size) (hsz : 0 < size)
    (v : Value) (n : Nat) (xs : List Value) (hs : a.eval s = v) (hown : w.ownsRow base e size v n xs)
    (vx : Value) (m : Nat) (news : List Value) (hx : a.eval x = vx) (h2 : w.ownsRow base2 e size vx m news) (h1 : ∀ u ∈ news, u.oneCell' = true)
    (h63 : n + m ≤ maxLen) (hbytes : (n + m) * bytes ≤ 140737488355328) (hbase : base ≤ w.heap.size)
    (h : ∀ v' w', w'.ownsRow base e size v' (n + m) (xs ++ news) → w.grownBy w' v.ownBlock → (∀ k, v'.ownBlock = some k → v.ownBlock = some k ∨ w.heap.size ≤ k) → wpList P ops Q rest (a.put o.dst v') w') :
    wpList P ops Q (o :: rest) a w := by
  rcases h2.2 with ⟨hv, hm⟩ | ⟨g, cap, cur, hv, hg⟩
  · have hn : news = [] := List.eq_nil_of_length_eq_zero (by rw [h2.1, hm, Nat.zero_mul])
    subst hn hm
    rw [List.append_nil, Nat.add_zero] at h
    exact wpList_append_own_none hgd s x t ho base e i size ht hi v n xs hs hown (hx.trans hv) (h v w hown ⟨rfl, rfl, rfl, Nat.le_refl _, fun _ _ _ => rfl⟩ (fun _ hk => .inl hk))
  · subst hv
    exact wpl_appk21 hgd s x t ho base e i z size bytes ht hi hz hsize hby hzs hsz v n xs hs hown ⟨g, 0, none⟩ m cap news hx h2.1 (fun j u hj => h2.cells (g := g) rfl j u hj) h1 h63 hbytes hbase (fun v' w' k1 _ k2 k3 => h v' w' k1 k2 k3)
end

end Go.Proofs.YtbpdhcfmdkmoiaaDoor
