/-
  The code's Size, Bound, Strip, isPseudo, isSound, isOfHead: by their contracts.
  A region that draws its order, whose operations only read, and whose callees only make memory: walked once, in the order of the text. What is of no program.
  A region that draws its order, walked once in the order of the text, where operations are passed by: what is of no program.
-/
import Derived.Test.YtbpdhcfmdkmoiaaGreatDoorShelfN
import Derived.Test.YtbpdhcfmdkmoiaaGreatDoorPnAB
import Derived.Test.YtbpdhcfmdkmoiaaGreatDoorPnAH
import Derived.Deep.QuietTactic
import Derived.Shelf.SlSortCmp.QuietGrown
import Derived.Test.YtbpdhcfmdkmoiaaGreatDoorPnAG
namespace Go.Proofs.YtbpdhcfmdkmoiaaGreatDoor
open Go.RowKit

/-- A field's copy. -/
theorem fd_new (w : World) (f : Fd) : Ar (w.alloc (.cells #[.string f.n, .string f.v] 52)) w.heap.size 52 #[.string f.n, .string f.v] := heap_alloc_last w _
theorem bl_alloc (w : World) (x : Obj) : Below w.heap.size w (w.alloc x) := (Below.refl _ _).alloc (Nat.le_refl _) _

set_option maxHeartbeats 1000000 in
set_option maxRecDepth 20000 in
theorem cbnd14 (x : ByteArray) (r : Bool) (hr : Ms.bnd x = r) (w : World) (hx : x.size ≤ 140737488355328) :
    Calls Tryz.prog 116 #[.string x] w fun e w' => e = .returned (.bool r) ∧ Below w.heap.size w w' := by
  obtain ⟨y, hy⟩ : ∃ y : ByteArray, (⟨(Tx.lower x.data.toList).toArray⟩ : ByteArray) = y := ⟨_, rfl⟩
  have HR : Hid ((y.toList == [99, 111, 110, 110, 101, 99, 116, 105, 111, 110] || (y.toList == [107, 101, 101, 112, 45, 97, 108, 105, 118, 101] || (y.toList == [112, 114, 111, 120, 121, 45, 99, 111, 110, 110, 101, 99, 116, 105, 111, 110] || (y.toList == [116, 114, 97, 110, 115, 102, 101, 114, 45, 101, 110, 99, 111, 100, 105, 110, 103] || (y.toList == [117, 112, 103, 114, 97, 100, 101] || false))))) = r) := hid' (by
    rw [← hr, ← hy, ba_list]
    simp only [Ms.bnd, Ms.conns, Ms.lo, List.contains_cons, List.contains_nil])
  clear hr
  go_enter Tryz.func116, Tryz.ntmps116
  go_wp2_with fail
  refine (lower_any x _ (by unfold maxLen; omega)).mono ?_
  rintro e w1 ⟨rfl, hb1⟩
  rw [hy]
  have HB1 := hid' hb1
  clear hb1 hy
  cases c1 : (y.toList == [99, 111, 110, 110, 101, 99, 116, 105, 111, 110])
  · cases c2 : (y.toList == [107, 101, 101, 112, 45, 97, 108, 105, 118, 101])
    · cases c3 : (y.toList == [112, 114, 111, 120, 121, 45, 99, 111, 110, 110, 101, 99, 116, 105, 111, 110])
      · cases c4 : (y.toList == [116, 114, 97, 110, 115, 102, 101, 114, 45, 101, 110, 99, 111, 100, 105, 110, 103])
        · cases c5 : (y.toList == [117, 112, 103, 114, 97, 100, 101])
          · have HF : Hid (r = false) := hid' (by rw [← HR.out, c1, c2, c3, c4, c5]; rfl)
            go_wp2
            go_ret
            exact ⟨by rw [HF.out]; rfl, HB1.out⟩
          · have HF : Hid (r = true) := hid' (by rw [← HR.out, c5]; simp)
            go_wp2
            go_ret
            exact ⟨by rw [HF.out]; rfl, HB1.out⟩
        · have HF : Hid (r = true) := hid' (by rw [← HR.out, c4]; simp)
          go_wp2
          go_ret
          exact ⟨by rw [HF.out]; rfl, HB1.out⟩
      · have HF : Hid (r = true) := hid' (by rw [← HR.out, c3]; simp)
        go_wp2
        go_ret
        exact ⟨by rw [HF.out]; rfl, HB1.out⟩
    · have HF : Hid (r = true) := hid' (by rw [← HR.out, c2]; simp)
      go_wp2
      go_ret
      exact ⟨by rw [HF.out]; rfl, HB1.out⟩
  · have HF : Hid (r = true) := hid' (by rw [← HR.out, c1]; simp)
    go_wp2
    go_ret
    exact ⟨by rw [HF.out]; rfl, HB1.out⟩

set_option maxHeartbeats 2000000 in
set_option maxRecDepth 20000 in
theorem cstrip14 (v : Value) (l : List Fd) (w : World) (h : FW w v l) (hl : l.length ≤ 1048576) (hs : ∀ f ∈ l, f.n.size ≤ 140737488355328) :
    Calls Tryz.prog 97 #[v] w fun e w' => (∃ m ro rc, e = .returned (.slice ro m rc) ∧ (Ms.strip l).length = m ∧ w'.ownsRow w.heap.size 52 2 (.slice ro m rc) m (fC (Ms.strip l))) ∧ Below w.heap.size w w' := by
  obtain ⟨i0, hi0, hz0, hz1, hz2⟩ := minfo_parts infoF14
  have HI := hid' hi0
  have HZ0 := hid' hz0
  have HZ1 := hid' hz1
  have HZ2 := hid' hz2
  clear hi0 hz0 hz1 hz2
  obtain ⟨ao, cap, hv⟩ := h.shape
  subst hv
  obtain ⟨n, hn⟩ : ∃ n, l.length = n := ⟨_, rfl⟩
  rw [hn] at h hl ⊢
  have H := hid' h
  have HN := hid' hn
  have HS := hid' hs
  clear h hn hs
  go_enter Tryz.func97, Tryz.ntmps97
  go_wp2
  go_loopw [3, 8] (fun s3 s8 wr => ∃ (k m : Nat) (ro : Option Addr) (rc : Nat), s8 = .int .i64 (k : Int) ∧ s3 = .slice ro m rc ∧ k ≤ n ∧ m ≤ k ∧ Hid ((Ms.strip (l.take k)).length = m) ∧ Hid (wr.ownsRow w.heap.size 52 2 (.slice ro m rc) m (fC (Ms.strip (l.take k)))) ∧ Hid (Below w.heap.size w wr)) (fun _ s8 _ => n - (intOf s8).toNat)
  case atStart => exact ⟨0, 0, none, 0, rfl, rfl, Nat.zero_le _, Nat.zero_le _, hid' rfl, hid' (World.ownsRow_nil _ _ _ _), hid' (Below.refl _ _)⟩
  case round =>
    obtain ⟨k, m, ro, rc, rfl, rfl, hk, hmk, HML, HO, HB⟩ := hrel
    by_cases hlt : k < n
    · have hlt2 : (k : Int) < (n : Int) := by omega
      obtain ⟨p, hp⟩ : ∃ p, l[k]? = some p := ⟨_, List.getElem?_eq_getElem (by rw [HN.out]; exact hlt)⟩
      obtain ⟨a, hao, y0, y1⟩ := (H.out.keep HB.out).two k p hp
      subst hao
      have hrt := Ms.strip_take hp
      obtain ⟨d, hd⟩ : ∃ d, Ms.bnd p.n = d := ⟨_, rfl⟩
      rw [hd] at hrt
      have HD := hid' hd
      have HPS := hid' (HS.out p (List.mem_of_getElem? hp))
      clear hp hd
      have HX := hid' (fd_new wr p)
      have HB1 := hid' (below_two HB.out (bl_alloc wr (.cells #[.string p.n, .string p.v] 52)))
      have HO1 := hid' (HO.out.alloc (.cells #[.string p.n, .string p.v] 52))
      go_wp2_with fail
      obtain ⟨xb, hxb⟩ : ∃ xb, wr.heap.size = xb := ⟨_, rfl⟩
      rw [hxb] at HX ⊢
      clear hxb y0 y1 HB HO
      generalize wr.alloc (.cells #[.string p.n, .string p.v] 52) = w1 at *
      refine (cbnd14 p.n d HD.out w1 HPS.out).mono ?_
      rintro e wq ⟨rfl, hbq⟩
      have HBq := hid' (below_two HB1.out hbq)
      have HOq := hid' (own_same HO1.out (fun j hj => hbq.block j (own_lt HO1.out j hj)))
      have HXq := hid' (HX.out.keep hbq)
      have z0 := HXq.out.cell 0 _ rfl
      have z1 := HXq.out.cell 1 _ rfl
      clear hbq HB1 HO1 HX
      cases d
      · simp only [Bool.false_eq_true, if_false] at hrt
        have HRT := hid' hrt
        have HA : Hid ((wq.alloc (.cells #[.string p.n, .string p.v] 52)).ownsRow w.heap.size 52 2 (.slice ro m rc) m (fC (Ms.strip (l.take k)))) := hid' (HOq.out.alloc _)
        clear hrt
        go_wp2_with (at_builtin; refine wpList_append_own_at _ rfl _ _ 40 rfl w.heap.size 52 i0 (.agg #[.string ⟨#[]⟩, .string ⟨#[]⟩]) 2 32 Tryz.underlying40 HI.out HZ0.out HZ1.out HZ2.out rfl (by decide) (.slice ro m rc) m (fC (Ms.strip (l.take k))) rfl HA.out ⟨wq.heap.size, 0, none⟩ 1 1 [.string p.n, .string p.v] rfl rfl (two_new _ _ _ _) (by simp [Value.oneCell']) (by unfold maxLen; omega) (by omega) (by simp; have := HBq.out.size; omega) ?_; intro v3 w3 hown3 hgrow3 _ _; refine Hid.out ?_)
        refine hid' ?_
        have e : fC (Ms.strip (l.take k)) ++ [Value.string p.n, .string p.v] = fC (Ms.strip (l.take (k + 1))) := by rw [HRT.out, fC_append]; simp [fV, fC]
        rw [e] at hown3
        obtain ⟨v3o, v3c, hv3⟩ := own_shape hown3
        subst hv3
        have HO3 := hid' hown3
        have HB3 : Hid (Below w.heap.size w w3) := hid' ((HBq.out.alloc HBq.out.size _).grown hgrow3 (by simp; have := HBq.out.size; omega) (fun k hk => (HA.out.lt k hk).1))
        clear hown3 hgrow3 e z0 z1
        go_wp2
        go_roundw
        case rel => exact ⟨k + 1, m + 1, v3o, v3c, by go_num, rfl, by omega, by omega, hid' (by rw [HRT.out, List.length_append, HML.out]; rfl), HO3, HB3⟩
        case measure => simp [intOf]; omega
      · simp only [if_true, List.append_nil] at hrt
        have HRT := hid' hrt
        clear hrt
        go_wp2
        go_roundw
        case rel => exact ⟨k + 1, m, ro, rc, by go_num, rfl, by omega, by omega, hid' (by rw [HRT.out]; exact HML.out), hid' (by rw [HRT.out]; exact HOq.out), HBq⟩
        case measure => simp [intOf]; omega
    · obtain rfl : k = n := by omega
      have hlt2 : ¬ (k : Int) < (k : Int) := by omega
      have HT : Hid (l.take k = l) := hid' (List.take_of_length_le (by rw [HN.out]; exact Nat.le_refl _))
      clear hlt
      go_wp2
      go_ret
      refine ⟨⟨m, ro, rc, rfl, ?_, ?_⟩, HB.out⟩
      · have := HML.out; rwa [HT.out] at this
      · have := HO.out; rwa [HT.out] at this

theorem psd_pre (x : ByteArray) : Ms.psd x = Lib.hasPrefix x.data.toList [58] := by
  unfold Ms.psd Ms.tx Lib.hasPrefix
  cases x.data.toList with
  | nil => rfl
  | cons a r =>
    simp only [List.head?_cons, List.isPrefixOf, Bool.and_true]
    rw [Bool.eq_iff_iff, beq_iff_eq, beq_iff_eq]
    constructor
    · intro h; injection h with h; exact h.symm
    · intro h; rw [h]

set_option maxHeartbeats 1000000 in
theorem cpsd14 (f : Fd) (r : Bool) (hr : Ms.psd f.n = r) (w : World) :
    Calls Tryz.prog 132 #[.agg #[.string f.n, .string f.v]] w fun e w' => e = .returned (.bool r) ∧ Below w.heap.size w w' := by
  have HC := hid' (fun W => Tryz.strings_HasPrefix f.n ⟨#[58]⟩ W)
  have HR : Hid (Lib.hasPrefix f.n.data.toList [58] = r) := hid' (by rw [← hr, psd_pre])
  clear hr
  have HB1 := hid' (bl_alloc w (.cells #[.string f.n, .string f.v] 52))
  go_enter Tryz.func132, Tryz.ntmps132
  go_wp2_with fail
  refine (HC.out _).mono ?_
  rintro e w1 ⟨he, hw⟩
  subst hw
  rw [he, show (Lib.hasPrefix f.n.data.toList (⟨#[58]⟩ : ByteArray).data.toList) = r from HR.out]
  clear he
  go_wp2
  go_ret
  exact ⟨rfl, HB1.out⟩

set_option maxHeartbeats 1000000 in
theorem csound14 (f : Fd) (r : Bool) (hr : Ms.sound f = r) (w : World) (hn : f.n.size ≤ 140737488355328) (hv : f.v.size ≤ 140737488355328) :
    Calls Tryz.prog 91 #[.agg #[.string f.n, .string f.v]] w fun e w' => e = .returned (.bool r) ∧ Below w.heap.size w w' := by
  obtain ⟨t1, h1⟩ : ∃ t1, Tx.isTok f.n.data.toList = t1 := ⟨_, rfl⟩
  obtain ⟨t2, h2⟩ : ∃ t2, Tx.isVal f.v.data.toList = t2 := ⟨_, rfl⟩
  have HR : Hid ((t1 && t2) = r) := hid' (by rw [← h1, ← h2]; exact hr)
  have HT : Hid (∀ W, Calls Tryz.prog 35 #[.string f.n] W fun e w' => e = .returned (.bool t1) ∧ w' = W) := hid' (fun W => by have := token_any f.n W (by unfold maxLen; omega); rwa [h1] at this)
  have HV : Hid (∀ W, Calls Tryz.prog 86 #[.string f.v] W fun e w' => e = .returned (.bool t2) ∧ w' = W) := hid' (fun W => by have := value_any f.v W (by unfold maxLen; omega); rwa [h2] at this)
  have HB1 := hid' (bl_alloc w (.cells #[.string f.n, .string f.v] 52))
  clear hr h1 h2
  cases t1
  · have HF : Hid (r = false) := hid' (by rw [← HR.out]; rfl)
    go_enter Tryz.func91, Tryz.ntmps91
    go_wp2_with fail
    refine (HT.out _).mono ?_
    rintro e w1 ⟨rfl, hw⟩
    subst w1
    go_wp2
    go_ret
    exact ⟨by rw [HF.out]; rfl, HB1.out⟩
  · have HF : Hid (r = t2) := hid' (by rw [← HR.out]; rfl)
    go_enter Tryz.func91, Tryz.ntmps91
    go_wp2_with fail
    refine (HT.out _).mono ?_
    rintro e w1 ⟨rfl, hw⟩
    subst w1
    go_wp2_with fail
    refine (HV.out _).mono ?_
    rintro e w1 ⟨rfl, hw⟩
    subst w1
    go_wp2
    go_ret
    exact ⟨by rw [HF.out]; rfl, HB1.out⟩

end Go.Proofs.YtbpdhcfmdkmoiaaGreatDoor

namespace Go.Proofs.YtbpdhcfmdkmoiaaGreatDoor
open Go.RowKit

/-- A world behind w in which all that lay in w is as it was. -/
structure BW (w : World) where
  W : World
  h : Below w.heap.size w W
theorem wp_region_below {P : Program} {id : Nat} {Q : Exit → Act → World → Prop} {a : Act} {w : World} {l : List Oper} (hm : P.follows .mixedOrders = true) (hB : Region.lexB .any l.toArray = true)
    (h : wpQuiet P l.toArray (fun w' => ∃ p : BW w, w' = p.W) (fun a' => ∀ w', (∃ p : BW w, w' = p.W) → Q .normal a' w') l a) : (Code.region id l.toArray true).wp P Q a w :=
  wp_region_quiet (C := fun w' => ∃ p : BW w, w' = p.W) hm hB ⟨⟨_, (Below.refl _ _).drew⟩, rfl⟩ (by simpa using h)
theorem Calls.below_of {P : Program} {f : FuncId} {args : Array Value} {w : World} {p : BW w} {v : Value}
    (h : Calls P f args p.W fun e w' => e = .returned v ∧ Below p.W.heap.size p.W w') : Calls P f args p.W fun e w'' => e = .returned v ∧ ∃ p : BW w, w'' = p.W :=
  h.mono fun _ w' ⟨he, hb⟩ => ⟨he, ⟨w', below_two p.h hb⟩, rfl⟩
theorem Calls.below_same {P : Program} {f : FuncId} {args : Array Value} {w : World} {p : BW w} {v : Value}
    (h : Calls P f args p.W fun e w' => e = .returned v ∧ w' = p.W) : Calls P f args p.W fun e w'' => e = .returned v ∧ ∃ p : BW w, w'' = p.W :=
  h.mono fun _ _ ⟨he, hb⟩ => ⟨he, p, hb⟩
theorem BW.cell {w : World} {a : Addr} {v : Value} (hb : a.block < w.heap.size) (h : w.cell? a = some v) (p : BW w) : p.W.cell? a = some v := (p.h.cell hb).trans h

end Go.Proofs.YtbpdhcfmdkmoiaaGreatDoor

namespace Go.Proofs.YtbpdhcfmdkmoiaaGreatDoor
open Go.RowKit

/-- What is left of the walk, shut: else the elaborator runs on through the operations that are passed by. -/
structure QS (P : Program) (ops : Array Oper) (C : World → Prop) (Q : Act → Prop) (l : List Oper) (a : Act) : Prop where
  out : wpQuiet P ops C Q l a
theorem QS.nil {P : Program} {ops : Array Oper} {C : World → Prop} {Q : Act → Prop} {a : Act} (h : Q a) : QS P ops C Q [] a := ⟨wpQuiet_nil h⟩
theorem QS.step {P : Program} {ops : Array Oper} {C : World → Prop} {Q : Act → Prop} {a : Act} {o : Oper} {rest : List Oper}
    (h : ∀ K : Act → Prop, (∀ a, QS P ops C Q rest a → K a) → if Region.wanted o (yielded ops a.tmps) then o.quiet P a C K else K (a.put o.dst undef)) : QS P ops C Q (o :: rest) a :=
  ⟨wpQuiet_step (fun K hK => h K (fun a hq => hK a hq.out))⟩
theorem wp_region_below_s {P : Program} {id : Nat} {Q : Exit → Act → World → Prop} {a : Act} {w : World} {l : List Oper} (hm : P.follows .mixedOrders = true) (hB : Region.lexB .any l.toArray = true)
    (h : QS P l.toArray (fun w' => ∃ p : BW w, w' = p.W) (fun a' => ∀ w', (∃ p : BW w, w' = p.W) → Q .normal a' w') l a) : (Code.region id l.toArray true).wp P Q a w :=
  wp_region_below hm hB h.out

end Go.Proofs.YtbpdhcfmdkmoiaaGreatDoor
