/-
  The laws' same: two rows of equal pieces, by its contract.
  For H1readCuts: what readers tell of bytes in pieces (plain), and rows of pieces beside readers.
  Fields that came in: as a row hands them; what a row says of the library's variables.
  Sizes that came in: as a row hands them.
-/
import Derived.Test.YtbpdhcfmdkmoiaaGreatDoorPnBK
import Derived.Test.YtbpdhcfmdkmoiaaGreatDoorPnBM
import Derived.Test.YtbpdhcfmdkmoiaaGreatDoorPnBJ
import Derived.Test.YtbpdhcfmdkmoiaaGreatDoorPnBN
import Derived.Test.YtbpdhcfmdkmoiaaGreatDoorRows
import Derived.Deep.Slices
import Derived.Deep.Strs
import Derived.RowKit
import Derived.ProofKit
import Derived.OpenShut
import Derived.LaidMore
import Derived.Stop.LaidErr
import Derived.Deep.DeepHandedRow
import Derived.Lib.LaidTab
import Derived.Lib.ItoaNum
import Derived.Test.YtbpdhcfmdkmoiaaGreatDoorPnAK
import Derived.SizedLaws
import Derived.Lib.SmallJoins
import Derived.Test.YtbpdhcfmdkmoiaaGreatDoorPnAL
namespace Go.Proofs.YtbpdhcfmdkmoiaaGreatDoor
open Go.RowKit

set_option maxHeartbeats 8000000 in
set_option maxRecDepth 20000 in
theorem csameRow21 (B B' : Nat) (X X' : Nat → Prop) (ao bo : Option Addr) (n ca cb : Nat) (ps : List Hr.Pc) (w : World) (h1 : PS21 w B X (.slice ao n ca) ps) (h2 : PS21 w B' X' (.slice bo n cb) ps) (hn : ps.length = n) (hl : ∀ p ∈ ps, p.rq.fs.length ≤ 9223372036854775807 ∧ p.fs.length ≤ 9223372036854775807) (hnb : n ≤ 4194304) :
    Calls Tryz.prog 11 #[.slice ao n ca, .slice bo n cb] w fun e w' => e = .returned (.bool true) ∧ Below w.heap.size w w' := by
  have H1 := hid' h1
  have H2 := hid' h2
  have HN := hid' hn
  have HL := hid' hl
  have HNB := hid' hnb
  clear h1 h2 hn hl hnb
  go_enter Tryz.func11, Tryz.ntmps11
  go_wp2
  go_loopw [5] (fun s5 wr => ∃ (i : Nat), s5 = .int .i64 (i : Int) ∧ i ≤ n ∧ Hid (Below w.heap.size w wr)) (fun s5 _ => n - (intOf s5).toNat)
  case atStart => exact ⟨0, rfl, Nat.zero_le _, hid' (Below.refl _ _)⟩
  case round =>
    obtain ⟨i, rfl, hi, HB⟩ := hrel
    by_cases hlt : i < n
    · have hlti : (i : Int) < (n : Int) := by omega
      obtain ⟨p, hp⟩ : ∃ p, ps[i]? = some p := ⟨_, List.getElem?_eq_getElem (by rw [HN.out]; exact hlt)⟩
      have hpl := HL.out p (List.mem_of_getElem? hp)
      obtain ⟨g, c1, rv, tv, hv, _, _, _, _, hc, hf1, hf2⟩ := (H1.out.keep HB.out).cells i p hp
      obtain ⟨g', c1', rv', tv', hv', _, _, _, _, hc', hf1', hf2'⟩ := (H2.out.keep HB.out).cells i p hp
      have HC := hid' hc
      have HC' := hid' hc'
      have HSM := hid' (fun (W : World) (hb : Below wr.heap.size wr W) => csamePc21 p rv tv rv' tv' W (hf1.keep hb) (hf1'.keep hb) (hf2.keep hb) (hf2'.keep hb) hpl.1 hpl.2)
      simp only [Value.slice.injEq] at hv hv'
      obtain ⟨ha, hx1, hcc⟩ := hv
      obtain ⟨hb, hx2, hcc'⟩ := hv'
      clear hx1 hx2
      subst ha hcc hb hcc'
      have hi0 : (0 : Int) ≤ (i : Int) := by omega
      clear hp hpl hc hc' hf1 hf2 hf1' hf2'
      have HLT := hid' hlt
      clear hlt
      have a0 : wr.cell? ⟨g, i * 15, none⟩ = some (.int .u8 p.mark) := by have h1 := HC.out 0 _ rfl; rwa [Addr.add_mid, Nat.zero_add] at h1
      have a1 : wr.cell? ⟨g, i * 15 + 1, none⟩ = some (.string p.rq.m) := by have h1 := HC.out 1 _ rfl; rwa [Addr.add_mid, Nat.zero_add] at h1
      have a2 : wr.cell? ⟨g, i * 15 + 2, none⟩ = some (.string p.rq.s) := by have h1 := HC.out 2 _ rfl; rwa [Addr.add_mid, Nat.zero_add] at h1
      have a3 : wr.cell? ⟨g, i * 15 + 3, none⟩ = some (.string p.rq.a) := by have h1 := HC.out 3 _ rfl; rwa [Addr.add_mid, Nat.zero_add] at h1
      have a4 : wr.cell? ⟨g, i * 15 + 4, none⟩ = some (.string p.rq.p) := by have h1 := HC.out 4 _ rfl; rwa [Addr.add_mid, Nat.zero_add] at h1
      have a5 : wr.cell? ⟨g, i * 15 + 5, none⟩ = some (rv) := by have h1 := HC.out 5 _ rfl; rwa [Addr.add_mid, Nat.zero_add] at h1
      have a6 : wr.cell? ⟨g, i * 15 + 6, none⟩ = some (.string ⟨#[]⟩) := by have h1 := HC.out 6 _ rfl; rwa [Addr.add_mid, Nat.zero_add] at h1
      have a7 : wr.cell? ⟨g, i * 15 + 7, none⟩ = some (.slice none 0 0) := by have h1 := HC.out 7 _ rfl; rwa [Addr.add_mid, Nat.zero_add] at h1
      have a8 : wr.cell? ⟨g, i * 15 + 8, none⟩ = some (.bool p.wait) := by have h1 := HC.out 8 _ rfl; rwa [Addr.add_mid, Nat.zero_add] at h1
      have a9 : wr.cell? ⟨g, i * 15 + 9, none⟩ = some (.bool p.last) := by have h1 := HC.out 9 _ rfl; rwa [Addr.add_mid, Nat.zero_add] at h1
      have a10 : wr.cell? ⟨g, i * 15 + 10, none⟩ = some (.bool p.old) := by have h1 := HC.out 10 _ rfl; rwa [Addr.add_mid, Nat.zero_add] at h1
      have a11 : wr.cell? ⟨g, i * 15 + 11, none⟩ = some (.bool p.has) := by have h1 := HC.out 11 _ rfl; rwa [Addr.add_mid, Nat.zero_add] at h1
      have a12 : wr.cell? ⟨g, i * 15 + 12, none⟩ = some (.string p.bd) := by have h1 := HC.out 12 _ rfl; rwa [Addr.add_mid, Nat.zero_add] at h1
      have a13 : wr.cell? ⟨g, i * 15 + 13, none⟩ = some (tv) := by have h1 := HC.out 13 _ rfl; rwa [Addr.add_mid, Nat.zero_add] at h1
      have a14 : wr.cell? ⟨g, i * 15 + 14, none⟩ = some (.int .i64 p.st) := by have h1 := HC.out 14 _ rfl; rwa [Addr.add_mid, Nat.zero_add] at h1
      have b0 : wr.cell? ⟨g', i * 15, none⟩ = some (.int .u8 p.mark) := by have h1 := HC'.out 0 _ rfl; rwa [Addr.add_mid, Nat.zero_add] at h1
      have b1 : wr.cell? ⟨g', i * 15 + 1, none⟩ = some (.string p.rq.m) := by have h1 := HC'.out 1 _ rfl; rwa [Addr.add_mid, Nat.zero_add] at h1
      have b2 : wr.cell? ⟨g', i * 15 + 2, none⟩ = some (.string p.rq.s) := by have h1 := HC'.out 2 _ rfl; rwa [Addr.add_mid, Nat.zero_add] at h1
      have b3 : wr.cell? ⟨g', i * 15 + 3, none⟩ = some (.string p.rq.a) := by have h1 := HC'.out 3 _ rfl; rwa [Addr.add_mid, Nat.zero_add] at h1
      have b4 : wr.cell? ⟨g', i * 15 + 4, none⟩ = some (.string p.rq.p) := by have h1 := HC'.out 4 _ rfl; rwa [Addr.add_mid, Nat.zero_add] at h1
      have b5 : wr.cell? ⟨g', i * 15 + 5, none⟩ = some (rv') := by have h1 := HC'.out 5 _ rfl; rwa [Addr.add_mid, Nat.zero_add] at h1
      have b6 : wr.cell? ⟨g', i * 15 + 6, none⟩ = some (.string ⟨#[]⟩) := by have h1 := HC'.out 6 _ rfl; rwa [Addr.add_mid, Nat.zero_add] at h1
      have b7 : wr.cell? ⟨g', i * 15 + 7, none⟩ = some (.slice none 0 0) := by have h1 := HC'.out 7 _ rfl; rwa [Addr.add_mid, Nat.zero_add] at h1
      have b8 : wr.cell? ⟨g', i * 15 + 8, none⟩ = some (.bool p.wait) := by have h1 := HC'.out 8 _ rfl; rwa [Addr.add_mid, Nat.zero_add] at h1
      have b9 : wr.cell? ⟨g', i * 15 + 9, none⟩ = some (.bool p.last) := by have h1 := HC'.out 9 _ rfl; rwa [Addr.add_mid, Nat.zero_add] at h1
      have b10 : wr.cell? ⟨g', i * 15 + 10, none⟩ = some (.bool p.old) := by have h1 := HC'.out 10 _ rfl; rwa [Addr.add_mid, Nat.zero_add] at h1
      have b11 : wr.cell? ⟨g', i * 15 + 11, none⟩ = some (.bool p.has) := by have h1 := HC'.out 11 _ rfl; rwa [Addr.add_mid, Nat.zero_add] at h1
      have b12 : wr.cell? ⟨g', i * 15 + 12, none⟩ = some (.string p.bd) := by have h1 := HC'.out 12 _ rfl; rwa [Addr.add_mid, Nat.zero_add] at h1
      have b13 : wr.cell? ⟨g', i * 15 + 13, none⟩ = some (tv') := by have h1 := HC'.out 13 _ rfl; rwa [Addr.add_mid, Nat.zero_add] at h1
      have b14 : wr.cell? ⟨g', i * 15 + 14, none⟩ = some (.int .i64 p.st) := by have h1 := HC'.out 14 _ rfl; rwa [Addr.add_mid, Nat.zero_add] at h1
      go_upto_region 6 with fail

      go_region_with (first | (go_at_call 21; refine (HSM.out _ (by first | exact below_drewN _ _ | exact Below.refl _ _ | exact (Below.refl _ _).drew | exact ((Below.refl _ _).drew).drew)).mono ?_; rintro e w2 ⟨rfl, hb2⟩))
      all_goals have hnb := HNB.out
      all_goals have hlt := HLT.out
      all_goals have HB2 := hid' (below_two HB.out (below_two (by first | exact Below.refl _ _ | exact (Below.refl _ _).drew | exact ((Below.refl _ _).drew).drew | exact below_drewN _ _) hb2))
      all_goals clear hb2
      all_goals go_wp2
      all_goals go_roundw
      all_goals first
        | exact ⟨i + 1, by go_num, by omega, HB2⟩
        | (simp [intOf]; omega)
    · obtain rfl : i = n := by omega
      have hlti : ¬ (i : Int) < (i : Int) := by omega
      go_wp2_with fail
      go_ret
      exact ⟨rfl, HB.out⟩

end Go.Proofs.YtbpdhcfmdkmoiaaGreatDoor

namespace Go.Proofs.YtbpdhcfmdkmoiaaGreatDoor
open Go.RowKit

namespace Hr
theorem told_good (s : St) (hg : Good s) (hd : isDead s = false) (k : Nat) (d : T8) (hk : 2 * d.length + 1 ≤ k) :
    told k s d [] = (put [] (evs s d).1, stat (evs s d).2, true, (evs s d).2) ∧ (isDead (evs s d).2 = false → Good (evs s d).2) ∧ (isDead (evs s d).2 = true → stat (evs s d).2 ≠ 0) := by
  have h := told_put k s d [] (.inr hg) hd (by rw [hg.fin]; simpa using hk)
  rwa [ev1_good hg] at h
theorem cut_dead (s : St) (d e : T8) (h : isDead (evs s d).2 = true) : evs s (d ++ e) = evs s d := by rw [evs_app, evs_dead h]; simp
theorem cut_join (s : St) (d e : T8) : joinP (put [] (evs s d).1) (put [] (evs (evs s d).2 e).1) = put [] (evs s (d ++ e)).1 := by rw [evs_app, put_app, ← join_put]
theorem stat_live {s : St} (h : isDead s = false) : stat s = 0 := by unfold stat; rw [h]; rfl
theorem joinP_bd {p r : List Pc} {A C : Nat} (hp : ∀ x ∈ p, x.bd.size ≤ A) (hr : ∀ x ∈ r, x.bd.size ≤ C) : ∀ x ∈ joinP p r, x.bd.size ≤ A + C := by
  intro x hx
  cases r with
  | nil => have := hp x hx; omega
  | cons y t =>
    rw [joinP] at hx
    rcases List.mem_append.1 hx with h | h
    · rcases List.eq_nil_or_concat p with rfl | ⟨a, q, rfl⟩
      · rw [addP_nil] at h
        have := hr x (by rw [List.mem_singleton.1 h]; simp); omega
      · rw [List.concat_eq_append] at h hp
        rw [addP_last] at h
        split at h
        · rcases List.mem_append.1 h with h | h
          · have := hp x (List.mem_append_left _ h); omega
          · rw [List.mem_singleton.1 h]
            have h1 := hp q (by simp)
            have h2 := hr y (by simp)
            show (q.bd ++ y.bd).size ≤ A + C
            rw [ByteArray.size_append]; omega
        · rcases List.mem_append.1 h with h | h
          · have := hp x h; omega
          · have := hr x (by rw [List.mem_singleton.1 h]; simp); omega
    · have := hr x (List.mem_cons_of_mem _ h); omega
theorem joinP_len (p r : List Pc) : (joinP p r).length ≤ p.length + r.length := by
  cases r with
  | nil => exact Nat.le_add_right _ _
  | cons y t =>
    rw [joinP, List.length_append, List.length_cons]
    have := addP_len p y
    omega
end Hr

theorem RT21.rebase {B b : Nat} {s : Hr.St} {lv fv : Value} {w W0 : World} (h : RT21 B b s lv fv w) (hT : TB W0) (hb : Below W0.heap.size W0 w) (hB : W0.heap.size ≤ B) : RT21 W0.heap.size b s lv fv w :=
  ⟨⟨Nat.le_trans hB h.rn.lo, h.rn.obj, own_base21 h.rn.ln hB, own_base21 h.rn.fl hB⟩, h.ok, ⟨W0, rfl, hT, hb⟩, h.L, h.M⟩
theorem PS21.apart {X : Nat → Prop} {w : World} {B z : Nat} {v : Value} {ps : List Hr.Pc} {T : TypeId} {cs : Array Value} (h : PS21 w B X v ps) (ha : Ar w z T cs) (h1 : T ≠ 49) (h2 : T ≠ 52) : PS21 w B (fun k => X k ∨ k = z) v ps := by
  obtain ⟨⟨xs, ho, hp⟩, hn⟩ := h
  refine ⟨⟨xs, ho, fun j p hj => ?_⟩, fun k hk hx => hx.elim (hn k hk) (own_apart ho ha h1 k hk)⟩
  obtain ⟨rv, tv, g1, g2, g3, g4, g5⟩ := hp j p hj
  exact ⟨rv, tv, g1, g2, g3, fun k hk hx => hx.elim (g4 k hk) (own_apart g2 ha h2 k hk), fun k hk hx => hx.elim (g5 k hk) (own_apart g3 ha h2 k hk)⟩
theorem PS21.row {X : Nat → Prop} {w : World} {B n : Nat} {u v : Value} {xs : List Value} {ps : List Hr.Pc} (h : PS21 w B X v ps) (hu : w.ownsRow B 49 15 u n xs) (hd : ∀ k, v.ownBlock = some k → u.ownBlock ≠ some k) : PS21 w B (fun k => X k ∨ u.ownBlock = some k) v ps := by
  obtain ⟨⟨ys, ho, hp⟩, hn⟩ := h
  refine ⟨⟨ys, ho, fun j p hj => ?_⟩, fun k hk hx => hx.elim (hn k hk) (hd k hk)⟩
  obtain ⟨rv, tv, g1, g2, g3, g4, g5⟩ := hp j p hj
  exact ⟨rv, tv, g1, g2, g3, fun k hk hx => hx.elim (g4 k hk) (fun e => own_own g2 hu (by decide) k hk e.symm), fun k hk hx => hx.elim (g5 k hk) (fun e => own_own g3 hu (by decide) k hk e.symm)⟩
theorem PS21.weak {X X' : Nat → Prop} {w : World} {B : Nat} {v : Value} {ps : List Hr.Pc} (h : PS21 w B X v ps) (hx : ∀ k, k < w.heap.size → X' k → X k) : PS21 w B X' v ps :=
  h.other (LF.refl (fun _ => False) w) (fun _ _ _ => id) (fun k hk hn h' => hn (hx k hk h'))
/-- Beside a reader that goes on. -/
theorem PS21.told {X : Nat → Prop} {w w' : World} {B b : Nat} {v lv fv lv' fv' : Value} {ps : List Hr.Pc} (h : PS21 w B X v ps) (hf : LF (RS b lv fv) w w') (hr : RW w.heap.size lv fv lv' fv') (hs : ∀ k, RS b lv fv k → X k) : PS21 w' B (fun k => X k ∨ RS b lv' fv' k) v ps :=
  h.other hf (fun k _ hx hk => hx (hs k hk)) (fun k hk hx h' => h'.elim hx (fun e => nrs_step21 (fun e' => hx (hs k e')) hk hr e))
theorem PS21.lt {X : Nat → Prop} {w : World} {B : Nat} {v : Value} {ps : List Hr.Pc} (h : PS21 w B X v ps) : ∀ k, v.ownBlock = some k → k < w.heap.size := fun k hk => by
  obtain ⟨⟨xs, ho, _⟩, _⟩ := h
  exact (World.ownsRow.lt ho k hk).2
/-- Beside rows that are joined. -/
theorem PS21.joined {X Y : Nat → Prop} {w w' : World} {B : Nat} {u v v' : Value} {ps qs rs : List Hr.Pc} (h : PS21 w B X v ps) (hu : PS21 w B Y u qs) (hd : ∀ k, v.ownBlock = some k → u.ownBlock ≠ some k) (hj : JO21 B Y u.ownBlock rs w v' w') : PS21 w' B X v ps := by
  obtain ⟨⟨xs, ho, _⟩, _⟩ := hu
  exact (h.row ho hd).other hj.lf (fun k _ hx hk => hx (.inr hk)) (fun k _ hx hk => hx (.inl hk))
theorem RT21.joined {Y : Nat → Prop} {w w' : World} {B b : Nat} {u v' lv fv : Value} {qs rs : List Hr.Pc} {s : Hr.St} (h : RT21 B b s lv fv w) (hu : PS21 w B Y u qs) (hY : ∀ k, RS b lv fv k → Y k) (hj : JO21 B Y u.ownBlock rs w v' w') : RT21 B b s lv fv w' := by
  obtain ⟨⟨xs, ho, _⟩, hn⟩ := hu
  exact h.other hj.lf (fun k hk e => hn k e (hY k hk)) (fun k e => (own_ty ho k e).1)
theorem own_max21 {w : World} {B n s : Nat} {e : TypeId} {v : Value} {xs : List Value} (h : w.ownsRow B e s v n xs) : n ≤ 9223372036854775807 := by
  rcases h.2 with ⟨_, h0⟩ | ⟨g, cap, cur, _, _, _, h1, h2, _⟩
  · omega
  · unfold maxLen at h2; omega
theorem PS21.small {X : Nat → Prop} {w : World} {B : Nat} {v : Value} {ps : List Hr.Pc} (h : PS21 w B X v ps) : ∀ p ∈ ps, p.rq.fs.length ≤ 9223372036854775807 ∧ p.fs.length ≤ 9223372036854775807 := fun p hp => by
  obtain ⟨⟨xs, _, hq⟩, _⟩ := h
  obtain ⟨j, hj, rfl⟩ := List.getElem_of_mem hp
  obtain ⟨rv, tv, _, h2, h3, _⟩ := hq j _ (List.getElem?_eq_getElem hj)
  exact ⟨own_max21 h2, own_max21 h3⟩
theorem PS21.shape {X : Nat → Prop} {w : World} {B : Nat} {v : Value} {ps : List Hr.Pc} (h : PS21 w B X v ps) : ∃ ao cap, v = .slice ao ps.length cap := by
  obtain ⟨⟨xs, ho, _⟩, _⟩ := h
  exact own_shape ho
theorem rs_nil21 {b k : Nat} (h : RS b (.slice none 0 0) (.slice none 0 0) k) : k = b := by
  rcases h with h | h | h
  · exact h
  · simp [Value.ownBlock] at h
  · simp [Value.ownBlock] at h
/-- A new reader beside another one that goes on. -/
theorem RT21.beside {w w' : World} {B b b' : Nat} {lv fv : Value} {s s' : Hr.St} (h : RT21 B b s (.slice none 0 0) (.slice none 0 0) w) (h' : RT21 B b' s' lv fv w) (hne : ¬ RS b' lv fv b) (hf : LF (RS b' lv fv) w w') : RT21 B b s (.slice none 0 0) (.slice none 0 0) w' :=
  h.other hf (fun k hk e => hne (by rw [← rs_nil21 hk]; exact e)) (fun k e => (h'.rn.rs k e).1)

theorem RT21.notin {w : World} {B b z : Nat} {lv fv : Value} {s : Hr.St} {cs : Array Value} (h : RT21 B b s lv fv w) (ha : Ar w z 66 cs) (hne : z ≠ b) : ¬ RS b lv fv z := by
  rintro (e | e | e)
  · exact hne e
  · exact own_apart h.rn.ln ha (by decide) z e rfl
  · exact own_apart h.rn.fl ha (by decide) z e rfl
/-- What H1readCuts' loop keeps. -/
structure CU21 (w : World) (B b NL : Nat) (d : List UInt8) (s0 : Hr.St) (vA vO : Value) (P PO : List Hr.Pc) (i : Nat) (t : Int) (v lv fv : Value) (wr : World) : Prop where
  rt : RT21 B b (Hr.evs s0 (d.take i)).2 lv fv wr
  pa : PS21 wr B (RS b lv fv) vA P
  po : PS21 wr B (RS b lv fv) vO PO
  ps : PS21 wr B (RS b lv fv) v (Hr.put [] (Hr.evs s0 (d.take i)).1)
  fr : ∀ k, v.ownBlock = some k → NL ≤ k
  cost : Hr.cost (Hr.evs s0 (d.take i)).2 ≤ i
  bd : ∀ x ∈ Hr.put [] (Hr.evs s0 (d.take i)).1, x.bd.size ≤ i * 1048577
  len : (Hr.put [] (Hr.evs s0 (d.take i)).1).length ≤ 8 * i
  live : Hr.isDead (Hr.evs s0 (d.take i)).2 = false → Hr.Good (Hr.evs s0 (d.take i)).2
  dead : Hr.isDead (Hr.evs s0 (d.take i)).2 = true → Hr.stat (Hr.evs s0 (d.take i)).2 ≠ 0
  st : t = Hr.stat (Hr.evs s0 (d.take i)).2
  below : Below w.heap.size w wr
  sz : NL ≤ wr.heap.size
theorem CU21.keep {w wr wr' : World} {B b NL i : Nat} {d : List UInt8} {s0 : Hr.St} {vA vO v lv fv : Value} {P PO : List Hr.Pc} {t : Int} (h : CU21 w B b NL d s0 vA vO P PO i t v lv fv wr) (hb : Below wr.heap.size wr wr') : CU21 w B b NL d s0 vA vO P PO i t v lv fv wr' :=
  ⟨h.rt.keep hb, h.pa.keep hb, h.po.keep hb, h.ps.keep hb, h.fr, h.cost, h.bd, h.len, h.live, h.dead, h.st, below_two h.below hb, Nat.le_trans h.sz hb.size⟩

end Go.Proofs.YtbpdhcfmdkmoiaaGreatDoor

namespace Go.Proofs.YtbpdhcfmdkmoiaaGreatDoor
open Go.RowKit Go.ChangeShapes Go.WideShapes Go.ChangeAt Go.Deep

namespace Frame14
theorem own : ownKnob Tryz.prog.godebug = none := by kernel_rfl
theorem gTab : Tryz.prog.globalNamed "internal/strconv.uint64pow10" = some 3 := by kernel_rfl
theorem gTabType : (Tryz.prog.globals[3]?).map (·.type) = some 156 := by kernel_rfl
theorem cellsA : Tryz.prog.cellsOf 156 = 20 := by kernel_rfl
theorem cellsE : Tryz.prog.cellsOf 150 = 1 := by kernel_rfl
theorem tab_eq : (Rows.laid_internal_strconv_uint64pow10 : DataW Unit) = Lib.tabData .u64 Lib.pow10Tab := by kernel_rfl
/-- What the rows' list and the world's shape give: the table of powers, and a cell of a number. -/
theorem tb {W : World} (h : laidMetH Tryz.prog [("math/bits.deBruijn32tab", Rows.laid_math_bits_deBruijn32tab), ("math/bits.deBruijn64tab", Rows.laid_math_bits_deBruijn64tab), ("internal/strconv.uint64pow10", Rows.laid_internal_strconv_uint64pow10), ("unicode/utf8.acceptRanges", Rows.laid_unicode_utf8_acceptRanges), ("unicode/utf8.first", Rows.laid_unicode_utf8_first)] W) (hs : W.ShapedOpen Tryz.prog) : TB W := by
  have h' : laidMet Tryz.prog [("math/bits.deBruijn32tab", Rows.laid_math_bits_deBruijn32tab), ("math/bits.deBruijn64tab", Rows.laid_math_bits_deBruijn64tab), ("internal/strconv.uint64pow10", Rows.laid_internal_strconv_uint64pow10), ("unicode/utf8.acceptRanges", Rows.laid_unicode_utf8_acceptRanges), ("unicode/utf8.first", Rows.laid_unicode_utf8_first)] W := h
  have h3 := h'.tail.tail
  rw [tab_eq] at h3
  exact ⟨Lib.tabIs_of_head (rest := [("unicode/utf8.acceptRanges", Rows.laid_unicode_utf8_acceptRanges), ("unicode/utf8.first", Rows.laid_unicode_utf8_first)]) gTab gTabType Tryz.underlying156 Tryz.underlying150 cellsE cellsA h3, Tryz.laysM219.s1_3 W hs⟩
end Frame14

end Go.Proofs.YtbpdhcfmdkmoiaaGreatDoor

namespace Go.Proofs.YtbpdhcfmdkmoiaaGreatDoor
open Go.RowKit Go.ChangeShapes Go.WideShapes Go.ChangeAt Go.Deep Go.Joins

theorem fit21 {i : Int} (h : (Lit.int .i64 i).wf = true) : -9223372036854775808 ≤ i ∧ i ≤ 9223372036854775807 := by
  have e1 : IntKind.i64.min = -9223372036854775808 := rfl
  have e2 : IntKind.i64.max = 9223372036854775807 := rfl
  simp [Lit.wf, e1, e2] at h
  omega
set_option maxRecDepth 100000 in
theorem open_sizes21 {H : Type} {enc : TypeId × Value → H} {W : World} {base : Nat} {v : Value} {d : DataW H} {p : List MemPlace} (hval : Value.okWide Tryz.prog W .any base 23 v) (h : DataW.Trod enc Tryz.prog W 0 (fun _ => true) true 23 v d p) :
    ∃ a b : Int, v = .agg #[.int .i64 a, .int .i64 b] ∧ (-9223372036854775808 ≤ a ∧ a ≤ 9223372036854775807) ∧ -9223372036854775808 ≤ b ∧ b ≤ 9223372036854775807 := by
  obtain ⟨x0, x1, y0, y1, m, rfl, rfl, _, g0, g1⟩ := open_agg2 Tryz.underlying23 (by kernel_rfl) (by kernel_rfl) hval h
  obtain ⟨a, f0, _, w0⟩ := DataW.trod_int Tryz.underlying3 g0
  obtain ⟨b, f1, _, w1⟩ := DataW.trod_int Tryz.underlying3 g1
  simp only [List.cons.injEq, and_true] at f0 f1
  subst f0 f1
  exact ⟨a, b, rfl, fit21 w0, fit21 w1⟩

end Go.Proofs.YtbpdhcfmdkmoiaaGreatDoor
