/-
  The scheduler: Wake, Sleep, Drop: by their contracts.
-/
import Derived.Test.YtpgfnhfjkplmaaaSdE
import Derived.Deep.RegionWith
namespace Go.Proofs.Ytpgfnhfjkplmaaa
open Go.RowKit

set_option maxHeartbeats 2000000 in
set_option maxRecDepth 20000 in
theorem mvW_yes (B b : Nat) (v u : Value) (ts : List (Int × Bool)) (x : Int) (w : World) (h : SM w B b v u ts) (hm : (x, false) ∈ ts) :
    Calls Try.prog 25 #[.int .i64 x, .pointer (some ⟨b, 0, none⟩), .pointer (some ⟨b, 1, none⟩)] w fun e w' => e = .returned (.bool true) ∧ ∃ v' u', SM w' B b v' u' (Sd.tset x true ts) ∧ LF (SS b v u) w w' ∧ NewB w b v u v' u' := by
  obtain ⟨s1, s2, s3, s4⟩ := Sd.set_spec ts x false h.ok hm
  have hmr := (Sd.row_mem false ts x).2 hm
  have HC := hid' (rremove_yes B b 0 46 #[v, u] v (Sd.row false ts) x w h.obj (by decide) rfl h.asl (Nat.le_trans (h.len false) (by omega)) (Sd.row_rise _ _ h.ok) hmr)
  have H := hid' h
  have HS : Hid (Sd.Ok (Sd.tset x true ts) ∧ Sd.row false (Sd.tset x true ts) = Sd.rmv x (Sd.row false ts) ∧ Sd.row true (Sd.tset x true ts) = Sd.ins x (Sd.row true ts) ∧ (Sd.tset x true ts).length = ts.length) := hid' ⟨s1, s2, s3, s4⟩
  clear h hm hmr s1 s2 s3 s4
  go_enter Try.func25, Try.ntmps25
  go_wp2_with fail
  refine HC.out.mono ?_
  rintro e w1 ⟨rfl, f', hat, hob, hrw, hlf⟩
  have hob1 : Ar w1 b 46 #[f', u] := by simpa using hob
  have htr : w1.ownsRow B 3 1 u (Sd.row true ts).length (nmC (Sd.row true ts)) := own_same H.out.rdy (fun k hk => hlf.block k (own_lt H.out.rdy k hk) (by
    rintro (rfl | e)
    · exact own_apart H.out.rdy H.out.obj (by decide) _ hk rfl
    · exact H.out.ap k e hk))
  have HP := hid' (rput B b 1 46 #[f', u] u (Sd.row true ts) x w1 hob1 (by decide) rfl htr (Nat.le_trans (H.out.len true) (by omega)) (Sd.row_rise _ _ H.out.ok) (Nat.le_trans H.out.lb hlf.size))
  have HAT := hid' hat
  have HRW := hid' hrw
  have HLF := hid' hlf
  have HOB := hid' hob1
  have HTR := hid' htr
  clear hat hob hrw hlf hob1 htr
  go_wp2_with fail
  refine HP.out.mono ?_
  rintro e w2 ⟨rfl, t', hat2, hob2, hrw2, hlf2⟩
  have hob3 : Ar w2 b 46 #[f', t'] := by simpa using hob2
  have hfr : w2.ownsRow B 3 1 f' (Sd.rmv x (Sd.row false ts)).length (nmC (Sd.rmv x (Sd.row false ts))) := own_same HRW.out (fun k hk => hlf2.block k (own_lt HRW.out k hk) (by
    rintro (rfl | e)
    · exact own_apart HRW.out HOB.out (by decide) _ hk rfl
    · have hk2 : v.ownBlock = some k := HAT.out ▸ hk
      exact H.out.ap k hk2 e))
  have HE : Hid (SM w2 B b f' t' (Sd.tset x true ts) ∧ LF (SS b v u) w w2 ∧ NewB w b v u f' t') := hid' (by
    refine ⟨⟨H.out.ge, hob3, ?_, ?_, ?_, HS.out.1, by rw [HS.out.2.2.2]; exact H.out.le⟩, ?_, ?_⟩
    · rw [HS.out.2.1]; exact hfr
    · rw [HS.out.2.2.1]; exact hrw2
    · intro k hk hk2
      have e1 : v.ownBlock = some k := HAT.out ▸ hk
      rcases hat2 with e | e
      · exact H.out.ap k e1 (e ▸ hk2)
      · rw [e] at hk2; injection hk2 with hk2
        have h5 := own_lt H.out.asl k e1
        have h6 := HLF.out.size
        omega
    · refine (show LF (SS b v u) w w1 from ⟨HLF.out.os, HLF.out.tape, HLF.out.output, HLF.out.size, fun k hk hs => HLF.out.block k hk (fun e => hs (e.elim .inl (fun e => .inr (.inl e))))⟩).trans hlf2 ?_
      rintro k _ (e | e)
      · exact .inl e
      · exact .inr (.inr e)
    · have hnew : t'.ownBlock = u.ownBlock ∨ ∃ k, t'.ownBlock = some k ∧ w.heap.size ≤ k := hat2.imp id (fun e => ⟨_, e, by have := HLF.out.size; omega⟩)
      have ht : ∀ k, t'.ownBlock = some k → SS b v u k ∨ w.heap.size ≤ k := fun k hk => by
        rcases hnew with e | ⟨j, e, hj⟩
        · exact .inl (.inr (.inr (e ▸ hk)))
        · rw [e] at hk; injection hk with hk; exact .inr (by omega)
      have hf : ∀ k, f'.ownBlock = some k → SS b v u k ∨ w.heap.size ≤ k := fun k hk => .inl (.inr (.inl (HAT.out ▸ hk)))
      rintro k (rfl | hk | hk)
      · exact .inl (.inl rfl)
      · exact hf k hk
      · exact ht k hk)
  clear hat2 hob2 hrw2 hlf2 hob3 hfr
  go_wp2
  go_ret
  exact ⟨rfl, _, _, HE.out⟩

set_option maxHeartbeats 2000000 in
theorem mvW_no (B b : Nat) (v u : Value) (ts : List (Int × Bool)) (x : Int) (w : World) (q : Value) (h : SM w B b v u ts) (hm : (x, false) ∉ ts) :
    Calls Try.prog 25 #[.int .i64 x, .pointer (some ⟨b, 0, none⟩), q] w fun e w' => e = .returned (.bool false) ∧ w' = w := by
  have HC := hid' (rremove_no b 0 v (Sd.row false ts) x w (h.obj.cell 0 _ rfl) (RQ.of_own h.asl) (Nat.le_trans (h.len false) (by omega)) (Sd.row_rise _ _ h.ok) (fun e => hm ((Sd.row_mem false ts x).1 e)))
  clear h hm
  go_enter Try.func25, Try.ntmps25
  go_wp2_with fail
  refine HC.out.mono ?_
  rintro e w1 ⟨rfl, rfl⟩
  go_wp2
  go_ret
  exact ⟨rfl, rfl⟩

set_option maxHeartbeats 2000000 in
set_option maxRecDepth 20000 in
theorem mvS_yes (B b : Nat) (v u : Value) (ts : List (Int × Bool)) (x : Int) (w : World) (h : SM w B b v u ts) (hm : (x, true) ∈ ts) :
    Calls Try.prog 25 #[.int .i64 x, .pointer (some ⟨b, 1, none⟩), .pointer (some ⟨b, 0, none⟩)] w fun e w' => e = .returned (.bool true) ∧ ∃ v' u', SM w' B b v' u' (Sd.tset x false ts) ∧ LF (SS b v u) w w' ∧ NewB w b v u v' u' := by
  obtain ⟨s1, s2, s3, s4⟩ := Sd.set_spec ts x true h.ok hm
  have hmr := (Sd.row_mem true ts x).2 hm
  have HC := hid' (rremove_yes B b 1 46 #[v, u] u (Sd.row true ts) x w h.obj (by decide) rfl h.rdy (Nat.le_trans (h.len true) (by omega)) (Sd.row_rise _ _ h.ok) hmr)
  have H := hid' h
  have HS : Hid (Sd.Ok (Sd.tset x false ts) ∧ Sd.row true (Sd.tset x false ts) = Sd.rmv x (Sd.row true ts) ∧ Sd.row false (Sd.tset x false ts) = Sd.ins x (Sd.row false ts) ∧ (Sd.tset x false ts).length = ts.length) := hid' ⟨s1, s2, s3, s4⟩
  clear h hm hmr s1 s2 s3 s4
  go_enter Try.func25, Try.ntmps25
  go_wp2_with fail
  refine HC.out.mono ?_
  rintro e w1 ⟨rfl, f', hat, hob, hrw, hlf⟩
  have hob1 : Ar w1 b 46 #[v, f'] := by simpa using hob
  have htr : w1.ownsRow B 3 1 v (Sd.row false ts).length (nmC (Sd.row false ts)) := own_same H.out.asl (fun k hk => hlf.block k (own_lt H.out.asl k hk) (by
    rintro (rfl | e)
    · exact own_apart H.out.asl H.out.obj (by decide) _ hk rfl
    · exact H.out.ap k hk e))
  have HP := hid' (rput B b 0 46 #[v, f'] v (Sd.row false ts) x w1 hob1 (by decide) rfl htr (Nat.le_trans (H.out.len false) (by omega)) (Sd.row_rise _ _ H.out.ok) (Nat.le_trans H.out.lb hlf.size))
  have HAT := hid' hat
  have HRW := hid' hrw
  have HLF := hid' hlf
  have HOB := hid' hob1
  have HTR := hid' htr
  clear hat hob hrw hlf hob1 htr
  go_wp2_with fail
  refine HP.out.mono ?_
  rintro e w2 ⟨rfl, t', hat2, hob2, hrw2, hlf2⟩
  have hob3 : Ar w2 b 46 #[t', f'] := by simpa using hob2
  have hfr : w2.ownsRow B 3 1 f' (Sd.rmv x (Sd.row true ts)).length (nmC (Sd.rmv x (Sd.row true ts))) := own_same HRW.out (fun k hk => hlf2.block k (own_lt HRW.out k hk) (by
    rintro (rfl | e)
    · exact own_apart HRW.out HOB.out (by decide) _ hk rfl
    · have hk2 : u.ownBlock = some k := HAT.out ▸ hk
      exact H.out.ap k e hk2))
  have HE : Hid (SM w2 B b t' f' (Sd.tset x false ts) ∧ LF (SS b v u) w w2 ∧ NewB w b v u t' f') := hid' (by
    refine ⟨⟨H.out.ge, hob3, ?_, ?_, ?_, HS.out.1, by rw [HS.out.2.2.2]; exact H.out.le⟩, ?_, ?_⟩
    · rw [HS.out.2.2.1]; exact hrw2
    · rw [HS.out.2.1]; exact hfr
    · intro k hk hk2
      have e1 : u.ownBlock = some k := HAT.out ▸ hk2
      rcases hat2 with e | e
      · exact H.out.ap k (e ▸ hk) e1
      · rw [e] at hk; injection hk with hk2
        have h5 := own_lt H.out.rdy k e1
        have h6 := HLF.out.size
        omega
    · refine (show LF (SS b v u) w w1 from ⟨HLF.out.os, HLF.out.tape, HLF.out.output, HLF.out.size, fun k hk hs => HLF.out.block k hk (fun e => hs (e.elim .inl (fun e => .inr (.inr e))))⟩).trans hlf2 ?_
      rintro k _ (e | e)
      · exact .inl e
      · exact .inr (.inl e)
    · have hnew : t'.ownBlock = v.ownBlock ∨ ∃ k, t'.ownBlock = some k ∧ w.heap.size ≤ k := hat2.imp id (fun e => ⟨_, e, by have := HLF.out.size; omega⟩)
      have ht : ∀ k, t'.ownBlock = some k → SS b v u k ∨ w.heap.size ≤ k := fun k hk => by
        rcases hnew with e | ⟨j, e, hj⟩
        · exact .inl (.inr (.inl (e ▸ hk)))
        · rw [e] at hk; injection hk with hk; exact .inr (by omega)
      have hf : ∀ k, f'.ownBlock = some k → SS b v u k ∨ w.heap.size ≤ k := fun k hk => .inl (.inr (.inr (HAT.out ▸ hk)))
      rintro k (rfl | hk | hk)
      · exact .inl (.inl rfl)
      · exact ht k hk
      · exact hf k hk)
  clear hat2 hob2 hrw2 hlf2 hob3 hfr
  go_wp2
  go_ret
  exact ⟨rfl, _, _, HE.out⟩

set_option maxHeartbeats 2000000 in
theorem mvS_no (B b : Nat) (v u : Value) (ts : List (Int × Bool)) (x : Int) (w : World) (q : Value) (h : SM w B b v u ts) (hm : (x, true) ∉ ts) :
    Calls Try.prog 25 #[.int .i64 x, .pointer (some ⟨b, 1, none⟩), q] w fun e w' => e = .returned (.bool false) ∧ w' = w := by
  have HC := hid' (rremove_no b 1 u (Sd.row true ts) x w (h.obj.cell 1 _ rfl) (RQ.of_own h.rdy) (Nat.le_trans (h.len true) (by omega)) (Sd.row_rise _ _ h.ok) (fun e => hm ((Sd.row_mem true ts x).1 e)))
  clear h hm
  go_enter Try.func25, Try.ntmps25
  go_wp2_with fail
  refine HC.out.mono ?_
  rintro e w1 ⟨rfl, rfl⟩
  go_wp2
  go_ret
  exact ⟨rfl, rfl⟩

end Go.Proofs.Ytpgfnhfjkplmaaa
