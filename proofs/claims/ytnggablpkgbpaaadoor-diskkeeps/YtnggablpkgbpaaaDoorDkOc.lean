/-
  The code's disk: Put: by its contract.
-/
import Derived.Test.YtnggablpkgbpaaaDoorDkOb
import Derived.Test.YtnggablpkgbpaaaDoorDkN
import Derived.Deep.RegionHeld3
namespace Go.Proofs.YtnggablpkgbpaaaDoor
open Go.RowKit
open Go.ChangeMaps (setBlock heap_setBlock_same heap_setBlock_other)

theorem eqmF (m : Nat) (W : World) : (binOp .eql 54 (.map (some m)) (.map none)).run Tryd.prog W = .ok (.bool false) W := by kernel_rfl

set_option maxHeartbeats 4000000 in
set_option maxRecDepth 20000 in
theorem cput13 {es es' : List Dk.En} {q q' t c : Int} {x y : ByteArray} (ho : PutOf13 es q x y t c es' q') (B b : Nat) (K : Nat → Prop) (w : World) (h : CD w B b K q es) (hx : x.size ≤ 140737488355328) (_hy : y.size ≤ 140737488425328) (hq0 : 0 ≤ q) (hq : q ≤ 9223372036854775806) :
    Calls Tryd.prog 14 #[.pointer (some ⟨b, 0, none⟩), .string x, .string y, .int .i64 t] w fun e w' => e = .returned (.int .i64 c) ∧ ∃ K', CD w' B b K' q' es' ∧ LF K w w' ∧ ∀ k, K' k → K k ∨ w.heap.size ≤ k := by
  obtain ⟨m, E, clock, h, hK⟩ := h
  have H := hid' h
  have HK := hid' hK
  clear h hK
  rcases ho with ⟨rfl, h1, rfl, rfl⟩ | ⟨rfl, ⟨h1, h2⟩, rfl, rfl⟩ | ⟨rfl, ⟨h1, h2, h3⟩, rfl, rfl⟩ | ⟨rfl, ⟨h1, h2, h3, h4, h5⟩, rfl, rfl⟩ | ⟨rfl, ⟨h1, h2, h3, h4⟩, rfl, rfl⟩
  · have HP := hid' (cpath13 x false h1 w hx)
    clear h1
    go_enter Tryd.func14, Tryd.ntmps14
    go_wp2_with fail
    refine HP.out.mono ?_
    rintro e w1 ⟨rfl, hb1⟩
    have HB := hid' hb1
    clear hb1
    go_wp2
    go_ret
    exact ⟨rfl, K, ⟨m, E, clock, H.out.keep HB.out, HK.out⟩, LF.of_below HB.out, fun _ hk => .inl hk⟩
  · have HP := hid' (cpath13 x true h1 w hx)
    have h2' : (65536 : Int) < (y.size : Int) := by omega
    clear h1
    go_enter Tryd.func14, Tryd.ntmps14
    go_wp2_with fail
    refine HP.out.mono ?_
    rintro e w1 ⟨rfl, hb1⟩
    have HB := hid' hb1
    clear hb1
    go_wp2
    go_ret
    exact ⟨rfl, K, ⟨m, E, clock, H.out.keep HB.out, HK.out⟩, LF.of_below HB.out, fun _ hk => .inl hk⟩
  · have HP := hid' (cpath13 x true h1 w hx)
    have h2' : ¬ (65536 : Int) < (y.size : Int) := by omega
    clear h1
    go_enter Tryd.func14, Tryd.ntmps14
    go_wp2_with fail
    refine HP.out.mono ?_
    rintro e w1 ⟨rfl, hb1⟩
    have HB := hid' hb1
    clear hb1
    by_cases h6 : t < 0
    · clear h3
      go_wp2
      go_ret
      exact ⟨rfl, K, ⟨m, E, clock, H.out.keep HB.out, HK.out⟩, LF.of_below HB.out, fun _ hk => .inl hk⟩
    · have h7 : 253402300799 < t := by omega
      clear h3
      go_wp2
      go_ret
      exact ⟨rfl, K, ⟨m, E, clock, H.out.keep HB.out, HK.out⟩, LF.of_below HB.out, fun _ hk => .inl hk⟩
  · have HP := hid' (cpath13 x true h1 w hx)
    have h2' : ¬ (65536 : Int) < (y.size : Int) := by omega
    have h6 : ¬ t < 0 := by omega
    have h7 : ¬ 253402300799 < t := by omega
    obtain ⟨n, hn⟩ : ∃ n, es'.length = n := ⟨_, rfl⟩
    rw [hn] at h5
    have h5' : (1024 : Int) ≤ (n : Int) := by omega
    have HN := hid' hn
    have HH := hid' h4
    clear h1 h3 h4 hn
    go_enter Tryd.func14, Tryd.ntmps14
    go_wp2_with fail
    refine HP.out.mono ?_
    rintro e w1 ⟨rfl, hb1⟩
    have HB := hid' hb1
    have HC := hid' (H.out.keep hb1)
    clear hb1
    go_wp2_with fail
    refine (chas13 x false HH.out w1 HC.out).mono ?_
    rintro e w2 ⟨rfl, hb2⟩
    have HB2 := hid' (below_two HB.out hb2)
    have HC2 := hid' (HC.out.keep hb2)
    have c0 := HC2.out.hd.cell 0 _ rfl
    have hln := HC2.out.mp.len utm 3
    rw [HN.out] at hln
    clear hb2
    go_wp2
    go_ret
    exact ⟨rfl, K, ⟨m, E, clock, HC2.out, HK.out⟩, LF.of_below HB2.out, fun _ hk => .inl hk⟩
  · have HP := hid' (cpath13 x true h1 w hx)
    have h2' : ¬ (65536 : Int) < (y.size : Int) := by omega
    have h6 : ¬ t < 0 := by omega
    have h7 : ¬ 253402300799 < t := by omega
    obtain ⟨n, hn⟩ : ∃ n, es.length = n := ⟨_, rfl⟩
    obtain ⟨r, hr⟩ : ∃ r, Dk.has x.data.toList es = r := ⟨_, rfl⟩
    have HN := hid' hn
    have HH := hid' hr
    have H4 := hid' h4
    have heq := eqmF m
    clear h1 h3 h4 hn hr
    go_enter Tryd.func14, Tryd.ntmps14
    go_wp2_with fail
    refine HP.out.mono ?_
    rintro e w1 ⟨rfl, hb1⟩
    have HB := hid' hb1
    have HC := hid' (H.out.keep hb1)
    clear hb1
    go_wp2_with fail
    refine (chas13 x r HH.out w1 HC.out).mono ?_
    rintro e w2 ⟨rfl, hb2⟩
    have HB2 := hid' (below_two HB.out hb2)
    have HC2 := hid' (HC.out.keep hb2)
    have c0 := HC2.out.hd.cell 0 _ rfl
    have c1 := HC2.out.hd.cell 1 _ rfl
    have f1 := HC2.out.hd.free 1
    have hln := HC2.out.mp.len utm 3
    rw [HN.out] at hln
    have HR : Hid (r = false → (n : Int) < 1024) := hid' (by
      intro hrf
      have := H4.out
      rw [HH.out, hrf, HN.out] at this
      rcases this with h | h
      · cases h
      · omega)
    clear hb2
    cases r
    · have h8 : ¬ (1024 : Int) ≤ (n : Int) := by have := HR.out rfl; omega
      go_upto_region 14 with fail
      have HU3 := hid' (upd_setCell w2 b 1 (.int .i64 (q + 1)))
      have HA3 : Hid (Ar (w2.setCell ⟨b, 1, none⟩ (.int .i64 (q + 1))) b 56 #[.map (some m), .int .i64 (q + 1)]) := hid' (by have := HC2.out.hd.set 1 (.int .i64 (q + 1)); simpa using this)
      have HM3 := hid' (HC2.out.mp.other (HU3.out.block m HC2.out.apart.symm))
      generalize w2.setCell ⟨b, 1, none⟩ (.int .i64 (q + 1)) = w3 at *
      have HMd : Hid (Mp pk fk w3.drew m (fg es) es.length E clock) := hid' (HM3.out.other rfl)
      obtain ⟨E', clock', hrun, hmp⟩ := HMd.out.store ky utm x ⟨x, y, t, q + 1⟩
      have hrun' : (Instr.mapUpdate 54 (.map (some m)) (.string x) (.agg #[.string y, .int .i64 t, .int .i64 (q + 1)])).run Tryd.prog w3.drew = .ok () (setBlock w3.drew m (.map E' clock')) := hrun
      have HMP := hid' hmp
      have HUB := hid' (upd_block w3.drew m (.map E' clock'))
      generalize setBlock w3.drew m (.map E' clock') = w4 at *
      have hS : w3.drew.cell? ⟨b, 0, none⟩ = some (.map (some m)) ∧ w3.drew.cell? ⟨b, 1, none⟩ = some (.int .i64 (q + 1)) := ⟨HA3.out.cell 0 _ rfl, HA3.out.cell 1 _ rfl⟩
      have HA4 := hid' (HUB.out.keep (Ar.drew HA3.out) HC2.out.apart)
      have hS4 : w4.cell? ⟨b, 0, none⟩ = some (.map (some m)) ∧ w4.cell? ⟨b, 1, none⟩ = some (.int .i64 (q + 1)) := ⟨HA4.out.cell 0 _ rfl, HA4.out.cell 1 _ rfl⟩
      clear c0 c1 f1 hln heq hrun hmp HMd
      go_region_held3 (fun W => W.cell? ⟨b, 0, none⟩ = some (.map (some m)) ∧ W.cell? ⟨b, 1, none⟩ = some (.int .i64 (q + 1))) (first | assumption) (fail)
      go_wp2
      go_ret
      have hm := HMP.out
      rw [mput_fg HC2.out.ok ⟨x, y, t, q + 1⟩] at hm
      obtain ⟨hlen, hle⟩ : (if (fg es x).isSome = true then es.length else es.length + 1) = (Dk.put ⟨x, y, t, q + 1⟩ es).length ∧ (Dk.put ⟨x, y, t, q + 1⟩ es).length ≤ 1024 := by
        have hl := HC2.out.le
        have hr := HR.out
        have hnn := HN.out
        unfold fg
        rw [← Dk.get_has HC2.out.ok, HH.out]
        obtain ⟨_, _, _, _, _, hl2, _⟩ := Dk.put_no es ⟨x, y, t, q + 1⟩ HC2.out.ok HH.out
        have := hr (by first | exact rfl | trivial)
        rw [hl2]
        exact ⟨rfl, by omega⟩
      rw [hlen] at hm
      have hlf : LF K w2 w4 := ((LF.of_upd (S := K) HU3.out ((HK.out b).2 (.inl rfl))).trans (LF.of_below (S := K) ((Below.refl _ w3).drew)) (fun _ _ h => h)).trans (LF.of_upd (S := K) HUB.out ((HK.out m).2 (.inr rfl))) (fun _ _ h => h)
      exact ⟨rfl, K, ⟨m, E', clock', ⟨HC2.out.lo, HC2.out.lm, HA4.out, hm, Dk.put_ok es _ HC2.out.ok, hle⟩, HK.out⟩, (LF.of_below (S := K) HB2.out).trans hlf (fun _ _ h => h), fun _ hk => .inl hk⟩
    · go_upto_region 14 with fail
      have HU3 := hid' (upd_setCell w2 b 1 (.int .i64 (q + 1)))
      have HA3 : Hid (Ar (w2.setCell ⟨b, 1, none⟩ (.int .i64 (q + 1))) b 56 #[.map (some m), .int .i64 (q + 1)]) := hid' (by have := HC2.out.hd.set 1 (.int .i64 (q + 1)); simpa using this)
      have HM3 := hid' (HC2.out.mp.other (HU3.out.block m HC2.out.apart.symm))
      generalize w2.setCell ⟨b, 1, none⟩ (.int .i64 (q + 1)) = w3 at *
      have HMd : Hid (Mp pk fk w3.drew m (fg es) es.length E clock) := hid' (HM3.out.other rfl)
      obtain ⟨E', clock', hrun, hmp⟩ := HMd.out.store ky utm x ⟨x, y, t, q + 1⟩
      have hrun' : (Instr.mapUpdate 54 (.map (some m)) (.string x) (.agg #[.string y, .int .i64 t, .int .i64 (q + 1)])).run Tryd.prog w3.drew = .ok () (setBlock w3.drew m (.map E' clock')) := hrun
      have HMP := hid' hmp
      have HUB := hid' (upd_block w3.drew m (.map E' clock'))
      generalize setBlock w3.drew m (.map E' clock') = w4 at *
      have hS : w3.drew.cell? ⟨b, 0, none⟩ = some (.map (some m)) ∧ w3.drew.cell? ⟨b, 1, none⟩ = some (.int .i64 (q + 1)) := ⟨HA3.out.cell 0 _ rfl, HA3.out.cell 1 _ rfl⟩
      have HA4 := hid' (HUB.out.keep (Ar.drew HA3.out) HC2.out.apart)
      have hS4 : w4.cell? ⟨b, 0, none⟩ = some (.map (some m)) ∧ w4.cell? ⟨b, 1, none⟩ = some (.int .i64 (q + 1)) := ⟨HA4.out.cell 0 _ rfl, HA4.out.cell 1 _ rfl⟩
      clear c0 c1 f1 hln heq hrun hmp HMd
      go_region_held3 (fun W => W.cell? ⟨b, 0, none⟩ = some (.map (some m)) ∧ W.cell? ⟨b, 1, none⟩ = some (.int .i64 (q + 1))) (first | assumption) (fail)
      go_wp2
      go_ret
      have hm := HMP.out
      rw [mput_fg HC2.out.ok ⟨x, y, t, q + 1⟩] at hm
      obtain ⟨hlen, hle⟩ : (if (fg es x).isSome = true then es.length else es.length + 1) = (Dk.put ⟨x, y, t, q + 1⟩ es).length ∧ (Dk.put ⟨x, y, t, q + 1⟩ es).length ≤ 1024 := by
        have hl := HC2.out.le
        have hr := HR.out
        have hnn := HN.out
        unfold fg
        rw [← Dk.get_has HC2.out.ok, HH.out]
        obtain ⟨_, _, _, _, _, _, _, hl2, _⟩ := Dk.put_yes es ⟨x, y, t, q + 1⟩ HC2.out.ok HH.out
        rw [hl2]
        exact ⟨rfl, hl⟩
      rw [hlen] at hm
      have hlf : LF K w2 w4 := ((LF.of_upd (S := K) HU3.out ((HK.out b).2 (.inl rfl))).trans (LF.of_below (S := K) ((Below.refl _ w3).drew)) (fun _ _ h => h)).trans (LF.of_upd (S := K) HUB.out ((HK.out m).2 (.inr rfl))) (fun _ _ h => h)
      exact ⟨rfl, K, ⟨m, E', clock', ⟨HC2.out.lo, HC2.out.lm, HA4.out, hm, Dk.put_ok es _ HC2.out.ok, hle⟩, HK.out⟩, (LF.of_below (S := K) HB2.out).trans hlf (fun _ _ h => h), fun _ hk => .inl hk⟩

end Go.Proofs.YtnggablpkgbpaaaDoor
