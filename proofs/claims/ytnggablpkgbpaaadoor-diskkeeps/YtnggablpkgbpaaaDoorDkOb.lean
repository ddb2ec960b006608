/-
  The code's disk: Get, Snap, Remove: by their contracts.
-/
import Derived.Test.YtnggablpkgbpaaaDoorDkO
import Derived.Test.YtnggablpkgbpaaaDoorShClone
import Derived.Deep.RegionHeld3
namespace Go.Proofs.YtnggablpkgbpaaaDoor
open Go.RowKit
open Go.ChangeMaps (setBlock heap_setBlock_same heap_setBlock_other)

theorem fdAr {w : World} {b : Nat} {x0 x1 x2 : Value} (h : Ar w b 38 #[x0, x1, x2]) : ∀ W, Below w.heap.size w W → (loadVar 38 ⟨b, 0, none⟩).run Tryd.prog W = .ok (.agg #[x0, x1, x2]) W := fun _ hW => dldF (h.keep hW)

set_option maxHeartbeats 2000000 in
theorem sget13 (B s : Nat) (K : Nat → Prop) (q : Int) (es : List Dk.En) (x : ByteArray) (w : World) (h : CS w B s K q es) (_hx : x.size ≤ 140737488355328) : Calls Tryd.prog 18 #[.pointer (some ⟨s, 0, none⟩), .string x] w fun e w' => e = .returned (.tuple #[fileV (Dk.get x.data.toList es), .bool (Dk.has x.data.toList es)]) ∧ Below w.heap.size w w' := by
  obtain ⟨m, E, clock, h, _⟩ := h
  obtain ⟨y, i, j, hf⟩ := fileV_sh (Dk.get x.data.toList es)
  obtain ⟨r, hr⟩ : ∃ r, Dk.has x.data.toList es = r := ⟨_, rfl⟩
  have HF := hid' hf
  have HR := hid' hr
  have H := hid' h
  clear h hf hr
  go_enter Tryd.func18, Tryd.ntmps18
  go_wp2_with (refine wpl_alloc 38 rfl rfl #[.string ⟨#[]⟩, .int .i64 0, .int .i64 0] dzeroF ?_)
  intro b0 w0 hb0 ha0 hbe0
  have HX := hid' ha0
  have HB0 := hid' hbe0
  have HG0 := hid' hb0
  have HC := hid' (H.out.keep hbe0)
  have hlk := HC.out.look x
  have c0 := HC.out.hd.cell 0 _ rfl
  rw [HF.out, HR.out] at hlk
  clear hb0 ha0 hbe0
  go_upto_region 4 with fail
  have HB1 : Hid (Below w0.heap.size w0 (w0.alloc (.cells #[.string y, .int .i64 i, .int .i64 j] 38))) := hid' ((Below.refl _ _).alloc (Nat.le_refl _) _)
  have HA1 : Hid (Ar (w0.alloc (.cells #[.string y, .int .i64 i, .int .i64 j] 38)) w0.heap.size 38 #[.string y, .int .i64 i, .int .i64 j]) := hid' (heap_alloc_last w0 _)
  have HX1 := hid' (HX.out.keep HB1.out)
  have HB2 := hid' (below_two HB0.out HB1.out)
  obtain ⟨fb, hfb⟩ : ∃ fb, w0.heap.size = fb := ⟨_, rfl⟩
  rw [hfb] at HA1 ⊢
  generalize w0.alloc (.cells #[.string y, .int .i64 i, .int .i64 j] 38) = w1 at *
  have hl := dldF HA1.out
  have p0 := HA1.out.cell 0 _ rfl
  have p1 := HA1.out.cell 1 _ rfl
  have p2 := HA1.out.cell 2 _ rfl
  clear hlk c0 HB1 hfb HC HX
  go_wp2_with (refine wpl_store 38 _ _ rfl rfl b0 #[.string y, .int .i64 i, .int .i64 j] (by kernel_rfl) (by kernel_rfl) _ _ HX1.out dsizeF rfl (by simp [Value.oneCell']) ?_)
  intro w2 ha2 hu2
  have hld := dldF ha2
  have HB3 := hid' (HB2.out.trans (hu2.below HG0.out))
  clear ha2 hu2 hl p0 p1 p2
  go_wp2
  refine bodyPost_ret (v := .tuple #[.agg #[.string y, .int .i64 i, .int .i64 j], .bool r]) (by simp [results, Tryd.results18, asAddr, hld]) rfl ⟨by rw [HF.out, HR.out], HB3.out⟩

set_option maxHeartbeats 2000000 in
theorem sgetN13 (x : ByteArray) (w : World) : Calls Tryd.prog 18 #[.pointer none, .string x] w fun e w' => e = .returned (.tuple #[fileV none, .bool false]) ∧ Below w.heap.size w w' := by
  go_enter Tryd.func18, Tryd.ntmps18
  go_wp2_with (refine wpl_alloc 38 rfl rfl #[.string ⟨#[]⟩, .int .i64 0, .int .i64 0] dzeroF ?_)
  intro b0 w0 hb0 ha0 hbe0
  have HX := hid' ha0
  have HB0 := hid' hbe0
  have HG0 := hid' hb0
  clear hb0 ha0 hbe0
  go_wp2_with (refine wpl_store 38 _ _ rfl rfl b0 #[.string ⟨#[]⟩, .int .i64 0, .int .i64 0] (by kernel_rfl) (by kernel_rfl) _ _ HX.out dsizeF rfl (by simp [Value.oneCell']) ?_)
  intro w2 ha2 hu2
  have hld := dldF ha2
  have HB2 := hid' (HB0.out.trans (hu2.below HG0.out))
  clear ha2 hu2
  go_wp2
  refine bodyPost_ret (v := .tuple #[.agg #[.string ⟨#[]⟩, .int .i64 0, .int .i64 0], .bool false]) (by simp [results, Tryd.results18, asAddr, hld]) rfl ⟨rfl, HB2.out⟩

theorem cs_alloc {w : World} {b : Nat} {u v : Value} (h : w.cell? ⟨b, 0, none⟩ = some u ∧ w.cell? ⟨b, 1, none⟩ = some v) (o : Obj) : (w.alloc o).cell? ⟨b, 0, none⟩ = some u ∧ (w.alloc o).cell? ⟨b, 1, none⟩ = some v :=
  ⟨(World.cell?_alloc_some w _ o (by rw [h.1]; rfl)).trans h.1, (World.cell?_alloc_some w _ o (by rw [h.2]; rfl)).trans h.2⟩
theorem clone13 (m : Nat) (E : Array MapEntry) (clock : Nat) (w : World) (hb : w.heap[m]? = some (.map E clock)) : Calls Tryd.prog 31 #[.map (some m)] w fun e w' => e = .returned (.map (some w.heap.size)) ∧ w' = w.alloc (.map E clock) :=
  AnyW.maps_Clone Tryd.lclone m E clock w hb

set_option maxHeartbeats 2000000 in
theorem csnap13 (B b : Nat) (K : Nat → Prop) (q : Int) (es : List Dk.En) (w : World) (h : CD w B b K q es) : Calls Tryd.prog 17 #[.pointer (some ⟨b, 0, none⟩)] w fun e w' => (∃ s Ks, e = .returned (.pointer (some ⟨s, 0, none⟩)) ∧ CS w' w.heap.size s Ks q es) ∧ Below w.heap.size w w' := by
  obtain ⟨m, E, clock, h, _⟩ := h
  have H := hid' h
  have hS : w.drew.cell? ⟨b, 0, none⟩ = some (.map (some m)) ∧ w.drew.cell? ⟨b, 1, none⟩ = some (.int .i64 q) := ⟨h.hd.cell 0 _ rfl, h.hd.cell 1 _ rfl⟩
  clear h
  go_enter Tryd.func17, Tryd.ntmps17
  go_upto_region 3 with fail
  go_region_held3 (fun W => W.cell? ⟨b, 0, none⟩ = some (.map (some m)) ∧ W.cell? ⟨b, 1, none⟩ = some (.int .i64 q)) (first | assumption | exact cs_alloc (by assumption) _) (first
    | (go_at_call 31; refine (clone13 m E clock w.drew H.out.mp.hd).mono ?_; rintro e w1 ⟨rfl, hw1⟩; have hb1 : Below w.heap.size w w1 := (by rw [hw1]; exact ((Below.refl _ w).drew).alloc (Nat.le_refl _) _); have hS1 := And.intro ((H.out.keep hb1).hd.cell 0 _ rfl) ((H.out.keep hb1).hd.cell 1 _ rfl); have HB1 := hid' hb1; have HM1 : Hid (Mp pk fk w1 w.heap.size (fg es) es.length E clock) := hid' (by rw [hw1]; exact ⟨(MapKept.heap_alloc w.drew _).1, H.out.mp.sz, H.out.mp.all, H.out.mp.nd, H.out.mp.has, H.out.mp.st, H.out.mp.nb⟩); clear hb1 hw1))
  all_goals
    have HA2 : Hid (Ar (w1.alloc (.cells #[.map (some w.heap.size), .int .i64 q] 62)) w1.heap.size 62 #[.map (some w.heap.size), .int .i64 q]) := hid' (heap_alloc_last w1 _)
    have HB2 : Hid (Below w1.heap.size w1 (w1.alloc (.cells #[.map (some w.heap.size), .int .i64 q] 62))) := hid' ((Below.refl _ _).alloc (Nat.le_refl _) _)
    go_wp2
    go_ret
    exact ⟨⟨_, fun k => k = w1.heap.size ∨ k = w.heap.size, rfl, w.heap.size, E, clock, ⟨HB1.out.size, Nat.le_refl _, HA2.out, HM1.out.other (HB2.out.block _ HM1.out.lt), H.out.ok, H.out.le⟩, fun _ => Iff.rfl⟩, below_two HB1.out HB2.out⟩

theorem mput_fg {es : List Dk.En} (h : Dk.Ok es) (e : Dk.En) : mput (fg es) e.path e = fg (Dk.put e es) := by
  funext k
  unfold mput fg
  rw [Dk.get_put' h]
  show _ = if k.data.toList = e.path.data.toList then _ else _
  by_cases hk : k = e.path
  · subst hk; rw [if_pos rfl, if_pos rfl]
  · rw [if_neg hk, if_neg (fun e => hk (ba_ext e))]
theorem mdel_fg {es : List Dk.En} (h : Dk.Ok es) (x : ByteArray) (hh : Dk.has x.data.toList es = true) : mdel (fg es) x = fg (Dk.rem x.data.toList es) := by
  funext k
  unfold mdel fg
  rw [Dk.get_rem' h hh]
  by_cases hk : k = x
  · subst hk; rw [if_pos rfl, if_pos rfl]
  · rw [if_neg hk, if_neg (fun e => hk (ba_ext e))]
theorem lf_two {w w1 w2 : World} {b m : Nat} {K : Nat → Prop} (hK : ∀ k, K k ↔ k = b ∨ k = m) (h1 : Upd b w w1) (h2 : Upd m w1 w2) : LF K w w2 :=
  (LF.of_upd (S := K) h1 ((hK b).2 (.inl rfl))).trans (LF.of_upd (S := K) h2 ((hK m).2 (.inr rfl))) (fun _ _ h => h)
theorem upd_block (w : World) (m : Nat) (o : Obj) : Upd m w (setBlock w m o) :=
  ⟨rfl, rfl, rfl, by simp [setBlock], fun k hk => by simp only [setBlock]; exact Array.getElem?_setIfInBounds_ne (fun e => hk e.symm)⟩

section
variable {ops : Array Oper} {rest : List Oper} {o : Oper} {a : Act} {w : World} {Q : Exit → Act → World → Prop}
theorem wpl_delF (x y : Operand) (ho : o.op = Op.call { callee := Callee.builtin Builtin.delete, args := #[x, y], argTypes := #[54, 9] }) (hgd : o.guard = none) {m n : Nat} {f : ByteArray → Option Dk.En} {E : Array MapEntry} {clock : Nat} (k : ByteArray) (hx : a.eval x = .map (some m)) (hy : a.eval y = .string k) (h : Mp pk fk w m f n E clock) (f' : ByteArray → Option Dk.En) (n' : Nat) (hf' : mdel f k = f') (hn' : (if (f k).isSome = true then n - 1 else n) = n')
    (hK : ∀ w' E', Mp pk fk w' m f' n' E' clock → Upd m w w' → wpList Tryd.prog ops Q rest (a.put o.dst (.tuple #[])) w') : wpList Tryd.prog ops Q (o :: rest) a w := by
  refine wpList_plain hgd fun K' hK' => ?_
  obtain ⟨E', hrun, r1⟩ := h.drop ky utm k o.type
  have hrun' : (Builtin.delete_ #[54, 9] o.type #[.map (some m), .string k]).run Tryd.prog w = .ok (.tuple #[]) (setBlock w m (.map E' clock)) := hrun
  unfold Oper.wp
  simp [execOp, ho, resolve, invoke, builtin, hx, hy, hrun', Result.andThen]
  subst hf' hn'
  exact hK' _ _ (hK _ E' r1 (upd_block _ _ _))
end

set_option maxHeartbeats 2000000 in
theorem crem13 {es es' : List Dk.En} {q q' : Int} {t : Bool} {x : ByteArray} (ho : RemOf13 es q x t es' q') (B b : Nat) (K : Nat → Prop) (w : World) (h : CD w B b K q es) (_hx : x.size ≤ 140737488355328) (hq0 : 0 ≤ q) (hq : q ≤ 9223372036854775806) :
    Calls Tryd.prog 12 #[.pointer (some ⟨b, 0, none⟩), .string x] w fun e w' => e = .returned (.bool t) ∧ ∃ K', CD w' B b K' q' es' ∧ LF K w w' ∧ ∀ k, K' k → K k ∨ w.heap.size ≤ k := by
  obtain ⟨m, E, clock, h, hK⟩ := h
  have H := hid' h
  have HK := hid' hK
  clear h hK
  rcases ho with ⟨rfl, h1, rfl, rfl⟩ | ⟨rfl, h1, rfl, rfl⟩
  · have HH := hid' h1
    clear h1
    go_enter Tryd.func12, Tryd.ntmps12
    go_wp2_with fail
    refine (chas13 x true HH.out w H.out).mono ?_
    rintro e w1 ⟨rfl, hb1⟩
    have HC := hid' (H.out.keep hb1)
    have HB := hid' hb1
    have c1 := HC.out.hd.cell 1 _ rfl
    have f1 := HC.out.hd.free 1
    clear hb1
    go_upto_region 4 with fail
    have HU1 := hid' (upd_setCell w1 b 1 (.int .i64 (q + 1)))
    have HA2 : Hid (Ar (w1.setCell ⟨b, 1, none⟩ (.int .i64 (q + 1))) b 56 #[.map (some m), .int .i64 (q + 1)]) := hid' (by have := HC.out.hd.set 1 (.int .i64 (q + 1)); simpa using this)
    have HM2 := hid' (HC.out.mp.other (HU1.out.block m HC.out.apart.symm))
    generalize w1.setCell ⟨b, 1, none⟩ (.int .i64 (q + 1)) = w2 at *
    have c0 := HA2.out.cell 0 _ rfl
    have HLN : Hid ((if (fg es x).isSome = true then es.length - 1 else es.length) = (Dk.rem x.data.toList es).length) := hid' (by
      have hsome : (fg es x).isSome = true := by unfold fg; rw [← Dk.get_has HC.out.ok]; exact HH.out
      obtain ⟨_, _, _, _, _, _, _, hlen, _⟩ := Dk.rem_yes es _ HC.out.ok HH.out
      rw [if_pos hsome]
      omega)
    clear c1 f1
    go_wp2_with (refine wpl_delF _ _ rfl rfl x rfl rfl HM2.out (fg (Dk.rem x.data.toList es)) (Dk.rem x.data.toList es).length (mdel_fg HC.out.ok x HH.out) HLN.out ?_)
    intro w3 E3 hm3 hu3
    have HM3 := hid' hm3
    have HU3 := hid' hu3
    clear hm3 hu3 c0
    go_wp2
    go_ret
    obtain ⟨_, _, _, _, _, _, hok, hlen, _⟩ := Dk.rem_yes es _ HC.out.ok HH.out
    have hle := HC.out.le
    exact ⟨rfl, K, ⟨m, E3, clock, ⟨HC.out.lo, HC.out.lm, HU3.out.keep HA2.out HC.out.apart, HM3.out, hok, by omega⟩, HK.out⟩, (LF.of_below (S := K) HB.out).trans (lf_two HK.out HU1.out HU3.out) (fun _ _ h => h), fun _ hk => .inl hk⟩
  · have HH := hid' h1
    clear h1
    go_enter Tryd.func12, Tryd.ntmps12
    go_wp2_with fail
    refine (chas13 x false HH.out w H.out).mono ?_
    rintro e w1 ⟨rfl, hb1⟩
    have HB := hid' hb1
    clear hb1
    go_wp2
    go_ret
    exact ⟨rfl, K, ⟨m, E, clock, H.out.keep HB.out, HK.out⟩, LF.of_below HB.out, fun _ hk => .inl hk⟩

end Go.Proofs.YtnggablpkgbpaaaDoor
