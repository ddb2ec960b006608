/-
  The law TextDecimals, by its contract: it returns true for every two numbers.
-/
import Derived.Test.YtpngddfehaonhaaDoorAwake
import Derived.Test.YtpngddfehaonhaaDoorDecs
import Derived.Test.YtpngddfehaonhaaDoorOwn
namespace Go.Proofs.YtpngddfehaonhaaDoor
open Go.RowKit

theorem number_cat (a b : List UInt8) (w : World) (h : a.length + b.length ≤ maxLen) (p : Int × Int) (hp : Tx.num 10 (a ++ b) = p) :
    Calls Tryd.prog 20 #[.string (⟨a.toArray⟩ ++ ⟨b.toArray⟩)] w fun e w' => e = .returned (.tuple #[.int .i64 p.1, .int .i64 p.2]) ∧ w' = w := by
  subst hp
  rw [str_cat]
  exact number_any ⟨(a ++ b).toArray⟩ w (by rw [size_l', List.length_append]; exact h)

set_option maxRecDepth 20000 in
set_option maxHeartbeats 2000000 in
theorem textDecimals_any (n z : Int) (w : World) (h0 : -9223372036854775808 ≤ n) (h1 : n ≤ 9223372036854775807) (_z0 : -9223372036854775808 ≤ z) (_z1 : z ≤ 9223372036854775807) (htab : Lib.TabIs Tryd.prog w "internal/strconv.uint64pow10" .u64 Lib.pow10Tab) :
    Calls Tryd.prog 6 #[.int .i64 n, .int .i64 z] w fun e w' => e = .returned (.bool true) ∧ Below w.heap.size w w' := by
  have HT := hid htab
  have hlen : (Lib.itoa n).length ≤ 21 := Tx.itoa_le n 19 (by omega)
  have heq : (Lib.itoa n == Lib.itoa n) = true := by simp
  obtain ⟨i0, hi, hz0, hz1, hz2⟩ := info_parts Tryd.info5
  have H0 := hid h0
  have H1 := hid h1
  clear htab h0 h1 _z0 _z1
  go_enter Tryd.func6, Tryd.ntmps6
  go_wp2_with fail
  refine (decimal_any n H0.out H1.out _ HT.out).mono ?_
  rintro e w1 ⟨rfl, hb1⟩
  have HB1 := hid hb1
  clear hb1
  go_wp2_with fail
  refine (rDecimal_any n H0.out H1.out _).mono ?_
  rintro e w2 ⟨rfl, hb2⟩
  have HB2 := hid (below_two HB1.out hb2)
  clear hb2 HB1
  go_wp2
  go_loopw [6, 7] (fun v i wr => ∃ k : Nat, k ≤ 1000 ∧ i = .int .i64 k ∧ wr.ownsRow w2.heap.size 5 1 v k (byteCells (List.replicate k 48)) ∧ Below w2.heap.size w2 wr) (fun _ i _ => 1000 - (intOf i).toNat)
  case atStart => exact ⟨0, Nat.zero_le _, rfl, World.ownsRow_nil _ _ _ _, Below.refl _ _⟩
  case round =>
    obtain ⟨k, hk, rfl, hown, hbel⟩ := hrel
    have hsz := hbel.size
    have HB := hid hbel
    clear hbel
    by_cases hlt : (k : Int) < z ∧ k < 1000
    · obtain ⟨hlt, hlt2⟩ := hlt
      go_wp2_with (at_builtin; refine wpList_append_own _ rfl _ _ 30 rfl w2.heap.size 5 i0 (.int .u8 0) 1 1 Tryd.underlying30 hi hz0 hz1 hz2 rfl (by decide) _ _ _ rfl (hown.alloc _) ⟨_, 0, none⟩ 1 1 [.int .u8 48] rfl rfl ?c1 ?c2 ?c3 ?c4 ?c5 ?_)
      case c1 =>
        intro j u hj
        match j, hj with
        | 0, hj => simp at hj; subst hj; simp [Addr.add]
      case c2 => intro u hu; simp at hu; subst hu; rfl
      case c3 => unfold maxLen; omega
      case c4 => omega
      case c5 => simp; omega
      · intro v' w3 hown' hgrow _
        have HO : Hid (w3.ownsRow w2.heap.size 5 1 v' (k + 1) (byteCells (List.replicate (k + 1) 48))) := hid (by
          rw [List.replicate_succ', byteCells, List.map_append]; exact hown')
        have HG := hid ((HB.out.alloc hsz _).grown hgrow (by simp; omega) (fun k hk => (hown.lt k hk).1))
        clear hgrow hown'
        go_wp2
        go_roundw
        case rel => exact ⟨k + 1, by omega, by go_num, HO.out, HG.out⟩
        case measure => simp [intOf]; omega
    · obtain ⟨zs, hzs⟩ : ∃ zs, zs = List.replicate k (48 : UInt8) := ⟨_, rfl⟩
      rw [← hzs] at hown
      have hk48 : zs.length = k := by rw [hzs]; exact List.length_replicate
      have hconv := own_string' hown hk48
      have HB3 := hid (below_two HB2.out HB.out)
      have hcat : zs.length + (Lib.itoa n).length ≤ maxLen := by rw [hk48]; unfold maxLen; omega
      have hzl : zs.length ≤ 1000 := by omega
      have HZ := hid hzs
      clear hown HB HB2 hk48 hzs
      by_cases hn : n < 0
      · have HN : Hid (Tx.num 10 (zs ++ Lib.itoa n) = (0, 10)) := hid (by rw [HZ.out]; exact Tx.num_itoa_neg n hn k)
        by_cases hz : (k : Int) < z
        all_goals
          go_wp2_with fail
          refine (number_cat zs (Lib.itoa n) _ hcat (0, 10) HN.out).mono ?_
          rintro e w4 ⟨rfl, rfl⟩
          go_wp2_with fail
          refine (awake_any _ (tab_below HT.out HB3.out)).mono ?_
          rintro e w5 ⟨rfl, hb5⟩
          have HB5 := hid (below_two HB3.out hb5)
          clear hb5 HB3
          go_wp2
          go_ret
          exact ⟨rfl, HB5.out⟩
      · have HN : Hid (Tx.num 10 (zs ++ Lib.itoa n) = (n, 0)) := hid (by rw [HZ.out]; exact Tx.num_itoa n (by omega) H1.out k)
        have hnn : (n == n) = true := by simp
        by_cases hz : (k : Int) < z
        all_goals
          go_wp2_with fail
          refine (number_cat zs (Lib.itoa n) _ hcat (n, 0) HN.out).mono ?_
          rintro e w4 ⟨rfl, rfl⟩
          go_wp2_with fail
          refine (awake_any _ (tab_below HT.out HB3.out)).mono ?_
          rintro e w5 ⟨rfl, hb5⟩
          have HB5 := hid (below_two HB3.out hb5)
          clear hb5 HB3
          go_wp2
          go_ret
          exact ⟨rfl, HB5.out⟩

end Go.Proofs.YtpngddfehaonhaaDoor
