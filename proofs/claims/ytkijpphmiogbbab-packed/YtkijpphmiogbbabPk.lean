import Derived.Test.YtkijpphmiogbbabPc
import Derived.Test.YtkijpphmiogbbabL1k
namespace Go.Proofs.Ytkijpphmiogbbab
open Go.RowKit
attribute [local go_sem ↓] Go.wp_at_zero Go.wp_at_succ
attribute [local go_sem] Try.zv24 Try.zv42

set_option maxHeartbeats 1000000 in
set_option maxRecDepth 20000 in
theorem bytes_any (c : Int) (n : Nat) (w : World) (hc : -9223372036854775808 ≤ c) (hc' : c ≤ 9223372036854775807) (hn0 : 0 < n) (hn : n ≤ 10000) :
    Calls Try.prog 9 #[.int .i64 c, .int .i64 n] w fun e w' => ∃ s : ByteArray, s.size = n ∧ e = .returned (.string s) ∧ w.grownBy w' none := by
  obtain ⟨i0, hi, hz0, hz1, hz2⟩ := info_parts Try.infoB
  go_enter Try.func9, Try.ntmps9
  go_wp2_with fail
  refine (pick_any c 2147483648 _ hc hc' (by omega) (by omega)).mono ?_
  rintro e w' ⟨v0, hv0, rfl, hw⟩
  rw [hw]
  clear hw w'
  go_wp2
  go_loopw [5, 6, 7] (fun v b i wr => ∃ (u k : Nat) (ns : List Int), k ≤ n ∧ v = .int .i64 u ∧ u < 2147483648 ∧ i = .int .i64 k ∧ ns.length = k ∧ w.grownBy wr none ∧ wr.ownsRow w.heap.size 5 1 b k (ns.map (Value.int .u8))) (fun _ _ i _ => n - (intOf i).toNat)
  case atStart => exact ⟨v0, 0, [], by omega, rfl, by omega, rfl, rfl, World.grownBy.refl _ _, World.ownsRow_nil _ _ _ _⟩
  case round =>
    clear hv0
    obtain ⟨u, k, ns, hk, rfl, hu, rfl, hns, hg, hO⟩ := hrel
    by_cases hlt : k < n
    · have b0 : (0 : Int) ≤ (k : Int) := by omega
      have b1 : (k : Int) < (n : Int) := by omega
      obtain ⟨v, hv⟩ : ∃ v : Nat, v = (u * 1103515245 + 12345) % 2147483648 := ⟨_, rfl⟩
      have m1 : ((u : Int) * 1103515245 + 12345).tmod 2147483648 = (v : Int) := by rw [Int.tmod_eq_emod_of_nonneg (by omega)]; omega
      have m2 : ((u : Int) * 1103515245 + 12345) % 2147483648 = (v : Int) := by omega
      have hvl : v < 2147483648 := by omega
      have o1 : (u : Int) * 1103515245 ≤ 2369780942852710400 := by omega
      clear hv
      have hbb : ∀ b, Value.ownBlock u6 = some b → w.heap.size ≤ b := fun b hb => (hO.lt b hb).1
      go_wp2_with (first | (at_builtin; refine wpList_append_own _ rfl _ _ 45 rfl w.heap.size 5 i0 (.int .u8 0) 1 1 Try.uBs hi hz0 hz1 hz2 rfl (by decide) _ _ _ rfl (hO.alloc _) ⟨_, 0, none⟩ 1 1 [.int .u8 ((v : Int) / 65536 % 256)] rfl rfl ?c1 ?c2 ?c3 ?c4 ?c5 ?_))
      case c1 =>
        intro j u hj
        match j, hj with
        | 0, hj => simp at hj; subst hj; simp [Addr.add]
      case c2 => intro u hu; simp at hu; subst hu; rfl
      case c3 => unfold maxLen; omega
      case c4 => omega
      case c5 => have := hg.size; simp; omega
      intro v' w1 hown' hgrow _
      go_wp2
      go_roundw
      case rel =>
        refine ⟨v, k + 1, ns ++ [(v : Int) / 65536 % 256], by omega, rfl, hvl, by go_num, by simp [hns], grown_own (grownBy_trans hg (World.grownBy_alloc _ _ none)) hgrow hbb, ?_⟩
        rw [List.map_append]; exact hown'
      case measure => simp [intOf]; omega
    · have hkn : n = k := by omega
      subst hkn
      have hcv := conv_own wr w.heap.size _ n hn0 ns hO
      go_wp2
      go_ret
      exact ⟨strOf ns, by rw [strOf_size]; exact hns, rfl, hg⟩
end Go.Proofs.Ytkijpphmiogbbab
