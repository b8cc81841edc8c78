import Derived.Test.YtkijpphmiogbbaaGreatDoorM40
import Derived.Test.YtkijpphmiogbbaaGreatDoorM26
namespace Go.Proofs.YtkijpphmiogbbaaGreatDoor.Z
open Go.RowKit
attribute [local go_sem ↓] Go.wp_at_zero Go.wp_at_succ

theorem mkRef (m : Nat) (hm : m ≤ 8) (W : World) : (Instr.makeSlice 31 (.int .i64 (m : Int)) (.int .i64 (m : Int))).run Tryz.prog W = .ok (.slice (some ⟨W.heap.size, 0, none⟩) m m) (W.alloc (.cells (madeCells (polyA .i64 (fun _ => 0)) (m * 256)) 43)) := by
  obtain ⟨i0, hi, hz0, hz1, hz2⟩ := info_of Tryz.infoY
  simp only at hz0 hz1 hz2
  have h := run_make (P := Tryz.prog) W 31 43 i0 _ Tryz.uYs hi hz0 .i64 .i64 m m (by omega) (by omega) (by rw [hz2]; omega) (by omega)
  rw [hz1] at h
  simpa [Value.cells] using h
set_option maxHeartbeats 1000000 in
set_option maxRecDepth 20000 in
theorem runpack_any (s0 : Sg) (k o : Nat) (t : ByteArray) (w : World) (hsk : s0.k = (k : Int)) (hso : s0.o = (o : Int)) (hk : k ≤ 8) (ho : o ≤ 80) (ht : t.size = o + k) :
    Calls Tryz.prog 76 #[sgV s0, .string t] w fun e w' => ((rgood (txH t) k o ∧ ∃ N, e = .returned (.tuple #[.slice (some ⟨N, 0, none⟩) k k, .bool true]) ∧ ∀ s, s < k → PRow .i64 w' N (256 * s) (rdL (txH t) o s)) ∨ (¬ rgood (txH t) k o ∧ e = .returned (.tuple #[.slice none 0 0, .bool false]))) ∧ w.grownBy w' none := by
  have s1 := sgAt_new w s0
  have g1 : w.grownBy (sgBox w s0) none := World.grownBy_alloc w _ none
  have e1 : (sgBox w s0).heap.size = w.heap.size + 1 := World.size_alloc _ _
  have hmk := fun W => mkRef k hk W
  have m3 : ∀ s, s < k → PRow .i64 ((sgBox w s0).alloc (.cells (madeCells (polyA .i64 (fun _ => 0)) (k * 256)) 43)) (sgBox w s0).heap.size (256 * s) (fun _ => 0) := fun s hs => made_rows .i64 (sgBox w s0) k 43 s hs
  have g3 := World.grownBy_alloc (sgBox w s0) (.cells (madeCells (polyA .i64 (fun _ => 0)) (k * 256)) 43) none
  have s3 := s1.new g3
  have c0 := s1.k
  have c3 := s3.k
  rw [hsk] at c0 c3
  have HSK : Hid (s0.k = (k : Int)) := hsk
  have HSO : Hid (s0.o = (o : Int)) := hso
  have HTL : Hid (∀ n, txH t n < 256) := fun n => txH_lt t n
  clear hsk hso
  rw [e1] at m3
  go_enter Tryz.func76, Tryz.ntmps76
  go_wp2
  generalize (sgBox w s0).alloc (.cells (madeCells (polyA .i64 (fun _ => 0)) (k * 256)) 43) = w3 at *
  have hg := grownBy_trans g1 g3
  clear g1 g3 s1 e1 hmk c0 c3
  obtain ⟨D, hD⟩ : ∃ D, D = w.heap.size := ⟨_, rfl⟩
  rw [← hD] at s3 m3 ⊢
  have hD' : w.heap.size ≤ D := by omega
  have hN0 : Nar .i64 w3 (D + 1) k 0 (rdL (txH t) o) := ⟨fun s hs => absurd hs (by omega), fun s _ hs => m3 s hs⟩
  clear hD m3
  go_loopw [7, 8, 9, 10] (fun n i _ _ wr => ∃ q : Nat, q ≤ k ∧ i = .int .i64 q ∧ n = .int .i64 (rst (txH t) o q : Nat) ∧ w.grownBy wr none ∧ SgAt wr D s0 ∧ Hid (Nar .i64 wr (D + 1) k q (rdL (txH t) o) ∧ ∀ j, j < q → rokA (txH t) o j) ∧ rst (txH t) o q ≤ o) (fun _ i _ _ _ => k - (intOf i).toNat)
  case atStart => exact ⟨0, by omega, rfl, rfl, hg, s3, ⟨hN0, fun j hj => absurd hj (by omega)⟩, Nat.zero_le _⟩
  case round =>
    clear hg s3 hN0
    obtain ⟨q, hq, rfl, rfl, hg, hS, HN, hro⟩ := hrel
    have ck := hS.k
    have co := hS.o
    rw [HSK.out] at ck
    rw [HSO.out] at co
    by_cases hlt : q < k
    · have a0 : (0 : Int) ≤ (q : Int) := by omega
      have a1 : (q : Int) < (k : Int) := by omega
      have ix := fun W => run_ixH t (o + q) (by omega) W
      have tl := HTL.out (o + q)
      have HE : Hid (rst (txH t) o (q + 1) = txH t (o + q)) := rfl
      obtain ⟨e, he⟩ : ∃ e, e = txH t (o + q) := ⟨_, rfl⟩
      obtain ⟨a, ha⟩ : ∃ a, a = rst (txH t) o q := ⟨_, rfl⟩
      rw [← he] at ix tl HE
      rw [← ha] at hro ⊢
      have cv : IntKind.i64.wrap (e : Int) = (e : Int) := by rw [IntKind.wrap_i64] <;> omega
      rw [Int.natCast_add] at ix
      by_cases h1 : e < a
      · have d1 : decide ((e : Int) < (a : Int)) = true := by simp; omega
        have HF : Hid (¬ rgood (txH t) k o) := fun h => by
          have h2 := (h.1 q hlt).1
          rw [HE.out, ← ha] at h2
          omega
        clear he ha HN hS
        go_wp2
        go_ret2
        exact ⟨Or.inr ⟨HF.out, rfl⟩, hg⟩
      · by_cases h2 : o < e
        · have d1 : decide ((e : Int) < (a : Int)) = false := by simp; omega
          have d2 : decide ((o : Int) < (e : Int)) = true := by simp; omega
          have HF : Hid (¬ rgood (txH t) k o) := fun h => by
            have h3 := (h.1 q hlt).2.1
            rw [HE.out] at h3
            omega
          clear he ha HN hS
          go_wp2
          go_ret2
          exact ⟨Or.inr ⟨HF.out, rfl⟩, hg⟩
        · have d1 : decide ((e : Int) < (a : Int)) = false := by simp; omega
          have d2 : decide ((o : Int) < (e : Int)) = false := by simp; omega
          have HA : Hid (e = txH t (o + q) ∧ a = rst (txH t) o q) := ⟨he, ha⟩
          have hR0 : Rdn .i64 wr (D + 1) k q 0 o (txH t) := Rdn.begin HN.out.1 hlt
          have HOK : Hid (∀ j, j < q → rokA (txH t) o j) := HN.out.2
          clear he ha HN
          go_wp2
          clear ck co ix
          have lD := hR0.lt
          go_loopw [7] (fun n wq => ∃ n' : Nat, a ≤ n' ∧ n' ≤ e ∧ n = .int .i64 n' ∧ w.grownBy wq none ∧ SgAt wq D s0 ∧ Hid (Rdn .i64 wq (D + 1) k q (n' - a) o (txH t)) ∧ Hid (∀ n, a < n → n < n' → txH t (n - 1) < txH t n)) (fun n _ => e - (intOf n).toNat)
          case atStart => exact ⟨a, Nat.le_refl _, by omega, rfl, hg, hS, by rw [Nat.sub_self]; exact hR0, fun n h3 h4 => absurd h4 (by omega)⟩
          case round =>
            clear hg hS hR0
            obtain ⟨n, hn1, hn2, rfl, hg, hS, HR, HU⟩ := hrel
            by_cases hl2 : n < e
            · have b0 : (0 : Int) ≤ (n : Int) := by omega
              have b1 : (n : Int) < (e : Int) := by omega
              have ixn := fun W => run_ixH t n (by omega) W
              have yl := HTL.out n
              have ixr := fun W => ixRefs (D + 1) k k q hlt W
              have HY : Hid (∀ y, y = txH t n → Rdn .i64 (wr.drew.setCell ⟨D + 1, 256 * q + y, none⟩ (.int .i64 1)) (D + 1) k q (n + 1 - a) o (txH t)) := fun y hy => by
                have h3 := HR.out.drew
                have e3 : rst (txH t) o q + (n - a) = n := by rw [← HA.out.2]; omega
                have h4 := h3.step (by rw [e3]; exact yl)
                rw [e3, ← hy, show n - a + 1 = n + 1 - a by omega] at h4
                exact h4
              have HZ : Hid (∀ y, y < 256 → ∃ x, wr.cell? ⟨D + 1, 256 * q + y, none⟩ = some (.int .i64 x) ∧ wr.frozen? ⟨D + 1, 256 * q + y, none⟩ = false) := fun y hy => ⟨_, HR.out.now y hy⟩
              obtain ⟨y, hy⟩ : ∃ y, y = txH t n := ⟨_, rfl⟩
              rw [← hy] at ixn yl
              obtain ⟨x0, z1, z2⟩ := HZ.out y yl
              have yb0 : (0 : Int) ≤ (y : Int) := by omega
              have yb1 : (y : Int) < 256 := by omega
              have HT9 : Hid (y = txH t n) := hy
              clear hy
              by_cases hna : n = a
              · subst hna
                have HU9 : Hid (∀ n', n < n' → n' < n + 1 → txH t (n' - 1) < txH t n') := fun n' h3 h4 => absurd h4 (by omega)
                clear hn1 h1 HU HZ
                go_wp2_with fail
                go_region
                go_wp2_with fail
                go_region
                go_wp2
                go_roundw
                case rel =>
                  have hg2 := grown_setNew hg (p := ⟨D + 1, 256 * q + y, none⟩) (by show w.heap.size ≤ D + 1; omega) (.int .i64 1)
                  have hS2 := hS.set_other (p := ⟨D + 1, 256 * q + y, none⟩) (by dsimp only; omega) (.int .i64 1)
                  have hR2 := HY.out y HT9.out
                  exact ⟨n + 1, by omega, by omega, by go_num, ⟨hg2.os, hg2.tape, hg2.output, hg2.size, hg2.block⟩, ⟨hS2.k, hS2.l, hS2.e, hS2.c, hS2.g, hS2.t, hS2.a, hS2.o⟩, ⟨hR2.done, hR2.now, hR2.left⟩, HU9.out⟩
                case measure => simp [intOf]; omega
              · obtain ⟨m, hm⟩ : ∃ m, n = m + 1 := ⟨n - 1, by omega⟩
                have hm1 : (n : Int) - 1 = (m : Int) := by omega
                have ixm := fun W => run_ixH t m (by omega) W
                have xl := HTL.out m
                obtain ⟨x, hx⟩ : ∃ x, x = txH t m := ⟨_, rfl⟩
                rw [← hx] at ixm xl
                have HX9 : Hid (x = txH t m ∧ n = m + 1) := ⟨hx, hm⟩
                have d3 : decide ((a : Int) < (n : Int)) = true := by simp; omega
                have mb0 : (0 : Int) ≤ (m : Int) := by omega
                have hlan : a < n := by omega
                clear hx hm hna HZ hn1 h1
                by_cases hxy : x < y
                · have d4 : decide ((y : Int) ≤ (x : Int)) = false := by simp; omega
                  have HU9 : Hid (∀ n', a < n' → n' < n + 1 → txH t (n' - 1) < txH t n') := fun n' h3 h4 => by
                    by_cases e9 : n' = n
                    · rw [e9, ← HT9.out, HX9.out.2, Nat.add_sub_cancel, ← HX9.out.1]; exact hxy
                    · exact HU.out n' h3 (by omega)
                  clear HU
                  go_wp2_with fail
                  go_region
                  go_wp2_with fail
                  go_region
                  go_wp2
                  go_roundw
                  case rel =>
                    have hg2 := grown_setNew hg (p := ⟨D + 1, 256 * q + y, none⟩) (by show w.heap.size ≤ D + 1; omega) (.int .i64 1)
                    have hS2 := hS.set_other (p := ⟨D + 1, 256 * q + y, none⟩) (by dsimp only; omega) (.int .i64 1)
                    have hR2 := HY.out y HT9.out
                    exact ⟨n + 1, by omega, by omega, by go_num, ⟨hg2.os, hg2.tape, hg2.output, hg2.size, hg2.block⟩, ⟨hS2.k, hS2.l, hS2.e, hS2.c, hS2.g, hS2.t, hS2.a, hS2.o⟩, ⟨hR2.done, hR2.now, hR2.left⟩, HU9.out⟩
                  case measure => simp [intOf]; omega
                · have d4 : decide ((y : Int) ≤ (x : Int)) = true := by simp; omega
                  have HF : Hid (¬ rgood (txH t) k o) := fun h => by
                    have h3 := (h.1 q hlt).2.2 n (by rw [← HA.out.2]; omega) (by rw [HE.out]; omega)
                    rw [← HT9.out, HX9.out.2, Nat.add_sub_cancel, ← HX9.out.1] at h3
                    omega
                  clear HU HY
                  go_wp2_with fail
                  go_region
                  go_wp2
                  go_ret2
                  exact ⟨Or.inr ⟨HF.out, rfl⟩, grown_drew hg⟩
            · have hne : n = e := by omega
              subst hne
              have HF : Hid (Nar .i64 wr (D + 1) k (q + 1) (rdL (txH t) o) ∧ ∀ j, j < q + 1 → rokA (txH t) o j) := by
                refine ⟨Rdn.end ?_, fun j hj => ?_⟩
                · rw [HE.out, ← HA.out.2]; exact HR.out
                · by_cases ej : j = q
                  · subst ej
                    exact ⟨by rw [HE.out, ← HA.out.2]; exact hn1, by rw [HE.out]; omega, fun n' h3 h4 => HU.out n' (by rw [HA.out.2]; exact h3) (by rw [HE.out] at h4; exact h4)⟩
                  · exact HOK.out j (by omega)
              clear hn1 hn2 hl2 h1 HR HU
              go_wp2
              go_roundw
              case rel => exact ⟨q + 1, by omega, by go_num, by rw [HE.out], hg, hS, HF.out, by rw [HE.out]; omega⟩
              case measure => simp [intOf]; omega
    · have hqk : q = k := by omega
      subst hqk
      obtain ⟨a, ha⟩ : ∃ a, a = rst (txH t) o q := ⟨_, rfl⟩
      rw [← ha] at hro ⊢
      have HA : Hid (a = rst (txH t) o q) := ha
      clear ha hlt hq
      go_wp2
      clear ck
      go_loopw [7] (fun n wq => ∃ n' : Nat, a ≤ n' ∧ n' ≤ o ∧ n = .int .i64 n' ∧ wq = wr ∧ Hid (∀ m, a ≤ m → m < n' → txH t m = 0)) (fun n _ => o - (intOf n).toNat)
      case atStart => exact ⟨a, Nat.le_refl _, hro, rfl, rfl, fun m h1 h2 => absurd h2 (by omega)⟩
      case round =>
        obtain ⟨n, hn1, hn2, rfl, rfl, HU⟩ := hrel
        by_cases hl2 : n < o
        · have b0 : (0 : Int) ≤ (n : Int) := by omega
          have b1 : (n : Int) < (o : Int) := by omega
          have ixn := fun W => run_ixH t n (by omega) W
          obtain ⟨y, hy⟩ : ∃ y, y = txH t n := ⟨_, rfl⟩
          rw [← hy] at ixn
          by_cases hy0 : y = 0
          · have HU9 : Hid (∀ m, a ≤ m → m < n + 1 → txH t m = 0) := fun m h1 h2 => by
              by_cases em : m = n
              · rw [em, ← hy]; exact hy0
              · exact HU.out m h1 (by omega)
            subst hy0
            have HL9 : Hid (a ≤ n) := hn1
            clear HU hy hn1
            go_wp2
            go_roundw
            case rel => exact ⟨n + 1, by have := HL9.out; omega, by omega, by go_num, trivial, HU9.out⟩
            case measure => simp [intOf]; omega
          · have d3 : ((y : Int) != 0) = true := by simp; omega
            have HF : Hid (¬ rgood (txH t) q o) := fun h => by
              have h3 := h.2 n (by rw [← HA.out]; exact hn1) hl2
              omega
            clear HU hy hy0 hn1
            go_wp2
            go_ret2
            exact ⟨Or.inr ⟨HF.out, rfl⟩, hg⟩
        · have hno : n = o := by omega
          subst hno
          have HF : Hid (rgood (txH t) q n ∧ ∀ s, s < q → PRow .i64 wr (D + 1) (256 * s) (rdL (txH t) n s)) := ⟨⟨HN.out.2, fun m h1 h2 => HU.out m (by rw [HA.out]; exact h1) h2⟩, fun s hs => HN.out.1.done s hs⟩
          clear HU hn1 hn2 HN
          go_wp2
          go_ret2
          exact ⟨Or.inl ⟨HF.out.1, D + 1, rfl, HF.out.2⟩, hg⟩
end Go.Proofs.YtkijpphmiogbbaaGreatDoor.Z
