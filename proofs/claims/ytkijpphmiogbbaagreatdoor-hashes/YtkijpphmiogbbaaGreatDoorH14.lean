import Derived.Test.YtkijpphmiogbbaaGreatDoorH13
namespace Go.Proofs.YtkijpphmiogbbaaGreatDoor.Z
open Go.RowKit
attribute [local go_sem ↓] Go.wp_at_zero Go.wp_at_succ
variable {X : Side} {B c : Nat} {w : World}

/-- A script that came in. -/
structure Scr (w : World) (a0 : Option Addr) (len cap : Nat) (ops : Nat → OpV) (adr : Nat → Addr) : Prop where
  ix : ∀ i W, i < len → (Instr.indexAt 22 (.slice a0 len cap) (.int .i64 (i : Int))).run Tryz.prog W = .ok (.pointer (some (adr i))) W
  cell : ∀ i k v, i < len → (opL (ops i))[k]? = some v → w.cell? ((adr i).add k) = some v
  ok : ∀ i, i < len → InI (ops i).kind ∧ InI (ops i).x ∧ InI (ops i).y ∧ InI (ops i).z ∧ InI (ops i).w ∧ InI (ops i).a ∧ InI (ops i).b ∧ (ops i).s.size ≤ 9223372036854775807
  len : len ≤ 9223372036854775807

set_option maxHeartbeats 2000000 in
set_option maxRecDepth 20000 in
theorem small_any (a0 : Option Addr) (len cap : Nat) (ops : Nat → OpV) (adr : Nat → Addr) (h : Scr w a0 len cap ops adr) :
    Calls Tryz.prog 12 #[.slice a0 len cap] w fun e w' => w' = w ∧ (e = .returned (.bool false) ∨ (e = .returned (.bool true) ∧ len ≤ 16384)) := by
  have hl := h.len
  by_cases hbig : 16384 < len
  · have b0 : (16384 : Int) < (len : Int) := by omega
    clear h
    go_enter Tryz.func12, Tryz.ntmps12
    go_wp2
    go_ret
    exact ⟨rfl, Or.inl rfl⟩
  · have b0 : ¬ (16384 : Int) < (len : Int) := by omega
    have b1 : (len : Int) ≤ 16384 := by omega
    have H : Hid (Scr w a0 len cap ops adr) := h
    clear h hbig
    go_enter Tryz.func12, Tryz.ntmps12
    go_wp2
    go_loopw [3, 4] (fun n i wr => ∃ (k : Nat) (m : Int), k ≤ len ∧ i = .int .i64 k ∧ n = .int .i64 m ∧ wr = w) (fun _ i _ => len - (intOf i).toNat)
    case atStart => exact ⟨0, len, by omega, rfl, rfl, rfl⟩
    case round =>
      obtain ⟨k, m, hk, rfl, rfl, rfl⟩ := hrel
      by_cases hlt : k < len
      · have k0 : (k : Int) < (len : Int) := by omega
        have hx := fun W => H.out.ix k W hlt
        have cs : wr.cell? ⟨(adr k).block, (adr k).off + 7, none⟩ = some (.string (ops k).s) := H.out.cell k 7 _ hlt rfl
        by_cases hs : 16384 < IntKind.i64.wrap (m + ((ops k).s.size : Int))
        · have w1 : (16384 : Int) < wrap64 (m + ((ops k).s.size : Int)) := by rw [← IntWalk.i64_left]; exact hs
          have w2 : (16384 : Int) < IntKind.i64.wrap (m + ((ops k).s.size : Int)) := hs
          clear hs
          go_wp2
          go_ret
          exact ⟨rfl, Or.inl rfl⟩
        · have w1 : ¬ (16384 : Int) < wrap64 (m + ((ops k).s.size : Int)) := by rw [← IntWalk.i64_left]; exact hs
          have w2 : ¬ (16384 : Int) < IntKind.i64.wrap (m + ((ops k).s.size : Int)) := hs
          clear hs
          go_wp2
          go_roundw
          case rel => exact ⟨k + 1, _, by omega, by go_num, rfl, trivial⟩
          case measure => simp [intOf]; omega
      · have hkl : len = k := by omega
        subst hkl
        go_wp2
        go_ret
        exact ⟨rfl, Or.inr ⟨rfl, by omega⟩⟩
end Go.Proofs.YtkijpphmiogbbaaGreatDoor.Z
