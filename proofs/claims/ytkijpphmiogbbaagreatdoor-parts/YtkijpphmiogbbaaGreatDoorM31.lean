import Derived.Test.YtkijpphmiogbbaaGreatDoorM29
import Derived.Test.YtkijpphmiogbbaaGreatDoorM30
namespace Go.Proofs.YtkijpphmiogbbaaGreatDoor.Z
open Go.RowKit
attribute [local go_sem ↓] Go.wp_at_zero Go.wp_at_succ

theorem res22 {P : Program} {fn : Func} {p s : Tmp} {ty : TypeId} (h : fn.results = #[.cell p ty, .cell s ty]) (k : IntKind) (tmps : Array Value) (w : World) (b c : Nat) (L M : Nat → Int)
    (hp : tmps.getD p undef = .pointer (some ⟨b, 0, none⟩)) (hs : tmps.getD s undef = .pointer (some ⟨c, 0, none⟩)) (hr : PRow k w b 0 L) (hr' : PRow k w c 0 M)
    (hu : ∃ e, P.underlying ty = some (.array 256 e)) (hi : (P.info? ty).map (·.size) = some 256) :
    (results fn tmps).run P w = .ok (.tuple #[.agg (polyA k L), .agg (polyA k M)]) w := by
  have hp' : tmps[p]?.getD undef = .pointer (some ⟨b, 0, none⟩) := by simpa using hp
  have hs' : tmps[s]?.getD undef = .pointer (some ⟨c, 0, none⟩) := by simpa using hs
  simp [results, h, hp', hs', asAddr, run_loadRow k w ty b 0 L hr hu hi, run_loadRow k w ty c 0 M hr' hu hi]
/-- A polynomial, and room for two, and for two more. -/
structure Box5 (w W : World) (b : Nat) (L : Nat → Int) : Prop where
  g : w.grownBy W none
  f : PRow .i64 W b 0 L
  p : PRow .i64 W (b + 1) 0 (fun _ => 0)
  q : PRow .i64 W (b + 1 + 1) 0 (fun _ => 0)
  r : PRow .i64 W (b + 1 + 1 + 1) 0 (fun _ => 0)
  s : PRow .i64 W (b + 1 + 1 + 1 + 1) 0 (fun _ => 0)
theorem box5_mk (w : World) (L : Nat → Int) : Box5 w (((((w.alloc (.cells (polyA .i64 L) 43)).alloc (.cells Tryz.zeroCells43 43)).alloc (.cells Tryz.zeroCells43 43)).alloc (.cells Tryz.zeroCells43 43)).alloc (.cells Tryz.zeroCells43 43)) w.heap.size L := by
  rw [Tryz.zY]
  have n1 := new_alloc .i64 w L 43
  generalize w.alloc (.cells (polyA .i64 L) 43) = w1 at *
  have n2 := new_alloc .i64 w1 (fun _ => 0) 43
  generalize w1.alloc (.cells (polyA .i64 (fun _ => 0)) 43) = w2 at *
  have n3 := new_alloc .i64 w2 (fun _ => 0) 43
  generalize w2.alloc (.cells (polyA .i64 (fun _ => 0)) 43) = w3 at *
  have n4 := new_alloc .i64 w3 (fun _ => 0) 43
  generalize w3.alloc (.cells (polyA .i64 (fun _ => 0)) 43) = w4 at *
  have n5 := new_alloc .i64 w4 (fun _ => 0) 43
  generalize w4.alloc (.cells (polyA .i64 (fun _ => 0)) 43) = w5 at *
  have e2 := ((n2.r.new n3.g).new n4.g).new n5.g
  have e3 := (n3.r.new n4.g).new n5.g
  have e4 := n4.r.new n5.g
  have e5 := n5.r
  rw [n4.s] at e5
  rw [n3.s] at e4 e5
  rw [n2.s] at e3 e4 e5
  rw [n1.s] at e2 e3 e4 e5
  exact ⟨grownBy_trans n1.g (grownBy_trans n2.g (grownBy_trans n3.g (grownBy_trans n4.g n5.g))), (((n1.r.new n2.g).new n3.g).new n4.g).new n5.g, e2, e3, e4, e5⟩
/-- As far as the first k are parted. -/
structure Prt (w W : World) (b k : Nat) (L H M : Nat → Int) : Prop where
  g : w.grownBy W none
  f : PRow .i64 W b 0 L
  p : PRow .i64 W (b + 1) 0 (fun _ => 0)
  q : PRow .i64 W (b + 1 + 1) 0 (fun _ => 0)
  r : PRow .i64 W (b + 1 + 1 + 1) 0 (fun j => if j < k then H j else 0)
  s : PRow .i64 W (b + 1 + 1 + 1 + 1) 0 (fun j => if j < k then M j else 0)
theorem Prt.new {w W W' : World} {b k : Nat} {L H M : Nat → Int} (h : Prt w W b k L H M) (hg : W.grownBy W' none) : Prt w W' b k L H M :=
  ⟨grownBy_trans h.g hg, h.f.new hg, h.p.new hg, h.q.new hg, h.r.new hg, h.s.new hg⟩
theorem Prt.drew {w W : World} {b k : Nat} {L H M : Nat → Int} (h : Prt w W b k L H M) : Prt w W.drew b k L H M := ⟨grown_drew h.g, h.f.drew, h.p.drew, h.q.drew, h.r.drew, h.s.drew⟩
/-- Both are put down. -/
theorem Prt.put {w W : World} {b k : Nat} {L H M : Nat → Int} (hb : w.heap.size ≤ b) (h : Prt w W b k L H M) (hk : k < 256) : Prt w ((W.setCell ⟨b + 1 + 1 + 1, k, none⟩ (.int .i64 (H k))).setCell ⟨b + 1 + 1 + 1 + 1, k, none⟩ (.int .i64 (M k))) b (k + 1) L H M :=
  ⟨grown_setNew (grown_setNew h.g (by show w.heap.size ≤ b + 1 + 1 + 1; omega) _) (by show w.heap.size ≤ b + 1 + 1 + 1 + 1; omega) _, (h.f.set_other (by show b + 1 + 1 + 1 ≠ b; omega) _).set_other (by show b + 1 + 1 + 1 + 1 ≠ b; omega) _,
   (h.p.set_other (by show b + 1 + 1 + 1 ≠ b + 1; omega) _).set_other (by show b + 1 + 1 + 1 + 1 ≠ b + 1; omega) _, (h.q.set_other (by show b + 1 + 1 + 1 ≠ b + 1 + 1; omega) _).set_other (by show b + 1 + 1 + 1 + 1 ≠ b + 1 + 1; omega) _,
   ((h.r.set0 hk (H k)).ext (fun j _ => mix_step H (fun _ => 0) k j)).set_other (by show b + 1 + 1 + 1 + 1 ≠ b + 1 + 1 + 1; omega) _,
   ((h.s.set_other (p := ⟨b + 1 + 1 + 1, k, none⟩) (by show b + 1 + 1 + 1 ≠ b + 1 + 1 + 1 + 1; omega) (.int .i64 (H k))).set0 hk (M k)).ext (fun j _ => mix_step M (fun _ => 0) k j)⟩
theorem Prt.put' {w W : World} {b k : Nat} {L H M : Nat → Int} (hb : w.heap.size ≤ b) (h : Prt w W b k L H M) (hk : k < 256) : Prt w ((W.setCell ⟨b + 1 + 1 + 1 + 1, k, none⟩ (.int .i64 (M k))).setCell ⟨b + 1 + 1 + 1, k, none⟩ (.int .i64 (H k))) b (k + 1) L H M :=
  ⟨grown_setNew (grown_setNew h.g (by show w.heap.size ≤ b + 1 + 1 + 1 + 1; omega) _) (by show w.heap.size ≤ b + 1 + 1 + 1; omega) _, (h.f.set_other (by show b + 1 + 1 + 1 + 1 ≠ b; omega) _).set_other (by show b + 1 + 1 + 1 ≠ b; omega) _,
   (h.p.set_other (by show b + 1 + 1 + 1 + 1 ≠ b + 1; omega) _).set_other (by show b + 1 + 1 + 1 ≠ b + 1; omega) _, (h.q.set_other (by show b + 1 + 1 + 1 + 1 ≠ b + 1 + 1; omega) _).set_other (by show b + 1 + 1 + 1 ≠ b + 1 + 1; omega) _,
   ((h.r.set_other (p := ⟨b + 1 + 1 + 1 + 1, k, none⟩) (by show b + 1 + 1 + 1 + 1 ≠ b + 1 + 1 + 1; omega) (.int .i64 (M k))).set0 hk (H k)).ext (fun j _ => mix_step H (fun _ => 0) k j),
   ((h.s.set0 hk (M k)).ext (fun j _ => mix_step M (fun _ => 0) k j)).set_other (by show b + 1 + 1 + 1 ≠ b + 1 + 1 + 1 + 1; omega) _⟩
attribute [local go_sem ↓] ld_hide st_hide
set_option maxHeartbeats 2000000 in
set_option maxRecDepth 20000 in
theorem rhalve_any (L : Nat → Int) (w : World) (hL : InB L 8380417) :
    Calls Tryz.prog 67 #[.agg (polyA .i64 L)] w fun e w' => e = .returned (.tuple #[.agg (polyA .i64 (fun i => halH (L i))), .agg (polyA .i64 (fun i => cenI (L i) 8192))]) ∧ w.grownBy w' none := by
  have HL : Hid (InB L 8380417) := hL
  have b5 := box5_mk w L
  clear hL
  go_enter Tryz.func67, Tryz.ntmps67
  go_wp2
  generalize ((((w.alloc (.cells (polyA .i64 L) 43)).alloc (.cells Tryz.zeroCells43 43)).alloc (.cells Tryz.zeroCells43 43)).alloc (.cells Tryz.zeroCells43 43)).alloc (.cells Tryz.zeroCells43 43) = W5 at *
  obtain ⟨B, hB⟩ : ∃ B, B = w.heap.size := ⟨_, rfl⟩
  rw [← hB] at b5 ⊢
  have hB' : w.heap.size ≤ B := by omega
  clear hB
  go_loopw [6] (fun i wr => ∃ k : Nat, k ≤ 256 ∧ i = .int .i64 k ∧ Prt w wr B k L (fun i => halH (L i)) (fun i => cenI (L i) 8192)) (fun i _ => 256 - (intOf i).toNat)
  case atStart => exact ⟨0, by omega, rfl, b5.g, b5.f, b5.p, b5.q, b5.r.ext (fun j _ => by simp), b5.s.ext (fun j _ => by simp)⟩
  case round =>
    clear b5
    obtain ⟨k, hk, rfl, hP⟩ := hrel
    by_cases hlt : k < 256
    · have b0 : (0 : Int) ≤ (k : Int) := by omega
      have b1 : (k : Int) < 256 := by omega
      have l0 := (HL.out k hlt).1
      have l1 := (HL.out k hlt).2
      have cf := (hP.f.at0 k hlt).1
      have HC : Hid (∀ W, Calls Tryz.prog 131 #[.int .i64 (L k), .int .i64 8192] W fun e w' => e = .returned (.int .i64 (cenI (L k) 8192)) ∧ w' = W) := fun W => rcen_any (L k) 8192 W l0 (by omega) (by omega) (by omega)
      have cs := (hP.s.at0 k hlt).1
      have fs := (hP.s.at0 k hlt).2
      have hb := hal_bounds (L k) l0 l1
      obtain ⟨c, hc⟩ : ∃ c, c = cenI (L k) 8192 := ⟨_, rfl⟩
      obtain ⟨h, hh⟩ : ∃ h, h = halH (L k) := ⟨_, rfl⟩
      rw [← hc] at HC hb
      rw [← hh] at hb
      obtain ⟨h0, h1, c0, c1, hs⟩ := hb
      have HP : Hid (Prt w wr B k L (fun i => halH (L i)) (fun i => cenI (L i) 8192)) := hP
      have HE : Hid (c = cenI (L k) 8192 ∧ h = halH (L k)) := ⟨hc, hh⟩
      have W1f : (wr.setCell ⟨B + 1 + 1 + 1 + 1, k, none⟩ (.int .i64 c)).cell? ⟨B, k, none⟩ = some (.int .i64 (L k)) := by rw [cell_other _ _ _ _ (Or.inl (show B ≠ B + 1 + 1 + 1 + 1 by omega))]; exact cf
      have W1s : (wr.setCell ⟨B + 1 + 1 + 1 + 1, k, none⟩ (.int .i64 c)).cell? ⟨B + 1 + 1 + 1 + 1, k, none⟩ = some (.int .i64 c) := cell_same cs
      have W1r : (wr.setCell ⟨B + 1 + 1 + 1 + 1, k, none⟩ (.int .i64 c)).cell? ⟨B + 1 + 1 + 1, k, none⟩ = some (.int .i64 (if k < k then halH (L k) else 0)) := by rw [cell_other _ _ _ _ (Or.inl (show B + 1 + 1 + 1 ≠ B + 1 + 1 + 1 + 1 by omega))]; exact (hP.r.at0 k hlt).1
      have W1z : (wr.setCell ⟨B + 1 + 1 + 1 + 1, k, none⟩ (.int .i64 c)).frozen? ⟨B + 1 + 1 + 1, k, none⟩ = false := by rw [frozen_set]; exact (hP.r.at0 k hlt).2
      clear hP hc hh
      go_wp2_with (first | (go_at_call 131; refine (HC.out _).mono ?_; rintro e w' ⟨rfl, hw⟩; rw [hw]; clear hw w'))
      obtain ⟨W1, hW1⟩ : ∃ W1, W1 = wr.setCell ⟨B + 1 + 1 + 1 + 1, k, none⟩ (.int .i64 c) := ⟨_, rfl⟩
      rw [← hW1] at W1f W1s W1r W1z ⊢
      have x0 : 0 ≤ L k - c := by omega
      have x1 : (L k - c) / 8192 = h := by omega
      have HW1 : Hid (W1 = wr.setCell ⟨B + 1 + 1 + 1 + 1, k, none⟩ (.int .i64 c)) := hW1
      clear cf cs fs HC hs hW1
      go_region
      go_wp2
      go_roundw
      case rel =>
        have h9 := (HP.out.put' hB' hlt).drew
        have e9 := HW1.out
        rw [HE.out.1] at e9
        refine ⟨k + 1, by omega, by go_num, ?_⟩
        rw [e9, HE.out.2]
        exact h9
      case measure => simp [intOf]; omega
    · have hk6 : k = 256 := by omega
      subst hk6
      have hA' : PRow .i64 wr (B + 1 + 1 + 1) 0 (fun i => halH (L i)) := hP.r.ext (fun j hj => by simp [hj])
      have hZ' : PRow .i64 wr (B + 1 + 1 + 1 + 1) 0 (fun i => cenI (L i) 8192) := hP.s.ext (fun j hj => by simp [hj])
      have ld1 := run_hidLd wr.drew (B + 1 + 1 + 1) 0 _ hA'.drew
      have ld2 := run_hidLd wr.drew (B + 1 + 1 + 1 + 1) 0 _ hZ'.drew
      have st1 := run_hidSt wr.drew (B + 1) (fun i => halH (L i)) _ hP.p.drew
      have p4 := put_cells .i64 wr.drew (B + 1) 0 (fun i => halH (L i)) (hP.p.drew.there .i64 _)
      have hZ4 := hZ'.drew.far p4.g (by simp <;> omega)
      have hQ4 := hP.q.drew.far p4.g (by simp)
      have st2 := run_hidSt _ (B + 1 + 1) (fun i => cenI (L i) 8192) _ hQ4
      have ld3 := run_hidLd _ (B + 1 + 1 + 1 + 1) 0 _ hZ4
      have p5 := put_cells .i64 _ (B + 1 + 1) 0 (fun i => cenI (L i) 8192) (hQ4.there .i64 _)
      have hg := hP.g
      clear hP
      go_wp2_with fail
      go_region
      clear ld1 ld2 ld3 st1 st2
      generalize (wr.drew.setCells (B + 1) 0 (polyA .i64 (fun i => halH (L i))).toList).setCells (B + 1 + 1) 0 (polyA .i64 (fun i => cenI (L i) 8192)).toList = w6 at *
      go_wp2
      refine bodyPost_ret (res22 Tryz.results67 .i64 _ w6 (B + 1) (B + 1 + 1) _ _ rfl rfl (p4.r.far p5.g (by simp)) p5.r ⟨_, Tryz.uY⟩ Tryz.sY) rfl ⟨rfl, grown_new (grown_new (grown_drew hg) p4.g (by omega)) p5.g (by omega)⟩
theorem box5_at {w W : World} {b : Nat} {L : Nat → Int} (h : Box5 w W b L) (H M : Nat → Int) : Prt w W b 0 L H M := ⟨h.g, h.f, h.p, h.q, h.r.ext (fun j _ => by simp), h.s.ext (fun j _ => by simp)⟩
theorem sk8 {W : World} {b : Nat} {s : Sg} (h : SgAt W b s) : W.cell? ⟨b, 0, none⟩ = some (.int .i64 s.k) ∧ W.cell? ⟨b, 1, none⟩ = some (.int .i64 s.l) ∧ W.cell? ⟨b, 2, none⟩ = some (.int .i64 s.e) ∧ W.cell? ⟨b, 3, none⟩ = some (.int .i64 s.c) ∧ W.cell? ⟨b, 4, none⟩ = some (.int .i64 s.g) ∧ W.cell? ⟨b, 5, none⟩ = some (.int .i64 s.t) ∧ W.cell? ⟨b, 6, none⟩ = some (.int .i64 s.a) ∧ W.cell? ⟨b, 7, none⟩ = some (.int .i64 s.o) := ⟨h.k, h.l, h.e, h.c, h.g, h.t, h.a, h.o⟩
theorem sk8b {W : World} {b : Nat} {s : Sg} (h : W.cell? ⟨b, 0, none⟩ = some (.int .i64 s.k) ∧ W.cell? ⟨b, 1, none⟩ = some (.int .i64 s.l) ∧ W.cell? ⟨b, 2, none⟩ = some (.int .i64 s.e) ∧ W.cell? ⟨b, 3, none⟩ = some (.int .i64 s.c) ∧ W.cell? ⟨b, 4, none⟩ = some (.int .i64 s.g) ∧ W.cell? ⟨b, 5, none⟩ = some (.int .i64 s.t) ∧ W.cell? ⟨b, 6, none⟩ = some (.int .i64 s.a) ∧ W.cell? ⟨b, 7, none⟩ = some (.int .i64 s.o)) : SgAt W b s := ⟨h.1, h.2.1, h.2.2.1, h.2.2.2.1, h.2.2.2.2.1, h.2.2.2.2.2.1, h.2.2.2.2.2.2.1, h.2.2.2.2.2.2.2⟩
/-- A set, and a cell besides. -/
theorem sk9 {W : World} {b : Nat} {s : Sg} {q : Addr} {v : Value} (h : SgAt W b s) (h2 : W.cell? q = some v) : W.cell? q = some v ∧ W.cell? ⟨b, 0, none⟩ = some (.int .i64 s.k) ∧ W.cell? ⟨b, 1, none⟩ = some (.int .i64 s.l) ∧ W.cell? ⟨b, 2, none⟩ = some (.int .i64 s.e) ∧ W.cell? ⟨b, 3, none⟩ = some (.int .i64 s.c) ∧ W.cell? ⟨b, 4, none⟩ = some (.int .i64 s.g) ∧ W.cell? ⟨b, 5, none⟩ = some (.int .i64 s.t) ∧ W.cell? ⟨b, 6, none⟩ = some (.int .i64 s.a) ∧ W.cell? ⟨b, 7, none⟩ = some (.int .i64 s.o) := ⟨h2, sk8 h⟩
theorem sk9g {W W' : World} {b : Nat} {s : Sg} {q : Addr} {v : Value} (h : W.cell? q = some v ∧ W.cell? ⟨b, 0, none⟩ = some (.int .i64 s.k) ∧ W.cell? ⟨b, 1, none⟩ = some (.int .i64 s.l) ∧ W.cell? ⟨b, 2, none⟩ = some (.int .i64 s.e) ∧ W.cell? ⟨b, 3, none⟩ = some (.int .i64 s.c) ∧ W.cell? ⟨b, 4, none⟩ = some (.int .i64 s.g) ∧ W.cell? ⟨b, 5, none⟩ = some (.int .i64 s.t) ∧ W.cell? ⟨b, 6, none⟩ = some (.int .i64 s.a) ∧ W.cell? ⟨b, 7, none⟩ = some (.int .i64 s.o)) (hg : W.grownBy W' none) : W'.cell? q = some v ∧ W'.cell? ⟨b, 0, none⟩ = some (.int .i64 s.k) ∧ W'.cell? ⟨b, 1, none⟩ = some (.int .i64 s.l) ∧ W'.cell? ⟨b, 2, none⟩ = some (.int .i64 s.e) ∧ W'.cell? ⟨b, 3, none⟩ = some (.int .i64 s.c) ∧ W'.cell? ⟨b, 4, none⟩ = some (.int .i64 s.g) ∧ W'.cell? ⟨b, 5, none⟩ = some (.int .i64 s.t) ∧ W'.cell? ⟨b, 6, none⟩ = some (.int .i64 s.a) ∧ W'.cell? ⟨b, 7, none⟩ = some (.int .i64 s.o) := sk9 ((sk8b h.2).new hg) (hg.cell h.1 (by simp))
theorem sk9s {W : World} {b : Nat} {s : Sg} {q p : Addr} {v u : Value} (h : W.cell? q = some v ∧ W.cell? ⟨b, 0, none⟩ = some (.int .i64 s.k) ∧ W.cell? ⟨b, 1, none⟩ = some (.int .i64 s.l) ∧ W.cell? ⟨b, 2, none⟩ = some (.int .i64 s.e) ∧ W.cell? ⟨b, 3, none⟩ = some (.int .i64 s.c) ∧ W.cell? ⟨b, 4, none⟩ = some (.int .i64 s.g) ∧ W.cell? ⟨b, 5, none⟩ = some (.int .i64 s.t) ∧ W.cell? ⟨b, 6, none⟩ = some (.int .i64 s.a) ∧ W.cell? ⟨b, 7, none⟩ = some (.int .i64 s.o)) (hb : p.block ≠ b) (hq : q.block ≠ p.block) : (W.setCell p u).cell? q = some v ∧ (W.setCell p u).cell? ⟨b, 0, none⟩ = some (.int .i64 s.k) ∧ (W.setCell p u).cell? ⟨b, 1, none⟩ = some (.int .i64 s.l) ∧ (W.setCell p u).cell? ⟨b, 2, none⟩ = some (.int .i64 s.e) ∧ (W.setCell p u).cell? ⟨b, 3, none⟩ = some (.int .i64 s.c) ∧ (W.setCell p u).cell? ⟨b, 4, none⟩ = some (.int .i64 s.g) ∧ (W.setCell p u).cell? ⟨b, 5, none⟩ = some (.int .i64 s.t) ∧ (W.setCell p u).cell? ⟨b, 6, none⟩ = some (.int .i64 s.a) ∧ (W.setCell p u).cell? ⟨b, 7, none⟩ = some (.int .i64 s.o) := sk9 ((sk8b h.2).set_other hb u) (by rw [cell_other _ _ _ _ (Or.inl hq)]; exact h.1)
set_option maxHeartbeats 2000000 in
set_option maxRecDepth 20000 in
theorem rdecom_any (s : Sg) (L : Nat → Int) (w : World) (hg0 : 0 < s.g) (hg1 : s.g ≤ 261888) (hL : InB L 8380417) :
    Calls Tryz.prog 68 #[sgV s, .agg (polyA .i64 L)] w fun e w' => e = .returned (.tuple #[.agg (polyA .i64 (fun i => decH s.g (L i))), .agg (polyA .i64 (fun i => decL s.g (L i)))]) ∧ w.grownBy w' none := by
  have HL : Hid (InB L 8380417) := hL
  have b5 := box5_mk (sgBox w s) L
  have hS := (sgAt_new w s).new b5.g
  have gS : w.grownBy (sgBox w s) none := World.grownBy_alloc w _ none
  have sS : (sgBox w s).heap.size = w.heap.size + 1 := World.size_alloc _ _
  have HO : Hid (∀ a W, 0 ≤ a → a < 8380417 → Calls Tryz.prog 132 #[sgV s, .int .i64 a] W fun e w' => e = .returned (.tuple #[.int .i64 (decH s.g a), .int .i64 (decL s.g a)]) ∧ W.grownBy w' none) := fun a W h0 h1 => rone_any s a W h0 (by omega) hg0 hg1
  clear hL hg0 hg1
  go_enter Tryz.func68, Tryz.ntmps68
  go_wp2
  generalize (((((sgBox w s).alloc (.cells (polyA .i64 L) 43)).alloc (.cells Tryz.zeroCells43 43)).alloc (.cells Tryz.zeroCells43 43)).alloc (.cells Tryz.zeroCells43 43)).alloc (.cells Tryz.zeroCells43 43) = W5 at *
  rw [sS] at b5
  obtain ⟨A, hA⟩ : ∃ A, A = w.heap.size := ⟨_, rfl⟩
  rw [← hA] at b5 hS ⊢
  have hA' : w.heap.size ≤ A := by omega
  have hP0 := box5_at b5 (fun i => decH s.g (L i)) (fun i => decL s.g (L i))
  have lS : (sgBox w s).heap.size ≤ A + 1 := by omega
  have HG : Hid (w.grownBy (sgBox w s) none) := gS
  clear hA b5 sS gS
  go_loopw [8] (fun i wr => ∃ k : Nat, k ≤ 256 ∧ i = .int .i64 k ∧ SgAt wr A s ∧ Prt (sgBox w s) wr (A + 1) k L (fun i => decH s.g (L i)) (fun i => decL s.g (L i))) (fun i _ => 256 - (intOf i).toNat)
  case atStart => exact ⟨0, by omega, rfl, hS, hP0⟩
  case round =>
    clear hS hP0
    obtain ⟨k, hk, rfl, hS, hP⟩ := hrel
    by_cases hlt : k < 256
    · have b0 : (0 : Int) ≤ (k : Int) := by omega
      have b1 : (k : Int) < 256 := by omega
      have l0 := (HL.out k hlt).1
      have l1 := (HL.out k hlt).2
      have hS9 := sk9 (hS.new (grown_drew (World.grownBy.refl wr none))) (show wr.drew.cell? ⟨A + 1, k, none⟩ = _ from (hP.f.at0 k hlt).1)
      have HC := hidj (fun W => HO.out (L k) W l0 l1)
      have HP : Hid (SgAt wr A s ∧ Prt (sgBox w s) wr (A + 1) k L (fun i => decH s.g (L i)) (fun i => decL s.g (L i))) := ⟨hS, hP⟩
      have HR : Hid (∀ W, wr.drew.grownBy W none → (∃ x, W.cell? ⟨A + 1 + 1 + 1 + 1, k, none⟩ = some x) ∧ W.frozen? ⟨A + 1 + 1 + 1 + 1, k, none⟩ = false ∧ (∃ x, W.cell? ⟨A + 1 + 1 + 1 + 1 + 1, k, none⟩ = some x) ∧ W.frozen? ⟨A + 1 + 1 + 1 + 1 + 1, k, none⟩ = false) := fun W hg =>
        ⟨⟨_, ((hP.r.drew.new hg).at0 k hlt).1⟩, ((hP.r.drew.new hg).at0 k hlt).2, ⟨_, ((hP.s.drew.new hg).at0 k hlt).1⟩, ((hP.s.drew.new hg).at0 k hlt).2⟩
      obtain ⟨H, hH⟩ : ∃ H, H = decH s.g (L k) := ⟨_, rfl⟩
      obtain ⟨M, hM⟩ : ∃ M, M = decL s.g (L k) := ⟨_, rfl⟩
      rw [← hH, ← hM] at HC
      have HE : Hid (H = decH s.g (L k) ∧ M = decL s.g (L k)) := ⟨hH, hM⟩
      clear hS hP hH hM HO
      go_wp2_with fail
      go_region_held3 (fun W => W.cell? ⟨A + 1, k, none⟩ = some (.int .i64 (L k)) ∧ W.cell? ⟨A, 0, none⟩ = some (.int .i64 s.k) ∧ W.cell? ⟨A, 1, none⟩ = some (.int .i64 s.l) ∧ W.cell? ⟨A, 2, none⟩ = some (.int .i64 s.e) ∧ W.cell? ⟨A, 3, none⟩ = some (.int .i64 s.c) ∧ W.cell? ⟨A, 4, none⟩ = some (.int .i64 s.g) ∧ W.cell? ⟨A, 5, none⟩ = some (.int .i64 s.t) ∧ W.cell? ⟨A, 6, none⟩ = some (.int .i64 s.a) ∧ W.cell? ⟨A, 7, none⟩ = some (.int .i64 s.o)) (first | exact hS9 | exact sk9g (by assumption) (by assumption) | exact sk9s (by assumption) (by dsimp only; omega) (by dsimp only; omega)) (first | (go_at_call 132; refine (HC.out _).mono ?_; rintro e w5 ⟨rfl, g5⟩; obtain ⟨⟨x1, z1⟩, z2, ⟨x3, z3⟩, z4⟩ := HR.out _ g5))
      have gw5 : wr.grownBy w5 none := grownBy_trans (grown_drew (World.grownBy.refl wr none)) g5
      have HP5 : Hid (SgAt ((w5.setCell ⟨A + 1 + 1 + 1 + 1, k, none⟩ (.int .i64 H)).setCell ⟨A + 1 + 1 + 1 + 1 + 1, k, none⟩ (.int .i64 M)) A s ∧ Prt (sgBox w s) ((w5.setCell ⟨A + 1 + 1 + 1 + 1, k, none⟩ (.int .i64 H)).setCell ⟨A + 1 + 1 + 1 + 1 + 1, k, none⟩ (.int .i64 M)) (A + 1) (k + 1) L (fun i => decH s.g (L i)) (fun i => decL s.g (L i))) := by
        refine ⟨((HP.out.1.new gw5).set_other (by dsimp only; omega) _).set_other (by dsimp only; omega) _, ?_⟩
        rw [HE.out.1, HE.out.2]
        exact (HP.out.2.new gw5).put lS hlt
      clear g5 gw5 z1 z2 z3 z4 HR HC HP HE hS9
      generalize (w5.setCell ⟨A + 1 + 1 + 1 + 1, k, none⟩ (.int .i64 H)).setCell ⟨A + 1 + 1 + 1 + 1 + 1, k, none⟩ (.int .i64 M) = W9 at *
      go_wp2
      go_roundw
      case rel => exact ⟨k + 1, by omega, by go_num, HP5.out.1, HP5.out.2⟩
      case measure => simp [intOf]; omega
    · have hk6 : k = 256 := by omega
      subst hk6
      have hA9 : PRow .i64 wr (A + 1 + 1 + 1 + 1) 0 (fun i => decH s.g (L i)) := hP.r.ext (fun j hj => by simp [hj])
      have hZ' : PRow .i64 wr (A + 1 + 1 + 1 + 1 + 1) 0 (fun i => decL s.g (L i)) := hP.s.ext (fun j hj => by simp [hj])
      have ld1 := run_hidLd wr.drew (A + 1 + 1 + 1 + 1) 0 _ hA9.drew
      have ld2 := run_hidLd wr.drew (A + 1 + 1 + 1 + 1 + 1) 0 _ hZ'.drew
      have st1 := run_hidSt wr.drew (A + 1 + 1) (fun i => decH s.g (L i)) _ hP.p.drew
      have p4 := put_cells .i64 wr.drew (A + 1 + 1) 0 (fun i => decH s.g (L i)) (hP.p.drew.there .i64 _)
      have hZ4 := hZ'.drew.far p4.g (by simp <;> omega)
      have hQ4 := hP.q.drew.far p4.g (by simp)
      have st2 := run_hidSt _ (A + 1 + 1 + 1) (fun i => decL s.g (L i)) _ hQ4
      have ld3 := run_hidLd _ (A + 1 + 1 + 1 + 1 + 1) 0 _ hZ4
      have p5 := put_cells .i64 _ (A + 1 + 1 + 1) 0 (fun i => decL s.g (L i)) (hQ4.there .i64 _)
      have hg := grownBy_trans HG.out hP.g
      clear hP hS
      go_wp2_with fail
      go_region
      clear ld1 ld2 ld3 st1 st2
      generalize (wr.drew.setCells (A + 1 + 1) 0 (polyA .i64 (fun i => decH s.g (L i))).toList).setCells (A + 1 + 1 + 1) 0 (polyA .i64 (fun i => decL s.g (L i))).toList = w6 at *
      go_wp2
      refine bodyPost_ret (res22 Tryz.results68 .i64 _ w6 (A + 1 + 1) (A + 1 + 1 + 1) _ _ rfl rfl (p4.r.far p5.g (by simp)) p5.r ⟨_, Tryz.uY⟩ Tryz.sY) rfl ⟨rfl, grown_new (grown_new (grown_drew hg) p4.g (by omega)) p5.g (by omega)⟩
end Go.Proofs.YtkijpphmiogbbaaGreatDoor.Z

namespace Go.Proofs.YtkijpphmiogbbaaGreatDoor.Z
open Go.RowKit
attribute [local go_sem ↓] Go.wp_at_zero Go.wp_at_succ

/-- The document's set of no name. -/
abbrev sg0 : Sg := ⟨0, 0, 0, 0, 0, 0, 0, 0⟩
theorem res_sg {P : Program} {fn : Func} {p s : Tmp} {ty : TypeId} (h : fn.results = #[.cell p ty, .tmp s]) (tmps : Array Value) (w : World) (b : Nat) (g : Sg) (v : Value)
    (hp : tmps.getD p undef = .pointer (some ⟨b, 0, none⟩)) (hs : tmps.getD s undef = v) (h0 : SgAt w b g)
    (hu : ∃ d, P.underlying ty = some d ∧ d.isRow = true) (hi : (P.info? ty).map (·.size) = some 8) :
    (results fn tmps).run P w = .ok (.tuple #[sgV g, v]) w := by
  have hp' : tmps[p]?.getD undef = .pointer (some ⟨b, 0, none⟩) := by simpa using hp
  have hs' : tmps[s]?.getD undef = v := by simpa using hs
  obtain ⟨d, hu, hd⟩ := hu
  have hl := run_loadVar_mid (P := P) w b 0 ty [.int .i64 g.k, .int .i64 g.l, .int .i64 g.e, .int .i64 g.c, .int .i64 g.g, .int .i64 g.t, .int .i64 g.a, .int .i64 g.o] d h0.range hu hd hi
  simp [results, h, hp', hs', asAddr, hl, sgV]
set_option maxHeartbeats 400000 in
theorem rset_44 (w : World) : Calls Tryz.prog 64 #[.int .i64 44] w fun e w' => e = .returned (.tuple #[sgV ⟨4, 4, 2, 131072, 95232, 39, 128, 80⟩, .bool true]) ∧ w.grownBy w' none := by
  go_enter Tryz.func64, Tryz.ntmps64
  go_wp2
  exact bodyPost_ret (res_sg rfl _ _ w.heap.size ⟨4, 4, 2, 131072, 95232, 39, 128, 80⟩ _ rfl rfl (sgAt_new w ⟨4, 4, 2, 131072, 95232, 39, 128, 80⟩) ⟨_, Tryz.underlying102, rfl⟩ (by kernel_rfl)) rfl ⟨rfl, World.grownBy_alloc _ _ _⟩
set_option maxHeartbeats 400000 in
theorem rset_65 (w : World) : Calls Tryz.prog 64 #[.int .i64 65] w fun e w' => e = .returned (.tuple #[sgV ⟨6, 5, 4, 524288, 261888, 49, 192, 55⟩, .bool true]) ∧ w.grownBy w' none := by
  go_enter Tryz.func64, Tryz.ntmps64
  go_wp2
  exact bodyPost_ret (res_sg rfl _ _ w.heap.size ⟨6, 5, 4, 524288, 261888, 49, 192, 55⟩ _ rfl rfl (sgAt_new w ⟨6, 5, 4, 524288, 261888, 49, 192, 55⟩) ⟨_, Tryz.underlying102, rfl⟩ (by kernel_rfl)) rfl ⟨rfl, World.grownBy_alloc _ _ _⟩
set_option maxHeartbeats 400000 in
theorem rset_87 (w : World) : Calls Tryz.prog 64 #[.int .i64 87] w fun e w' => e = .returned (.tuple #[sgV ⟨8, 7, 2, 524288, 261888, 60, 256, 75⟩, .bool true]) ∧ w.grownBy w' none := by
  go_enter Tryz.func64, Tryz.ntmps64
  go_wp2
  exact bodyPost_ret (res_sg rfl _ _ w.heap.size ⟨8, 7, 2, 524288, 261888, 60, 256, 75⟩ _ rfl rfl (sgAt_new w ⟨8, 7, 2, 524288, 261888, 60, 256, 75⟩) ⟨_, Tryz.underlying102, rfl⟩ (by kernel_rfl)) rfl ⟨rfl, World.grownBy_alloc _ _ _⟩
set_option maxHeartbeats 400000 in
theorem rset_none (n : Int) (h1 : (n == 44) = false) (h2 : (n == 65) = false) (h3 : (n == 87) = false) (w : World) : Calls Tryz.prog 64 #[.int .i64 n] w fun e w' => e = .returned (.tuple #[sgV sg0, .bool false]) ∧ w.grownBy w' none := by
  go_enter Tryz.func64, Tryz.ntmps64
  go_wp2
  exact bodyPost_ret (res_sg rfl _ _ w.heap.size sg0 _ rfl rfl (sgAt_new w sg0) ⟨_, Tryz.underlying102, rfl⟩ (by kernel_rfl)) rfl ⟨rfl, World.grownBy_alloc _ _ _⟩
/-- The document's SignSet at a set that has a name. -/
theorem rset_any (n : Int) (s : Sg) (w : World) (h : IsSg n s) : Calls Tryz.prog 64 #[.int .i64 n] w fun e w' => e = .returned (.tuple #[sgV s, .bool true]) ∧ w.grownBy w' none := by
  obtain ⟨rfl, rfl⟩ | ⟨rfl, rfl⟩ | ⟨rfl, rfl⟩ := h
  · exact rset_44 w
  · exact rset_65 w
  · exact rset_87 w
end Go.Proofs.YtkijpphmiogbbaaGreatDoor.Z
