/- digest: the reference's Round. -/
import Derived.Test.YtfknfopdinkmkaaKu
import Derived.Test.YtfknfopdinkmkaaKe
namespace Go.Proofs.Ytfknfopdinkmkaa
open Go.RowKit
attribute [local go_sem] uv_xor uv_and uv_or uv_not uv_not'
attribute [local irreducible] ln rot
def cF (f : Nat → Ln) : Nat → Nat → Ln
  | 0 => fun _ => 0#64
  | k + 1 => upd (cF f k) (k % 5) (cF f k (k % 5) ^^^ f k)
theorem cF_all (f : Nat → Ln) : ∀ x, x < 5 → cF f 25 x = par f x := fun x hx => by
  rcases (show x = 0 ∨ x = 1 ∨ x = 2 ∨ x = 3 ∨ x = 4 by omega) with rfl | rfl | rfl | rfl | rfl <;> simp [cF, upd, par]
def thQ (f : Nat → Ln) (k : Nat) : Nat → Ln := fun i => if i < k then theta f i else f i
theorem thQ_zero (f : Nat → Ln) : thQ f 0 = f := by funext i; unfold thQ; rw [if_neg (by omega)]
theorem thQ_step (f : Nat → Ln) (k : Nat) : upd (thQ f k) k (f k ^^^ par f ((k + 4) % 5) ^^^ rot (par f ((k + 1) % 5)) 1) = thQ f (k + 1) := by
  funext i; unfold upd thQ
  by_cases e : i = k
  · subst e; rw [if_pos rfl, if_pos (by omega)]; unfold theta; rw [BitVec.xor_assoc]
  · rw [if_neg e]
    by_cases h : i < k
    · rw [if_pos h, if_pos (by omega)]
    · rw [if_neg h, if_neg (by omega)]
def chQ (f : Nat → Ln) (k : Nat) : Nat → Ln := fun i => if i < k then chi f i else 0#64
theorem chQ_zero (f : Nat → Ln) : chQ f 0 = fun _ => 0#64 := by funext i; unfold chQ; rw [if_neg (by omega)]
theorem chQ_step (f : Nat → Ln) (k : Nat) : upd (chQ f k) k (f k ^^^ (~~~ f (k / 5 * 5 + (k + 1) % 5) &&& f (k / 5 * 5 + (k + 2) % 5))) = chQ f (k + 1) := by
  funext i; unfold upd chQ
  by_cases e : i = k
  · subst e; rw [if_pos rfl, if_pos (by omega)]; rfl
  · rw [if_neg e]
    by_cases h : i < k
    · rw [if_pos h, if_pos (by omega)]
    · rw [if_neg h, if_neg (by omega)]
theorem rnd_fin (r : Nat) (f : Nat → Ln) : EqOn (upd (chQ (plF (thQ f 25) 24) 25) 0 (chQ (plF (thQ f 25) 24) 25 0 ^^^ rcv r)) (rnd r f) := by
  have h0 : EqOn (thQ f 25) (theta f) := fun i hi => by unfold thQ; rw [if_pos hi]
  have h1 : EqOn (chQ (plF (thQ f 25) 24) 25) (chi (rhopi (theta f))) := EqOn.trans (fun i hi => by unfold chQ; rw [if_pos hi]) (chi_on ((plF_all _).trans (rhopi_on h0)))
  intro i hi
  unfold rnd iota upd
  by_cases e : i = 0
  · subst e; rw [if_pos rfl, if_pos rfl, h1 0 (by omega)]
  · rw [if_neg e, if_neg e, h1 i hi]
theorem z5' : Fc 5 (fun _ => 0#64) = #[.int .u64 0, .int .u64 0, .int .u64 0, .int .u64 0, .int .u64 0] := by kernel_rfl
theorem z25' : Fc 25 (fun _ => 0#64) = #[.int .u64 0, .int .u64 0, .int .u64 0, .int .u64 0, .int .u64 0, .int .u64 0, .int .u64 0, .int .u64 0, .int .u64 0, .int .u64 0, .int .u64 0, .int .u64 0, .int .u64 0, .int .u64 0, .int .u64 0, .int .u64 0, .int .u64 0, .int .u64 0, .int .u64 0, .int .u64 0, .int .u64 0, .int .u64 0, .int .u64 0, .int .u64 0, .int .u64 0] := by kernel_rfl

set_option maxRecDepth 100000 in
set_option maxHeartbeats 8000000 in
theorem rround_any (f : Nat → Ln) (r : Nat) (hr : r < 24) (w : World) :
    Calls Try.prog 24 #[.agg (Fc 25 f), .int .i64 r] w fun e w' => e = .returned (.agg (Fc 25 (rnd r f))) ∧ Below w.heap.size w w' := by
  have Z5 := Lib.hid z5'
  have Z25 := Lib.hid z25'
  go_enter Try.func24, Try.ntmps24
  go_wp2_with fail
  rw [← Z25.out, ← Z5.out]
  have hS : Blk (((w.alloc (.cells (Fc 25 f) 42)).alloc (.cells (Fc 25 (fun _ => 0#64)) 42)).alloc (.cells (Fc 5 (fun _ => 0#64)) 73)) w.heap.size 42 (Fc 25 f) := ((Blk.new w _ _).alloc _).alloc _
  have hR : Blk (((w.alloc (.cells (Fc 25 f) 42)).alloc (.cells (Fc 25 (fun _ => 0#64)) 42)).alloc (.cells (Fc 5 (fun _ => 0#64)) 73)) (w.heap.size + 1) 42 (Fc 25 (fun _ => 0#64)) := (Blk.newS w _ _ _).alloc _
  have hC : Blk (((w.alloc (.cells (Fc 25 f) 42)).alloc (.cells (Fc 25 (fun _ => 0#64)) 42)).alloc (.cells (Fc 5 (fun _ => 0#64)) 73)) (w.heap.size + 1 + 1) 73 (Fc 5 (fun _ => 0#64)) := by
    have h := Blk.newS (w.alloc (.cells (Fc 25 f) 42)) (.cells (Fc 25 (fun _ => 0#64)) 42) 73 (Fc 5 (fun _ => 0#64))
    rwa [World.size_alloc] at h
  have hW := balloc (balloc (balloc (Below.refl w.heap.size w) (.cells (Fc 25 f) 42)) (.cells (Fc 25 (fun _ => 0#64)) 42)) (.cells (Fc 5 (fun _ => 0#64)) 73)
  have HX := Lib.hid (And.intro hS (And.intro hR (And.intro hC hW)))
  clear hS hR hC hW
  go_loopw [6] (fun i wr => ∃ k : Nat, k ≤ 25 ∧ i = .int .i64 (k : Int) ∧ Blk wr w.heap.size 42 (Fc 25 f) ∧ Blk wr (w.heap.size + 1) 42 (Fc 25 (fun _ => 0#64)) ∧ Blk wr (w.heap.size + 1 + 1) 73 (Fc 5 (cF f k)) ∧ Below w.heap.size w wr) (fun i _ => 25 - (intOf i).toNat)
  case atStart => exact ⟨0, by omega, rfl, HX.out⟩
  case round =>
    clear HX
    obtain ⟨k, hk, rfl, hS, hR, hC, hW⟩ := hrel
    by_cases hlt : k < 25
    · have d2 : (k : Int).tmod 5 = ((k % 5 : Nat) : Int) := rfl
      obtain ⟨m, hm⟩ : ∃ m, k % 5 = m := ⟨_, rfl⟩
      rw [hm] at d2
      have hst : cF f (k + 1) = upd (cF f k) m (cF f k m ^^^ f k) := by rw [← hm]; rfl
      have hm5 : m < 5 := by omega
      have hmI : (m : Int) < 5 := by omega
      have hkI : (k : Int) < 25 := by omega
      have dm : IntKind.i64.wrap (m : Int) = (m : Int) := IntWalk.i64_in _ (by omega)
      have HX := Lib.hid (And.intro hS (And.intro hR (And.intro hC hW)))
      have HS := Lib.hid hst
      clear hS hR hC hW hst hm
      go_wp2_with fail
      refine region_tail 11 (by kernel_rfl) (by kernel_rfl) (fun wd hwd => ?_)
      simp only [List.take_succ_cons, List.take_zero, List.drop_succ_cons, List.drop_zero]
      have HY : Hid (Blk wd w.heap.size 42 (Fc 25 f) ∧ Blk wd (w.heap.size + 1) 42 (Fc 25 (fun _ => 0#64)) ∧ Blk wd (w.heap.size + 1 + 1) 73 (Fc 5 (cF f k)) ∧ Below w.heap.size w wd) := Lib.hid (by rw [hwd]; exact ⟨HX.out.1, HX.out.2.1, HX.out.2.2.1, below_drew' HX.out.2.2.2⟩)
      clear hwd HX
      have c1 := (cell_of_row _ _ m _ _ _ HY.out.2.2.1).trans (Fc_get 5 _ m hm5)
      have f1 := frozen_of_row _ _ m _ _ HY.out.2.2.1
      have c2 := (cell_of_row _ _ k _ _ _ HY.out.1).trans (Fc_get 25 _ k hlt)
      repeat still_step
      refine wpStill_nil ?_
      go_wp2_with fail
      obtain ⟨hS, hR, hC, hW⟩ := HY.out
      have hT := heap_setCell_same wd (w.heap.size + 1 + 1) m _ _ (uv (cF f k m ^^^ f k)) hC
      rw [Fc_set _ _ _ _ hm5, ← HS.out] at hT
      have hG := grown_set' (grown_refl wd (w.heap.size + 1 + 1)) m (uv (cF f k m ^^^ f k))
      exact ⟨⟨k + 1, by omega, by go_num, hS.kept hG (fun e => by injection e; omega), hR.kept hG (fun e => by injection e; omega), hT, step_world hW hG (Nat.le_refl _) (by omega)⟩, by simp [intOf]; omega⟩
    · obtain rfl : k = 25 := by omega
      rw [Fc_congr (f := cF f 25) (g := par f) (cF_all f)] at hC
      rw [show ((25 : Nat) : Int) = 25 from rfl]
      have HX := Lib.hid (And.intro hS (And.intro hR (And.intro hC hW)))
      clear hS hR hC hW
      go_wp2_with fail
      go_loopw [7] (fun i wr => ∃ k : Nat, k ≤ 25 ∧ i = .int .i64 (k : Int) ∧ Blk wr w.heap.size 42 (Fc 25 (thQ f k)) ∧ Blk wr (w.heap.size + 1) 42 (Fc 25 (fun _ => 0#64)) ∧ Blk wr (w.heap.size + 1 + 1) 73 (Fc 5 (par f)) ∧ Below w.heap.size w wr) (fun i _ => 25 - (intOf i).toNat)
      case atStart => exact ⟨0, by omega, rfl, by rw [thQ_zero]; exact HX.out.1, HX.out.2⟩
      case round =>
        clear HX
        obtain ⟨k, hk, rfl, hS, hR, hC, hW⟩ := hrel
        by_cases hlt : k < 25
        · have d4 : ((k : Int) + 4).tmod 5 = (((k + 4) % 5 : Nat) : Int) := by rw [show (k : Int) + 4 = ((k + 4 : Nat) : Int) by omega]; rfl
          have d1 : ((k : Int) + 1).tmod 5 = (((k + 1) % 5 : Nat) : Int) := by rw [show (k : Int) + 1 = ((k + 1 : Nat) : Int) by omega]; rfl
          have hst := thQ_step f k
          obtain ⟨m4, hm4⟩ : ∃ m, (k + 4) % 5 = m := ⟨_, rfl⟩
          obtain ⟨m1, hm1⟩ : ∃ m, (k + 1) % 5 = m := ⟨_, rfl⟩
          rw [hm4] at d4 hst
          rw [hm1] at d1 hst
          have g4 : m4 < 5 := by omega
          have g1 : m1 < 5 := by omega
          have i4 : (m4 : Int) < 5 := by omega
          have i1 : (m1 : Int) < 5 := by omega
          have hkI : (k : Int) < 25 := by omega
          have e4 : IntKind.i64.wrap ((k : Int) + 4) = (k : Int) + 4 := IntWalk.i64_in _ (by omega)
          have e1 : IntKind.i64.wrap ((k : Int) + 1) = (k : Int) + 1 := IntWalk.i64_in _ (by omega)
          have w4 : IntKind.i64.wrap (m4 : Int) = (m4 : Int) := IntWalk.i64_in _ (by omega)
          have w1 : IntKind.i64.wrap (m1 : Int) = (m1 : Int) := IntWalk.i64_in _ (by omega)
          have HX := Lib.hid (And.intro hS (And.intro hR (And.intro hC hW)))
          have HS := Lib.hid hst
          clear hS hR hC hW hst hm4 hm1
          go_wp2_with fail
          refine region_tail 18 (by kernel_rfl) (by kernel_rfl) (fun wd hwd => ?_)
          simp only [List.take_succ_cons, List.take_zero, List.drop_succ_cons, List.drop_zero]
          have HY : Hid (Blk wd w.heap.size 42 (Fc 25 (thQ f k)) ∧ Blk wd (w.heap.size + 1) 42 (Fc 25 (fun _ => 0#64)) ∧ Blk wd (w.heap.size + 1 + 1) 73 (Fc 5 (par f)) ∧ Below w.heap.size w wd) := Lib.hid (by rw [hwd]; exact ⟨HX.out.1, HX.out.2.1, HX.out.2.2.1, below_drew' HX.out.2.2.2⟩)
          clear hwd HX
          have hv : thQ f k k = f k := by unfold thQ; rw [if_neg (by omega)]
          have c0 := (cell_of_row _ _ k _ _ _ HY.out.1).trans (Fc_get 25 _ k hlt)
          rw [hv] at c0
          have f0 := frozen_of_row _ _ k _ _ HY.out.1
          have c4 := (cell_of_row _ _ m4 _ _ _ HY.out.2.2.1).trans (Fc_get 5 _ m4 g4)
          have c1 := (cell_of_row _ _ m1 _ _ _ HY.out.2.2.1).trans (Fc_get 5 _ m1 g1)
          clear hv
          repeat still_step
          still_call (rturned_any (par f m1) 1 (by omega) _).mono (fun _ _ h => ⟨h.1, h.2.symm⟩)
          repeat still_step
          refine wpStill_nil ?_
          go_wp2_with fail
          obtain ⟨hS, hR, hC, hW⟩ := HY.out
          have hT := heap_setCell_same wd w.heap.size k _ _ (uv (f k ^^^ par f m4 ^^^ rot (par f m1) 1)) hS
          rw [Fc_set _ _ _ _ hlt, HS.out] at hT
          have hG := grown_set' (grown_refl wd w.heap.size) k (uv (f k ^^^ par f m4 ^^^ rot (par f m1) 1))
          exact ⟨⟨k + 1, by omega, by go_num, hT, hR.kept hG (fun e => by injection e; omega), hC.kept hG (fun e => by injection e; omega), step_world hW hG (Nat.le_refl _) (by omega)⟩, by simp [intOf]; omega⟩
        · obtain rfl : k = 25 := by omega
          rw [show ((25 : Nat) : Int) = 25 from rfl]
          obtain ⟨th, hth⟩ : ∃ th, thQ f 25 = th := ⟨_, rfl⟩
          rw [hth] at hS
          have HTH := Lib.hid hth
          have HX := Lib.hid (And.intro hS (And.intro hR hW))
          clear hR hC hW hth
          go_upto_region 10 with fail
          refine wp_region_lit (wpList_load_mid rfl 42 (.tmp 2) rfl w.heap.size 0 rfl (Fc 25 th).toList _ hS.rangeAt und25 rfl (by rw [info25]; show some 25 = some (Fc 25 th).size; rw [Fc_size]) ?_)
          refine wpList_plain rfl fun K hK => ?_
          go_simp
          refine hK _ _ ?_
          clear hK K hS
          rw [← Z25.out]
          refine wpList_store_row rfl 42 (.tmp 8) (.tmp 54) rfl wr.heap.size (Fc 25 th) rfl (by simp [Act.eval]) 42 (Fc 25 (fun _ => 0#64)) (Blk.new wr _ _) (by rw [info25, Fc_size]) (by rw [Fc_size, Fc_size]) (Fc_one _ _) (wpList_nil ?_)
          rw [World.setRow_alloc_new]
          obtain ⟨hS, hR, hW⟩ := HX.out
          have hS1 := hS.alloc (.cells (Fc 25 th) 42)
          have hR1 := hR.alloc (.cells (Fc 25 th) 42)
          have hO1 := Blk.new wr 42 (Fc 25 th)
          have hW1 := balloc hW (.cells (Fc 25 th) 42)
          have hlo := hR.lt
          obtain ⟨w2, hw2⟩ : ∃ w2, wr.alloc (.cells (Fc 25 th) 42) = w2 := ⟨_, rfl⟩
          rw [hw2] at hS1 hR1 hO1 hW1 ⊢
          clear hw2 hS hR hW HX
          generalize wr.heap.size = go at hO1 hlo ⊢
          have HX := Lib.hid (And.intro hS1 (And.intro hR1 (And.intro hO1 hW1)))
          clear hS1 hR1 hO1 hW1
          go_wp2_with fail
          go_loopw [9, 10, 11] (fun x y i wr => ∃ t a b : Nat, t ≤ 24 ∧ i = .int .i64 (t : Int) ∧ x = .int .i64 (a : Int) ∧ y = .int .i64 (b : Int) ∧ pxy t = (a, b) ∧ Blk wr w.heap.size 42 (Fc 25 th) ∧ Blk wr (w.heap.size + 1) 42 (Fc 25 (fun _ => 0#64)) ∧ Blk wr go 42 (Fc 25 (plF th t)) ∧ Below w.heap.size w wr) (fun _ _ i _ => 24 - (intOf i).toNat)
          case atStart => exact ⟨0, 1, 0, by omega, rfl, rfl, rfl, rfl, HX.out⟩
          case round =>
            clear HX
            obtain ⟨t, a, b, ht, rfl, rfl, rfl, hab, hS, hR, hO, hW⟩ := hrel
            by_cases ht4 : t < 24
            · have hp := pxy_lt t
              rw [hab] at hp
              obtain ⟨ha, hb⟩ := hp
              obtain ⟨c, hc⟩ : ∃ c, (2 * a + 3 * b) % 5 = c := ⟨_, rfl⟩
              have hab2 : pxy (t + 1) = (b, c) := by rw [← hc]; show ((pxy t).2, (2 * (pxy t).1 + 3 * (pxy t).2) % 5) = _; rw [hab]
              have hpi : pix (t + 1) = b + 5 * c := by unfold pix; rw [hab2]
              have hpi0 : pix t = a + 5 * b := by unfold pix; rw [hab]
              have hcl : c < 5 := by omega
              have cS := (cell_of_row _ _ (a + 5 * b) _ _ _ hS).trans (Fc_get 25 _ _ (by omega))
              have cO := (cell_of_row _ _ (b + 5 * c) _ _ _ hO).trans (Fc_get 25 _ _ (by omega))
              have fO := frozen_of_row _ _ (b + 5 * c) _ _ hO
              obtain ⟨q, hq⟩ : ∃ q, (t + 1) * (t + 2) / 2 = q := ⟨_, rfl⟩
              obtain ⟨pr, hpr⟩ : ∃ pr, (t + 1) * (t + 2) = pr := ⟨_, rfl⟩
              have hprb : pr ≤ 600 := by
                rw [← hpr]
                have : (t + 1) * (t + 2) ≤ 24 * 25 := Nat.mul_le_mul (by omega) (by omega)
                omega
              have hq2 : pr / 2 = q := by rw [← hpr]; exact hq
              have k1 : IntKind.i64.wrap ((t : Int) + 1) = (t : Int) + 1 := IntWalk.i64_in _ (by omega)
              have k2 : IntKind.i64.wrap ((t : Int) + 2) = (t : Int) + 2 := IntWalk.i64_in _ (by omega)
              have k3 : IntKind.i64.wrap (((t : Int) + 1) * ((t : Int) + 2)) = (pr : Int) := by
                rw [show ((t : Int) + 1) * ((t : Int) + 2) = (pr : Int) by rw [← hpr]; simp]; exact IntWalk.i64_in _ (by omega)
              have k4 : (pr : Int).tdiv 2 = (q : Int) := by rw [← hq2]; rfl
              have k4' : (pr : Int) / 2 = (q : Int) := by omega
              have k5 : IntKind.i64.wrap (q : Int) = (q : Int) := IntWalk.i64_in _ (by omega)
              have c1 : (2 * (a : Int) + 3 * (b : Int)) % 5 = (c : Int) := by omega
              have c2 : ((b : Int) + 5 * (c : Int)).toNat = b + 5 * c := by omega
              have c3 : ((a : Int) + 5 * (b : Int)).toNat = a + 5 * b := by omega
              have a1 : (a : Int) ≤ 4 := by omega
              have b1 : (b : Int) ≤ 4 := by omega
              have d1 : (c : Int) ≤ 4 := by omega
              have d2 : (b : Int) + 5 * (c : Int) < 25 := by omega
              have d3 : (a : Int) + 5 * (b : Int) < 25 := by omega
              have hql : q < 4611686018427387904 := by omega
              have HE := Lib.hid (And.intro hab2 (And.intro hpi (And.intro hpi0 hq)))
              have HX := Lib.hid (And.intro hS (And.intro hR (And.intro hO hW)))
              clear hS hR hO hW hab2 hpi hpi0 hq hc hpr hq2 hab ha hb hcl
              go_wp2_with fail
              refine (rturned_any (th (a + 5 * b)) q hql _).mono ?_
              rintro e wk ⟨rfl, rfl⟩
              obtain ⟨hab2, hpi, hpi0, hq⟩ := HE.out
              obtain ⟨hS, hR, hO, hW⟩ := HX.out
              have hT := heap_setCell_same wr go (b + 5 * c) _ _ (uv (rot (th (a + 5 * b)) (q % 64))) hO
              rw [Fc_set _ _ _ _ (by omega), ← hpi, ← hpi0, ← hq] at hT
              have hG := grown_set' (grown_refl wr go) (b + 5 * c) (uv (rot (th (a + 5 * b)) (q % 64)))
              have HZ := Lib.hid (show pxy (t + 1) = (b, c) ∧ Blk (wr.setCell ⟨go, b + 5 * c, none⟩ (uv (rot (th (a + 5 * b)) (q % 64)))) w.heap.size 42 (Fc 25 th) ∧ Blk (wr.setCell ⟨go, b + 5 * c, none⟩ (uv (rot (th (a + 5 * b)) (q % 64)))) (w.heap.size + 1) 42 (Fc 25 (fun _ => 0#64)) ∧ Blk (wr.setCell ⟨go, b + 5 * c, none⟩ (uv (rot (th (a + 5 * b)) (q % 64)))) go 42 (Fc 25 (plF th (t + 1))) ∧ Below w.heap.size w (wr.setCell ⟨go, b + 5 * c, none⟩ (uv (rot (th (a + 5 * b)) (q % 64)))) from
                ⟨hab2, hS.kept hG (fun e => by injection e; omega), hR.kept hG (fun e => by injection e; omega), by rw [← hpi, ← hpi0, ← hq]; exact hT, step_world hW hG (Nat.le_refl _) (by omega)⟩)
              clear hab2 hpi hpi0 hq hS hR hO hW hT hG HE HX
              go_wp2_with fail
              exact ⟨⟨t + 1, b, c, by omega, by go_num, rfl, rfl, HZ.out⟩, by simp [intOf]; omega⟩
            · obtain rfl : t = 24 := by omega
              rw [show ((24 : Nat) : Int) = 24 from rfl]
              obtain ⟨pl, hpl⟩ : ∃ pl, plF th 24 = pl := ⟨_, rfl⟩
              rw [hpl] at hO
              have HPL := Lib.hid hpl
              have HX := Lib.hid (And.intro hR (And.intro hO hW))
              have hlo2 := hO.lt
              clear hS hR hO hW hpl hab
              go_wp2_with fail
              rw [← Z25.out]
              obtain ⟨hR, hO, hW⟩ := HX.out
              have hR1 := hR.alloc (.cells (Fc 25 (fun _ => 0#64)) 42)
              have hO1 := hO.alloc (.cells (Fc 25 (fun _ => 0#64)) 42)
              have hU1 := Blk.new wr 42 (Fc 25 (fun _ => 0#64))
              have hW1 := balloc hW (.cells (Fc 25 (fun _ => 0#64)) 42)
              obtain ⟨w3, hw3⟩ : ∃ w3, wr.alloc (.cells (Fc 25 (fun _ => 0#64)) 42) = w3 := ⟨_, rfl⟩
              rw [hw3] at hR1 hO1 hU1 hW1 ⊢
              clear hw3 hR hO hW HX Z25 Z5
              generalize wr.heap.size = gu at hU1 hlo2 ⊢
              have HX := Lib.hid (And.intro hR1 (And.intro hO1 (And.intro hU1 hW1)))
              clear hR1 hO1 hU1 hW1
              go_loopw [15] (fun i wr => ∃ k : Nat, k ≤ 25 ∧ i = .int .i64 (k : Int) ∧ Blk wr (w.heap.size + 1) 42 (Fc 25 (fun _ => 0#64)) ∧ Blk wr go 42 (Fc 25 pl) ∧ Blk wr gu 42 (Fc 25 (chQ pl k)) ∧ Below w.heap.size w wr) (fun i _ => 25 - (intOf i).toNat)
              case atStart => exact ⟨0, by omega, rfl, HX.out.1, HX.out.2.1, by rw [chQ_zero]; exact HX.out.2.2.1, HX.out.2.2.2⟩
              case round =>
                clear HX
                obtain ⟨k, hk, rfl, hR, hO, hU, hW⟩ := hrel
                by_cases hlt : k < 25
                · have hst := chQ_step pl k
                  have m1 : ((k : Int) + 1).tmod 5 = (((k + 1) % 5 : Nat) : Int) := by rw [show (k : Int) + 1 = ((k + 1 : Nat) : Int) by omega]; rfl
                  have m2 : ((k : Int) + 2).tmod 5 = (((k + 2) % 5 : Nat) : Int) := by rw [show (k : Int) + 2 = ((k + 2 : Nat) : Int) by omega]; rfl
                  obtain ⟨p1, hp1⟩ : ∃ p, (k + 1) % 5 = p := ⟨_, rfl⟩
                  obtain ⟨p2, hp2⟩ : ∃ p, (k + 2) % 5 = p := ⟨_, rfl⟩
                  obtain ⟨rw', hrw⟩ : ∃ p, k / 5 * 5 = p := ⟨_, rfl⟩
                  rw [hp1] at m1 hst
                  rw [hp2] at m2 hst
                  rw [hrw] at hst
                  have hr1 : rw' + p1 < 25 := by omega
                  have hr2 : rw' + p2 < 25 := by omega
                  have r0 : (k : Int) % 5 = (((k % 5 : Nat)) : Int) := by omega
                  obtain ⟨p0, hp0⟩ : ∃ p, k % 5 = p := ⟨_, rfl⟩
                  rw [hp0] at r0
                  have r1 : (k : Int) - (p0 : Int) = (rw' : Int) := by omega
                  have r2 : IntKind.i64.wrap ((k : Int) - (p0 : Int)) = (rw' : Int) := by rw [r1]; exact IntWalk.i64_in _ (by omega)
                  have w1 : IntKind.i64.wrap ((k : Int) + 1) = (k : Int) + 1 := IntWalk.i64_in _ (by omega)
                  have w2' : IntKind.i64.wrap ((k : Int) + 2) = (k : Int) + 2 := IntWalk.i64_in _ (by omega)
                  have w3' : IntKind.i64.wrap (p1 : Int) = (p1 : Int) := IntWalk.i64_in _ (by omega)
                  have w4' : IntKind.i64.wrap (p2 : Int) = (p2 : Int) := IntWalk.i64_in _ (by omega)
                  have s1 : IntKind.i64.wrap ((rw' : Int) + (p1 : Int)) = (rw' : Int) + (p1 : Int) := IntWalk.i64_in _ (by omega)
                  have s2 : IntKind.i64.wrap ((rw' : Int) + (p2 : Int)) = (rw' : Int) + (p2 : Int) := IntWalk.i64_in _ (by omega)
                  have t1 : ((rw' : Int) + (p1 : Int)).toNat = rw' + p1 := by omega
                  have t2 : ((rw' : Int) + (p2 : Int)).toNat = rw' + p2 := by omega
                  have q1 : (rw' : Int) + (p1 : Int) < 25 := by omega
                  have q2 : (rw' : Int) + (p2 : Int) < 25 := by omega
                  have q3 : 0 ≤ (rw' : Int) + (p1 : Int) := by omega
                  have q4 : 0 ≤ (rw' : Int) + (p2 : Int) := by omega
                  have hkI : (k : Int) < 25 := by omega
                  have HX := Lib.hid (And.intro hR (And.intro hO (And.intro hU hW)))
                  have HS := Lib.hid hst
                  clear hR hO hU hW hst hp0 hp1 hp2 hrw
                  go_wp2_with fail
                  refine region_tail 22 (by kernel_rfl) (by kernel_rfl) (fun wd hwd => ?_)
                  simp only [List.take_succ_cons, List.take_zero, List.drop_succ_cons, List.drop_zero]
                  have HY : Hid (Blk wd (w.heap.size + 1) 42 (Fc 25 (fun _ => 0#64)) ∧ Blk wd go 42 (Fc 25 pl) ∧ Blk wd gu 42 (Fc 25 (chQ pl k)) ∧ Below w.heap.size w wd) := Lib.hid (by rw [hwd]; exact ⟨HX.out.1, HX.out.2.1, HX.out.2.2.1, below_drew' HX.out.2.2.2⟩)
                  clear hwd HX
                  have c0 := (cell_of_row _ _ k _ _ _ HY.out.2.1).trans (Fc_get 25 _ k hlt)
                  have c1 := (cell_of_row _ _ (rw' + p1) _ _ _ HY.out.2.1).trans (Fc_get 25 _ (rw' + p1) hr1)
                  have c2 := (cell_of_row _ _ (rw' + p2) _ _ _ HY.out.2.1).trans (Fc_get 25 _ (rw' + p2) hr2)
                  have cU := (cell_of_row _ _ k _ _ _ HY.out.2.2.1).trans (Fc_get 25 _ k hlt)
                  have fU := frozen_of_row _ _ k _ _ HY.out.2.2.1
                  repeat still_step
                  refine wpStill_nil ?_
                  go_wp2_with fail
                  obtain ⟨hR, hO, hU, hW⟩ := HY.out
                  have hT := heap_setCell_same wd gu k _ _ (uv (pl k ^^^ (~~~ pl (rw' + p1) &&& pl (rw' + p2)))) hU
                  rw [Fc_set _ _ _ _ hlt, HS.out] at hT
                  have hG := grown_set' (grown_refl wd gu) k (uv (pl k ^^^ (~~~ pl (rw' + p1) &&& pl (rw' + p2))))
                  exact ⟨⟨k + 1, by omega, by go_num, hR.kept hG (fun e => by injection e; omega), hO.kept hG (fun e => by injection e; omega), hT, step_world hW hG (Nat.le_refl _) (by omega)⟩, by simp [intOf]; omega⟩
                · obtain rfl : k = 25 := by omega
                  rw [show ((25 : Nat) : Int) = 25 from rfl]
                  have HX := Lib.hid (And.intro hR (And.intro hU hW))
                  clear hR hO hU hW
                  go_wp2_with fail
                  refine region_tail 6 (by kernel_rfl) (by kernel_rfl) (fun wd hwd => ?_)
                  simp only [List.take_succ_cons, List.take_zero, List.drop_succ_cons, List.drop_zero]
                  have HY : Hid (Blk wd (w.heap.size + 1) 42 (Fc 25 (fun _ => 0#64)) ∧ Blk wd gu 42 (Fc 25 (chQ pl 25)) ∧ Below w.heap.size w wd) := Lib.hid (by rw [hwd]; exact ⟨HX.out.1, HX.out.2.1, below_drew' HX.out.2.2⟩)
                  clear hwd HX
                  have cU := (cell_of_row _ _ 0 _ _ _ HY.out.2.1).trans (Fc_get 25 _ 0 (by omega))
                  have fU := frozen_of_row _ _ 0 _ _ HY.out.2.1
                  repeat still_step
                  still_call (rconst_any r hr _).mono (fun _ _ h => ⟨h.1, h.2.symm⟩)
                  repeat still_step
                  refine wpStill_nil ?_
                  go_upto_region 25 with fail
                  obtain ⟨hR, hU, hW⟩ := HY.out
                  have hT := heap_setCell_same wd gu 0 _ _ (uv (chQ pl 25 0 ^^^ rcv r)) hU
                  rw [Fc_set _ _ _ _ (by omega)] at hT
                  have hT : Blk (wd.setCell ⟨gu, 0, none⟩ (uv (chQ pl 25 0 ^^^ rcv r))) gu 42 (Fc 25 (upd (chQ pl 25) 0 (chQ pl 25 0 ^^^ rcv r))) := hT
                  have hG := grown_set' (grown_refl wd gu) 0 (uv (chQ pl 25 0 ^^^ rcv r))
                  have hR2 := hR.kept hG (fun e => by injection e; omega)
                  have hW2 := step_world hW hG (Nat.le_refl _) (by omega)
                  rw [Fc_congr (show ∀ p, p < 25 → upd (chQ pl 25) 0 (chQ pl 25 0 ^^^ rcv r) p = rnd r f p by rw [← HPL.out, ← HTH.out]; exact rnd_fin r f)] at hT
                  obtain ⟨w4, hw4⟩ : ∃ w4, wd.setCell ⟨gu, 0, none⟩ (uv (chQ pl 25 0 ^^^ rcv r)) = w4 := ⟨_, rfl⟩
                  rw [hw4] at hT hR2 hW2 ⊢
                  clear hw4 hR hU hW hG HY cU fU
                  obtain ⟨res, hres⟩ : ∃ res, rnd r f = res := ⟨_, rfl⟩
                  rw [hres] at hT
                  have HRS := Lib.hid hres
                  have hi : (Try.prog.info? 42).map (·.size) = some (Fc 25 res).size := by rw [info25, Fc_size]
                  have ht : w4.there (w.heap.size + 1) 0 (Fc 25 res).size := hR2.there _ (by rw [Fc_size, Fc_size]; exact Nat.le_refl _)
                  have hrr : (loadVar 42 ⟨w.heap.size + 1, 0, none⟩).run Try.prog (w4.setCells (w.heap.size + 1) 0 (Fc 25 res).toList) = .ok (.agg (Fc 25 res)) (w4.setCells (w.heap.size + 1) 0 (Fc 25 res).toList) :=
                    run_loadVar_mid _ _ _ _ (Fc 25 res).toList _ (World.rangeAt_setCells_same _ _ _ _ ht) und25 rfl hi
                  have hB' := below_setCells' (B := w.heap.size) (b := w.heap.size + 1) (by omega) (Fc 25 res).toList 0 w4 hW2
                  refine wp_region_lit (wpList_load_mid rfl 42 (.tmp 14) rfl gu 0 rfl (Fc 25 res).toList _ hT.rangeAt und25 rfl hi ?_)
                  refine wpList_store_mid rfl 42 (.tmp 4) (.tmp 122) rfl (w.heap.size + 1) 0 (Fc 25 res) rfl rfl ht hi (Fc_one _ _) (wpList_nil ?_)
                  clear hT hR2 hW2 ht hi hres
                  generalize w4.setCells (w.heap.size + 1) 0 (Fc 25 res).toList = wz at *
                  go_wp2_with fail
                  exact bodyPost_ret (v := .agg (Fc 25 res)) (by simp [results, Try.results24, Act.put, asAddr, hrr]) rfl ⟨by rw [HRS.out], hB'⟩
end Go.Proofs.Ytfknfopdinkmkaa
