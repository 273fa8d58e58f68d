/- slot's reference: rows appended; All, Settle. -/
import Derived.Test.YtcfnhilcpfiocaaSud
import Derived.OwnWalk
namespace Go.Proofs.Ytcfnhilcpfiocaa
open Go.RowKit Go.Shelf Go.ChangeMaps Go.MapKept

theorem und_sr : Try.prog.underlying 29 = some (.slice 59) := by kernel_rfl
theorem infoRw : (Try.prog.info? 59).map (fun i => (i.zero, i.size, i.bytes)) = some (some (.agg #[.int .u64 0, .int .u64 0, .int .u64 0, .int .u64 0, .int .u64 0, .int .u64 0, .int .u64 0, .int .u64 0, .int .u64 0, .int .u64 0, .int .u64 0, .int .u64 0, .int .u64 0, .int .u64 0]), 14, 112) := by kernel_rfl
theorem new_cells (X : World) (t : TypeId) (cs : Array Value) : ∀ j u, cs.toList[j]? = some u → (X.alloc (.cells cs t)).cell? ((⟨X.heap.size, 0, none⟩ : Addr).add j) = some u := fun j u hj => by
  rw [Go.WideShapes.add_plain, Nat.zero_add, cell_of_row _ _ j _ _ _ (Blk.new X t cs), ← Array.getElem?_toList, hj]
theorem rv_one (r : Rw) : ∀ u ∈ (rvA r).toList, u.oneCell' = true := fun u hu => by
  simp only [List.mem_cons, List.not_mem_nil, or_false] at hu
  rcases hu with rfl | rfl | rfl | rfl | rfl | rfl | rfl | rfl | rfl | rfl | rfl | rfl | rfl | rfl <;> rfl
theorem rvs_snoc (l : List Rw) (r : Rw) : rvs l ++ (rvA r).toList = rvs (l ++ [r]) := by rw [← rvs_app]; congr 1
theorem neqVal_R (v u : Nat × Nat) (hv : okP v) (hu : okP u) (w : World) : (binOp .neq 36 (vP v) (vP u)).run Try.prog w = .ok (.bool (!decide (v = u))) w := by
  have h := eqVal_any v u hv hu w
  rw [run_eql_struct] at h
  rw [run_neq_struct]
  generalize (Op.equalIn 10000 36 (.agg (vA v.1 v.2)) (.agg (vA u.1 u.2))).run Try.prog w = r at h ⊢
  cases r with
  | ok b w' =>
    simp only [Result.andThen_ok, Result.ok.injEq, Value.bool.injEq] at h ⊢
    exact ⟨by rw [h.1], h.2⟩
  | halt x w' => cases h
theorem neqZ (v : Nat × Nat) (hv : okP v) (w : World) : (binOp .neq 36 (vP v) (.agg #[.int .u64 0, .int .u64 0, .int .u64 0, .int .u64 0, .int .u64 0])).run Try.prog w = .ok (.bool (!decide (v = Z2))) w := by
  rw [← vP0]; exact neqVal_R v (0, 0) hv okP0 w
theorem world_keptR {w X Y : World} {base n0 : Nat} {e : TypeId} {size : Nat} {v : Value} {n : Nat} {xs : List Value} (h : X.ownsRow base e size v n xs) (hG : X.grownBy Y v.ownBlock) (hb : Below n0 w X) (hn : n0 ≤ w.heap.size) (hn0 : n0 ≤ base) : Below n0 w Y :=
  hb.grown hG (Nat.le_trans hn hb.size) (fun k e => Nat.le_trans hn0 (h.lt k e).1)
theorem OwR.snoc {X : World} {base N : Nat} {v : Value} {l : List Rw} {r : Rw} (hl : ∀ x ∈ l, okR x) (hr : okR r) (hN : l.length = N) (h : X.ownsRow base 59 14 v (N + 1) (rvs l ++ (rvA r).toList)) : OwR X base v (l ++ [r]) :=
  ⟨fun x hx => (List.mem_append.1 hx).elim (hl x) (fun h => by rw [List.mem_singleton.1 h]; exact hr), by rw [List.length_append, hN, ← rvs_snoc]; exact h⟩
/-- All: what has been gone over. -/
theorem all_step {l : List Rw} {k : Nat} {r : Rw} (h : l[k]? = some r) : allL (l.take (k + 1)) = allL (l.take k) ++ (if r.2.1 ≠ Z2 then [r] else []) := by
  unfold allL
  rw [List.take_add_one, h, List.filter_append]
  by_cases e : r.2.1 = Z2 <;> simp [e]
theorem settle_step {l : List Rw} {k : Nat} {r : Rw} (h : l[k]? = some r) : settleL (l.take (k + 1)) = settleL (l.take k) ++ (if r.2.1 ≠ Z2 then [(r.1, r.2.1, r.2.1)] else []) := by
  unfold settleL
  rw [List.take_add_one, h, List.filter_append, List.map_append]
  by_cases e : r.2.1 = Z2 <;> simp [e]
set_option maxRecDepth 100000 in
set_option maxHeartbeats 4000000 in
theorem rall_any (base : Nat) (v : Value) (l : List Rw) (w : World) (h : OwR w base v l) (hll : l.length ≤ 1000) :
    Calls Try.prog 22 #[.agg #[v]] w fun e w' => ∃ u, e = .returned u ∧ OwR w' w.heap.size u (allL l) ∧ Below w.heap.size w w' := by
  obtain ⟨xl, cl, rfl⟩ := h.is
  obtain ⟨N, hN⟩ : ∃ N, l.length = N := ⟨_, rfl⟩
  have HN := Lib.hid hN
  obtain ⟨W1, hW1⟩ : ∃ W1, w.alloc (.cells #[.slice xl N cl] 31) = W1 := ⟨_, rfl⟩
  have hB : Below w.heap.size w W1 := by rw [← hW1]; exact balloc (Below.refl _ _) _
  have b0 : Blk W1 w.heap.size 31 #[.slice xl N cl] := by rw [← hW1]; exact Blk.new _ _ _
  have HA := Lib.hid (And.intro (h.keep hB) (And.intro hB b0))
  have HW := Lib.hid hW1
  rw [hN] at hll ⊢
  clear h hB b0 hW1 hN
  obtain ⟨i0, hi, hz0, hz1, hz2⟩ := info_parts' infoRw
  have HI := Lib.hid (And.intro hi (And.intro hz0 (And.intro hz1 hz2)))
  clear hi hz0 hz1 hz2
  go_enter Try.func22, Try.ntmps22
  go_upto_region 1 with fail
  rw [HW.out]
  go_wp2_with fail
  go_loopw [3, 4] (fun u t wr => ∃ k : Nat, t = .int .i64 k ∧ k ≤ N ∧ OwR wr W1.heap.size u (allL (l.take k)) ∧ Below W1.heap.size W1 wr) (fun _ t _ => N - (intOf t).toNat)
  case atStart => exact ⟨0, rfl, Nat.zero_le _, OwR.nil _ _, Below.refl _ _⟩
  case round =>
    obtain ⟨k, rfl, hk, how, hbl⟩ := hrel
    have cS : wr.cell? ⟨w.heap.size, 0, none⟩ = some (.slice xl N cl) := cell_of_row _ _ 0 _ _ _ (HA.out.2.2.keep hbl)
    by_cases hlt : k < N
    · have g0 : (k : Int) < (N : Int) := by omega
      have g1 : (0 : Int) ≤ (k : Int) := by omega
      have g2 : IntKind.i64.wrap ((k : Int) + 1) = ((k + 1 : Nat) : Int) := IntWalk.i64_in _ (by omega)
      obtain ⟨r, hr⟩ : ∃ r, l[k]? = some r := ⟨_, List.getElem?_eq_getElem (by rw [HN.out]; exact hlt)⟩
      obtain ⟨b, o, c2, e, hbl1, hcell⟩ := HA.out.1.at hr
      injection e with e1 e2 e3
      subst e1
      have hcl : ∀ j, j < 14 → wr.cell? ⟨b, o + k * 14 + j, none⟩ = (rvA r)[j]? := fun j hj => (hbl.cell (p := ⟨b, o + k * 14 + j, none⟩) hbl1).trans (hcell j hj)
      have d0 : wr.cell? ⟨b, o + k * 14, none⟩ = some (.int .u64 (lb r.1 0)) := hcl 0 (by omega)
      have d1 : wr.cell? ⟨b, o + k * 14 + 1, none⟩ = some (.int .u64 (lb r.1 1)) := hcl 1 (by omega)
      have d2 : wr.cell? ⟨b, o + k * 14 + 2, none⟩ = some (.int .u64 (lb r.1 2)) := hcl 2 (by omega)
      have d3 : wr.cell? ⟨b, o + k * 14 + 3, none⟩ = some (.int .u64 (lb r.1 3)) := hcl 3 (by omega)
      have d4 : wr.cell? ⟨b, o + k * 14 + 4, none⟩ = some (.int .u64 (lb r.2.1.1 0)) := hcl 4 (by omega)
      have d5 : wr.cell? ⟨b, o + k * 14 + 5, none⟩ = some (.int .u64 (lb r.2.1.1 1)) := hcl 5 (by omega)
      have d6 : wr.cell? ⟨b, o + k * 14 + 6, none⟩ = some (.int .u64 (lb r.2.1.1 2)) := hcl 6 (by omega)
      have d7 : wr.cell? ⟨b, o + k * 14 + 7, none⟩ = some (.int .u64 (lb r.2.1.1 3)) := hcl 7 (by omega)
      have d8 : wr.cell? ⟨b, o + k * 14 + 8, none⟩ = some (.int .u64 (r.2.1.2 : Nat)) := hcl 8 (by omega)
      have d9 : wr.cell? ⟨b, o + k * 14 + 9, none⟩ = some (.int .u64 (lb r.2.2.1 0)) := hcl 9 (by omega)
      have d10 : wr.cell? ⟨b, o + k * 14 + 10, none⟩ = some (.int .u64 (lb r.2.2.1 1)) := hcl 10 (by omega)
      have d11 : wr.cell? ⟨b, o + k * 14 + 11, none⟩ = some (.int .u64 (lb r.2.2.1 2)) := hcl 11 (by omega)
      have d12 : wr.cell? ⟨b, o + k * 14 + 12, none⟩ = some (.int .u64 (lb r.2.2.1 3)) := hcl 12 (by omega)
      have d13 : wr.cell? ⟨b, o + k * 14 + 13, none⟩ = some (.int .u64 (r.2.2.2 : Nat)) := hcl 13 (by omega)
      have hok := HA.out.1.1 r (List.mem_of_getElem? hr)
      have hnz := neqZ r.2.1 hok.2.1
      have hst := all_step hr
      obtain ⟨M, hM⟩ : ∃ M, (allL (l.take k)).length = M := ⟨_, rfl⟩
      have hMk : M ≤ k := by rw [← hM]; unfold allL; exact Nat.le_trans (List.length_filter_le _ _) (List.length_take_le _ _)
      have hown := how.2
      rw [hM] at hown
      have HR := Lib.hid (And.intro hok (And.intro how (And.intro hbl (And.intro hM hMk))))
      clear hcl hcell hr hok e2 e3 how hbl1 hM hMk
      obtain ⟨vo, hvo⟩ : ∃ vo, u3 = vo := ⟨_, rfl⟩
      rw [hvo] at hown HR ⊢
      clear hvo
      by_cases hz : r.2.1 = Z2
      · rw [if_neg (by simp [hz]), List.append_nil] at hst
        rw [decide_eq_true hz] at hnz
        have HZ := Lib.hid (And.intro hst hz)
        clear hst hz hown hbl
        go_wp2_with fail
        go_roundw
        case rel => exact ⟨k + 1, rfl, by omega, by rw [HZ.out.1]; exact HR.out.2.1, HR.out.2.2.1⟩
        case measure => simp [intOf]; omega
      · rw [if_pos hz] at hst
        rw [decide_eq_false hz] at hnz
        have HZ := Lib.hid (And.intro hst hz)
        obtain ⟨hi, hz0, hz1, hz2⟩ := HI.out
        have hu := und_sr
        have hsz := hbl.size
        clear hst hz hbl
        go_wp2_with (first
          | (at_builtin; refine wpList_append_own _ rfl _ _ 29 rfl W1.heap.size 59 i0 (.agg #[.int .u64 0, .int .u64 0, .int .u64 0, .int .u64 0, .int .u64 0, .int .u64 0, .int .u64 0, .int .u64 0, .int .u64 0, .int .u64 0, .int .u64 0, .int .u64 0, .int .u64 0, .int .u64 0]) 14 112 hu hi hz0 hz1 hz2 rfl (by decide) _ _ _ rfl (hown.alloc _) ⟨wr.heap.size, 0, none⟩ 1 1 (rvA r).toList rfl rfl (new_cells wr _ (rvA r)) (rv_one r) ?c3 ?c4 ?c5 ?_)
          | fail)
        case c3 => unfold maxLen; have := HR.out.2.2.2.2; omega
        case c4 => have := HR.out.2.2.2.2; omega
        case c5 => simp; omega
        intro v2 z2 hown2 hgrow _
        have hB2 := world_keptR (hown.alloc _) hgrow (balloc HR.out.2.2.1 _) (Nat.le_refl _) (Nat.le_refl _)
        have hO2 := OwR.snoc HR.out.2.1.1 HR.out.1 HR.out.2.2.2.1 hown2
        have H2 := Lib.hid (And.intro hO2 hB2)
        clear hown hown2 hgrow hB2 hO2 hi hz0 hz1 hz2 hu
        go_wp2_with fail
        go_roundw
        case rel => exact ⟨k + 1, rfl, by omega, by rw [HZ.out.1]; exact H2.out.1, H2.out.2⟩
        case measure => simp [intOf]; omega
    · obtain rfl : k = N := by omega
      have g0 : ¬ (k : Int) < (k : Int) := by omega
      rw [List.take_of_length_le (by rw [HN.out]; exact Nat.le_refl _)] at how
      have HE := Lib.hid (And.intro (show OwR wr w.heap.size u3 (allL l) from ⟨how.1, how.2.mono HA.out.2.1.size⟩) (HA.out.2.1.trans (hbl.mono HA.out.2.1.size)))
      clear how hbl hlt hk
      go_wp2_with fail
      exact bodyPost_ret (R := fun e w' => ∃ u, e = .returned u ∧ OwR w' w.heap.size u (allL l) ∧ Below w.heap.size w w') (by simp [results, Try.results22, go_sem]) rfl ⟨_, rfl, HE.out⟩
end Go.Proofs.Ytcfnhilcpfiocaa
