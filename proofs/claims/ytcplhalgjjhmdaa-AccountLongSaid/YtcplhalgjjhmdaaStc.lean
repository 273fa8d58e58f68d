/- slot: likeness of values; looks, counts, what is put into a map. -/
import Derived.Test.YtcplhalgjjhmdaaStb
import Derived.Deep.MidRow
import Derived.Deep.WholeRow
import Derived.RegionTactic
import Derived.Shelf.SlMaps.Clone
namespace Go.Proofs.Ytcplhalgjjhmdaa
open Go.RowKit Go.Shelf Go.ChangeMaps Go.MapKept

theorem cell_heap {X Y : World} {p : Addr} (h : Y.heap[p.block]? = X.heap[p.block]?) : Y.cell? p = X.cell? p := by unfold World.cell?; rw [h]
/-- One block R of n cells alone may be written, and what is new. -/
def HelN (n : Nat) (t : TypeId) (W1 : World) (R : Nat) (w' : World) : Prop := W1.grownBy w' (some R) ∧ ∃ cs, cs.size = n ∧ Blk w' R t cs
def cellV (w' : World) (p : Addr) : Value := (w'.cell? p).getD undef
theorem HelN.cell {n : Nat} {t : TypeId} {W1 w' : World} {R : Nat} (h : HelN n t W1 R w') (k : Nat) (hk : k < n) : w'.cell? ⟨R, k, none⟩ = some (cellV w' ⟨R, k, none⟩) := by
  obtain ⟨_, cs, hs, hb⟩ := h
  have := cell_of_row w' R k _ _ _ hb
  rw [Array.getElem?_eq_getElem (by omega)] at this
  unfold cellV
  rw [this]; rfl
theorem HelN.frozen {n : Nat} {t : TypeId} {W1 w' : World} {R : Nat} (h : HelN n t W1 R w') (k : Nat) : w'.frozen? ⟨R, k, none⟩ = false := by
  obtain ⟨_, cs, hs, hb⟩ := h
  exact frozen_of_row w' R k _ _ hb
theorem HelN.at {n : Nat} {t : TypeId} {W1 w' : World} {R : Nat} {p : Addr} {v : Value} (h : HelN n t W1 R w') (hv : W1.cell? p = some v) (hne : p.block ≠ R) : w'.cell? p = some v := (cell_heap (h.1.block p.block (World.block_lt_of_cell? W1 _ hv) (fun e => hne (Option.some.inj e)))).trans hv
theorem HelN.start {n : Nat} {t : TypeId} {W1 : World} {R : Nat} {cs : Array Value} (hs : cs.size = n) (h : Blk W1 R t cs) : HelN n t W1 R W1.drew := ⟨grown_drew (grown_refl W1 R), cs, hs, h⟩
theorem HelN.call {n : Nat} {t : TypeId} {W1 w' w'' : World} {R : Nat} (k : Below w'.heap.size w' w'') (h : HelN n t W1 R w') : HelN n t W1 R w'' := by
  obtain ⟨hg, cs, hs, hb⟩ := h
  exact ⟨hg.trans (grownSome (grownNone k)), cs, hs, hb.keep k⟩
theorem HelN.set {n : Nat} {t : TypeId} {W1 w' : World} {R : Nat} (h : HelN n t W1 R w') (k : Nat) (v : Value) : HelN n t W1 R (w'.setCell ⟨R, k, none⟩ v) := by
  obtain ⟨hg, cs, hs, hb⟩ := h
  exact ⟨grown_set' hg k v, _, by rw [Array.size_setIfInBounds]; exact hs, heap_setCell_same _ _ _ _ _ v hb⟩
theorem HelN.below {m : Nat} {t : TypeId} {w W1 w' : World} {R n : Nat} (h : HelN m t W1 R w') (hb : Below n w W1) (hn : n ≤ w.heap.size) (hR : n ≤ R) : Below n w w' := step_world hb h.1 hn hR
theorem info_val : (Try.prog.info? 36).map (·.size) = some 5 := by kernel_rfl
theorem ret_val {fn : Func} {p : Tmp} {tmps : Array Value} {X : World} {g n a : Nat} (h : fn.results = #[.cell p 36]) (hp : tmps.getD p undef = .pointer (some ⟨g, 0, none⟩)) (hb : Blk X g 36 (vA n a)) : (results fn tmps).run Try.prog X = .ok (vV n a) X :=
  results_cell_row h _ _ g 36 (vA n a) (0, 0) _ hp hb undva rfl (by rw [info_val]; rfl)
theorem HelN.five {t : TypeId} {W1 w' : World} {R : Nat} (h : HelN 5 t W1 R w') (v0 v1 v2 v3 v4 : Value) : Blk (((((w'.setCell ⟨R, 0, none⟩ v0).setCell ⟨R, 1, none⟩ v1).setCell ⟨R, 2, none⟩ v2).setCell ⟨R, 3, none⟩ v3).setCell ⟨R, 4, none⟩ v4) R t #[v0, v1, v2, v3, v4] := by
  obtain ⟨hg, cs, hs, hb⟩ := h
  obtain ⟨l⟩ := cs
  have hl : l.length = 5 := hs
  obtain ⟨a, b, c, d, e, rfl⟩ : ∃ a b c d e, l = [a, b, c, d, e] := by
    match l, hl with
    | [a, b, c, d, e], _ => exact ⟨a, b, c, d, e, rfl⟩
  have h0 := heap_setCell_same w' R 0 _ _ v0 hb
  have h1 := heap_setCell_same _ R 1 _ _ v1 h0
  have h2 := heap_setCell_same _ R 2 _ _ v2 h1
  have h3 := heap_setCell_same _ R 3 _ _ v3 h2
  exact heap_setCell_same _ R 4 _ _ v4 h3
/-- Are two values alike? -/
def smB (n a m b up : Nat) : Bool := a == b && (n == m || !sub a up)
set_option maxRecDepth 100000 in
set_option maxHeartbeats 2000000 in
theorem same_any9 (n a m b up : Nat) (ha : a < 2 ^ 64) (hup : up < 2 ^ 64) (hn : n < MM) (hm : m < MM) (w : World) :
    Calls Try.prog 63 #[vV n a, vV m b, .int .u64 (up : Nat)] w fun e w' => e = .returned (.bool (smB n a m b up)) ∧ Below w.heap.size w w' := by
  have heq := eqW n m
  rw [Nat.mod_eq_of_lt hn, Nat.mod_eq_of_lt hm] at heq
  have HG := Lib.hid (fun X => below_any a up ha hup X)
  have HV := Lib.hid (show smB n a m b up = (a == b && (n == m || !sub a up)) from rfl)
  have hW : Below w.heap.size w ((w.alloc (.cells (vA n a) 36)).alloc (.cells (vA m b) 36)) := balloc (balloc (Below.refl _ _) _) _
  have HW := Lib.hid hW
  have HN1 := Lib.hid (show Blk ((w.alloc (.cells (vA n a) 36)).alloc (.cells (vA m b) 36)) w.heap.size 36 (vA n a) from (Blk.new w _ _).alloc _)
  have HN2 := Lib.hid (show Blk ((w.alloc (.cells (vA n a) 36)).alloc (.cells (vA m b) 36)) (w.heap.size + 1) 36 (vA m b) from Blk.newS w _ _ _)
  clear ha hup hn hm hW
  by_cases h1 : a = b
  · subst h1
    have n1 : ((a : Int) == (a : Int)) = true := by simp
    rw [show (a == a) = true by simp, Bool.true_and] at HV
    obtain ⟨t, ht⟩ : ∃ t, sub a up = t := ⟨_, rfl⟩
    rw [ht] at HG HV
    clear ht
    obtain ⟨q, hq⟩ : ∃ q, (n == m) = q := ⟨_, rfl⟩
    rw [hq] at heq HV
    clear hq
    cases t <;> cases q
    all_goals
      go_enter Try.func63, Try.ntmps63
      go_wp2_with (first | (go_at_call 67; refine (HG.out _).mono ?_; rintro e w1 ⟨rfl, hw1⟩; have H1 := Lib.hid hw1; clear hw1) | fail)
      go_ret
      rw [HV.out]
      first
        | exact ⟨rfl, HW.out⟩
        | exact ⟨rfl, bstep HW.out H1.out⟩
  · have n1 : ((a : Int) == (b : Int)) = false := by simp; omega
    rw [show (a == b) = false by simp [h1], Bool.false_and] at HV
    go_enter Try.func63, Try.ntmps63
    go_wp2_with fail
    go_ret
    rw [HV.out]
    exact ⟨rfl, HW.out⟩
theorem und_mp : Try.prog.underlying 85 = some (.map 33 36) := by kernel_rfl
theorem und_mq : Try.prog.underlying 84 = some (.map 33 36) := by kernel_rfl
/-- 1 of a value that is there. -/
def cntV (v : Nat × Nat) : Nat := if v = (0, 0) then 0 else 1
theorem eq0_any (v : Nat × Nat) (hv : okP v) (w : World) : (binOp .eql 36 (vP v) (.agg #[.int .u64 0, .int .u64 0, .int .u64 0, .int .u64 0, .int .u64 0])).run Try.prog w = .ok (.bool (decide (v = (0, 0)))) w := by
  have h := eqVal_any v (0, 0) hv okP0 w
  rwa [vP0] at h
set_option maxRecDepth 100000 in
set_option maxHeartbeats 1000000 in
theorem count_any (v : Nat × Nat) (hv : okP v) (w : World) :
    Calls Try.prog 37 #[vP v] w fun e w' => e = .returned (.int .i64 (cntV v : Nat)) ∧ Below w.heap.size w w' := by
  have hq := eq0_any v hv
  have HV := Lib.hid (show cntV v = if v = (0, 0) then 0 else 1 from rfl)
  clear hv
  by_cases h : v = (0, 0)
  · rw [decide_eq_true h] at hq
    rw [if_pos h] at HV
    clear h
    go_enter Try.func37, Try.ntmps37
    go_wp2_with fail
    go_ret
    rw [HV.out]
    exact ⟨rfl, balloc (Below.refl _ _) _⟩
  · rw [decide_eq_false h] at hq
    rw [if_neg h] at HV
    clear h
    go_enter Try.func37, Try.ntmps37
    go_wp2_with fail
    go_ret
    rw [HV.out]
    exact ⟨rfl, balloc (Below.refl _ _) _⟩
/-- What is laid under a key; nothing where it is as is usual. -/
def putO (v u : Nat × Nat) : Option (Nat × Nat) := if v = u then none else some v
set_option maxRecDepth 100000 in
set_option maxHeartbeats 1000000 in
theorem put_any (b : Nat) (m : Nat → Option (Nat × Nat)) (n : Nat) (hn : n < MM) (v u : Nat × Nat) (hv : okP v) (hu : okP u) (w : World) (hm : Mp w b m) :
    Calls Try.prog 38 #[.map (some b), W n, vP v, vP u] w fun e w' => (∃ r, e = .returned r) ∧ Mp w' b (upd m n (putO v u)) ∧ Chg (fun k => k = b) w w' := by
  have hq := eqVal_any v u hv hu
  have HV := Lib.hid (show putO v u = if v = u then none else some v from rfl)
  obtain ⟨W3, hW3⟩ : ∃ W3, ((w.alloc (.cells (Wc n) 33)).alloc (.cells (vA v.1 v.2) 36)).alloc (.cells (vA u.1 u.2) 36) = W3 := ⟨_, rfl⟩
  have hal : Below w.heap.size w W3 := by rw [← hW3]; exact balloc (balloc (balloc (Below.refl _ _) _) _) _
  have hm3 := hm.keep hal
  have hc := (Chg.new (M := fun k => k = b) hal)
  by_cases h : v = u
  · rw [decide_eq_true h] at hq
    rw [if_pos h] at HV
    obtain ⟨Y, hrun, hY, hC, _⟩ := hm3.del und_mp n hn
    rw [← hW3] at hrun
    have HY := Lib.hid (And.intro hY (hc.trans hC (fun _ _ h => h)))
    clear h hm hm3 hal hc hY hC hW3 hv hu hn
    go_enter Try.func38, Try.ntmps38
    go_wp2_with fail
    refine bodyPost_ret (results_none rfl _ _ _) rfl ?_
    rw [HV.out]
    exact ⟨⟨_, rfl⟩, HY.out⟩
  · rw [decide_eq_false h] at hq
    rw [if_neg h] at HV
    obtain ⟨Y, hrun, hY, hC, _⟩ := hm3.store und_mp n hn v hv
    rw [← hW3] at hrun
    have HY := Lib.hid (And.intro hY (hc.trans hC (fun _ _ h => h)))
    clear h hm hm3 hal hc hY hC hW3 hv hu hn
    go_enter Try.func38, Try.ntmps38
    go_wp2_with fail
    refine bodyPost_end (results_none rfl _ _ _) rfl ?_
    rw [HV.out]
    exact ⟨⟨_, rfl⟩, HY.out⟩
set_option maxRecDepth 100000 in
theorem look_any (x : Option Addr) (n c : Nat) (w : World) : Calls Try.prog 40 #[.slice x n c] w fun e w' => e = .returned (.func (.func 52) #[] #[.pointer (some ⟨w.heap.size, 0, none⟩)]) ∧ w' = w.alloc (.cells #[.slice x n c] 106) := by
  have hmf : ∀ (fn : Fn) (first cap : Array Value) (w : World), (Instr.makeFunc fn first cap).run Try.prog w = .ok (.func fn first cap) w := fun _ _ _ _ => rfl
  go_enter Try.func40, Try.ntmps40
  go_wp2_with fail
  go_ret
  exact ⟨rfl, rfl⟩

end Go.Proofs.Ytcplhalgjjhmdaa
