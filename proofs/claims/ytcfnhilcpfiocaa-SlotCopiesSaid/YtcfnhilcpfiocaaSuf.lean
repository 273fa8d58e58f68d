/- slot's reference: Settle, Get, Was. -/
import Derived.Test.YtcfnhilcpfiocaaQb
namespace Go.Proofs.Ytcfnhilcpfiocaa
open Go.RowKit Go.Shelf Go.ChangeMaps Go.MapKept

theorem OwR.mono {X : World} {b c : Nat} {v : Value} {l : List Rw} (h : OwR X b v l) (hc : c ≤ b) : OwR X c v l := ⟨h.1, h.2.mono hc⟩
theorem own_far {X : World} {base k size : Nat} {e : TypeId} {v : Value} {n : Nat} {xs : List Value} (h : X.ownsRow base e size v n xs) (hk : k < base) : v.ownBlock = none ∨ v.ownBlock ≠ some k := by
  cases hv : v.ownBlock with
  | none => exact .inl rfl
  | some g => exact .inr fun e => by cases e; have := (h.lt k hv).1; omega
theorem info_sl : (Try.prog.info? 31).map (·.size) = some 1 := by kernel_rfl
theorem ret_slots {fn : Func} {p : Tmp} {tmps : Array Value} {X : World} {g : Nat} {u : Value} (h : fn.results = #[.cell p 31]) (hp : tmps.getD p undef = .pointer (some ⟨g, 0, none⟩)) (hb : Blk X g 31 #[u]) : (results fn tmps).run Try.prog X = .ok (.agg #[u]) X :=
  results_cell_row h _ _ g 31 #[u] (0, 0) _ hp hb Try.underlying31 rfl (by rw [info_sl]; rfl)
set_option maxRecDepth 100000 in
set_option maxHeartbeats 4000000 in
theorem rsettle_any (base : Nat) (v : Value) (l : List Rw) (w : World) (h : OwR w base v l) (hll : l.length ≤ 1000) :
    Calls Try.prog 25 #[.agg #[v]] w fun e w' => ∃ u, e = .returned (.agg #[u]) ∧ OwR w' w.heap.size u (settleL l) ∧ Below w.heap.size w w' := by
  obtain ⟨xl, cl, rfl⟩ := h.is
  obtain ⟨N, hN⟩ : ∃ N, l.length = N := ⟨_, rfl⟩
  have HN := Lib.hid hN
  obtain ⟨W1, hW1⟩ : ∃ W1, (w.alloc (.cells #[.slice xl N cl] 31)).alloc (.cells #[.slice none 0 0] 31) = W1 := ⟨_, rfl⟩
  have hB : Below w.heap.size w W1 := by rw [← hW1]; exact balloc (balloc (Below.refl _ _) _) _
  have b0 : Blk W1 w.heap.size 31 #[.slice xl N cl] := by rw [← hW1]; exact (Blk.new _ _ _).alloc _
  have b1 : Blk W1 (w.heap.size + 1) 31 #[.slice none 0 0] := by rw [← hW1]; exact Blk.newS _ _ _ _
  have HA := Lib.hid (And.intro (h.keep hB) (And.intro hB (And.intro b0 b1)))
  have HW := Lib.hid hW1
  rw [hN] at hll ⊢
  clear h hB b0 b1 hW1 hN
  obtain ⟨i0, hi, hz0, hz1, hz2⟩ := info_parts' infoRw
  have HI := Lib.hid (And.intro hi (And.intro hz0 (And.intro hz1 hz2)))
  clear hi hz0 hz1 hz2
  go_enter Try.func25, Try.ntmps25
  go_upto_region 1 with fail
  rw [HW.out]
  go_wp2_with fail
  go_loopw [3, 4] (fun u t wr => ∃ k : Nat, t = .int .i64 k ∧ k ≤ N ∧ OwR wr W1.heap.size u (settleL (l.take k)) ∧ Below W1.heap.size W1 wr) (fun _ t _ => N - (intOf t).toNat)
  case atStart => exact ⟨0, rfl, Nat.zero_le _, OwR.nil _ _, Below.refl _ _⟩
  case round =>
    obtain ⟨k, rfl, hk, how, hbl⟩ := hrel
    have cS : wr.cell? ⟨w.heap.size, 0, none⟩ = some (.slice xl N cl) := cell_of_row _ _ 0 _ _ _ (HA.out.2.2.1.keep hbl)
    by_cases hlt : k < N
    · have g0 : (k : Int) < (N : Int) := by omega
      have g1 : (0 : Int) ≤ (k : Int) := by omega
      have g2 : IntKind.i64.wrap ((k : Int) + 1) = ((k + 1 : Nat) : Int) := IntWalk.i64_in _ (by omega)
      obtain ⟨r, hr⟩ : ∃ r, l[k]? = some r := ⟨_, List.getElem?_eq_getElem (by rw [HN.out]; exact hlt)⟩
      obtain ⟨b, o, c2, e, hbl1, hcell⟩ := HA.out.1.at hr
      injection e with e1 e2 e3
      subst e1
      have hcl : ∀ j, j < 14 → wr.cell? ⟨b, o + k * 14 + j, none⟩ = (rvA r)[j]? := fun j hj => (hbl.cell (p := ⟨b, o + k * 14 + j, none⟩) hbl1).trans (hcell j hj)
      have d0 : wr.cell? ⟨b, o + k * 14, none⟩ = some (.int .u64 (lb r.1 0)) := hcl 0 (by omega)
      have d1 : wr.cell? ⟨b, o + k * 14 + 1, none⟩ = some (.int .u64 (lb r.1 1)) := hcl 1 (by omega)
      have d2 : wr.cell? ⟨b, o + k * 14 + 2, none⟩ = some (.int .u64 (lb r.1 2)) := hcl 2 (by omega)
      have d3 : wr.cell? ⟨b, o + k * 14 + 3, none⟩ = some (.int .u64 (lb r.1 3)) := hcl 3 (by omega)
      have d4 : wr.cell? ⟨b, o + k * 14 + 4, none⟩ = some (.int .u64 (lb r.2.1.1 0)) := hcl 4 (by omega)
      have d5 : wr.cell? ⟨b, o + k * 14 + 5, none⟩ = some (.int .u64 (lb r.2.1.1 1)) := hcl 5 (by omega)
      have d6 : wr.cell? ⟨b, o + k * 14 + 6, none⟩ = some (.int .u64 (lb r.2.1.1 2)) := hcl 6 (by omega)
      have d7 : wr.cell? ⟨b, o + k * 14 + 7, none⟩ = some (.int .u64 (lb r.2.1.1 3)) := hcl 7 (by omega)
      have d8 : wr.cell? ⟨b, o + k * 14 + 8, none⟩ = some (.int .u64 (r.2.1.2 : Nat)) := hcl 8 (by omega)
      have d9 : wr.cell? ⟨b, o + k * 14 + 9, none⟩ = some (.int .u64 (lb r.2.2.1 0)) := hcl 9 (by omega)
      have d10 : wr.cell? ⟨b, o + k * 14 + 10, none⟩ = some (.int .u64 (lb r.2.2.1 1)) := hcl 10 (by omega)
      have d11 : wr.cell? ⟨b, o + k * 14 + 11, none⟩ = some (.int .u64 (lb r.2.2.1 2)) := hcl 11 (by omega)
      have d12 : wr.cell? ⟨b, o + k * 14 + 12, none⟩ = some (.int .u64 (lb r.2.2.1 3)) := hcl 12 (by omega)
      have d13 : wr.cell? ⟨b, o + k * 14 + 13, none⟩ = some (.int .u64 (r.2.2.2 : Nat)) := hcl 13 (by omega)
      have hok := HA.out.1.1 r (List.mem_of_getElem? hr)
      have hnz := neqZ r.2.1 hok.2.1
      have hst := settle_step hr
      obtain ⟨M, hM⟩ : ∃ M, (settleL (l.take k)).length = M := ⟨_, rfl⟩
      have hMk : M ≤ k := by rw [← hM]; unfold settleL; rw [List.length_map]; exact Nat.le_trans (List.length_filter_le _ _) (List.length_take_le _ _)
      obtain ⟨vo, hvo⟩ : ∃ vo, u3 = vo := ⟨_, rfl⟩
      rw [hvo] at how ⊢
      have HR := Lib.hid (And.intro hok (And.intro how (And.intro hbl (And.intro hM hMk))))
      clear hcl hcell hr hok e2 e3 how hbl1 hM hMk hvo hbl
      go_upto_region 6 with fail
      obtain ⟨X1, hX1⟩ : ∃ X1, wr.alloc (.cells (rvA r) 59) = X1 := ⟨_, rfl⟩
      have hb1 : Below wr.heap.size wr X1 := by rw [← hX1]; exact balloc (Below.refl _ _) _
      have kR : Blk X1 wr.heap.size 59 (rvA r) := by rw [← hX1]; exact Blk.new _ _ _
      rw [show wr.alloc (.cells #[.int .u64 (lb r.1 0), .int .u64 (lb r.1 1), .int .u64 (lb r.1 2), .int .u64 (lb r.1 3), .int .u64 (lb r.2.1.1 0), .int .u64 (lb r.2.1.1 1), .int .u64 (lb r.2.1.1 2), .int .u64 (lb r.2.1.1 3), .int .u64 (r.2.1.2 : Nat), .int .u64 (lb r.2.2.1 0), .int .u64 (lb r.2.2.1 1), .int .u64 (lb r.2.2.1 2), .int .u64 (lb r.2.2.1 3), .int .u64 (r.2.2.2 : Nat)] 59) = X1 from hX1]
      have hown : World.ownsRow X1 W1.heap.size 59 14 vo M (rvs (settleL (l.take k))) := by
        have h := (HR.out.2.1.keep hb1).2
        rw [HR.out.2.2.2.1] at h
        exact h
      have HX := Lib.hid (And.intro hX1 (And.intro hb1 (HR.out.2.2.1.trans (hb1.mono HR.out.2.2.1.size))))
      have e0 : X1.cell? ⟨wr.heap.size, 0, none⟩ = some (.int .u64 (lb r.1 0)) := cell_of_row _ _ 0 _ _ _ kR
      have e1 : X1.cell? ⟨wr.heap.size, 1, none⟩ = some (.int .u64 (lb r.1 1)) := cell_of_row _ _ 1 _ _ _ kR
      have e2 : X1.cell? ⟨wr.heap.size, 2, none⟩ = some (.int .u64 (lb r.1 2)) := cell_of_row _ _ 2 _ _ _ kR
      have e3 : X1.cell? ⟨wr.heap.size, 3, none⟩ = some (.int .u64 (lb r.1 3)) := cell_of_row _ _ 3 _ _ _ kR
      have e4 : X1.cell? ⟨wr.heap.size, 4, none⟩ = some (.int .u64 (lb r.2.1.1 0)) := cell_of_row _ _ 4 _ _ _ kR
      have e5 : X1.cell? ⟨wr.heap.size, 5, none⟩ = some (.int .u64 (lb r.2.1.1 1)) := cell_of_row _ _ 5 _ _ _ kR
      have e6 : X1.cell? ⟨wr.heap.size, 6, none⟩ = some (.int .u64 (lb r.2.1.1 2)) := cell_of_row _ _ 6 _ _ _ kR
      have e7 : X1.cell? ⟨wr.heap.size, 7, none⟩ = some (.int .u64 (lb r.2.1.1 3)) := cell_of_row _ _ 7 _ _ _ kR
      have e8 : X1.cell? ⟨wr.heap.size, 8, none⟩ = some (.int .u64 (r.2.1.2 : Nat)) := cell_of_row _ _ 8 _ _ _ kR
      clear d0 d1 d2 d3 d4 d5 d6 d7 d8 d9 d10 d11 d12 d13 hX1 hb1 kR cS
      by_cases hz : r.2.1 = Z2
      · rw [if_neg (by simp [hz]), List.append_nil] at hst
        rw [decide_eq_true hz] at hnz
        have HZ := Lib.hid (And.intro hst hz)
        clear hst hz hown
        go_wp2_with fail
        go_roundw
        case rel => exact ⟨k + 1, rfl, by omega, by rw [HZ.out.1]; exact HR.out.2.1.keep HX.out.2.1, HX.out.2.2⟩
        case measure => simp [intOf]; omega
      · rw [if_pos hz] at hst
        rw [decide_eq_false hz] at hnz
        have HZ := Lib.hid (And.intro hst hz)
        obtain ⟨hi, hz0, hz1, hz2⟩ := HI.out
        have hu := und_sr
        have hsz := HX.out.2.2.size
        clear hst hz
        go_wp2_with (first
          | (at_builtin; refine wpList_append_own _ rfl _ _ 29 rfl W1.heap.size 59 i0 (.agg #[.int .u64 0, .int .u64 0, .int .u64 0, .int .u64 0, .int .u64 0, .int .u64 0, .int .u64 0, .int .u64 0, .int .u64 0, .int .u64 0, .int .u64 0, .int .u64 0, .int .u64 0, .int .u64 0]) 14 112 hu hi hz0 hz1 hz2 rfl (by decide) _ _ _ rfl (hown.alloc _) ⟨X1.heap.size, 0, none⟩ 1 1 (rvA (r.1, r.2.1, r.2.1)).toList rfl rfl (new_cells X1 _ (rvA (r.1, r.2.1, r.2.1))) (rv_one (r.1, r.2.1, r.2.1)) ?c3 ?c4 ?c5 ?_)
          | fail)
        case c3 => unfold maxLen; have := HR.out.2.2.2.2; omega
        case c4 => have := HR.out.2.2.2.2; omega
        case c5 => simp; omega
        intro v2 z2 hown2 hgrow _
        have hB2 := world_keptR (hown.alloc _) hgrow (balloc HX.out.2.2 _) (Nat.le_refl _) (Nat.le_refl _)
        have hO2 := OwR.snoc (r := (r.1, r.2.1, r.2.1)) HR.out.2.1.1 ⟨HR.out.1.1, HR.out.1.2.1, HR.out.1.2.1⟩ HR.out.2.2.2.1 hown2
        have H2 := Lib.hid (And.intro hO2 hB2)
        clear hown hown2 hgrow hB2 hO2 hi hz0 hz1 hz2 hu
        go_wp2_with fail
        go_roundw
        case rel => exact ⟨k + 1, rfl, by omega, by rw [HZ.out.1]; exact H2.out.1, H2.out.2⟩
        case measure => simp [intOf]; omega
    · obtain rfl : k = N := by omega
      have g0 : ¬ (k : Int) < (k : Int) := by omega
      rw [List.take_of_length_le (by rw [HN.out]; exact Nat.le_refl _)] at how
      have k1 := HA.out.2.2.2.keep hbl
      have f1 := frozen_of_row _ _ 0 _ _ k1
      have k1' : wr.cell? ⟨w.heap.size + 1, 0, none⟩ = some (.slice none 0 0) := cell_of_row _ _ 0 _ _ _ k1
      have HE := Lib.hid (And.intro how (And.intro hbl k1))
      obtain ⟨yo, co, hvo⟩ := how.is
      obtain ⟨m, hm⟩ : ∃ m, (settleL l).length = m := ⟨_, rfl⟩
      rw [hm] at hvo
      rw [hvo] at HE ⊢
      clear how hbl hlt hk k1 hvo hm
      go_wp2_with fail
      obtain ⟨vo, hvv⟩ : ∃ vo, Value.slice yo m co = vo := ⟨_, rfl⟩
      rw [hvv] at HE ⊢
      have hg := grown_set' (grown_refl wr (w.heap.size + 1)) 0 vo
      have kE : Blk (wr.setCell ⟨w.heap.size + 1, 0, none⟩ vo) (w.heap.size + 1) 31 #[vo] := heap_setCell_same _ _ 0 _ _ _ HE.out.2.2
      have hlt1 := HA.out.2.2.2.lt
      (try simp only [Exit.inBlock, Exit.then])
      refine bodyPost_ret (ret_slots (u := vo) rfl rfl kE) rfl ⟨vo, rfl, ?_, ?_⟩
      · exact OwR.mono ⟨HE.out.1.1, World.ownsRow.kept HE.out.1.2 hg (own_far HE.out.1.2 (by omega))⟩ HA.out.2.1.size
      · exact (HA.out.2.1.trans (HE.out.2.1.mono HA.out.2.1.size)).setCell (p := ⟨w.heap.size + 1, 0, none⟩) (by simp) _
theorem field_rget (r : Rw) (w : World) : (Instr.field 59 (.agg (rvA r)) 1).run Try.prog w = .ok (vP r.2.1) w := by kernel_rfl
set_option maxRecDepth 100000 in
set_option maxHeartbeats 2000000 in
theorem rget_any (base : Nat) (v : Value) (l : List Rw) (n : Nat) (hn : n < MM) (w : World) (h : OwR w base v l) (hll : l.length ≤ 1000000) :
    Calls Try.prog 11 #[.agg #[v], W n] w fun e w' => e = .returned (vP (rowN l n).2.1) ∧ Below w.heap.size w w' := by
  obtain ⟨X, hX⟩ : ∃ X, ((w.alloc (.cells #[v] 31)).alloc (.cells (Wc n) 25)).alloc (.cells #[.int .u64 0, .int .u64 0, .int .u64 0, .int .u64 0, .int .u64 0] 36) = X := ⟨_, rfl⟩
  have hB : Below w.heap.size w X := by rw [← hX]; exact balloc (balloc (balloc (Below.refl _ _) _) _) _
  have b0 : Blk X w.heap.size 31 #[v] := by rw [← hX]; exact ((Blk.new _ _ _).alloc _).alloc _
  have b1 : Blk X (w.heap.size + 1) 25 (Wc n) := by rw [← hX]; exact (Blk.newS _ _ _ _).alloc _
  have b2 : Blk X (w.heap.size + 1 + 1) 36 #[.int .u64 0, .int .u64 0, .int .u64 0, .int .u64 0, .int .u64 0] := by
    rw [← hX]
    have := Blk.newS (w.alloc (.cells #[v] 31)) (.cells (Wc n) 25) 36 #[.int .u64 0, .int .u64 0, .int .u64 0, .int .u64 0, .int .u64 0]
    simpa using this
  have HR := Lib.hid (row_any base v l n hn X (h.keep hB) hll)
  have HX := Lib.hid (And.intro hX (And.intro hB b2))
  have c0 : X.cell? ⟨w.heap.size, 0, none⟩ = some v := cell_of_row _ _ 0 _ _ _ b0
  have k0 : X.cell? ⟨w.heap.size + 1, 0, none⟩ = some (.int .u64 (lb n 0)) := cell_of_row _ _ 0 _ _ _ b1
  have k1 : X.cell? ⟨w.heap.size + 1, 1, none⟩ = some (.int .u64 (lb n 1)) := cell_of_row _ _ 1 _ _ _ b1
  have k2 : X.cell? ⟨w.heap.size + 1, 2, none⟩ = some (.int .u64 (lb n 2)) := cell_of_row _ _ 2 _ _ _ b1
  have k3 : X.cell? ⟨w.heap.size + 1, 3, none⟩ = some (.int .u64 (lb n 3)) := cell_of_row _ _ 3 _ _ _ b1
  have hfl := field_rget (rowN l n)
  generalize rowN l n = r at *
  clear hX hB b0 b1 b2 h hll
  go_enter Try.func11, Try.ntmps11
  go_upto_region 1 with fail
  rw [HX.out.1]
  go_wp2_with (first
    | (go_at_call 28; refine (HR.out).mono ?_; rintro e z ⟨rfl, h1⟩; have hb2 := HX.out.2.2.keep h1; have f0 := frozen_of_row _ _ 0 _ _ hb2; have q0 := cell_of_row _ _ 0 _ _ _ hb2; have f1 := frozen_of_row _ _ 1 _ _ hb2; have q1 := cell_of_row _ _ 1 _ _ _ hb2; have f2 := frozen_of_row _ _ 2 _ _ hb2; have q2 := cell_of_row _ _ 2 _ _ _ hb2; have f3 := frozen_of_row _ _ 3 _ _ hb2; have q3 := cell_of_row _ _ 3 _ _ _ hb2; have f4 := frozen_of_row _ _ 4 _ _ hb2; have q4 := cell_of_row _ _ 4 _ _ _ hb2; have H1 := Lib.hid (And.intro h1 hb2); clear h1 hb2)
    | fail)
  (try simp only [Exit.inBlock, Exit.then])
  have h5 : HelN 5 36 X (w.heap.size + 1 + 1) z := HelN.call H1.out.1 ⟨grown_refl X _, _, rfl, HX.out.2.2⟩
  refine bodyPost_ret (ret_val rfl rfl (HelN.five h5 _ _ _ _ _)) rfl ⟨rfl, HelN.below (HelN.set (HelN.set (HelN.set (HelN.set (HelN.set h5 0 _) 1 _) 2 _) 3 _) 4 _) HX.out.2.1 (Nat.le_refl _) (by omega)⟩
theorem field_rwas (r : Rw) (w : World) : (Instr.field 59 (.agg (rvA r)) 2).run Try.prog w = .ok (vP r.2.2) w := by kernel_rfl
set_option maxRecDepth 100000 in
set_option maxHeartbeats 2000000 in
theorem rwas_any (base : Nat) (v : Value) (l : List Rw) (n : Nat) (hn : n < MM) (w : World) (h : OwR w base v l) (hll : l.length ≤ 1000000) :
    Calls Try.prog 13 #[.agg #[v], W n] w fun e w' => e = .returned (vP (rowN l n).2.2) ∧ Below w.heap.size w w' := by
  obtain ⟨X, hX⟩ : ∃ X, ((w.alloc (.cells #[v] 31)).alloc (.cells (Wc n) 25)).alloc (.cells #[.int .u64 0, .int .u64 0, .int .u64 0, .int .u64 0, .int .u64 0] 36) = X := ⟨_, rfl⟩
  have hB : Below w.heap.size w X := by rw [← hX]; exact balloc (balloc (balloc (Below.refl _ _) _) _) _
  have b0 : Blk X w.heap.size 31 #[v] := by rw [← hX]; exact ((Blk.new _ _ _).alloc _).alloc _
  have b1 : Blk X (w.heap.size + 1) 25 (Wc n) := by rw [← hX]; exact (Blk.newS _ _ _ _).alloc _
  have b2 : Blk X (w.heap.size + 1 + 1) 36 #[.int .u64 0, .int .u64 0, .int .u64 0, .int .u64 0, .int .u64 0] := by
    rw [← hX]
    have := Blk.newS (w.alloc (.cells #[v] 31)) (.cells (Wc n) 25) 36 #[.int .u64 0, .int .u64 0, .int .u64 0, .int .u64 0, .int .u64 0]
    simpa using this
  have HR := Lib.hid (row_any base v l n hn X (h.keep hB) hll)
  have HX := Lib.hid (And.intro hX (And.intro hB b2))
  have c0 : X.cell? ⟨w.heap.size, 0, none⟩ = some v := cell_of_row _ _ 0 _ _ _ b0
  have k0 : X.cell? ⟨w.heap.size + 1, 0, none⟩ = some (.int .u64 (lb n 0)) := cell_of_row _ _ 0 _ _ _ b1
  have k1 : X.cell? ⟨w.heap.size + 1, 1, none⟩ = some (.int .u64 (lb n 1)) := cell_of_row _ _ 1 _ _ _ b1
  have k2 : X.cell? ⟨w.heap.size + 1, 2, none⟩ = some (.int .u64 (lb n 2)) := cell_of_row _ _ 2 _ _ _ b1
  have k3 : X.cell? ⟨w.heap.size + 1, 3, none⟩ = some (.int .u64 (lb n 3)) := cell_of_row _ _ 3 _ _ _ b1
  have hfl := field_rwas (rowN l n)
  generalize rowN l n = r at *
  clear hX hB b0 b1 b2 h hll
  go_enter Try.func13, Try.ntmps13
  go_upto_region 1 with fail
  rw [HX.out.1]
  go_wp2_with (first
    | (go_at_call 28; refine (HR.out).mono ?_; rintro e z ⟨rfl, h1⟩; have hb2 := HX.out.2.2.keep h1; have f0 := frozen_of_row _ _ 0 _ _ hb2; have q0 := cell_of_row _ _ 0 _ _ _ hb2; have f1 := frozen_of_row _ _ 1 _ _ hb2; have q1 := cell_of_row _ _ 1 _ _ _ hb2; have f2 := frozen_of_row _ _ 2 _ _ hb2; have q2 := cell_of_row _ _ 2 _ _ _ hb2; have f3 := frozen_of_row _ _ 3 _ _ hb2; have q3 := cell_of_row _ _ 3 _ _ _ hb2; have f4 := frozen_of_row _ _ 4 _ _ hb2; have q4 := cell_of_row _ _ 4 _ _ _ hb2; have H1 := Lib.hid (And.intro h1 hb2); clear h1 hb2)
    | fail)
  (try simp only [Exit.inBlock, Exit.then])
  have h5 : HelN 5 36 X (w.heap.size + 1 + 1) z := HelN.call H1.out.1 ⟨grown_refl X _, _, rfl, HX.out.2.2⟩
  refine bodyPost_ret (ret_val rfl rfl (HelN.five h5 _ _ _ _ _)) rfl ⟨rfl, HelN.below (HelN.set (HelN.set (HelN.set (HelN.set (HelN.set h5 0 _) 1 _) 2 _) 3 _) 4 _) HX.out.2.1 (Nat.le_refl _) (by omega)⟩
end Go.Proofs.Ytcfnhilcpfiocaa
