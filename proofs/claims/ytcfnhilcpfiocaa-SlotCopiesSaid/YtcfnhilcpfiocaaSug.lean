/- slot's reference: Put. -/
import Derived.Test.YtcfnhilcpfiocaaSuf
import Derived.Test.YtcfnhilcpfiocaaWz
namespace Go.Proofs.Ytcfnhilcpfiocaa
open Go.RowKit Go.Shelf Go.ChangeMaps Go.MapKept

theorem cmpN_neg (a b : Nat) : (cmpN a b < 0) ↔ a < b := by unfold cmpN; split <;> (try split) <;> omega
theorem neqWR (n m : Nat) (hn : n < MM) (hm : m < MM) (w : World) : (binOp .neq 25 (W n) (W m)).run Try.prog w = .ok (.bool (!(n == m))) w := by
  rw [run_neq_struct, show (10000 : Nat) = 9998 + 1 + 1 from rfl, equalIn_word, all4 n m hn hm]; rfl
theorem takeW_at {l : List Rw} {n K : Nat} (hK : (l.takeWhile (fun r => decide (r.1 < n))).length = K) : l.takeWhile (fun r => decide (r.1 < n)) = l.take K ∧ l.dropWhile (fun r => decide (r.1 < n)) = l.drop K ∧ K ≤ l.length := by
  have h := List.takeWhile_append_dropWhile (p := fun r : Rw => decide (r.1 < n)) (l := l)
  have hl : K ≤ l.length := by rw [← hK]; exact List.Sublist.length_le (List.takeWhile_sublist _)
  generalize l.takeWhile (fun r => decide (r.1 < n)) = A at *
  generalize l.dropWhile (fun r => decide (r.1 < n)) = B at *
  subst h
  subst hK
  exact ⟨by simp, by simp, hl⟩
theorem dropW_head {p : Rw → Bool} : ∀ {l t : List Rw} {r : Rw}, l.dropWhile p = r :: t → p r = false
  | a :: l, t, r, h => by
    rw [List.dropWhile_cons] at h
    split at h
    · exact dropW_head h
    · rename_i hn
      injection h with h1 _
      subst h1
      simpa using hn
theorem takeW_lt {l : List Rw} {n K k : Nat} (hK : (l.takeWhile (fun r => decide (r.1 < n))).length = K) (hk : k < K) {r : Rw} (hr : l[k]? = some r) : r.1 < n := by
  have h := takeW_at hK
  refine take_lt l n r ?_
  rw [h.1]
  exact List.mem_of_getElem? (i := k) (by rw [List.getElem?_take_of_lt hk]; exact hr)
theorem takeW_ge {l : List Rw} {n K : Nat} (hK : (l.takeWhile (fun r => decide (r.1 < n))).length = K) {r : Rw} (hr : l[K]? = some r) : ¬ r.1 < n := by
  have h := takeW_at hK
  obtain ⟨hl, e⟩ := List.getElem?_eq_some_iff.1 hr
  have hd : l.dropWhile (fun r => decide (r.1 < n)) = r :: l.drop (K + 1) := by rw [h.2.1, List.drop_eq_getElem_cons hl, e]
  have := dropW_head hd
  simpa using this
theorem putL_at {l : List Rw} {n K : Nat} {v : Nat × Nat} (hK : (l.takeWhile (fun r => decide (r.1 < n))).length = K) : putL l n v = l.take K ++ midL n v (rowN l n).2.2 ++ (l.drop K).filter (fun r => decide (r.1 ≠ n)) := by
  have h := takeW_at hK
  unfold putL
  rw [h.1, h.2.1]
theorem set_now {X : World} {g n : Nat} {t : TypeId} {uo v u : Nat × Nat} (h : Blk X g t (rvA (n, uo, u))) : Blk (((((X.setCell ⟨g, 4, none⟩ (.int .u64 (lb v.1 0))).setCell ⟨g, 5, none⟩ (.int .u64 (lb v.1 1))).setCell ⟨g, 6, none⟩ (.int .u64 (lb v.1 2))).setCell ⟨g, 7, none⟩ (.int .u64 (lb v.1 3))).setCell ⟨g, 8, none⟩ (.int .u64 (v.2 : Nat))) g t (rvA (n, v, u)) := by
  have h' := heap_setCell_same _ _ 8 _ _ (.int .u64 (v.2 : Nat)) (heap_setCell_same _ _ 7 _ _ (.int .u64 (lb v.1 3)) (heap_setCell_same _ _ 6 _ _ (.int .u64 (lb v.1 2)) (heap_setCell_same _ _ 5 _ _ (.int .u64 (lb v.1 1)) (heap_setCell_same _ _ 4 _ _ (.int .u64 (lb v.1 0)) h))))
  unfold Blk
  simpa only [rvA, List.setIfInBounds_toArray, List.set_cons_zero, List.set_cons_succ] using h'
theorem filt_step {D : List Rw} {n j : Nat} {r : Rw} (h : D[j]? = some r) : (D.take (j + 1)).filter (fun r => decide (r.1 ≠ n)) = (D.take j).filter (fun r => decide (r.1 ≠ n)) ++ (if r.1 = n then [] else [r]) := by
  rw [List.take_add_one, h, List.filter_append]
  by_cases e : r.1 = n <;> simp [e]
set_option maxRecDepth 100000 in
set_option maxHeartbeats 8000000 in
theorem rput_any (base : Nat) (v0 : Value) (l : List Rw) (n : Nat) (hn : n < MM) (v : Nat × Nat) (hv : okP v) (w : World) (h : OwR w base v0 l) (hll : l.length ≤ 1000) :
    Calls Try.prog 24 #[.agg #[v0], W n, vP v] w fun e w' => ∃ u, e = .returned (.agg #[u]) ∧ OwR w' w.heap.size u (putL l n v) ∧ Below w.heap.size w w' := by
  obtain ⟨xl, cl, rfl⟩ := h.is
  obtain ⟨N, hN⟩ : ∃ N, l.length = N := ⟨_, rfl⟩
  obtain ⟨W1, hW1⟩ : ∃ W1, (((w.alloc (.cells #[.slice xl N cl] 31)).alloc (.cells (Wc n) 25)).alloc (.cells (vA v.1 v.2) 36)).alloc (.cells #[.slice none 0 0] 31) = W1 := ⟨_, rfl⟩
  have hB : Below w.heap.size w W1 := by rw [← hW1]; exact balloc (balloc (balloc (balloc (Below.refl _ _) _) _) _) _
  have b0 : Blk W1 w.heap.size 31 #[.slice xl N cl] := by rw [← hW1]; exact ((Blk.new _ _ _).alloc _ |>.alloc _).alloc _
  have b1 : Blk W1 (w.heap.size + 1) 25 (Wc n) := by rw [← hW1]; exact ((Blk.newS _ _ _ _).alloc _).alloc _
  have b2 : Blk W1 (w.heap.size + 2) 36 (vA v.1 v.2) := by
    rw [← hW1]
    have h := Blk.newS (w.alloc (.cells #[.slice xl N cl] 31)) (.cells (Wc n) 25) 36 (vA v.1 v.2)
    rw [World.size_alloc] at h
    exact h.alloc _
  have b3 : Blk W1 (w.heap.size + 3) 31 #[.slice none 0 0] := by
    rw [← hW1]
    have h := Blk.newS ((w.alloc (.cells #[.slice xl N cl] 31)).alloc (.cells (Wc n) 25)) (.cells (vA v.1 v.2) 36) 31 #[.slice none 0 0]
    rw [World.size_alloc, World.size_alloc] at h
    exact h
  have hs1 : W1.heap.size = w.heap.size + 4 := by rw [← hW1]; simp
  rw [← hN] at b0
  have HRow := Lib.hid (row_any base (.slice xl l.length cl) l n hn W1 (h.keep hB) (by omega))
  have hkey := rowN_key (l := l) (n := n)
  rw [hN] at HRow b0
  obtain ⟨K, hK⟩ : ∃ K, (l.takeWhile (fun r => decide (r.1 < n))).length = K := ⟨_, rfl⟩
  have HK := Lib.hid (And.intro hK (And.intro (takeW_at hK) (putL_at (v := v) hK)))
  have HN := Lib.hid hN
  have HA1 := Lib.hid (And.intro (h.keep hB) (And.intro hB (And.intro b0 (And.intro b1 (And.intro b2 (And.intro b3 hs1))))))
  have HW := Lib.hid hW1
  have HV := Lib.hid hv
  have hKN : K ≤ N := by have := HK.out.2.1.2.2; omega
  have hokx : okR (rowN l n) := by
    rw [rowN_Q]
    cases hf : rowQ l n with
    | none => exact ⟨hn, okP0, okP0⟩
    | some r => exact h.1 r (rowQ_mem hf).1
  obtain ⟨u, hu⟩ : ∃ u, (rowN l n).2.2 = u := ⟨_, rfl⟩
  rw [hu] at HK
  have HU := Lib.hid (And.intro (show rowN l n = (n, (rowN l n).2.1, u) from by rw [← hu]; exact Prod.ext hkey rfl) (show okP u by rw [← hu]; exact hokx.2.2))
  rw [HU.out.1] at HRow
  obtain ⟨uo, huo⟩ : ∃ uo, (rowN l n).2.1 = uo := ⟨_, rfl⟩
  rw [huo] at HRow
  have HL := Lib.hid hll
  rw [hN] at hll ⊢
  clear h hB b0 b1 b2 b3 hW1 hN hs1 hK hv hkey hokx hu huo
  obtain ⟨i0, hi, hz0, hz1, hz2⟩ := info_parts' infoRw
  have HI := Lib.hid (And.intro hi (And.intro hz0 (And.intro hz1 hz2)))
  clear hi hz0 hz1 hz2
  go_enter Try.func24, Try.ntmps24
  go_upto_region 1 with fail
  rw [HW.out]
  have c0 : W1.cell? ⟨w.heap.size, 0, none⟩ = some (.slice xl N cl) := cell_of_row _ _ 0 _ _ _ HA1.out.2.2.1
  have k0 : W1.cell? ⟨w.heap.size + 1, 0, none⟩ = some (.int .u64 (lb n 0)) := cell_of_row _ _ 0 _ _ _ HA1.out.2.2.2.1
  have k1 : W1.cell? ⟨w.heap.size + 1, 1, none⟩ = some (.int .u64 (lb n 1)) := cell_of_row _ _ 1 _ _ _ HA1.out.2.2.2.1
  have k2 : W1.cell? ⟨w.heap.size + 1, 2, none⟩ = some (.int .u64 (lb n 2)) := cell_of_row _ _ 2 _ _ _ HA1.out.2.2.2.1
  have k3 : W1.cell? ⟨w.heap.size + 1, 3, none⟩ = some (.int .u64 (lb n 3)) := cell_of_row _ _ 3 _ _ _ HA1.out.2.2.2.1
  go_upto_region 2 with (first
    | (go_at_call 28; refine (HRow.out).mono ?_; rintro e z1 ⟨rfl, h1⟩; have H1 := Lib.hid h1; clear h1)
    | fail)
  obtain ⟨X1, hX1⟩ : ∃ X1, z1.alloc (.cells (rvA (n, uo, u)) 59) = X1 := ⟨_, rfl⟩
  rw [show z1.alloc (.cells #[.int .u64 (lb n 0), .int .u64 (lb n 1), .int .u64 (lb n 2), .int .u64 (lb n 3), .int .u64 (lb uo.1 0), .int .u64 (lb uo.1 1), .int .u64 (lb uo.1 2), .int .u64 (lb uo.1 3), .int .u64 (uo.2 : Nat), .int .u64 (lb u.1 0), .int .u64 (lb u.1 1), .int .u64 (lb u.1 2), .int .u64 (lb u.1 3), .int .u64 (u.2 : Nat)] 59) = X1 from hX1]
  have kR : Blk X1 z1.heap.size 59 (rvA (n, uo, u)) := by rw [← hX1]; exact Blk.new _ _ _
  have hbX : Below W1.heap.size W1 X1 := by rw [← hX1]; exact balloc H1.out _
  have v0 : X1.cell? ⟨w.heap.size + 2, 0, none⟩ = some (.int .u64 (lb v.1 0)) := cell_of_row _ _ 0 _ _ _ (HA1.out.2.2.2.2.1.keep hbX)
  have v1 : X1.cell? ⟨w.heap.size + 2, 1, none⟩ = some (.int .u64 (lb v.1 1)) := cell_of_row _ _ 1 _ _ _ (HA1.out.2.2.2.2.1.keep hbX)
  have v2 : X1.cell? ⟨w.heap.size + 2, 2, none⟩ = some (.int .u64 (lb v.1 2)) := cell_of_row _ _ 2 _ _ _ (HA1.out.2.2.2.2.1.keep hbX)
  have v3 : X1.cell? ⟨w.heap.size + 2, 3, none⟩ = some (.int .u64 (lb v.1 3)) := cell_of_row _ _ 3 _ _ _ (HA1.out.2.2.2.2.1.keep hbX)
  have v4 : X1.cell? ⟨w.heap.size + 2, 4, none⟩ = some (.int .u64 (v.2 : Nat)) := cell_of_row _ _ 4 _ _ _ (HA1.out.2.2.2.2.1.keep hbX)
  have f4 := frozen_of_row _ _ 4 _ _ kR
  have q4 : X1.cell? ⟨z1.heap.size, 4, none⟩ = some (.int .u64 (lb uo.1 0)) := cell_of_row _ _ 4 _ _ _ kR
  have f5 := frozen_of_row _ _ 5 _ _ kR
  have q5 : X1.cell? ⟨z1.heap.size, 5, none⟩ = some (.int .u64 (lb uo.1 1)) := cell_of_row _ _ 5 _ _ _ kR
  have f6 := frozen_of_row _ _ 6 _ _ kR
  have q6 : X1.cell? ⟨z1.heap.size, 6, none⟩ = some (.int .u64 (lb uo.1 2)) := cell_of_row _ _ 6 _ _ _ kR
  have f7 := frozen_of_row _ _ 7 _ _ kR
  have q7 : X1.cell? ⟨z1.heap.size, 7, none⟩ = some (.int .u64 (lb uo.1 3)) := cell_of_row _ _ 7 _ _ _ kR
  have f8 := frozen_of_row _ _ 8 _ _ kR
  have q8 : X1.cell? ⟨z1.heap.size, 8, none⟩ = some (.int .u64 (uo.2 : Nat)) := cell_of_row _ _ 8 _ _ _ kR
  have HX1 := Lib.hid (And.intro kR (And.intro hbX H1.out.size))
  clear kR hbX hX1 c0 k0 k1 k2 k3
  go_upto_region 3 with fail
  obtain ⟨W2, hW2⟩ : ∃ W2, ((((X1.setCell ⟨z1.heap.size, 4, none⟩ (.int .u64 (lb v.1 0))).setCell ⟨z1.heap.size, 5, none⟩ (.int .u64 (lb v.1 1))).setCell ⟨z1.heap.size, 6, none⟩ (.int .u64 (lb v.1 2))).setCell ⟨z1.heap.size, 7, none⟩ (.int .u64 (lb v.1 3))).setCell ⟨z1.heap.size, 8, none⟩ (.int .u64 (v.2 : Nat)) = W2 := ⟨_, rfl⟩
  have kX : Blk W2 z1.heap.size 59 (rvA (n, v, u)) := by rw [← hW2]; exact set_now HX1.out.1
  have hb2 : Below W1.heap.size W1 W2 := by
    rw [← hW2]
    have hz := HX1.out.2.2
    exact ((((HX1.out.2.1.setCell (p := ⟨z1.heap.size, 4, none⟩) hz _).setCell (p := ⟨z1.heap.size, 5, none⟩) hz _).setCell (p := ⟨z1.heap.size, 6, none⟩) hz _).setCell (p := ⟨z1.heap.size, 7, none⟩) hz _).setCell (p := ⟨z1.heap.size, 8, none⟩) hz _
  have HA := Lib.hid (And.intro (HA1.out.1.keep hb2) (And.intro (HA1.out.2.1.trans (hb2.mono HA1.out.2.1.size)) (And.intro (HA1.out.2.2.1.keep hb2) (And.intro (HA1.out.2.2.2.1.keep hb2) (And.intro kX (And.intro (HA1.out.2.2.2.2.2.1.keep hb2) (show w.heap.size + 4 ≤ W2.heap.size by have := HA1.out.2.2.2.2.2.2; have := hb2.size; omega)))))))
  rw [hW2]
  clear hW2 kX hb2 v0 v1 v2 v3 v4 f4 f5 f6 f7 f8 q4 q5 q6 q7 q8
  go_wp2_with fail
  go_loopw [8, 9] (fun uu t wr => ∃ k : Nat, t = .int .i64 k ∧ k ≤ K ∧ OwR wr W2.heap.size uu (l.take k) ∧ Below W2.heap.size W2 wr) (fun _ t _ => N + 1 - (intOf t).toNat)
  case atStart => exact ⟨0, rfl, Nat.zero_le _, OwR.nil _ _, Below.refl _ _⟩
  case round =>
    obtain ⟨k, rfl, hk, how, hbl⟩ := hrel
    have cS : wr.cell? ⟨w.heap.size, 0, none⟩ = some (.slice xl N cl) := cell_of_row _ _ 0 _ _ _ (HA.out.2.2.1.keep hbl)
    have cSd : wr.drew.cell? ⟨w.heap.size, 0, none⟩ = some (.slice xl N cl) := cS
    have k0 : wr.cell? ⟨w.heap.size + 1, 0, none⟩ = some (.int .u64 (lb n 0)) := cell_of_row _ _ 0 _ _ _ (HA.out.2.2.2.1.keep hbl)
    have k1 : wr.cell? ⟨w.heap.size + 1, 1, none⟩ = some (.int .u64 (lb n 1)) := cell_of_row _ _ 1 _ _ _ (HA.out.2.2.2.1.keep hbl)
    have k2 : wr.cell? ⟨w.heap.size + 1, 2, none⟩ = some (.int .u64 (lb n 2)) := cell_of_row _ _ 2 _ _ _ (HA.out.2.2.2.1.keep hbl)
    have k3 : wr.cell? ⟨w.heap.size + 1, 3, none⟩ = some (.int .u64 (lb n 3)) := cell_of_row _ _ 3 _ _ _ (HA.out.2.2.2.1.keep hbl)
    have g1 : (0 : Int) ≤ (k : Int) := by omega
    have g2 : IntKind.i64.wrap ((k : Int) + 1) = ((k + 1 : Nat) : Int) := IntWalk.i64_in _ (by omega)
    obtain ⟨vo, hvo⟩ : ∃ vo, u8 = vo := ⟨_, rfl⟩
    rw [hvo] at how ⊢
    clear hvo
    have HO := Lib.hid (And.intro how hbl)
    by_cases hltN : k < N
    · have g0 : (k : Int) < (N : Int) := by omega
      have g0b : decide (k < N) = true := decide_eq_true hltN
      obtain ⟨r, hr⟩ : ∃ r, l[k]? = some r := ⟨_, List.getElem?_eq_getElem (by rw [HN.out]; exact hltN)⟩
      obtain ⟨b, o, c2, e, hbl1, hcell⟩ := HA.out.1.at hr
      injection e with e1 e2 e3
      subst e1
      have hcl : ∀ j, j < 14 → wr.cell? ⟨b, o + k * 14 + j, none⟩ = (rvA r)[j]? := fun j hj => ((hbl).cell (p := ⟨b, o + k * 14 + j, none⟩) hbl1).trans (hcell j hj)
      have d0 : wr.cell? ⟨b, o + k * 14, none⟩ = some (.int .u64 (lb r.1 0)) := hcl 0 (by omega)
      have d1 : wr.cell? ⟨b, o + k * 14 + 1, none⟩ = some (.int .u64 (lb r.1 1)) := hcl 1 (by omega)
      have d2 : wr.cell? ⟨b, o + k * 14 + 2, none⟩ = some (.int .u64 (lb r.1 2)) := hcl 2 (by omega)
      have d3 : wr.cell? ⟨b, o + k * 14 + 3, none⟩ = some (.int .u64 (lb r.1 3)) := hcl 3 (by omega)
      have d4 : wr.cell? ⟨b, o + k * 14 + 4, none⟩ = some (.int .u64 (lb r.2.1.1 0)) := hcl 4 (by omega)
      have d5 : wr.cell? ⟨b, o + k * 14 + 5, none⟩ = some (.int .u64 (lb r.2.1.1 1)) := hcl 5 (by omega)
      have d6 : wr.cell? ⟨b, o + k * 14 + 6, none⟩ = some (.int .u64 (lb r.2.1.1 2)) := hcl 6 (by omega)
      have d7 : wr.cell? ⟨b, o + k * 14 + 7, none⟩ = some (.int .u64 (lb r.2.1.1 3)) := hcl 7 (by omega)
      have d8 : wr.cell? ⟨b, o + k * 14 + 8, none⟩ = some (.int .u64 (r.2.1.2 : Nat)) := hcl 8 (by omega)
      have d9 : wr.cell? ⟨b, o + k * 14 + 9, none⟩ = some (.int .u64 (lb r.2.2.1 0)) := hcl 9 (by omega)
      have d10 : wr.cell? ⟨b, o + k * 14 + 10, none⟩ = some (.int .u64 (lb r.2.2.1 1)) := hcl 10 (by omega)
      have d11 : wr.cell? ⟨b, o + k * 14 + 11, none⟩ = some (.int .u64 (lb r.2.2.1 2)) := hcl 11 (by omega)
      have d12 : wr.cell? ⟨b, o + k * 14 + 12, none⟩ = some (.int .u64 (lb r.2.2.1 3)) := hcl 12 (by omega)
      have d13 : wr.cell? ⟨b, o + k * 14 + 13, none⟩ = some (.int .u64 (r.2.2.2 : Nat)) := hcl 13 (by omega)
      have hok := HA.out.1.1 r (List.mem_of_getElem? hr)
      have HOrd := Lib.hid (fun X => wrorder_any r.1 n hok.1 hn X)
      by_cases hlt : k < K
      · have hcm : ¬ (0 : Int) ≤ cmpN r.1 n := by have := (cmpN_neg r.1 n).2 (takeW_lt HK.out.1 hlt hr); omega
        have hcm' : cmpN r.1 n < 0 := by omega
        have HR := Lib.hid (And.intro hr (And.intro hok hlt))
        have h0 : Below W2.heap.size W2 wr.drew := below_drew' hbl
        have sS : ∀ w', Below W2.heap.size W2 w' → w'.cell? ⟨w.heap.size, 0, none⟩ = some (.slice (some ⟨b, o, none⟩) N cl) := fun w' q => cell_of_row _ _ 0 _ _ _ (HA.out.2.2.1.keep q)
        have s0 : ∀ w', Below W2.heap.size W2 w' → w'.cell? ⟨w.heap.size + 1, 0, none⟩ = some (.int .u64 (lb n 0)) := fun w' q => cell_of_row _ _ 0 _ _ _ (HA.out.2.2.2.1.keep q)
        have s1 : ∀ w', Below W2.heap.size W2 w' → w'.cell? ⟨w.heap.size + 1, 1, none⟩ = some (.int .u64 (lb n 1)) := fun w' q => cell_of_row _ _ 1 _ _ _ (HA.out.2.2.2.1.keep q)
        have s2 : ∀ w', Below W2.heap.size W2 w' → w'.cell? ⟨w.heap.size + 1, 2, none⟩ = some (.int .u64 (lb n 2)) := fun w' q => cell_of_row _ _ 2 _ _ _ (HA.out.2.2.2.1.keep q)
        have s3 : ∀ w', Below W2.heap.size W2 w' → w'.cell? ⟨w.heap.size + 1, 3, none⟩ = some (.int .u64 (lb n 3)) := fun w' q => cell_of_row _ _ 3 _ _ _ (HA.out.2.2.2.1.keep q)
        have p0 : ∀ w', Below W2.heap.size W2 w' → w'.cell? ⟨b, o + k * 14, none⟩ = some (.int .u64 (lb r.1 0)) := fun w' q => (q.cell (p := ⟨b, o + k * 14, none⟩) hbl1).trans (hcell 0 (by omega))
        have p1 : ∀ w', Below W2.heap.size W2 w' → w'.cell? ⟨b, o + k * 14 + 1, none⟩ = some (.int .u64 (lb r.1 1)) := fun w' q => (q.cell (p := ⟨b, o + k * 14 + 1, none⟩) hbl1).trans (hcell 1 (by omega))
        have p2 : ∀ w', Below W2.heap.size W2 w' → w'.cell? ⟨b, o + k * 14 + 2, none⟩ = some (.int .u64 (lb r.1 2)) := fun w' q => (q.cell (p := ⟨b, o + k * 14 + 2, none⟩) hbl1).trans (hcell 2 (by omega))
        have p3 : ∀ w', Below W2.heap.size W2 w' → w'.cell? ⟨b, o + k * 14 + 3, none⟩ = some (.int .u64 (lb r.1 3)) := fun w' q => (q.cell (p := ⟨b, o + k * 14 + 3, none⟩) hbl1).trans (hcell 3 (by omega))
        have HCL := Lib.hid (fun X (q : Below W2.heap.size W2 X) j (hj : j < 14) => (q.cell (p := ⟨b, o + k * 14 + j, none⟩) hbl1).trans (hcell j hj))
        clear hr hok hlt hltN e2 e3 how hcell hcl hbl1
        generalize cmpN r.1 n = cm at *
        go_upto_region 5 with fail
        go_region_held3 (fun w' => Below W2.heap.size W2 w') (first | with_reducible assumption) (first
          | (go_at_call 38; refine (HOrd.out _).mono ?_; rintro e zz ⟨rfl, hz⟩; have hH : Below W2.heap.size W2 zz := bstep h0 hz; have HZ := Lib.hid hz; clear hz)
          | fail)
        all_goals
          have cZ := sS zz hH
          have d0 : zz.cell? ⟨b, o + k * 14, none⟩ = some (.int .u64 (lb r.1 0)) := HCL.out zz hH 0 (by omega)
          have d1 : zz.cell? ⟨b, o + k * 14 + 1, none⟩ = some (.int .u64 (lb r.1 1)) := HCL.out zz hH 1 (by omega)
          have d2 : zz.cell? ⟨b, o + k * 14 + 2, none⟩ = some (.int .u64 (lb r.1 2)) := HCL.out zz hH 2 (by omega)
          have d3 : zz.cell? ⟨b, o + k * 14 + 3, none⟩ = some (.int .u64 (lb r.1 3)) := HCL.out zz hH 3 (by omega)
          have d4 : zz.cell? ⟨b, o + k * 14 + 4, none⟩ = some (.int .u64 (lb r.2.1.1 0)) := HCL.out zz hH 4 (by omega)
          have d5 : zz.cell? ⟨b, o + k * 14 + 5, none⟩ = some (.int .u64 (lb r.2.1.1 1)) := HCL.out zz hH 5 (by omega)
          have d6 : zz.cell? ⟨b, o + k * 14 + 6, none⟩ = some (.int .u64 (lb r.2.1.1 2)) := HCL.out zz hH 6 (by omega)
          have d7 : zz.cell? ⟨b, o + k * 14 + 7, none⟩ = some (.int .u64 (lb r.2.1.1 3)) := HCL.out zz hH 7 (by omega)
          have d8 : zz.cell? ⟨b, o + k * 14 + 8, none⟩ = some (.int .u64 (r.2.1.2 : Nat)) := HCL.out zz hH 8 (by omega)
          have d9 : zz.cell? ⟨b, o + k * 14 + 9, none⟩ = some (.int .u64 (lb r.2.2.1 0)) := HCL.out zz hH 9 (by omega)
          have d10 : zz.cell? ⟨b, o + k * 14 + 10, none⟩ = some (.int .u64 (lb r.2.2.1 1)) := HCL.out zz hH 10 (by omega)
          have d11 : zz.cell? ⟨b, o + k * 14 + 11, none⟩ = some (.int .u64 (lb r.2.2.1 2)) := HCL.out zz hH 11 (by omega)
          have d12 : zz.cell? ⟨b, o + k * 14 + 12, none⟩ = some (.int .u64 (lb r.2.2.1 3)) := HCL.out zz hH 12 (by omega)
          have d13 : zz.cell? ⟨b, o + k * 14 + 13, none⟩ = some (.int .u64 (r.2.2.2 : Nat)) := HCL.out zz hH 13 (by omega)
          have hlen : (l.take k).length = k := by rw [List.length_take]; have := HN.out; have := HR.out.2.2; omega
          have hown : World.ownsRow zz W2.heap.size 59 14 vo k (rvs (l.take k)) := by
            have h := ((show OwR wr.drew W2.heap.size vo (l.take k) from HO.out.1).keep HZ.out).2
            rw [hlen] at h
            exact h
          have HMM := Lib.hid (And.intro (show k ≤ 1000 by omega) hlen)
          have HH := Lib.hid hH
          clear hH h0 hlen sS s0 p0 s1 p1 s2 p2 s3 p3
          obtain ⟨hi, hz0, hz1, hz2⟩ := HI.out
          have hu := und_sr
          have hsz := HH.out.size
          go_wp2_with (first
            | (at_builtin; refine wpList_append_own _ rfl _ _ 29 rfl W2.heap.size 59 i0 (.agg #[.int .u64 0, .int .u64 0, .int .u64 0, .int .u64 0, .int .u64 0, .int .u64 0, .int .u64 0, .int .u64 0, .int .u64 0, .int .u64 0, .int .u64 0, .int .u64 0, .int .u64 0, .int .u64 0]) 14 112 hu hi hz0 hz1 hz2 rfl (by decide) _ _ _ rfl (hown.alloc _) ⟨zz.heap.size, 0, none⟩ 1 1 (rvA r).toList rfl rfl (new_cells zz _ (rvA r)) (rv_one r) ?c3 ?c4 ?c5 ?_)
            | fail)
          case c3 => unfold maxLen; have := HMM.out; omega
          case c4 => have := HMM.out; omega
          case c5 => simp; omega
          intro v2 z2 hown2 hgrow _
          have hB2 := world_keptR (hown.alloc _) hgrow (balloc HH.out _) (Nat.le_refl _) (Nat.le_refl _)
          have hO2 := OwR.snoc HO.out.1.1 HR.out.2.1 HMM.out.2 hown2
          have H2 := Lib.hid (And.intro hO2 hB2)
          clear hown hown2 hgrow hB2 hO2 hi hz0 hz1 hz2 hu
          go_wp2_with fail
          go_roundw
          case rel => exact ⟨k + 1, rfl, by have := HR.out.2.2; omega, by rw [List.take_add_one, HR.out.1]; exact H2.out.1, H2.out.2⟩
          case measure => simp [intOf]; have := HR.out.2.2; omega
      · obtain rfl : k = K := by omega
        have hcm : (0 : Int) ≤ cmpN r.1 n := by
          rcases Int.lt_or_le (cmpN r.1 n) 0 with h | h
          · exact absurd ((cmpN_neg r.1 n).1 h) (takeW_ge HK.out.1 hr)
          · exact h
        have hcm' : ¬ cmpN r.1 n < 0 := by omega
        have h0 : Below W2.heap.size W2 wr.drew := below_drew' hbl
        have sS : ∀ w', Below W2.heap.size W2 w' → w'.cell? ⟨w.heap.size, 0, none⟩ = some (.slice (some ⟨b, o, none⟩) N cl) := fun w' q => cell_of_row _ _ 0 _ _ _ (HA.out.2.2.1.keep q)
        have s0 : ∀ w', Below W2.heap.size W2 w' → w'.cell? ⟨w.heap.size + 1, 0, none⟩ = some (.int .u64 (lb n 0)) := fun w' q => cell_of_row _ _ 0 _ _ _ (HA.out.2.2.2.1.keep q)
        have s1 : ∀ w', Below W2.heap.size W2 w' → w'.cell? ⟨w.heap.size + 1, 1, none⟩ = some (.int .u64 (lb n 1)) := fun w' q => cell_of_row _ _ 1 _ _ _ (HA.out.2.2.2.1.keep q)
        have s2 : ∀ w', Below W2.heap.size W2 w' → w'.cell? ⟨w.heap.size + 1, 2, none⟩ = some (.int .u64 (lb n 2)) := fun w' q => cell_of_row _ _ 2 _ _ _ (HA.out.2.2.2.1.keep q)
        have s3 : ∀ w', Below W2.heap.size W2 w' → w'.cell? ⟨w.heap.size + 1, 3, none⟩ = some (.int .u64 (lb n 3)) := fun w' q => cell_of_row _ _ 3 _ _ _ (HA.out.2.2.2.1.keep q)
        have p0 : ∀ w', Below W2.heap.size W2 w' → w'.cell? ⟨b, o + k * 14, none⟩ = some (.int .u64 (lb r.1 0)) := fun w' q => (q.cell (p := ⟨b, o + k * 14, none⟩) hbl1).trans (hcell 0 (by omega))
        have p1 : ∀ w', Below W2.heap.size W2 w' → w'.cell? ⟨b, o + k * 14 + 1, none⟩ = some (.int .u64 (lb r.1 1)) := fun w' q => (q.cell (p := ⟨b, o + k * 14 + 1, none⟩) hbl1).trans (hcell 1 (by omega))
        have p2 : ∀ w', Below W2.heap.size W2 w' → w'.cell? ⟨b, o + k * 14 + 2, none⟩ = some (.int .u64 (lb r.1 2)) := fun w' q => (q.cell (p := ⟨b, o + k * 14 + 2, none⟩) hbl1).trans (hcell 2 (by omega))
        have p3 : ∀ w', Below W2.heap.size W2 w' → w'.cell? ⟨b, o + k * 14 + 3, none⟩ = some (.int .u64 (lb r.1 3)) := fun w' q => (q.cell (p := ⟨b, o + k * 14 + 3, none⟩) hbl1).trans (hcell 3 (by omega))
        clear hr hok hlt e2 e3 how hcell hcl hbl1
        generalize cmpN r.1 n = cm at *
        go_upto_region 5 with fail
        go_region_held3 (fun w' => Below W2.heap.size W2 w') (first | with_reducible assumption) (first
          | (go_at_call 38; refine (HOrd.out _).mono ?_; rintro e zz ⟨rfl, hz⟩; have hH : Below W2.heap.size W2 zz := bstep h0 hz; have HZ := Lib.hid hz; clear hz)
          | fail)
        all_goals
          have HY := Lib.hid (And.intro hH ((show OwR wr.drew W2.heap.size vo (l.take k) from HO.out.1).keep HZ.out))
          clear HZ HOrd
          go_upto_region 8 with fail
          generalize (some (⟨b, o, none⟩ : Addr)) = xl at *
          clear hH h0 hcm hcm' g0 g0b hltN sS s0 p0 s1 p1 s2 p2 s3 p3 d0 d1 d2 d3 d4 d5 d6 d7 d8 d9 d10 d11 d12 d13 k0 k1 k2 k3 cS cSd
          have hlenk : (l.take k).length = k := by rw [List.length_take]; have := HN.out; omega
          obtain ⟨yo, co, hvo⟩ := HY.out.2.is
          rw [hlenk] at hvo
          rw [hvo] at HY HO ⊢
          clear hvo
          have cS : zz.cell? ⟨w.heap.size, 0, none⟩ = some (.slice xl N cl) := cell_of_row _ _ 0 _ _ _ (HA.out.2.2.1.keep HY.out.1)
          have x0 : zz.cell? ⟨z1.heap.size, 0, none⟩ = some (.int .u64 (lb n 0)) := cell_of_row _ _ 0 _ _ _ (HA.out.2.2.2.2.1.keep HY.out.1)
          have x1 : zz.cell? ⟨z1.heap.size, 1, none⟩ = some (.int .u64 (lb n 1)) := cell_of_row _ _ 1 _ _ _ (HA.out.2.2.2.2.1.keep HY.out.1)
          have x2 : zz.cell? ⟨z1.heap.size, 2, none⟩ = some (.int .u64 (lb n 2)) := cell_of_row _ _ 2 _ _ _ (HA.out.2.2.2.2.1.keep HY.out.1)
          have x3 : zz.cell? ⟨z1.heap.size, 3, none⟩ = some (.int .u64 (lb n 3)) := cell_of_row _ _ 3 _ _ _ (HA.out.2.2.2.2.1.keep HY.out.1)
          have x4 : zz.cell? ⟨z1.heap.size, 4, none⟩ = some (.int .u64 (lb v.1 0)) := cell_of_row _ _ 4 _ _ _ (HA.out.2.2.2.2.1.keep HY.out.1)
          have x5 : zz.cell? ⟨z1.heap.size, 5, none⟩ = some (.int .u64 (lb v.1 1)) := cell_of_row _ _ 5 _ _ _ (HA.out.2.2.2.2.1.keep HY.out.1)
          have x6 : zz.cell? ⟨z1.heap.size, 6, none⟩ = some (.int .u64 (lb v.1 2)) := cell_of_row _ _ 6 _ _ _ (HA.out.2.2.2.2.1.keep HY.out.1)
          have x7 : zz.cell? ⟨z1.heap.size, 7, none⟩ = some (.int .u64 (lb v.1 3)) := cell_of_row _ _ 7 _ _ _ (HA.out.2.2.2.2.1.keep HY.out.1)
          have x8 : zz.cell? ⟨z1.heap.size, 8, none⟩ = some (.int .u64 (v.2 : Nat)) := cell_of_row _ _ 8 _ _ _ (HA.out.2.2.2.2.1.keep HY.out.1)
          have x9 : zz.cell? ⟨z1.heap.size, 9, none⟩ = some (.int .u64 (lb u.1 0)) := cell_of_row _ _ 9 _ _ _ (HA.out.2.2.2.2.1.keep HY.out.1)
          have x10 : zz.cell? ⟨z1.heap.size, 10, none⟩ = some (.int .u64 (lb u.1 1)) := cell_of_row _ _ 10 _ _ _ (HA.out.2.2.2.2.1.keep HY.out.1)
          have x11 : zz.cell? ⟨z1.heap.size, 11, none⟩ = some (.int .u64 (lb u.1 2)) := cell_of_row _ _ 11 _ _ _ (HA.out.2.2.2.2.1.keep HY.out.1)
          have x12 : zz.cell? ⟨z1.heap.size, 12, none⟩ = some (.int .u64 (lb u.1 3)) := cell_of_row _ _ 12 _ _ _ (HA.out.2.2.2.2.1.keep HY.out.1)
          have x13 : zz.cell? ⟨z1.heap.size, 13, none⟩ = some (.int .u64 (u.2 : Nat)) := cell_of_row _ _ 13 _ _ _ (HA.out.2.2.2.2.1.keep HY.out.1)
          have nzv := neqZ v HV.out
          have nzu := neqZ u HU.out.2
          have hown : World.ownsRow zz W2.heap.size 59 14 (.slice yo k co) k (rvs (l.take k)) := by
            have h := HY.out.2.2
            rw [hlenk] at h
            exact h
          clear HO
          by_cases hv0 : v = Z2
          · rw [decide_eq_true hv0] at nzv
            by_cases hu0 : u = Z2
            · rw [decide_eq_true hu0] at nzu
              have hmid : midL n v u = [] := by unfold midL; rw [if_neg (fun h => h.elim (fun q => q hv0) (fun q => q hu0))]
              have HMID := Lib.hid hmid
              clear hmid hv0 hu0 hown
              have HS := Lib.hid (And.intro (show OwR zz W2.heap.size (.slice yo k co) (l.take k ++ []) from (by rw [List.append_nil]; exact HY.out.2)) (HY.out.1))
              go_wp2_with fail
              clear x0 x1 x2 x3 x4 x5 x6 x7 x8 x9 x10 x11 x12 x13
              go_loopw [8, 11] (fun uu t wr => ∃ j : Nat, t = .int .i64 ((k + j : Nat) : Int) ∧ k + j ≤ N ∧ OwR wr W2.heap.size uu (l.take k ++ [] ++ ((l.drop k).take j).filter (fun r => decide (r.1 ≠ n))) ∧ Below W2.heap.size W2 wr) (fun _ t _ => N + 1 - (intOf t).toNat)
              case atStart => exact ⟨0, rfl, hKN, by rw [List.take_zero, List.filter_nil, List.append_nil]; exact HS.out.1, HS.out.2⟩
              case round =>
                obtain ⟨j, rfl, hj, how, hbl⟩ := hrel
                have hdj : (l.drop k)[j]? = l[k + j]? := List.getElem?_drop
                obtain ⟨q, hq⟩ : ∃ q, k + j = q := ⟨_, rfl⟩
                rw [hq] at hdj hj ⊢
                obtain ⟨vo, hvo⟩ : ∃ vo, u8 = vo := ⟨_, rfl⟩
                rw [hvo] at how ⊢
                clear hvo
                have cS : wr.cell? ⟨w.heap.size, 0, none⟩ = some (.slice xl N cl) := cell_of_row _ _ 0 _ _ _ (HA.out.2.2.1.keep hbl)
                have k0 : wr.cell? ⟨w.heap.size + 1, 0, none⟩ = some (.int .u64 (lb n 0)) := cell_of_row _ _ 0 _ _ _ (HA.out.2.2.2.1.keep hbl)
                have k1 : wr.cell? ⟨w.heap.size + 1, 1, none⟩ = some (.int .u64 (lb n 1)) := cell_of_row _ _ 1 _ _ _ (HA.out.2.2.2.1.keep hbl)
                have k2 : wr.cell? ⟨w.heap.size + 1, 2, none⟩ = some (.int .u64 (lb n 2)) := cell_of_row _ _ 2 _ _ _ (HA.out.2.2.2.1.keep hbl)
                have k3 : wr.cell? ⟨w.heap.size + 1, 3, none⟩ = some (.int .u64 (lb n 3)) := cell_of_row _ _ 3 _ _ _ (HA.out.2.2.2.1.keep hbl)
                have g1 : (0 : Int) ≤ (q : Int) := by omega
                have g2 : IntKind.i64.wrap ((q : Int) + 1) = ((q + 1 : Nat) : Int) := IntWalk.i64_in _ (by omega)
                have HO := Lib.hid (And.intro how (And.intro hbl hq))
                by_cases hlt : q < N
                · have g0 : (q : Int) < (N : Int) := by omega
                  obtain ⟨r, hr⟩ : ∃ r, l[q]? = some r := ⟨_, List.getElem?_eq_getElem (by rw [HN.out]; exact hlt)⟩
                  obtain ⟨b, o, c2, e, hbl1, hcell⟩ := HA.out.1.at hr
                  injection e with e1 e2 e3
                  subst e1
                  have hcl : ∀ j, j < 14 → wr.cell? ⟨b, o + q * 14 + j, none⟩ = (rvA r)[j]? := fun j hj => ((hbl).cell (p := ⟨b, o + q * 14 + j, none⟩) hbl1).trans (hcell j hj)
                  have d0 : wr.cell? ⟨b, o + q * 14, none⟩ = some (.int .u64 (lb r.1 0)) := hcl 0 (by omega)
                  have d1 : wr.cell? ⟨b, o + q * 14 + 1, none⟩ = some (.int .u64 (lb r.1 1)) := hcl 1 (by omega)
                  have d2 : wr.cell? ⟨b, o + q * 14 + 2, none⟩ = some (.int .u64 (lb r.1 2)) := hcl 2 (by omega)
                  have d3 : wr.cell? ⟨b, o + q * 14 + 3, none⟩ = some (.int .u64 (lb r.1 3)) := hcl 3 (by omega)
                  have d4 : wr.cell? ⟨b, o + q * 14 + 4, none⟩ = some (.int .u64 (lb r.2.1.1 0)) := hcl 4 (by omega)
                  have d5 : wr.cell? ⟨b, o + q * 14 + 5, none⟩ = some (.int .u64 (lb r.2.1.1 1)) := hcl 5 (by omega)
                  have d6 : wr.cell? ⟨b, o + q * 14 + 6, none⟩ = some (.int .u64 (lb r.2.1.1 2)) := hcl 6 (by omega)
                  have d7 : wr.cell? ⟨b, o + q * 14 + 7, none⟩ = some (.int .u64 (lb r.2.1.1 3)) := hcl 7 (by omega)
                  have d8 : wr.cell? ⟨b, o + q * 14 + 8, none⟩ = some (.int .u64 (r.2.1.2 : Nat)) := hcl 8 (by omega)
                  have d9 : wr.cell? ⟨b, o + q * 14 + 9, none⟩ = some (.int .u64 (lb r.2.2.1 0)) := hcl 9 (by omega)
                  have d10 : wr.cell? ⟨b, o + q * 14 + 10, none⟩ = some (.int .u64 (lb r.2.2.1 1)) := hcl 10 (by omega)
                  have d11 : wr.cell? ⟨b, o + q * 14 + 11, none⟩ = some (.int .u64 (lb r.2.2.1 2)) := hcl 11 (by omega)
                  have d12 : wr.cell? ⟨b, o + q * 14 + 12, none⟩ = some (.int .u64 (lb r.2.2.1 3)) := hcl 12 (by omega)
                  have d13 : wr.cell? ⟨b, o + q * 14 + 13, none⟩ = some (.int .u64 (r.2.2.2 : Nat)) := hcl 13 (by omega)
                  have hok := HA.out.1.1 r (List.mem_of_getElem? hr)
                  have he := fun X => neqWR r.1 n hok.1 hn X
                  have hst := filt_step (n := n) (hdj.trans hr)
                  have HR := Lib.hid (And.intro hok hst)
                  have HCL := Lib.hid (fun X (p : Below W2.heap.size W2 X) jj (hj : jj < 14) => (p.cell (p := ⟨b, o + q * 14 + jj, none⟩) hbl1).trans (hcell jj hj))
                  clear hdj hr hok hst how hcell hcl hbl1 e2 e3 hq
                  by_cases hrn : r.1 = n
                  · rw [show (r.1 == n) = true by simp [hrn]] at he
                    have HE := Lib.hid hrn
                    clear hrn
                    go_upto_region 14 with fail
                    go_quiet (fail)
                    go_wp2_with fail
                    go_roundw
                    case rel => exact ⟨j + 1, by have := HO.out.2.2; exact congrArg (Value.int .i64) (by omega), by have := HO.out.2.2; omega, by rw [HR.out.2, if_pos HE.out, List.append_nil (((l.drop k).take j).filter (fun r => decide (r.1 ≠ n)))]; exact HO.out.1, below_drewN HO.out.2.1 _⟩
                    case measure => simp [intOf]; omega
                  · rw [show (r.1 == n) = false by simp [hrn]] at he
                    have HE := Lib.hid hrn
                    clear hrn
                    go_upto_region 14 with fail
                    go_quiet (fail)
                    have HB := Lib.hid (And.intro (below_drewN HO.out.2.1 nq) (show OwR (wr.drewN nq) W2.heap.size vo _ from HO.out.1))
                    generalize wr.drewN nq = zq at *
                    have cSq : zq.cell? ⟨w.heap.size, 0, none⟩ = some (.slice (some ⟨b, o, none⟩) N cl) := cell_of_row _ _ 0 _ _ _ (HA.out.2.2.1.keep HB.out.1)
                    have t0 : zq.cell? ⟨b, o + q * 14, none⟩ = some (.int .u64 (lb r.1 0)) := HCL.out zq HB.out.1 0 (by omega)
                    have t1 : zq.cell? ⟨b, o + q * 14 + 1, none⟩ = some (.int .u64 (lb r.1 1)) := HCL.out zq HB.out.1 1 (by omega)
                    have t2 : zq.cell? ⟨b, o + q * 14 + 2, none⟩ = some (.int .u64 (lb r.1 2)) := HCL.out zq HB.out.1 2 (by omega)
                    have t3 : zq.cell? ⟨b, o + q * 14 + 3, none⟩ = some (.int .u64 (lb r.1 3)) := HCL.out zq HB.out.1 3 (by omega)
                    have t4 : zq.cell? ⟨b, o + q * 14 + 4, none⟩ = some (.int .u64 (lb r.2.1.1 0)) := HCL.out zq HB.out.1 4 (by omega)
                    have t5 : zq.cell? ⟨b, o + q * 14 + 5, none⟩ = some (.int .u64 (lb r.2.1.1 1)) := HCL.out zq HB.out.1 5 (by omega)
                    have t6 : zq.cell? ⟨b, o + q * 14 + 6, none⟩ = some (.int .u64 (lb r.2.1.1 2)) := HCL.out zq HB.out.1 6 (by omega)
                    have t7 : zq.cell? ⟨b, o + q * 14 + 7, none⟩ = some (.int .u64 (lb r.2.1.1 3)) := HCL.out zq HB.out.1 7 (by omega)
                    have t8 : zq.cell? ⟨b, o + q * 14 + 8, none⟩ = some (.int .u64 (r.2.1.2 : Nat)) := HCL.out zq HB.out.1 8 (by omega)
                    have t9 : zq.cell? ⟨b, o + q * 14 + 9, none⟩ = some (.int .u64 (lb r.2.2.1 0)) := HCL.out zq HB.out.1 9 (by omega)
                    have t10 : zq.cell? ⟨b, o + q * 14 + 10, none⟩ = some (.int .u64 (lb r.2.2.1 1)) := HCL.out zq HB.out.1 10 (by omega)
                    have t11 : zq.cell? ⟨b, o + q * 14 + 11, none⟩ = some (.int .u64 (lb r.2.2.1 2)) := HCL.out zq HB.out.1 11 (by omega)
                    have t12 : zq.cell? ⟨b, o + q * 14 + 12, none⟩ = some (.int .u64 (lb r.2.2.1 3)) := HCL.out zq HB.out.1 12 (by omega)
                    have t13 : zq.cell? ⟨b, o + q * 14 + 13, none⟩ = some (.int .u64 (r.2.2.2 : Nat)) := HCL.out zq HB.out.1 13 (by omega)
                    obtain ⟨Q, hQ⟩ : ∃ Q, l.take k ++ [] ++ ((l.drop k).take j).filter (fun r => decide (r.1 ≠ n)) = Q := ⟨_, rfl⟩
                    rw [hQ] at HB
                    have HQ := Lib.hid hQ
                    obtain ⟨M, hM⟩ : ∃ M, Q.length = M := ⟨_, rfl⟩
                    have hMb : M ≤ 2002 := by
                      rw [← hM, ← hQ, List.length_append]
                      have h1 := List.length_filter_le (fun r : Rw => decide (r.1 ≠ n)) ((l.drop k).take j)
                      have h2 := List.length_take_le j (l.drop k)
                      have h3 : (l.take k ++ []).length ≤ k + 1 := by rw [List.append_nil, List.length_take]; omega
                      have h4 := HO.out.2.2
                      omega
                    have hown := HB.out.2.2
                    rw [hM] at hown
                    have HMM := Lib.hid (And.intro hMb hM)
                    obtain ⟨hi, hz0, hz1, hz2⟩ := HI.out
                    have hu := und_sr
                    have hsz := HB.out.1.size
                    clear d0 d1 d2 d3 d4 d5 d6 d7 d8 d9 d10 d11 d12 d13 k0 k1 k2 k3 cS hbl he hM hMb hQ
                    go_wp2_with (first
                      | (at_builtin; refine wpList_append_own _ rfl _ _ 29 rfl W2.heap.size 59 i0 (.agg #[.int .u64 0, .int .u64 0, .int .u64 0, .int .u64 0, .int .u64 0, .int .u64 0, .int .u64 0, .int .u64 0, .int .u64 0, .int .u64 0, .int .u64 0, .int .u64 0, .int .u64 0, .int .u64 0]) 14 112 hu hi hz0 hz1 hz2 rfl (by decide) _ _ _ rfl (hown.alloc _) ⟨zq.heap.size, 0, none⟩ 1 1 (rvA r).toList rfl rfl (new_cells zq _ (rvA r)) (rv_one r) ?c3 ?c4 ?c5 ?_)
                      | fail)
                    case c3 => unfold maxLen; have := HMM.out; omega
                    case c4 => have := HMM.out; omega
                    case c5 => simp; omega
                    intro v3 z3 hown3 hgrow3 _
                    have hB3 := world_keptR (hown.alloc _) hgrow3 (balloc HB.out.1 _) (Nat.le_refl _) (Nat.le_refl _)
                    have hO3 := OwR.snoc HB.out.2.1 HR.out.1 HMM.out.2 hown3
                    have H3 := Lib.hid (And.intro hO3 hB3)
                    clear hown hown3 hgrow3 hB3 hO3 hi hz0 hz1 hz2 hu
                    go_wp2_with fail
                    go_roundw
                    case rel => exact ⟨j + 1, by have := HO.out.2.2; exact congrArg (Value.int .i64) (by omega), by have := HO.out.2.2; omega, by rw [HR.out.2, if_neg HE.out, ← List.append_assoc, HQ.out]; exact H3.out.1, H3.out.2⟩
                    case measure => simp [intOf]; omega
                · have hqN : q = N := by omega
                  have g0 : ¬ (q : Int) < (N : Int) := by omega
                  have hall : (l.drop k).take j = l.drop k := List.take_of_length_le (by rw [List.length_drop, HN.out]; omega)
                  rw [hall] at how
                  have hput : OwR wr W2.heap.size vo (putL l n v) := by rw [HK.out.2.2, HMID.out]; exact how
                  have k1 := HA.out.2.2.2.2.2.1.keep hbl
                  have f1 := frozen_of_row _ _ 0 _ _ k1
                  have k1' : wr.cell? ⟨w.heap.size + 3, 0, none⟩ = some (.slice none 0 0) := cell_of_row _ _ 0 _ _ _ k1
                  have HE := Lib.hid (And.intro hput (And.intro hbl k1))
                  obtain ⟨yo, co, hvo⟩ := hput.is
                  obtain ⟨m, hm⟩ : ∃ m, (putL l n v).length = m := ⟨_, rfl⟩
                  rw [hm] at hvo
                  rw [hvo] at HE ⊢
                  clear how hbl hlt hj k1 hvo hm hput hall hqN hdj hq HO
                  go_wp2_with fail
                  obtain ⟨vo, hvv⟩ : ∃ vo, Value.slice yo m co = vo := ⟨_, rfl⟩
                  rw [hvv] at HE ⊢
                  have hg := grown_set' (grown_refl wr (w.heap.size + 3)) 0 vo
                  have kE : Blk (wr.setCell ⟨w.heap.size + 3, 0, none⟩ vo) (w.heap.size + 3) 31 #[vo] := heap_setCell_same _ _ 0 _ _ _ HE.out.2.2
                  have hlt1 := HA.out.2.2.2.2.2.2
                  (try simp only [Exit.inBlock, Exit.then])
                  refine bodyPost_ret (ret_slots (u := vo) rfl rfl kE) rfl ⟨vo, rfl, ?_, ?_⟩
                  · exact OwR.mono ⟨HE.out.1.1, World.ownsRow.kept HE.out.1.2 hg (own_far HE.out.1.2 (by omega))⟩ HA.out.2.1.size
                  · exact (HA.out.2.1.trans (HE.out.2.1.mono HA.out.2.1.size)).setCell (p := ⟨w.heap.size + 3, 0, none⟩) (by simp) _
            · rw [decide_eq_false hu0] at nzu
              clear hv0
              have hmid : midL n v u = [(n, v, u)] := by unfold midL; rw [if_pos (.inr hu0)]
              have HMID := Lib.hid hmid
              clear hmid
              obtain ⟨hi, hz0, hz1, hz2⟩ := HI.out
              have hu := und_sr
              have hsz := HY.out.1.size
              have HMM := Lib.hid (And.intro hKN hlenk)
              go_wp2_with (first
                | (at_builtin; refine wpList_append_own _ rfl _ _ 29 rfl W2.heap.size 59 i0 (.agg #[.int .u64 0, .int .u64 0, .int .u64 0, .int .u64 0, .int .u64 0, .int .u64 0, .int .u64 0, .int .u64 0, .int .u64 0, .int .u64 0, .int .u64 0, .int .u64 0, .int .u64 0, .int .u64 0]) 14 112 hu hi hz0 hz1 hz2 rfl (by decide) _ _ _ rfl (hown.alloc _) ⟨zz.heap.size, 0, none⟩ 1 1 (rvA (n, v, u)).toList rfl rfl (new_cells zz _ (rvA (n, v, u))) (rv_one (n, v, u)) ?c3 ?c4 ?c5 ?_)
                | fail)
              case c3 => unfold maxLen; have := HMM.out; omega
              case c4 => have := HMM.out; omega
              case c5 => simp; omega
              intro v2 z2 hown2 hgrow _
              have hB2 := world_keptR (hown.alloc _) hgrow (balloc HY.out.1 _) (Nat.le_refl _) (Nat.le_refl _)
              have hO2 := OwR.snoc (r := (n, v, u)) HY.out.2.1 ⟨hn, HV.out, HU.out.2⟩ hlenk hown2
              have H2 := Lib.hid (And.intro hO2 hB2)
              clear hown hown2 hgrow hB2 hO2 hi hz0 hz1 hz2 hu
              have HS := Lib.hid (And.intro (H2.out.1) (H2.out.2))
              go_wp2_with fail
              clear x0 x1 x2 x3 x4 x5 x6 x7 x8 x9 x10 x11 x12 x13
              go_loopw [8, 11] (fun uu t wr => ∃ j : Nat, t = .int .i64 ((k + j : Nat) : Int) ∧ k + j ≤ N ∧ OwR wr W2.heap.size uu (l.take k ++ [(n, v, u)] ++ ((l.drop k).take j).filter (fun r => decide (r.1 ≠ n))) ∧ Below W2.heap.size W2 wr) (fun _ t _ => N + 1 - (intOf t).toNat)
              case atStart => exact ⟨0, rfl, hKN, by rw [List.take_zero, List.filter_nil, List.append_nil]; exact HS.out.1, HS.out.2⟩
              case round =>
                obtain ⟨j, rfl, hj, how, hbl⟩ := hrel
                have hdj : (l.drop k)[j]? = l[k + j]? := List.getElem?_drop
                obtain ⟨q, hq⟩ : ∃ q, k + j = q := ⟨_, rfl⟩
                rw [hq] at hdj hj ⊢
                obtain ⟨vo, hvo⟩ : ∃ vo, u8 = vo := ⟨_, rfl⟩
                rw [hvo] at how ⊢
                clear hvo
                have cS : wr.cell? ⟨w.heap.size, 0, none⟩ = some (.slice xl N cl) := cell_of_row _ _ 0 _ _ _ (HA.out.2.2.1.keep hbl)
                have k0 : wr.cell? ⟨w.heap.size + 1, 0, none⟩ = some (.int .u64 (lb n 0)) := cell_of_row _ _ 0 _ _ _ (HA.out.2.2.2.1.keep hbl)
                have k1 : wr.cell? ⟨w.heap.size + 1, 1, none⟩ = some (.int .u64 (lb n 1)) := cell_of_row _ _ 1 _ _ _ (HA.out.2.2.2.1.keep hbl)
                have k2 : wr.cell? ⟨w.heap.size + 1, 2, none⟩ = some (.int .u64 (lb n 2)) := cell_of_row _ _ 2 _ _ _ (HA.out.2.2.2.1.keep hbl)
                have k3 : wr.cell? ⟨w.heap.size + 1, 3, none⟩ = some (.int .u64 (lb n 3)) := cell_of_row _ _ 3 _ _ _ (HA.out.2.2.2.1.keep hbl)
                have g1 : (0 : Int) ≤ (q : Int) := by omega
                have g2 : IntKind.i64.wrap ((q : Int) + 1) = ((q + 1 : Nat) : Int) := IntWalk.i64_in _ (by omega)
                have HO := Lib.hid (And.intro how (And.intro hbl hq))
                by_cases hlt : q < N
                · have g0 : (q : Int) < (N : Int) := by omega
                  obtain ⟨r, hr⟩ : ∃ r, l[q]? = some r := ⟨_, List.getElem?_eq_getElem (by rw [HN.out]; exact hlt)⟩
                  obtain ⟨b, o, c2, e, hbl1, hcell⟩ := HA.out.1.at hr
                  injection e with e1 e2 e3
                  subst e1
                  have hcl : ∀ j, j < 14 → wr.cell? ⟨b, o + q * 14 + j, none⟩ = (rvA r)[j]? := fun j hj => ((hbl).cell (p := ⟨b, o + q * 14 + j, none⟩) hbl1).trans (hcell j hj)
                  have d0 : wr.cell? ⟨b, o + q * 14, none⟩ = some (.int .u64 (lb r.1 0)) := hcl 0 (by omega)
                  have d1 : wr.cell? ⟨b, o + q * 14 + 1, none⟩ = some (.int .u64 (lb r.1 1)) := hcl 1 (by omega)
                  have d2 : wr.cell? ⟨b, o + q * 14 + 2, none⟩ = some (.int .u64 (lb r.1 2)) := hcl 2 (by omega)
                  have d3 : wr.cell? ⟨b, o + q * 14 + 3, none⟩ = some (.int .u64 (lb r.1 3)) := hcl 3 (by omega)
                  have d4 : wr.cell? ⟨b, o + q * 14 + 4, none⟩ = some (.int .u64 (lb r.2.1.1 0)) := hcl 4 (by omega)
                  have d5 : wr.cell? ⟨b, o + q * 14 + 5, none⟩ = some (.int .u64 (lb r.2.1.1 1)) := hcl 5 (by omega)
                  have d6 : wr.cell? ⟨b, o + q * 14 + 6, none⟩ = some (.int .u64 (lb r.2.1.1 2)) := hcl 6 (by omega)
                  have d7 : wr.cell? ⟨b, o + q * 14 + 7, none⟩ = some (.int .u64 (lb r.2.1.1 3)) := hcl 7 (by omega)
                  have d8 : wr.cell? ⟨b, o + q * 14 + 8, none⟩ = some (.int .u64 (r.2.1.2 : Nat)) := hcl 8 (by omega)
                  have d9 : wr.cell? ⟨b, o + q * 14 + 9, none⟩ = some (.int .u64 (lb r.2.2.1 0)) := hcl 9 (by omega)
                  have d10 : wr.cell? ⟨b, o + q * 14 + 10, none⟩ = some (.int .u64 (lb r.2.2.1 1)) := hcl 10 (by omega)
                  have d11 : wr.cell? ⟨b, o + q * 14 + 11, none⟩ = some (.int .u64 (lb r.2.2.1 2)) := hcl 11 (by omega)
                  have d12 : wr.cell? ⟨b, o + q * 14 + 12, none⟩ = some (.int .u64 (lb r.2.2.1 3)) := hcl 12 (by omega)
                  have d13 : wr.cell? ⟨b, o + q * 14 + 13, none⟩ = some (.int .u64 (r.2.2.2 : Nat)) := hcl 13 (by omega)
                  have hok := HA.out.1.1 r (List.mem_of_getElem? hr)
                  have he := fun X => neqWR r.1 n hok.1 hn X
                  have hst := filt_step (n := n) (hdj.trans hr)
                  have HR := Lib.hid (And.intro hok hst)
                  have HCL := Lib.hid (fun X (p : Below W2.heap.size W2 X) jj (hj : jj < 14) => (p.cell (p := ⟨b, o + q * 14 + jj, none⟩) hbl1).trans (hcell jj hj))
                  clear hdj hr hok hst how hcell hcl hbl1 e2 e3 hq
                  by_cases hrn : r.1 = n
                  · rw [show (r.1 == n) = true by simp [hrn]] at he
                    have HE := Lib.hid hrn
                    clear hrn
                    go_upto_region 14 with fail
                    go_quiet (fail)
                    go_wp2_with fail
                    go_roundw
                    case rel => exact ⟨j + 1, by have := HO.out.2.2; exact congrArg (Value.int .i64) (by omega), by have := HO.out.2.2; omega, by rw [HR.out.2, if_pos HE.out, List.append_nil (((l.drop k).take j).filter (fun r => decide (r.1 ≠ n)))]; exact HO.out.1, below_drewN HO.out.2.1 _⟩
                    case measure => simp [intOf]; omega
                  · rw [show (r.1 == n) = false by simp [hrn]] at he
                    have HE := Lib.hid hrn
                    clear hrn
                    go_upto_region 14 with fail
                    go_quiet (fail)
                    have HB := Lib.hid (And.intro (below_drewN HO.out.2.1 nq) (show OwR (wr.drewN nq) W2.heap.size vo _ from HO.out.1))
                    generalize wr.drewN nq = zq at *
                    have cSq : zq.cell? ⟨w.heap.size, 0, none⟩ = some (.slice (some ⟨b, o, none⟩) N cl) := cell_of_row _ _ 0 _ _ _ (HA.out.2.2.1.keep HB.out.1)
                    have t0 : zq.cell? ⟨b, o + q * 14, none⟩ = some (.int .u64 (lb r.1 0)) := HCL.out zq HB.out.1 0 (by omega)
                    have t1 : zq.cell? ⟨b, o + q * 14 + 1, none⟩ = some (.int .u64 (lb r.1 1)) := HCL.out zq HB.out.1 1 (by omega)
                    have t2 : zq.cell? ⟨b, o + q * 14 + 2, none⟩ = some (.int .u64 (lb r.1 2)) := HCL.out zq HB.out.1 2 (by omega)
                    have t3 : zq.cell? ⟨b, o + q * 14 + 3, none⟩ = some (.int .u64 (lb r.1 3)) := HCL.out zq HB.out.1 3 (by omega)
                    have t4 : zq.cell? ⟨b, o + q * 14 + 4, none⟩ = some (.int .u64 (lb r.2.1.1 0)) := HCL.out zq HB.out.1 4 (by omega)
                    have t5 : zq.cell? ⟨b, o + q * 14 + 5, none⟩ = some (.int .u64 (lb r.2.1.1 1)) := HCL.out zq HB.out.1 5 (by omega)
                    have t6 : zq.cell? ⟨b, o + q * 14 + 6, none⟩ = some (.int .u64 (lb r.2.1.1 2)) := HCL.out zq HB.out.1 6 (by omega)
                    have t7 : zq.cell? ⟨b, o + q * 14 + 7, none⟩ = some (.int .u64 (lb r.2.1.1 3)) := HCL.out zq HB.out.1 7 (by omega)
                    have t8 : zq.cell? ⟨b, o + q * 14 + 8, none⟩ = some (.int .u64 (r.2.1.2 : Nat)) := HCL.out zq HB.out.1 8 (by omega)
                    have t9 : zq.cell? ⟨b, o + q * 14 + 9, none⟩ = some (.int .u64 (lb r.2.2.1 0)) := HCL.out zq HB.out.1 9 (by omega)
                    have t10 : zq.cell? ⟨b, o + q * 14 + 10, none⟩ = some (.int .u64 (lb r.2.2.1 1)) := HCL.out zq HB.out.1 10 (by omega)
                    have t11 : zq.cell? ⟨b, o + q * 14 + 11, none⟩ = some (.int .u64 (lb r.2.2.1 2)) := HCL.out zq HB.out.1 11 (by omega)
                    have t12 : zq.cell? ⟨b, o + q * 14 + 12, none⟩ = some (.int .u64 (lb r.2.2.1 3)) := HCL.out zq HB.out.1 12 (by omega)
                    have t13 : zq.cell? ⟨b, o + q * 14 + 13, none⟩ = some (.int .u64 (r.2.2.2 : Nat)) := HCL.out zq HB.out.1 13 (by omega)
                    obtain ⟨Q, hQ⟩ : ∃ Q, l.take k ++ [(n, v, u)] ++ ((l.drop k).take j).filter (fun r => decide (r.1 ≠ n)) = Q := ⟨_, rfl⟩
                    rw [hQ] at HB
                    have HQ := Lib.hid hQ
                    obtain ⟨M, hM⟩ : ∃ M, Q.length = M := ⟨_, rfl⟩
                    have hMb : M ≤ 2002 := by
                      rw [← hM, ← hQ, List.length_append]
                      have h1 := List.length_filter_le (fun r : Rw => decide (r.1 ≠ n)) ((l.drop k).take j)
                      have h2 := List.length_take_le j (l.drop k)
                      have h3 : (l.take k ++ [(n, v, u)]).length ≤ k + 1 := by rw [List.length_append, List.length_take]; simp; omega
                      have h4 := HO.out.2.2
                      omega
                    have hown := HB.out.2.2
                    rw [hM] at hown
                    have HMM := Lib.hid (And.intro hMb hM)
                    obtain ⟨hi, hz0, hz1, hz2⟩ := HI.out
                    have hu := und_sr
                    have hsz := HB.out.1.size
                    clear d0 d1 d2 d3 d4 d5 d6 d7 d8 d9 d10 d11 d12 d13 k0 k1 k2 k3 cS hbl he hM hMb hQ
                    go_wp2_with (first
                      | (at_builtin; refine wpList_append_own _ rfl _ _ 29 rfl W2.heap.size 59 i0 (.agg #[.int .u64 0, .int .u64 0, .int .u64 0, .int .u64 0, .int .u64 0, .int .u64 0, .int .u64 0, .int .u64 0, .int .u64 0, .int .u64 0, .int .u64 0, .int .u64 0, .int .u64 0, .int .u64 0]) 14 112 hu hi hz0 hz1 hz2 rfl (by decide) _ _ _ rfl (hown.alloc _) ⟨zq.heap.size, 0, none⟩ 1 1 (rvA r).toList rfl rfl (new_cells zq _ (rvA r)) (rv_one r) ?c3 ?c4 ?c5 ?_)
                      | fail)
                    case c3 => unfold maxLen; have := HMM.out; omega
                    case c4 => have := HMM.out; omega
                    case c5 => simp; omega
                    intro v3 z3 hown3 hgrow3 _
                    have hB3 := world_keptR (hown.alloc _) hgrow3 (balloc HB.out.1 _) (Nat.le_refl _) (Nat.le_refl _)
                    have hO3 := OwR.snoc HB.out.2.1 HR.out.1 HMM.out.2 hown3
                    have H3 := Lib.hid (And.intro hO3 hB3)
                    clear hown hown3 hgrow3 hB3 hO3 hi hz0 hz1 hz2 hu
                    go_wp2_with fail
                    go_roundw
                    case rel => exact ⟨j + 1, by have := HO.out.2.2; exact congrArg (Value.int .i64) (by omega), by have := HO.out.2.2; omega, by rw [HR.out.2, if_neg HE.out, ← List.append_assoc, HQ.out]; exact H3.out.1, H3.out.2⟩
                    case measure => simp [intOf]; omega
                · have hqN : q = N := by omega
                  have g0 : ¬ (q : Int) < (N : Int) := by omega
                  have hall : (l.drop k).take j = l.drop k := List.take_of_length_le (by rw [List.length_drop, HN.out]; omega)
                  rw [hall] at how
                  have hput : OwR wr W2.heap.size vo (putL l n v) := by rw [HK.out.2.2, HMID.out]; exact how
                  have k1 := HA.out.2.2.2.2.2.1.keep hbl
                  have f1 := frozen_of_row _ _ 0 _ _ k1
                  have k1' : wr.cell? ⟨w.heap.size + 3, 0, none⟩ = some (.slice none 0 0) := cell_of_row _ _ 0 _ _ _ k1
                  have HE := Lib.hid (And.intro hput (And.intro hbl k1))
                  obtain ⟨yo, co, hvo⟩ := hput.is
                  obtain ⟨m, hm⟩ : ∃ m, (putL l n v).length = m := ⟨_, rfl⟩
                  rw [hm] at hvo
                  rw [hvo] at HE ⊢
                  clear how hbl hlt hj k1 hvo hm hput hall hqN hdj hq HO
                  go_wp2_with fail
                  obtain ⟨vo, hvv⟩ : ∃ vo, Value.slice yo m co = vo := ⟨_, rfl⟩
                  rw [hvv] at HE ⊢
                  have hg := grown_set' (grown_refl wr (w.heap.size + 3)) 0 vo
                  have kE : Blk (wr.setCell ⟨w.heap.size + 3, 0, none⟩ vo) (w.heap.size + 3) 31 #[vo] := heap_setCell_same _ _ 0 _ _ _ HE.out.2.2
                  have hlt1 := HA.out.2.2.2.2.2.2
                  (try simp only [Exit.inBlock, Exit.then])
                  refine bodyPost_ret (ret_slots (u := vo) rfl rfl kE) rfl ⟨vo, rfl, ?_, ?_⟩
                  · exact OwR.mono ⟨HE.out.1.1, World.ownsRow.kept HE.out.1.2 hg (own_far HE.out.1.2 (by omega))⟩ HA.out.2.1.size
                  · exact (HA.out.2.1.trans (HE.out.2.1.mono HA.out.2.1.size)).setCell (p := ⟨w.heap.size + 3, 0, none⟩) (by simp) _
          · rw [decide_eq_false hv0] at nzv
            have hmid : midL n v u = [(n, v, u)] := by unfold midL; rw [if_pos (.inl hv0)]
            have HMID := Lib.hid hmid
            clear hmid
            obtain ⟨hi, hz0, hz1, hz2⟩ := HI.out
            have hu := und_sr
            have hsz := HY.out.1.size
            have HMM := Lib.hid (And.intro hKN hlenk)
            go_wp2_with (first
              | (at_builtin; refine wpList_append_own _ rfl _ _ 29 rfl W2.heap.size 59 i0 (.agg #[.int .u64 0, .int .u64 0, .int .u64 0, .int .u64 0, .int .u64 0, .int .u64 0, .int .u64 0, .int .u64 0, .int .u64 0, .int .u64 0, .int .u64 0, .int .u64 0, .int .u64 0, .int .u64 0]) 14 112 hu hi hz0 hz1 hz2 rfl (by decide) _ _ _ rfl (hown.alloc _) ⟨zz.heap.size, 0, none⟩ 1 1 (rvA (n, v, u)).toList rfl rfl (new_cells zz _ (rvA (n, v, u))) (rv_one (n, v, u)) ?c3 ?c4 ?c5 ?_)
              | fail)
            case c3 => unfold maxLen; have := HMM.out; omega
            case c4 => have := HMM.out; omega
            case c5 => simp; omega
            intro v2 z2 hown2 hgrow _
            have hB2 := world_keptR (hown.alloc _) hgrow (balloc HY.out.1 _) (Nat.le_refl _) (Nat.le_refl _)
            have hO2 := OwR.snoc (r := (n, v, u)) HY.out.2.1 ⟨hn, HV.out, HU.out.2⟩ hlenk hown2
            have H2 := Lib.hid (And.intro hO2 hB2)
            clear hown hown2 hgrow hB2 hO2 hi hz0 hz1 hz2 hu
            have HS := Lib.hid (And.intro (H2.out.1) (H2.out.2))
            go_wp2_with fail
            clear x0 x1 x2 x3 x4 x5 x6 x7 x8 x9 x10 x11 x12 x13
            go_loopw [8, 11] (fun uu t wr => ∃ j : Nat, t = .int .i64 ((k + j : Nat) : Int) ∧ k + j ≤ N ∧ OwR wr W2.heap.size uu (l.take k ++ [(n, v, u)] ++ ((l.drop k).take j).filter (fun r => decide (r.1 ≠ n))) ∧ Below W2.heap.size W2 wr) (fun _ t _ => N + 1 - (intOf t).toNat)
            case atStart => exact ⟨0, rfl, hKN, by rw [List.take_zero, List.filter_nil, List.append_nil]; exact HS.out.1, HS.out.2⟩
            case round =>
              obtain ⟨j, rfl, hj, how, hbl⟩ := hrel
              have hdj : (l.drop k)[j]? = l[k + j]? := List.getElem?_drop
              obtain ⟨q, hq⟩ : ∃ q, k + j = q := ⟨_, rfl⟩
              rw [hq] at hdj hj ⊢
              obtain ⟨vo, hvo⟩ : ∃ vo, u8 = vo := ⟨_, rfl⟩
              rw [hvo] at how ⊢
              clear hvo
              have cS : wr.cell? ⟨w.heap.size, 0, none⟩ = some (.slice xl N cl) := cell_of_row _ _ 0 _ _ _ (HA.out.2.2.1.keep hbl)
              have k0 : wr.cell? ⟨w.heap.size + 1, 0, none⟩ = some (.int .u64 (lb n 0)) := cell_of_row _ _ 0 _ _ _ (HA.out.2.2.2.1.keep hbl)
              have k1 : wr.cell? ⟨w.heap.size + 1, 1, none⟩ = some (.int .u64 (lb n 1)) := cell_of_row _ _ 1 _ _ _ (HA.out.2.2.2.1.keep hbl)
              have k2 : wr.cell? ⟨w.heap.size + 1, 2, none⟩ = some (.int .u64 (lb n 2)) := cell_of_row _ _ 2 _ _ _ (HA.out.2.2.2.1.keep hbl)
              have k3 : wr.cell? ⟨w.heap.size + 1, 3, none⟩ = some (.int .u64 (lb n 3)) := cell_of_row _ _ 3 _ _ _ (HA.out.2.2.2.1.keep hbl)
              have g1 : (0 : Int) ≤ (q : Int) := by omega
              have g2 : IntKind.i64.wrap ((q : Int) + 1) = ((q + 1 : Nat) : Int) := IntWalk.i64_in _ (by omega)
              have HO := Lib.hid (And.intro how (And.intro hbl hq))
              by_cases hlt : q < N
              · have g0 : (q : Int) < (N : Int) := by omega
                obtain ⟨r, hr⟩ : ∃ r, l[q]? = some r := ⟨_, List.getElem?_eq_getElem (by rw [HN.out]; exact hlt)⟩
                obtain ⟨b, o, c2, e, hbl1, hcell⟩ := HA.out.1.at hr
                injection e with e1 e2 e3
                subst e1
                have hcl : ∀ j, j < 14 → wr.cell? ⟨b, o + q * 14 + j, none⟩ = (rvA r)[j]? := fun j hj => ((hbl).cell (p := ⟨b, o + q * 14 + j, none⟩) hbl1).trans (hcell j hj)
                have d0 : wr.cell? ⟨b, o + q * 14, none⟩ = some (.int .u64 (lb r.1 0)) := hcl 0 (by omega)
                have d1 : wr.cell? ⟨b, o + q * 14 + 1, none⟩ = some (.int .u64 (lb r.1 1)) := hcl 1 (by omega)
                have d2 : wr.cell? ⟨b, o + q * 14 + 2, none⟩ = some (.int .u64 (lb r.1 2)) := hcl 2 (by omega)
                have d3 : wr.cell? ⟨b, o + q * 14 + 3, none⟩ = some (.int .u64 (lb r.1 3)) := hcl 3 (by omega)
                have d4 : wr.cell? ⟨b, o + q * 14 + 4, none⟩ = some (.int .u64 (lb r.2.1.1 0)) := hcl 4 (by omega)
                have d5 : wr.cell? ⟨b, o + q * 14 + 5, none⟩ = some (.int .u64 (lb r.2.1.1 1)) := hcl 5 (by omega)
                have d6 : wr.cell? ⟨b, o + q * 14 + 6, none⟩ = some (.int .u64 (lb r.2.1.1 2)) := hcl 6 (by omega)
                have d7 : wr.cell? ⟨b, o + q * 14 + 7, none⟩ = some (.int .u64 (lb r.2.1.1 3)) := hcl 7 (by omega)
                have d8 : wr.cell? ⟨b, o + q * 14 + 8, none⟩ = some (.int .u64 (r.2.1.2 : Nat)) := hcl 8 (by omega)
                have d9 : wr.cell? ⟨b, o + q * 14 + 9, none⟩ = some (.int .u64 (lb r.2.2.1 0)) := hcl 9 (by omega)
                have d10 : wr.cell? ⟨b, o + q * 14 + 10, none⟩ = some (.int .u64 (lb r.2.2.1 1)) := hcl 10 (by omega)
                have d11 : wr.cell? ⟨b, o + q * 14 + 11, none⟩ = some (.int .u64 (lb r.2.2.1 2)) := hcl 11 (by omega)
                have d12 : wr.cell? ⟨b, o + q * 14 + 12, none⟩ = some (.int .u64 (lb r.2.2.1 3)) := hcl 12 (by omega)
                have d13 : wr.cell? ⟨b, o + q * 14 + 13, none⟩ = some (.int .u64 (r.2.2.2 : Nat)) := hcl 13 (by omega)
                have hok := HA.out.1.1 r (List.mem_of_getElem? hr)
                have he := fun X => neqWR r.1 n hok.1 hn X
                have hst := filt_step (n := n) (hdj.trans hr)
                have HR := Lib.hid (And.intro hok hst)
                have HCL := Lib.hid (fun X (p : Below W2.heap.size W2 X) jj (hj : jj < 14) => (p.cell (p := ⟨b, o + q * 14 + jj, none⟩) hbl1).trans (hcell jj hj))
                clear hdj hr hok hst how hcell hcl hbl1 e2 e3 hq
                by_cases hrn : r.1 = n
                · rw [show (r.1 == n) = true by simp [hrn]] at he
                  have HE := Lib.hid hrn
                  clear hrn
                  go_upto_region 14 with fail
                  go_quiet (fail)
                  go_wp2_with fail
                  go_roundw
                  case rel => exact ⟨j + 1, by have := HO.out.2.2; exact congrArg (Value.int .i64) (by omega), by have := HO.out.2.2; omega, by rw [HR.out.2, if_pos HE.out, List.append_nil (((l.drop k).take j).filter (fun r => decide (r.1 ≠ n)))]; exact HO.out.1, below_drewN HO.out.2.1 _⟩
                  case measure => simp [intOf]; omega
                · rw [show (r.1 == n) = false by simp [hrn]] at he
                  have HE := Lib.hid hrn
                  clear hrn
                  go_upto_region 14 with fail
                  go_quiet (fail)
                  have HB := Lib.hid (And.intro (below_drewN HO.out.2.1 nq) (show OwR (wr.drewN nq) W2.heap.size vo _ from HO.out.1))
                  generalize wr.drewN nq = zq at *
                  have cSq : zq.cell? ⟨w.heap.size, 0, none⟩ = some (.slice (some ⟨b, o, none⟩) N cl) := cell_of_row _ _ 0 _ _ _ (HA.out.2.2.1.keep HB.out.1)
                  have t0 : zq.cell? ⟨b, o + q * 14, none⟩ = some (.int .u64 (lb r.1 0)) := HCL.out zq HB.out.1 0 (by omega)
                  have t1 : zq.cell? ⟨b, o + q * 14 + 1, none⟩ = some (.int .u64 (lb r.1 1)) := HCL.out zq HB.out.1 1 (by omega)
                  have t2 : zq.cell? ⟨b, o + q * 14 + 2, none⟩ = some (.int .u64 (lb r.1 2)) := HCL.out zq HB.out.1 2 (by omega)
                  have t3 : zq.cell? ⟨b, o + q * 14 + 3, none⟩ = some (.int .u64 (lb r.1 3)) := HCL.out zq HB.out.1 3 (by omega)
                  have t4 : zq.cell? ⟨b, o + q * 14 + 4, none⟩ = some (.int .u64 (lb r.2.1.1 0)) := HCL.out zq HB.out.1 4 (by omega)
                  have t5 : zq.cell? ⟨b, o + q * 14 + 5, none⟩ = some (.int .u64 (lb r.2.1.1 1)) := HCL.out zq HB.out.1 5 (by omega)
                  have t6 : zq.cell? ⟨b, o + q * 14 + 6, none⟩ = some (.int .u64 (lb r.2.1.1 2)) := HCL.out zq HB.out.1 6 (by omega)
                  have t7 : zq.cell? ⟨b, o + q * 14 + 7, none⟩ = some (.int .u64 (lb r.2.1.1 3)) := HCL.out zq HB.out.1 7 (by omega)
                  have t8 : zq.cell? ⟨b, o + q * 14 + 8, none⟩ = some (.int .u64 (r.2.1.2 : Nat)) := HCL.out zq HB.out.1 8 (by omega)
                  have t9 : zq.cell? ⟨b, o + q * 14 + 9, none⟩ = some (.int .u64 (lb r.2.2.1 0)) := HCL.out zq HB.out.1 9 (by omega)
                  have t10 : zq.cell? ⟨b, o + q * 14 + 10, none⟩ = some (.int .u64 (lb r.2.2.1 1)) := HCL.out zq HB.out.1 10 (by omega)
                  have t11 : zq.cell? ⟨b, o + q * 14 + 11, none⟩ = some (.int .u64 (lb r.2.2.1 2)) := HCL.out zq HB.out.1 11 (by omega)
                  have t12 : zq.cell? ⟨b, o + q * 14 + 12, none⟩ = some (.int .u64 (lb r.2.2.1 3)) := HCL.out zq HB.out.1 12 (by omega)
                  have t13 : zq.cell? ⟨b, o + q * 14 + 13, none⟩ = some (.int .u64 (r.2.2.2 : Nat)) := HCL.out zq HB.out.1 13 (by omega)
                  obtain ⟨Q, hQ⟩ : ∃ Q, l.take k ++ [(n, v, u)] ++ ((l.drop k).take j).filter (fun r => decide (r.1 ≠ n)) = Q := ⟨_, rfl⟩
                  rw [hQ] at HB
                  have HQ := Lib.hid hQ
                  obtain ⟨M, hM⟩ : ∃ M, Q.length = M := ⟨_, rfl⟩
                  have hMb : M ≤ 2002 := by
                    rw [← hM, ← hQ, List.length_append]
                    have h1 := List.length_filter_le (fun r : Rw => decide (r.1 ≠ n)) ((l.drop k).take j)
                    have h2 := List.length_take_le j (l.drop k)
                    have h3 : (l.take k ++ [(n, v, u)]).length ≤ k + 1 := by rw [List.length_append, List.length_take]; simp; omega
                    have h4 := HO.out.2.2
                    omega
                  have hown := HB.out.2.2
                  rw [hM] at hown
                  have HMM := Lib.hid (And.intro hMb hM)
                  obtain ⟨hi, hz0, hz1, hz2⟩ := HI.out
                  have hu := und_sr
                  have hsz := HB.out.1.size
                  clear d0 d1 d2 d3 d4 d5 d6 d7 d8 d9 d10 d11 d12 d13 k0 k1 k2 k3 cS hbl he hM hMb hQ
                  go_wp2_with (first
                    | (at_builtin; refine wpList_append_own _ rfl _ _ 29 rfl W2.heap.size 59 i0 (.agg #[.int .u64 0, .int .u64 0, .int .u64 0, .int .u64 0, .int .u64 0, .int .u64 0, .int .u64 0, .int .u64 0, .int .u64 0, .int .u64 0, .int .u64 0, .int .u64 0, .int .u64 0, .int .u64 0]) 14 112 hu hi hz0 hz1 hz2 rfl (by decide) _ _ _ rfl (hown.alloc _) ⟨zq.heap.size, 0, none⟩ 1 1 (rvA r).toList rfl rfl (new_cells zq _ (rvA r)) (rv_one r) ?c3 ?c4 ?c5 ?_)
                    | fail)
                  case c3 => unfold maxLen; have := HMM.out; omega
                  case c4 => have := HMM.out; omega
                  case c5 => simp; omega
                  intro v3 z3 hown3 hgrow3 _
                  have hB3 := world_keptR (hown.alloc _) hgrow3 (balloc HB.out.1 _) (Nat.le_refl _) (Nat.le_refl _)
                  have hO3 := OwR.snoc HB.out.2.1 HR.out.1 HMM.out.2 hown3
                  have H3 := Lib.hid (And.intro hO3 hB3)
                  clear hown hown3 hgrow3 hB3 hO3 hi hz0 hz1 hz2 hu
                  go_wp2_with fail
                  go_roundw
                  case rel => exact ⟨j + 1, by have := HO.out.2.2; exact congrArg (Value.int .i64) (by omega), by have := HO.out.2.2; omega, by rw [HR.out.2, if_neg HE.out, ← List.append_assoc, HQ.out]; exact H3.out.1, H3.out.2⟩
                  case measure => simp [intOf]; omega
              · have hqN : q = N := by omega
                have g0 : ¬ (q : Int) < (N : Int) := by omega
                have hall : (l.drop k).take j = l.drop k := List.take_of_length_le (by rw [List.length_drop, HN.out]; omega)
                rw [hall] at how
                have hput : OwR wr W2.heap.size vo (putL l n v) := by rw [HK.out.2.2, HMID.out]; exact how
                have k1 := HA.out.2.2.2.2.2.1.keep hbl
                have f1 := frozen_of_row _ _ 0 _ _ k1
                have k1' : wr.cell? ⟨w.heap.size + 3, 0, none⟩ = some (.slice none 0 0) := cell_of_row _ _ 0 _ _ _ k1
                have HE := Lib.hid (And.intro hput (And.intro hbl k1))
                obtain ⟨yo, co, hvo⟩ := hput.is
                obtain ⟨m, hm⟩ : ∃ m, (putL l n v).length = m := ⟨_, rfl⟩
                rw [hm] at hvo
                rw [hvo] at HE ⊢
                clear how hbl hlt hj k1 hvo hm hput hall hqN hdj hq HO
                go_wp2_with fail
                obtain ⟨vo, hvv⟩ : ∃ vo, Value.slice yo m co = vo := ⟨_, rfl⟩
                rw [hvv] at HE ⊢
                have hg := grown_set' (grown_refl wr (w.heap.size + 3)) 0 vo
                have kE : Blk (wr.setCell ⟨w.heap.size + 3, 0, none⟩ vo) (w.heap.size + 3) 31 #[vo] := heap_setCell_same _ _ 0 _ _ _ HE.out.2.2
                have hlt1 := HA.out.2.2.2.2.2.2
                (try simp only [Exit.inBlock, Exit.then])
                refine bodyPost_ret (ret_slots (u := vo) rfl rfl kE) rfl ⟨vo, rfl, ?_, ?_⟩
                · exact OwR.mono ⟨HE.out.1.1, World.ownsRow.kept HE.out.1.2 hg (own_far HE.out.1.2 (by omega))⟩ HA.out.2.1.size
                · exact (HA.out.2.1.trans (HE.out.2.1.mono HA.out.2.1.size)).setCell (p := ⟨w.heap.size + 3, 0, none⟩) (by simp) _
    · obtain rfl : k = K := by omega
      have hkN : k = N := by omega
      have g0 : ¬ (k : Int) < (N : Int) := by omega
      have g0b : decide (k < N) = false := decide_eq_false hltN
      clear hltN how hkN
      go_upto_region 5 with fail
      go_quiet (fail)
      have HY := Lib.hid (And.intro (below_drewN hbl nq) (show OwR (wr.drewN nq) W2.heap.size vo (l.take k) from HO.out.1))
      generalize wr.drewN nq = zz at *
      clear g0 g0b hbl k0 k1 k2 k3 cS cSd
      have hlenk : (l.take k).length = k := by rw [List.length_take]; have := HN.out; omega
      obtain ⟨yo, co, hvo⟩ := HY.out.2.is
      rw [hlenk] at hvo
      rw [hvo] at HY HO ⊢
      clear hvo
      have cS : zz.cell? ⟨w.heap.size, 0, none⟩ = some (.slice xl N cl) := cell_of_row _ _ 0 _ _ _ (HA.out.2.2.1.keep HY.out.1)
      have x0 : zz.cell? ⟨z1.heap.size, 0, none⟩ = some (.int .u64 (lb n 0)) := cell_of_row _ _ 0 _ _ _ (HA.out.2.2.2.2.1.keep HY.out.1)
      have x1 : zz.cell? ⟨z1.heap.size, 1, none⟩ = some (.int .u64 (lb n 1)) := cell_of_row _ _ 1 _ _ _ (HA.out.2.2.2.2.1.keep HY.out.1)
      have x2 : zz.cell? ⟨z1.heap.size, 2, none⟩ = some (.int .u64 (lb n 2)) := cell_of_row _ _ 2 _ _ _ (HA.out.2.2.2.2.1.keep HY.out.1)
      have x3 : zz.cell? ⟨z1.heap.size, 3, none⟩ = some (.int .u64 (lb n 3)) := cell_of_row _ _ 3 _ _ _ (HA.out.2.2.2.2.1.keep HY.out.1)
      have x4 : zz.cell? ⟨z1.heap.size, 4, none⟩ = some (.int .u64 (lb v.1 0)) := cell_of_row _ _ 4 _ _ _ (HA.out.2.2.2.2.1.keep HY.out.1)
      have x5 : zz.cell? ⟨z1.heap.size, 5, none⟩ = some (.int .u64 (lb v.1 1)) := cell_of_row _ _ 5 _ _ _ (HA.out.2.2.2.2.1.keep HY.out.1)
      have x6 : zz.cell? ⟨z1.heap.size, 6, none⟩ = some (.int .u64 (lb v.1 2)) := cell_of_row _ _ 6 _ _ _ (HA.out.2.2.2.2.1.keep HY.out.1)
      have x7 : zz.cell? ⟨z1.heap.size, 7, none⟩ = some (.int .u64 (lb v.1 3)) := cell_of_row _ _ 7 _ _ _ (HA.out.2.2.2.2.1.keep HY.out.1)
      have x8 : zz.cell? ⟨z1.heap.size, 8, none⟩ = some (.int .u64 (v.2 : Nat)) := cell_of_row _ _ 8 _ _ _ (HA.out.2.2.2.2.1.keep HY.out.1)
      have x9 : zz.cell? ⟨z1.heap.size, 9, none⟩ = some (.int .u64 (lb u.1 0)) := cell_of_row _ _ 9 _ _ _ (HA.out.2.2.2.2.1.keep HY.out.1)
      have x10 : zz.cell? ⟨z1.heap.size, 10, none⟩ = some (.int .u64 (lb u.1 1)) := cell_of_row _ _ 10 _ _ _ (HA.out.2.2.2.2.1.keep HY.out.1)
      have x11 : zz.cell? ⟨z1.heap.size, 11, none⟩ = some (.int .u64 (lb u.1 2)) := cell_of_row _ _ 11 _ _ _ (HA.out.2.2.2.2.1.keep HY.out.1)
      have x12 : zz.cell? ⟨z1.heap.size, 12, none⟩ = some (.int .u64 (lb u.1 3)) := cell_of_row _ _ 12 _ _ _ (HA.out.2.2.2.2.1.keep HY.out.1)
      have x13 : zz.cell? ⟨z1.heap.size, 13, none⟩ = some (.int .u64 (u.2 : Nat)) := cell_of_row _ _ 13 _ _ _ (HA.out.2.2.2.2.1.keep HY.out.1)
      have nzv := neqZ v HV.out
      have nzu := neqZ u HU.out.2
      have hown : World.ownsRow zz W2.heap.size 59 14 (.slice yo k co) k (rvs (l.take k)) := by
        have h := HY.out.2.2
        rw [hlenk] at h
        exact h
      clear HO
      by_cases hv0 : v = Z2
      · rw [decide_eq_true hv0] at nzv
        by_cases hu0 : u = Z2
        · rw [decide_eq_true hu0] at nzu
          have hmid : midL n v u = [] := by unfold midL; rw [if_neg (fun h => h.elim (fun q => q hv0) (fun q => q hu0))]
          have HMID := Lib.hid hmid
          clear hmid hv0 hu0 hown
          have HS := Lib.hid (And.intro (show OwR zz W2.heap.size (.slice yo k co) (l.take k ++ []) from (by rw [List.append_nil]; exact HY.out.2)) (HY.out.1))
          go_wp2_with fail
          clear x0 x1 x2 x3 x4 x5 x6 x7 x8 x9 x10 x11 x12 x13
          go_loopw [8, 11] (fun uu t wr => ∃ j : Nat, t = .int .i64 ((k + j : Nat) : Int) ∧ k + j ≤ N ∧ OwR wr W2.heap.size uu (l.take k ++ [] ++ ((l.drop k).take j).filter (fun r => decide (r.1 ≠ n))) ∧ Below W2.heap.size W2 wr) (fun _ t _ => N + 1 - (intOf t).toNat)
          case atStart => exact ⟨0, rfl, hKN, by rw [List.take_zero, List.filter_nil, List.append_nil]; exact HS.out.1, HS.out.2⟩
          case round =>
            obtain ⟨j, rfl, hj, how, hbl⟩ := hrel
            have hdj : (l.drop k)[j]? = l[k + j]? := List.getElem?_drop
            obtain ⟨q, hq⟩ : ∃ q, k + j = q := ⟨_, rfl⟩
            rw [hq] at hdj hj ⊢
            obtain ⟨vo, hvo⟩ : ∃ vo, u8 = vo := ⟨_, rfl⟩
            rw [hvo] at how ⊢
            clear hvo
            have cS : wr.cell? ⟨w.heap.size, 0, none⟩ = some (.slice xl N cl) := cell_of_row _ _ 0 _ _ _ (HA.out.2.2.1.keep hbl)
            have k0 : wr.cell? ⟨w.heap.size + 1, 0, none⟩ = some (.int .u64 (lb n 0)) := cell_of_row _ _ 0 _ _ _ (HA.out.2.2.2.1.keep hbl)
            have k1 : wr.cell? ⟨w.heap.size + 1, 1, none⟩ = some (.int .u64 (lb n 1)) := cell_of_row _ _ 1 _ _ _ (HA.out.2.2.2.1.keep hbl)
            have k2 : wr.cell? ⟨w.heap.size + 1, 2, none⟩ = some (.int .u64 (lb n 2)) := cell_of_row _ _ 2 _ _ _ (HA.out.2.2.2.1.keep hbl)
            have k3 : wr.cell? ⟨w.heap.size + 1, 3, none⟩ = some (.int .u64 (lb n 3)) := cell_of_row _ _ 3 _ _ _ (HA.out.2.2.2.1.keep hbl)
            have g1 : (0 : Int) ≤ (q : Int) := by omega
            have g2 : IntKind.i64.wrap ((q : Int) + 1) = ((q + 1 : Nat) : Int) := IntWalk.i64_in _ (by omega)
            have HO := Lib.hid (And.intro how (And.intro hbl hq))
            by_cases hlt : q < N
            · have g0 : (q : Int) < (N : Int) := by omega
              obtain ⟨r, hr⟩ : ∃ r, l[q]? = some r := ⟨_, List.getElem?_eq_getElem (by rw [HN.out]; exact hlt)⟩
              obtain ⟨b, o, c2, e, hbl1, hcell⟩ := HA.out.1.at hr
              injection e with e1 e2 e3
              subst e1
              have hcl : ∀ j, j < 14 → wr.cell? ⟨b, o + q * 14 + j, none⟩ = (rvA r)[j]? := fun j hj => ((hbl).cell (p := ⟨b, o + q * 14 + j, none⟩) hbl1).trans (hcell j hj)
              have d0 : wr.cell? ⟨b, o + q * 14, none⟩ = some (.int .u64 (lb r.1 0)) := hcl 0 (by omega)
              have d1 : wr.cell? ⟨b, o + q * 14 + 1, none⟩ = some (.int .u64 (lb r.1 1)) := hcl 1 (by omega)
              have d2 : wr.cell? ⟨b, o + q * 14 + 2, none⟩ = some (.int .u64 (lb r.1 2)) := hcl 2 (by omega)
              have d3 : wr.cell? ⟨b, o + q * 14 + 3, none⟩ = some (.int .u64 (lb r.1 3)) := hcl 3 (by omega)
              have d4 : wr.cell? ⟨b, o + q * 14 + 4, none⟩ = some (.int .u64 (lb r.2.1.1 0)) := hcl 4 (by omega)
              have d5 : wr.cell? ⟨b, o + q * 14 + 5, none⟩ = some (.int .u64 (lb r.2.1.1 1)) := hcl 5 (by omega)
              have d6 : wr.cell? ⟨b, o + q * 14 + 6, none⟩ = some (.int .u64 (lb r.2.1.1 2)) := hcl 6 (by omega)
              have d7 : wr.cell? ⟨b, o + q * 14 + 7, none⟩ = some (.int .u64 (lb r.2.1.1 3)) := hcl 7 (by omega)
              have d8 : wr.cell? ⟨b, o + q * 14 + 8, none⟩ = some (.int .u64 (r.2.1.2 : Nat)) := hcl 8 (by omega)
              have d9 : wr.cell? ⟨b, o + q * 14 + 9, none⟩ = some (.int .u64 (lb r.2.2.1 0)) := hcl 9 (by omega)
              have d10 : wr.cell? ⟨b, o + q * 14 + 10, none⟩ = some (.int .u64 (lb r.2.2.1 1)) := hcl 10 (by omega)
              have d11 : wr.cell? ⟨b, o + q * 14 + 11, none⟩ = some (.int .u64 (lb r.2.2.1 2)) := hcl 11 (by omega)
              have d12 : wr.cell? ⟨b, o + q * 14 + 12, none⟩ = some (.int .u64 (lb r.2.2.1 3)) := hcl 12 (by omega)
              have d13 : wr.cell? ⟨b, o + q * 14 + 13, none⟩ = some (.int .u64 (r.2.2.2 : Nat)) := hcl 13 (by omega)
              have hok := HA.out.1.1 r (List.mem_of_getElem? hr)
              have he := fun X => neqWR r.1 n hok.1 hn X
              have hst := filt_step (n := n) (hdj.trans hr)
              have HR := Lib.hid (And.intro hok hst)
              have HCL := Lib.hid (fun X (p : Below W2.heap.size W2 X) jj (hj : jj < 14) => (p.cell (p := ⟨b, o + q * 14 + jj, none⟩) hbl1).trans (hcell jj hj))
              clear hdj hr hok hst how hcell hcl hbl1 e2 e3 hq
              by_cases hrn : r.1 = n
              · rw [show (r.1 == n) = true by simp [hrn]] at he
                have HE := Lib.hid hrn
                clear hrn
                go_upto_region 14 with fail
                go_quiet (fail)
                go_wp2_with fail
                go_roundw
                case rel => exact ⟨j + 1, by have := HO.out.2.2; exact congrArg (Value.int .i64) (by omega), by have := HO.out.2.2; omega, by rw [HR.out.2, if_pos HE.out, List.append_nil (((l.drop k).take j).filter (fun r => decide (r.1 ≠ n)))]; exact HO.out.1, below_drewN HO.out.2.1 _⟩
                case measure => simp [intOf]; omega
              · rw [show (r.1 == n) = false by simp [hrn]] at he
                have HE := Lib.hid hrn
                clear hrn
                go_upto_region 14 with fail
                go_quiet (fail)
                have HB := Lib.hid (And.intro (below_drewN HO.out.2.1 nq) (show OwR (wr.drewN nq) W2.heap.size vo _ from HO.out.1))
                generalize wr.drewN nq = zq at *
                have cSq : zq.cell? ⟨w.heap.size, 0, none⟩ = some (.slice (some ⟨b, o, none⟩) N cl) := cell_of_row _ _ 0 _ _ _ (HA.out.2.2.1.keep HB.out.1)
                have t0 : zq.cell? ⟨b, o + q * 14, none⟩ = some (.int .u64 (lb r.1 0)) := HCL.out zq HB.out.1 0 (by omega)
                have t1 : zq.cell? ⟨b, o + q * 14 + 1, none⟩ = some (.int .u64 (lb r.1 1)) := HCL.out zq HB.out.1 1 (by omega)
                have t2 : zq.cell? ⟨b, o + q * 14 + 2, none⟩ = some (.int .u64 (lb r.1 2)) := HCL.out zq HB.out.1 2 (by omega)
                have t3 : zq.cell? ⟨b, o + q * 14 + 3, none⟩ = some (.int .u64 (lb r.1 3)) := HCL.out zq HB.out.1 3 (by omega)
                have t4 : zq.cell? ⟨b, o + q * 14 + 4, none⟩ = some (.int .u64 (lb r.2.1.1 0)) := HCL.out zq HB.out.1 4 (by omega)
                have t5 : zq.cell? ⟨b, o + q * 14 + 5, none⟩ = some (.int .u64 (lb r.2.1.1 1)) := HCL.out zq HB.out.1 5 (by omega)
                have t6 : zq.cell? ⟨b, o + q * 14 + 6, none⟩ = some (.int .u64 (lb r.2.1.1 2)) := HCL.out zq HB.out.1 6 (by omega)
                have t7 : zq.cell? ⟨b, o + q * 14 + 7, none⟩ = some (.int .u64 (lb r.2.1.1 3)) := HCL.out zq HB.out.1 7 (by omega)
                have t8 : zq.cell? ⟨b, o + q * 14 + 8, none⟩ = some (.int .u64 (r.2.1.2 : Nat)) := HCL.out zq HB.out.1 8 (by omega)
                have t9 : zq.cell? ⟨b, o + q * 14 + 9, none⟩ = some (.int .u64 (lb r.2.2.1 0)) := HCL.out zq HB.out.1 9 (by omega)
                have t10 : zq.cell? ⟨b, o + q * 14 + 10, none⟩ = some (.int .u64 (lb r.2.2.1 1)) := HCL.out zq HB.out.1 10 (by omega)
                have t11 : zq.cell? ⟨b, o + q * 14 + 11, none⟩ = some (.int .u64 (lb r.2.2.1 2)) := HCL.out zq HB.out.1 11 (by omega)
                have t12 : zq.cell? ⟨b, o + q * 14 + 12, none⟩ = some (.int .u64 (lb r.2.2.1 3)) := HCL.out zq HB.out.1 12 (by omega)
                have t13 : zq.cell? ⟨b, o + q * 14 + 13, none⟩ = some (.int .u64 (r.2.2.2 : Nat)) := HCL.out zq HB.out.1 13 (by omega)
                obtain ⟨Q, hQ⟩ : ∃ Q, l.take k ++ [] ++ ((l.drop k).take j).filter (fun r => decide (r.1 ≠ n)) = Q := ⟨_, rfl⟩
                rw [hQ] at HB
                have HQ := Lib.hid hQ
                obtain ⟨M, hM⟩ : ∃ M, Q.length = M := ⟨_, rfl⟩
                have hMb : M ≤ 2002 := by
                  rw [← hM, ← hQ, List.length_append]
                  have h1 := List.length_filter_le (fun r : Rw => decide (r.1 ≠ n)) ((l.drop k).take j)
                  have h2 := List.length_take_le j (l.drop k)
                  have h3 : (l.take k ++ []).length ≤ k + 1 := by rw [List.append_nil, List.length_take]; omega
                  have h4 := HO.out.2.2
                  omega
                have hown := HB.out.2.2
                rw [hM] at hown
                have HMM := Lib.hid (And.intro hMb hM)
                obtain ⟨hi, hz0, hz1, hz2⟩ := HI.out
                have hu := und_sr
                have hsz := HB.out.1.size
                clear d0 d1 d2 d3 d4 d5 d6 d7 d8 d9 d10 d11 d12 d13 k0 k1 k2 k3 cS hbl he hM hMb hQ
                go_wp2_with (first
                  | (at_builtin; refine wpList_append_own _ rfl _ _ 29 rfl W2.heap.size 59 i0 (.agg #[.int .u64 0, .int .u64 0, .int .u64 0, .int .u64 0, .int .u64 0, .int .u64 0, .int .u64 0, .int .u64 0, .int .u64 0, .int .u64 0, .int .u64 0, .int .u64 0, .int .u64 0, .int .u64 0]) 14 112 hu hi hz0 hz1 hz2 rfl (by decide) _ _ _ rfl (hown.alloc _) ⟨zq.heap.size, 0, none⟩ 1 1 (rvA r).toList rfl rfl (new_cells zq _ (rvA r)) (rv_one r) ?c3 ?c4 ?c5 ?_)
                  | fail)
                case c3 => unfold maxLen; have := HMM.out; omega
                case c4 => have := HMM.out; omega
                case c5 => simp; omega
                intro v3 z3 hown3 hgrow3 _
                have hB3 := world_keptR (hown.alloc _) hgrow3 (balloc HB.out.1 _) (Nat.le_refl _) (Nat.le_refl _)
                have hO3 := OwR.snoc HB.out.2.1 HR.out.1 HMM.out.2 hown3
                have H3 := Lib.hid (And.intro hO3 hB3)
                clear hown hown3 hgrow3 hB3 hO3 hi hz0 hz1 hz2 hu
                go_wp2_with fail
                go_roundw
                case rel => exact ⟨j + 1, by have := HO.out.2.2; exact congrArg (Value.int .i64) (by omega), by have := HO.out.2.2; omega, by rw [HR.out.2, if_neg HE.out, ← List.append_assoc, HQ.out]; exact H3.out.1, H3.out.2⟩
                case measure => simp [intOf]; omega
            · have hqN : q = N := by omega
              have g0 : ¬ (q : Int) < (N : Int) := by omega
              have hall : (l.drop k).take j = l.drop k := List.take_of_length_le (by rw [List.length_drop, HN.out]; omega)
              rw [hall] at how
              have hput : OwR wr W2.heap.size vo (putL l n v) := by rw [HK.out.2.2, HMID.out]; exact how
              have k1 := HA.out.2.2.2.2.2.1.keep hbl
              have f1 := frozen_of_row _ _ 0 _ _ k1
              have k1' : wr.cell? ⟨w.heap.size + 3, 0, none⟩ = some (.slice none 0 0) := cell_of_row _ _ 0 _ _ _ k1
              have HE := Lib.hid (And.intro hput (And.intro hbl k1))
              obtain ⟨yo, co, hvo⟩ := hput.is
              obtain ⟨m, hm⟩ : ∃ m, (putL l n v).length = m := ⟨_, rfl⟩
              rw [hm] at hvo
              rw [hvo] at HE ⊢
              clear how hbl hlt hj k1 hvo hm hput hall hqN hdj hq HO
              go_wp2_with fail
              obtain ⟨vo, hvv⟩ : ∃ vo, Value.slice yo m co = vo := ⟨_, rfl⟩
              rw [hvv] at HE ⊢
              have hg := grown_set' (grown_refl wr (w.heap.size + 3)) 0 vo
              have kE : Blk (wr.setCell ⟨w.heap.size + 3, 0, none⟩ vo) (w.heap.size + 3) 31 #[vo] := heap_setCell_same _ _ 0 _ _ _ HE.out.2.2
              have hlt1 := HA.out.2.2.2.2.2.2
              (try simp only [Exit.inBlock, Exit.then])
              refine bodyPost_ret (ret_slots (u := vo) rfl rfl kE) rfl ⟨vo, rfl, ?_, ?_⟩
              · exact OwR.mono ⟨HE.out.1.1, World.ownsRow.kept HE.out.1.2 hg (own_far HE.out.1.2 (by omega))⟩ HA.out.2.1.size
              · exact (HA.out.2.1.trans (HE.out.2.1.mono HA.out.2.1.size)).setCell (p := ⟨w.heap.size + 3, 0, none⟩) (by simp) _
        · rw [decide_eq_false hu0] at nzu
          clear hv0
          have hmid : midL n v u = [(n, v, u)] := by unfold midL; rw [if_pos (.inr hu0)]
          have HMID := Lib.hid hmid
          clear hmid
          obtain ⟨hi, hz0, hz1, hz2⟩ := HI.out
          have hu := und_sr
          have hsz := HY.out.1.size
          have HMM := Lib.hid (And.intro hKN hlenk)
          go_wp2_with (first
            | (at_builtin; refine wpList_append_own _ rfl _ _ 29 rfl W2.heap.size 59 i0 (.agg #[.int .u64 0, .int .u64 0, .int .u64 0, .int .u64 0, .int .u64 0, .int .u64 0, .int .u64 0, .int .u64 0, .int .u64 0, .int .u64 0, .int .u64 0, .int .u64 0, .int .u64 0, .int .u64 0]) 14 112 hu hi hz0 hz1 hz2 rfl (by decide) _ _ _ rfl (hown.alloc _) ⟨zz.heap.size, 0, none⟩ 1 1 (rvA (n, v, u)).toList rfl rfl (new_cells zz _ (rvA (n, v, u))) (rv_one (n, v, u)) ?c3 ?c4 ?c5 ?_)
            | fail)
          case c3 => unfold maxLen; have := HMM.out; omega
          case c4 => have := HMM.out; omega
          case c5 => simp; omega
          intro v2 z2 hown2 hgrow _
          have hB2 := world_keptR (hown.alloc _) hgrow (balloc HY.out.1 _) (Nat.le_refl _) (Nat.le_refl _)
          have hO2 := OwR.snoc (r := (n, v, u)) HY.out.2.1 ⟨hn, HV.out, HU.out.2⟩ hlenk hown2
          have H2 := Lib.hid (And.intro hO2 hB2)
          clear hown hown2 hgrow hB2 hO2 hi hz0 hz1 hz2 hu
          have HS := Lib.hid (And.intro (H2.out.1) (H2.out.2))
          go_wp2_with fail
          clear x0 x1 x2 x3 x4 x5 x6 x7 x8 x9 x10 x11 x12 x13
          go_loopw [8, 11] (fun uu t wr => ∃ j : Nat, t = .int .i64 ((k + j : Nat) : Int) ∧ k + j ≤ N ∧ OwR wr W2.heap.size uu (l.take k ++ [(n, v, u)] ++ ((l.drop k).take j).filter (fun r => decide (r.1 ≠ n))) ∧ Below W2.heap.size W2 wr) (fun _ t _ => N + 1 - (intOf t).toNat)
          case atStart => exact ⟨0, rfl, hKN, by rw [List.take_zero, List.filter_nil, List.append_nil]; exact HS.out.1, HS.out.2⟩
          case round =>
            obtain ⟨j, rfl, hj, how, hbl⟩ := hrel
            have hdj : (l.drop k)[j]? = l[k + j]? := List.getElem?_drop
            obtain ⟨q, hq⟩ : ∃ q, k + j = q := ⟨_, rfl⟩
            rw [hq] at hdj hj ⊢
            obtain ⟨vo, hvo⟩ : ∃ vo, u8 = vo := ⟨_, rfl⟩
            rw [hvo] at how ⊢
            clear hvo
            have cS : wr.cell? ⟨w.heap.size, 0, none⟩ = some (.slice xl N cl) := cell_of_row _ _ 0 _ _ _ (HA.out.2.2.1.keep hbl)
            have k0 : wr.cell? ⟨w.heap.size + 1, 0, none⟩ = some (.int .u64 (lb n 0)) := cell_of_row _ _ 0 _ _ _ (HA.out.2.2.2.1.keep hbl)
            have k1 : wr.cell? ⟨w.heap.size + 1, 1, none⟩ = some (.int .u64 (lb n 1)) := cell_of_row _ _ 1 _ _ _ (HA.out.2.2.2.1.keep hbl)
            have k2 : wr.cell? ⟨w.heap.size + 1, 2, none⟩ = some (.int .u64 (lb n 2)) := cell_of_row _ _ 2 _ _ _ (HA.out.2.2.2.1.keep hbl)
            have k3 : wr.cell? ⟨w.heap.size + 1, 3, none⟩ = some (.int .u64 (lb n 3)) := cell_of_row _ _ 3 _ _ _ (HA.out.2.2.2.1.keep hbl)
            have g1 : (0 : Int) ≤ (q : Int) := by omega
            have g2 : IntKind.i64.wrap ((q : Int) + 1) = ((q + 1 : Nat) : Int) := IntWalk.i64_in _ (by omega)
            have HO := Lib.hid (And.intro how (And.intro hbl hq))
            by_cases hlt : q < N
            · have g0 : (q : Int) < (N : Int) := by omega
              obtain ⟨r, hr⟩ : ∃ r, l[q]? = some r := ⟨_, List.getElem?_eq_getElem (by rw [HN.out]; exact hlt)⟩
              obtain ⟨b, o, c2, e, hbl1, hcell⟩ := HA.out.1.at hr
              injection e with e1 e2 e3
              subst e1
              have hcl : ∀ j, j < 14 → wr.cell? ⟨b, o + q * 14 + j, none⟩ = (rvA r)[j]? := fun j hj => ((hbl).cell (p := ⟨b, o + q * 14 + j, none⟩) hbl1).trans (hcell j hj)
              have d0 : wr.cell? ⟨b, o + q * 14, none⟩ = some (.int .u64 (lb r.1 0)) := hcl 0 (by omega)
              have d1 : wr.cell? ⟨b, o + q * 14 + 1, none⟩ = some (.int .u64 (lb r.1 1)) := hcl 1 (by omega)
              have d2 : wr.cell? ⟨b, o + q * 14 + 2, none⟩ = some (.int .u64 (lb r.1 2)) := hcl 2 (by omega)
              have d3 : wr.cell? ⟨b, o + q * 14 + 3, none⟩ = some (.int .u64 (lb r.1 3)) := hcl 3 (by omega)
              have d4 : wr.cell? ⟨b, o + q * 14 + 4, none⟩ = some (.int .u64 (lb r.2.1.1 0)) := hcl 4 (by omega)
              have d5 : wr.cell? ⟨b, o + q * 14 + 5, none⟩ = some (.int .u64 (lb r.2.1.1 1)) := hcl 5 (by omega)
              have d6 : wr.cell? ⟨b, o + q * 14 + 6, none⟩ = some (.int .u64 (lb r.2.1.1 2)) := hcl 6 (by omega)
              have d7 : wr.cell? ⟨b, o + q * 14 + 7, none⟩ = some (.int .u64 (lb r.2.1.1 3)) := hcl 7 (by omega)
              have d8 : wr.cell? ⟨b, o + q * 14 + 8, none⟩ = some (.int .u64 (r.2.1.2 : Nat)) := hcl 8 (by omega)
              have d9 : wr.cell? ⟨b, o + q * 14 + 9, none⟩ = some (.int .u64 (lb r.2.2.1 0)) := hcl 9 (by omega)
              have d10 : wr.cell? ⟨b, o + q * 14 + 10, none⟩ = some (.int .u64 (lb r.2.2.1 1)) := hcl 10 (by omega)
              have d11 : wr.cell? ⟨b, o + q * 14 + 11, none⟩ = some (.int .u64 (lb r.2.2.1 2)) := hcl 11 (by omega)
              have d12 : wr.cell? ⟨b, o + q * 14 + 12, none⟩ = some (.int .u64 (lb r.2.2.1 3)) := hcl 12 (by omega)
              have d13 : wr.cell? ⟨b, o + q * 14 + 13, none⟩ = some (.int .u64 (r.2.2.2 : Nat)) := hcl 13 (by omega)
              have hok := HA.out.1.1 r (List.mem_of_getElem? hr)
              have he := fun X => neqWR r.1 n hok.1 hn X
              have hst := filt_step (n := n) (hdj.trans hr)
              have HR := Lib.hid (And.intro hok hst)
              have HCL := Lib.hid (fun X (p : Below W2.heap.size W2 X) jj (hj : jj < 14) => (p.cell (p := ⟨b, o + q * 14 + jj, none⟩) hbl1).trans (hcell jj hj))
              clear hdj hr hok hst how hcell hcl hbl1 e2 e3 hq
              by_cases hrn : r.1 = n
              · rw [show (r.1 == n) = true by simp [hrn]] at he
                have HE := Lib.hid hrn
                clear hrn
                go_upto_region 14 with fail
                go_quiet (fail)
                go_wp2_with fail
                go_roundw
                case rel => exact ⟨j + 1, by have := HO.out.2.2; exact congrArg (Value.int .i64) (by omega), by have := HO.out.2.2; omega, by rw [HR.out.2, if_pos HE.out, List.append_nil (((l.drop k).take j).filter (fun r => decide (r.1 ≠ n)))]; exact HO.out.1, below_drewN HO.out.2.1 _⟩
                case measure => simp [intOf]; omega
              · rw [show (r.1 == n) = false by simp [hrn]] at he
                have HE := Lib.hid hrn
                clear hrn
                go_upto_region 14 with fail
                go_quiet (fail)
                have HB := Lib.hid (And.intro (below_drewN HO.out.2.1 nq) (show OwR (wr.drewN nq) W2.heap.size vo _ from HO.out.1))
                generalize wr.drewN nq = zq at *
                have cSq : zq.cell? ⟨w.heap.size, 0, none⟩ = some (.slice (some ⟨b, o, none⟩) N cl) := cell_of_row _ _ 0 _ _ _ (HA.out.2.2.1.keep HB.out.1)
                have t0 : zq.cell? ⟨b, o + q * 14, none⟩ = some (.int .u64 (lb r.1 0)) := HCL.out zq HB.out.1 0 (by omega)
                have t1 : zq.cell? ⟨b, o + q * 14 + 1, none⟩ = some (.int .u64 (lb r.1 1)) := HCL.out zq HB.out.1 1 (by omega)
                have t2 : zq.cell? ⟨b, o + q * 14 + 2, none⟩ = some (.int .u64 (lb r.1 2)) := HCL.out zq HB.out.1 2 (by omega)
                have t3 : zq.cell? ⟨b, o + q * 14 + 3, none⟩ = some (.int .u64 (lb r.1 3)) := HCL.out zq HB.out.1 3 (by omega)
                have t4 : zq.cell? ⟨b, o + q * 14 + 4, none⟩ = some (.int .u64 (lb r.2.1.1 0)) := HCL.out zq HB.out.1 4 (by omega)
                have t5 : zq.cell? ⟨b, o + q * 14 + 5, none⟩ = some (.int .u64 (lb r.2.1.1 1)) := HCL.out zq HB.out.1 5 (by omega)
                have t6 : zq.cell? ⟨b, o + q * 14 + 6, none⟩ = some (.int .u64 (lb r.2.1.1 2)) := HCL.out zq HB.out.1 6 (by omega)
                have t7 : zq.cell? ⟨b, o + q * 14 + 7, none⟩ = some (.int .u64 (lb r.2.1.1 3)) := HCL.out zq HB.out.1 7 (by omega)
                have t8 : zq.cell? ⟨b, o + q * 14 + 8, none⟩ = some (.int .u64 (r.2.1.2 : Nat)) := HCL.out zq HB.out.1 8 (by omega)
                have t9 : zq.cell? ⟨b, o + q * 14 + 9, none⟩ = some (.int .u64 (lb r.2.2.1 0)) := HCL.out zq HB.out.1 9 (by omega)
                have t10 : zq.cell? ⟨b, o + q * 14 + 10, none⟩ = some (.int .u64 (lb r.2.2.1 1)) := HCL.out zq HB.out.1 10 (by omega)
                have t11 : zq.cell? ⟨b, o + q * 14 + 11, none⟩ = some (.int .u64 (lb r.2.2.1 2)) := HCL.out zq HB.out.1 11 (by omega)
                have t12 : zq.cell? ⟨b, o + q * 14 + 12, none⟩ = some (.int .u64 (lb r.2.2.1 3)) := HCL.out zq HB.out.1 12 (by omega)
                have t13 : zq.cell? ⟨b, o + q * 14 + 13, none⟩ = some (.int .u64 (r.2.2.2 : Nat)) := HCL.out zq HB.out.1 13 (by omega)
                obtain ⟨Q, hQ⟩ : ∃ Q, l.take k ++ [(n, v, u)] ++ ((l.drop k).take j).filter (fun r => decide (r.1 ≠ n)) = Q := ⟨_, rfl⟩
                rw [hQ] at HB
                have HQ := Lib.hid hQ
                obtain ⟨M, hM⟩ : ∃ M, Q.length = M := ⟨_, rfl⟩
                have hMb : M ≤ 2002 := by
                  rw [← hM, ← hQ, List.length_append]
                  have h1 := List.length_filter_le (fun r : Rw => decide (r.1 ≠ n)) ((l.drop k).take j)
                  have h2 := List.length_take_le j (l.drop k)
                  have h3 : (l.take k ++ [(n, v, u)]).length ≤ k + 1 := by rw [List.length_append, List.length_take]; simp; omega
                  have h4 := HO.out.2.2
                  omega
                have hown := HB.out.2.2
                rw [hM] at hown
                have HMM := Lib.hid (And.intro hMb hM)
                obtain ⟨hi, hz0, hz1, hz2⟩ := HI.out
                have hu := und_sr
                have hsz := HB.out.1.size
                clear d0 d1 d2 d3 d4 d5 d6 d7 d8 d9 d10 d11 d12 d13 k0 k1 k2 k3 cS hbl he hM hMb hQ
                go_wp2_with (first
                  | (at_builtin; refine wpList_append_own _ rfl _ _ 29 rfl W2.heap.size 59 i0 (.agg #[.int .u64 0, .int .u64 0, .int .u64 0, .int .u64 0, .int .u64 0, .int .u64 0, .int .u64 0, .int .u64 0, .int .u64 0, .int .u64 0, .int .u64 0, .int .u64 0, .int .u64 0, .int .u64 0]) 14 112 hu hi hz0 hz1 hz2 rfl (by decide) _ _ _ rfl (hown.alloc _) ⟨zq.heap.size, 0, none⟩ 1 1 (rvA r).toList rfl rfl (new_cells zq _ (rvA r)) (rv_one r) ?c3 ?c4 ?c5 ?_)
                  | fail)
                case c3 => unfold maxLen; have := HMM.out; omega
                case c4 => have := HMM.out; omega
                case c5 => simp; omega
                intro v3 z3 hown3 hgrow3 _
                have hB3 := world_keptR (hown.alloc _) hgrow3 (balloc HB.out.1 _) (Nat.le_refl _) (Nat.le_refl _)
                have hO3 := OwR.snoc HB.out.2.1 HR.out.1 HMM.out.2 hown3
                have H3 := Lib.hid (And.intro hO3 hB3)
                clear hown hown3 hgrow3 hB3 hO3 hi hz0 hz1 hz2 hu
                go_wp2_with fail
                go_roundw
                case rel => exact ⟨j + 1, by have := HO.out.2.2; exact congrArg (Value.int .i64) (by omega), by have := HO.out.2.2; omega, by rw [HR.out.2, if_neg HE.out, ← List.append_assoc, HQ.out]; exact H3.out.1, H3.out.2⟩
                case measure => simp [intOf]; omega
            · have hqN : q = N := by omega
              have g0 : ¬ (q : Int) < (N : Int) := by omega
              have hall : (l.drop k).take j = l.drop k := List.take_of_length_le (by rw [List.length_drop, HN.out]; omega)
              rw [hall] at how
              have hput : OwR wr W2.heap.size vo (putL l n v) := by rw [HK.out.2.2, HMID.out]; exact how
              have k1 := HA.out.2.2.2.2.2.1.keep hbl
              have f1 := frozen_of_row _ _ 0 _ _ k1
              have k1' : wr.cell? ⟨w.heap.size + 3, 0, none⟩ = some (.slice none 0 0) := cell_of_row _ _ 0 _ _ _ k1
              have HE := Lib.hid (And.intro hput (And.intro hbl k1))
              obtain ⟨yo, co, hvo⟩ := hput.is
              obtain ⟨m, hm⟩ : ∃ m, (putL l n v).length = m := ⟨_, rfl⟩
              rw [hm] at hvo
              rw [hvo] at HE ⊢
              clear how hbl hlt hj k1 hvo hm hput hall hqN hdj hq HO
              go_wp2_with fail
              obtain ⟨vo, hvv⟩ : ∃ vo, Value.slice yo m co = vo := ⟨_, rfl⟩
              rw [hvv] at HE ⊢
              have hg := grown_set' (grown_refl wr (w.heap.size + 3)) 0 vo
              have kE : Blk (wr.setCell ⟨w.heap.size + 3, 0, none⟩ vo) (w.heap.size + 3) 31 #[vo] := heap_setCell_same _ _ 0 _ _ _ HE.out.2.2
              have hlt1 := HA.out.2.2.2.2.2.2
              (try simp only [Exit.inBlock, Exit.then])
              refine bodyPost_ret (ret_slots (u := vo) rfl rfl kE) rfl ⟨vo, rfl, ?_, ?_⟩
              · exact OwR.mono ⟨HE.out.1.1, World.ownsRow.kept HE.out.1.2 hg (own_far HE.out.1.2 (by omega))⟩ HA.out.2.1.size
              · exact (HA.out.2.1.trans (HE.out.2.1.mono HA.out.2.1.size)).setCell (p := ⟨w.heap.size + 3, 0, none⟩) (by simp) _
      · rw [decide_eq_false hv0] at nzv
        have hmid : midL n v u = [(n, v, u)] := by unfold midL; rw [if_pos (.inl hv0)]
        have HMID := Lib.hid hmid
        clear hmid
        obtain ⟨hi, hz0, hz1, hz2⟩ := HI.out
        have hu := und_sr
        have hsz := HY.out.1.size
        have HMM := Lib.hid (And.intro hKN hlenk)
        go_wp2_with (first
          | (at_builtin; refine wpList_append_own _ rfl _ _ 29 rfl W2.heap.size 59 i0 (.agg #[.int .u64 0, .int .u64 0, .int .u64 0, .int .u64 0, .int .u64 0, .int .u64 0, .int .u64 0, .int .u64 0, .int .u64 0, .int .u64 0, .int .u64 0, .int .u64 0, .int .u64 0, .int .u64 0]) 14 112 hu hi hz0 hz1 hz2 rfl (by decide) _ _ _ rfl (hown.alloc _) ⟨zz.heap.size, 0, none⟩ 1 1 (rvA (n, v, u)).toList rfl rfl (new_cells zz _ (rvA (n, v, u))) (rv_one (n, v, u)) ?c3 ?c4 ?c5 ?_)
          | fail)
        case c3 => unfold maxLen; have := HMM.out; omega
        case c4 => have := HMM.out; omega
        case c5 => simp; omega
        intro v2 z2 hown2 hgrow _
        have hB2 := world_keptR (hown.alloc _) hgrow (balloc HY.out.1 _) (Nat.le_refl _) (Nat.le_refl _)
        have hO2 := OwR.snoc (r := (n, v, u)) HY.out.2.1 ⟨hn, HV.out, HU.out.2⟩ hlenk hown2
        have H2 := Lib.hid (And.intro hO2 hB2)
        clear hown hown2 hgrow hB2 hO2 hi hz0 hz1 hz2 hu
        have HS := Lib.hid (And.intro (H2.out.1) (H2.out.2))
        go_wp2_with fail
        clear x0 x1 x2 x3 x4 x5 x6 x7 x8 x9 x10 x11 x12 x13
        go_loopw [8, 11] (fun uu t wr => ∃ j : Nat, t = .int .i64 ((k + j : Nat) : Int) ∧ k + j ≤ N ∧ OwR wr W2.heap.size uu (l.take k ++ [(n, v, u)] ++ ((l.drop k).take j).filter (fun r => decide (r.1 ≠ n))) ∧ Below W2.heap.size W2 wr) (fun _ t _ => N + 1 - (intOf t).toNat)
        case atStart => exact ⟨0, rfl, hKN, by rw [List.take_zero, List.filter_nil, List.append_nil]; exact HS.out.1, HS.out.2⟩
        case round =>
          obtain ⟨j, rfl, hj, how, hbl⟩ := hrel
          have hdj : (l.drop k)[j]? = l[k + j]? := List.getElem?_drop
          obtain ⟨q, hq⟩ : ∃ q, k + j = q := ⟨_, rfl⟩
          rw [hq] at hdj hj ⊢
          obtain ⟨vo, hvo⟩ : ∃ vo, u8 = vo := ⟨_, rfl⟩
          rw [hvo] at how ⊢
          clear hvo
          have cS : wr.cell? ⟨w.heap.size, 0, none⟩ = some (.slice xl N cl) := cell_of_row _ _ 0 _ _ _ (HA.out.2.2.1.keep hbl)
          have k0 : wr.cell? ⟨w.heap.size + 1, 0, none⟩ = some (.int .u64 (lb n 0)) := cell_of_row _ _ 0 _ _ _ (HA.out.2.2.2.1.keep hbl)
          have k1 : wr.cell? ⟨w.heap.size + 1, 1, none⟩ = some (.int .u64 (lb n 1)) := cell_of_row _ _ 1 _ _ _ (HA.out.2.2.2.1.keep hbl)
          have k2 : wr.cell? ⟨w.heap.size + 1, 2, none⟩ = some (.int .u64 (lb n 2)) := cell_of_row _ _ 2 _ _ _ (HA.out.2.2.2.1.keep hbl)
          have k3 : wr.cell? ⟨w.heap.size + 1, 3, none⟩ = some (.int .u64 (lb n 3)) := cell_of_row _ _ 3 _ _ _ (HA.out.2.2.2.1.keep hbl)
          have g1 : (0 : Int) ≤ (q : Int) := by omega
          have g2 : IntKind.i64.wrap ((q : Int) + 1) = ((q + 1 : Nat) : Int) := IntWalk.i64_in _ (by omega)
          have HO := Lib.hid (And.intro how (And.intro hbl hq))
          by_cases hlt : q < N
          · have g0 : (q : Int) < (N : Int) := by omega
            obtain ⟨r, hr⟩ : ∃ r, l[q]? = some r := ⟨_, List.getElem?_eq_getElem (by rw [HN.out]; exact hlt)⟩
            obtain ⟨b, o, c2, e, hbl1, hcell⟩ := HA.out.1.at hr
            injection e with e1 e2 e3
            subst e1
            have hcl : ∀ j, j < 14 → wr.cell? ⟨b, o + q * 14 + j, none⟩ = (rvA r)[j]? := fun j hj => ((hbl).cell (p := ⟨b, o + q * 14 + j, none⟩) hbl1).trans (hcell j hj)
            have d0 : wr.cell? ⟨b, o + q * 14, none⟩ = some (.int .u64 (lb r.1 0)) := hcl 0 (by omega)
            have d1 : wr.cell? ⟨b, o + q * 14 + 1, none⟩ = some (.int .u64 (lb r.1 1)) := hcl 1 (by omega)
            have d2 : wr.cell? ⟨b, o + q * 14 + 2, none⟩ = some (.int .u64 (lb r.1 2)) := hcl 2 (by omega)
            have d3 : wr.cell? ⟨b, o + q * 14 + 3, none⟩ = some (.int .u64 (lb r.1 3)) := hcl 3 (by omega)
            have d4 : wr.cell? ⟨b, o + q * 14 + 4, none⟩ = some (.int .u64 (lb r.2.1.1 0)) := hcl 4 (by omega)
            have d5 : wr.cell? ⟨b, o + q * 14 + 5, none⟩ = some (.int .u64 (lb r.2.1.1 1)) := hcl 5 (by omega)
            have d6 : wr.cell? ⟨b, o + q * 14 + 6, none⟩ = some (.int .u64 (lb r.2.1.1 2)) := hcl 6 (by omega)
            have d7 : wr.cell? ⟨b, o + q * 14 + 7, none⟩ = some (.int .u64 (lb r.2.1.1 3)) := hcl 7 (by omega)
            have d8 : wr.cell? ⟨b, o + q * 14 + 8, none⟩ = some (.int .u64 (r.2.1.2 : Nat)) := hcl 8 (by omega)
            have d9 : wr.cell? ⟨b, o + q * 14 + 9, none⟩ = some (.int .u64 (lb r.2.2.1 0)) := hcl 9 (by omega)
            have d10 : wr.cell? ⟨b, o + q * 14 + 10, none⟩ = some (.int .u64 (lb r.2.2.1 1)) := hcl 10 (by omega)
            have d11 : wr.cell? ⟨b, o + q * 14 + 11, none⟩ = some (.int .u64 (lb r.2.2.1 2)) := hcl 11 (by omega)
            have d12 : wr.cell? ⟨b, o + q * 14 + 12, none⟩ = some (.int .u64 (lb r.2.2.1 3)) := hcl 12 (by omega)
            have d13 : wr.cell? ⟨b, o + q * 14 + 13, none⟩ = some (.int .u64 (r.2.2.2 : Nat)) := hcl 13 (by omega)
            have hok := HA.out.1.1 r (List.mem_of_getElem? hr)
            have he := fun X => neqWR r.1 n hok.1 hn X
            have hst := filt_step (n := n) (hdj.trans hr)
            have HR := Lib.hid (And.intro hok hst)
            have HCL := Lib.hid (fun X (p : Below W2.heap.size W2 X) jj (hj : jj < 14) => (p.cell (p := ⟨b, o + q * 14 + jj, none⟩) hbl1).trans (hcell jj hj))
            clear hdj hr hok hst how hcell hcl hbl1 e2 e3 hq
            by_cases hrn : r.1 = n
            · rw [show (r.1 == n) = true by simp [hrn]] at he
              have HE := Lib.hid hrn
              clear hrn
              go_upto_region 14 with fail
              go_quiet (fail)
              go_wp2_with fail
              go_roundw
              case rel => exact ⟨j + 1, by have := HO.out.2.2; exact congrArg (Value.int .i64) (by omega), by have := HO.out.2.2; omega, by rw [HR.out.2, if_pos HE.out, List.append_nil (((l.drop k).take j).filter (fun r => decide (r.1 ≠ n)))]; exact HO.out.1, below_drewN HO.out.2.1 _⟩
              case measure => simp [intOf]; omega
            · rw [show (r.1 == n) = false by simp [hrn]] at he
              have HE := Lib.hid hrn
              clear hrn
              go_upto_region 14 with fail
              go_quiet (fail)
              have HB := Lib.hid (And.intro (below_drewN HO.out.2.1 nq) (show OwR (wr.drewN nq) W2.heap.size vo _ from HO.out.1))
              generalize wr.drewN nq = zq at *
              have cSq : zq.cell? ⟨w.heap.size, 0, none⟩ = some (.slice (some ⟨b, o, none⟩) N cl) := cell_of_row _ _ 0 _ _ _ (HA.out.2.2.1.keep HB.out.1)
              have t0 : zq.cell? ⟨b, o + q * 14, none⟩ = some (.int .u64 (lb r.1 0)) := HCL.out zq HB.out.1 0 (by omega)
              have t1 : zq.cell? ⟨b, o + q * 14 + 1, none⟩ = some (.int .u64 (lb r.1 1)) := HCL.out zq HB.out.1 1 (by omega)
              have t2 : zq.cell? ⟨b, o + q * 14 + 2, none⟩ = some (.int .u64 (lb r.1 2)) := HCL.out zq HB.out.1 2 (by omega)
              have t3 : zq.cell? ⟨b, o + q * 14 + 3, none⟩ = some (.int .u64 (lb r.1 3)) := HCL.out zq HB.out.1 3 (by omega)
              have t4 : zq.cell? ⟨b, o + q * 14 + 4, none⟩ = some (.int .u64 (lb r.2.1.1 0)) := HCL.out zq HB.out.1 4 (by omega)
              have t5 : zq.cell? ⟨b, o + q * 14 + 5, none⟩ = some (.int .u64 (lb r.2.1.1 1)) := HCL.out zq HB.out.1 5 (by omega)
              have t6 : zq.cell? ⟨b, o + q * 14 + 6, none⟩ = some (.int .u64 (lb r.2.1.1 2)) := HCL.out zq HB.out.1 6 (by omega)
              have t7 : zq.cell? ⟨b, o + q * 14 + 7, none⟩ = some (.int .u64 (lb r.2.1.1 3)) := HCL.out zq HB.out.1 7 (by omega)
              have t8 : zq.cell? ⟨b, o + q * 14 + 8, none⟩ = some (.int .u64 (r.2.1.2 : Nat)) := HCL.out zq HB.out.1 8 (by omega)
              have t9 : zq.cell? ⟨b, o + q * 14 + 9, none⟩ = some (.int .u64 (lb r.2.2.1 0)) := HCL.out zq HB.out.1 9 (by omega)
              have t10 : zq.cell? ⟨b, o + q * 14 + 10, none⟩ = some (.int .u64 (lb r.2.2.1 1)) := HCL.out zq HB.out.1 10 (by omega)
              have t11 : zq.cell? ⟨b, o + q * 14 + 11, none⟩ = some (.int .u64 (lb r.2.2.1 2)) := HCL.out zq HB.out.1 11 (by omega)
              have t12 : zq.cell? ⟨b, o + q * 14 + 12, none⟩ = some (.int .u64 (lb r.2.2.1 3)) := HCL.out zq HB.out.1 12 (by omega)
              have t13 : zq.cell? ⟨b, o + q * 14 + 13, none⟩ = some (.int .u64 (r.2.2.2 : Nat)) := HCL.out zq HB.out.1 13 (by omega)
              obtain ⟨Q, hQ⟩ : ∃ Q, l.take k ++ [(n, v, u)] ++ ((l.drop k).take j).filter (fun r => decide (r.1 ≠ n)) = Q := ⟨_, rfl⟩
              rw [hQ] at HB
              have HQ := Lib.hid hQ
              obtain ⟨M, hM⟩ : ∃ M, Q.length = M := ⟨_, rfl⟩
              have hMb : M ≤ 2002 := by
                rw [← hM, ← hQ, List.length_append]
                have h1 := List.length_filter_le (fun r : Rw => decide (r.1 ≠ n)) ((l.drop k).take j)
                have h2 := List.length_take_le j (l.drop k)
                have h3 : (l.take k ++ [(n, v, u)]).length ≤ k + 1 := by rw [List.length_append, List.length_take]; simp; omega
                have h4 := HO.out.2.2
                omega
              have hown := HB.out.2.2
              rw [hM] at hown
              have HMM := Lib.hid (And.intro hMb hM)
              obtain ⟨hi, hz0, hz1, hz2⟩ := HI.out
              have hu := und_sr
              have hsz := HB.out.1.size
              clear d0 d1 d2 d3 d4 d5 d6 d7 d8 d9 d10 d11 d12 d13 k0 k1 k2 k3 cS hbl he hM hMb hQ
              go_wp2_with (first
                | (at_builtin; refine wpList_append_own _ rfl _ _ 29 rfl W2.heap.size 59 i0 (.agg #[.int .u64 0, .int .u64 0, .int .u64 0, .int .u64 0, .int .u64 0, .int .u64 0, .int .u64 0, .int .u64 0, .int .u64 0, .int .u64 0, .int .u64 0, .int .u64 0, .int .u64 0, .int .u64 0]) 14 112 hu hi hz0 hz1 hz2 rfl (by decide) _ _ _ rfl (hown.alloc _) ⟨zq.heap.size, 0, none⟩ 1 1 (rvA r).toList rfl rfl (new_cells zq _ (rvA r)) (rv_one r) ?c3 ?c4 ?c5 ?_)
                | fail)
              case c3 => unfold maxLen; have := HMM.out; omega
              case c4 => have := HMM.out; omega
              case c5 => simp; omega
              intro v3 z3 hown3 hgrow3 _
              have hB3 := world_keptR (hown.alloc _) hgrow3 (balloc HB.out.1 _) (Nat.le_refl _) (Nat.le_refl _)
              have hO3 := OwR.snoc HB.out.2.1 HR.out.1 HMM.out.2 hown3
              have H3 := Lib.hid (And.intro hO3 hB3)
              clear hown hown3 hgrow3 hB3 hO3 hi hz0 hz1 hz2 hu
              go_wp2_with fail
              go_roundw
              case rel => exact ⟨j + 1, by have := HO.out.2.2; exact congrArg (Value.int .i64) (by omega), by have := HO.out.2.2; omega, by rw [HR.out.2, if_neg HE.out, ← List.append_assoc, HQ.out]; exact H3.out.1, H3.out.2⟩
              case measure => simp [intOf]; omega
          · have hqN : q = N := by omega
            have g0 : ¬ (q : Int) < (N : Int) := by omega
            have hall : (l.drop k).take j = l.drop k := List.take_of_length_le (by rw [List.length_drop, HN.out]; omega)
            rw [hall] at how
            have hput : OwR wr W2.heap.size vo (putL l n v) := by rw [HK.out.2.2, HMID.out]; exact how
            have k1 := HA.out.2.2.2.2.2.1.keep hbl
            have f1 := frozen_of_row _ _ 0 _ _ k1
            have k1' : wr.cell? ⟨w.heap.size + 3, 0, none⟩ = some (.slice none 0 0) := cell_of_row _ _ 0 _ _ _ k1
            have HE := Lib.hid (And.intro hput (And.intro hbl k1))
            obtain ⟨yo, co, hvo⟩ := hput.is
            obtain ⟨m, hm⟩ : ∃ m, (putL l n v).length = m := ⟨_, rfl⟩
            rw [hm] at hvo
            rw [hvo] at HE ⊢
            clear how hbl hlt hj k1 hvo hm hput hall hqN hdj hq HO
            go_wp2_with fail
            obtain ⟨vo, hvv⟩ : ∃ vo, Value.slice yo m co = vo := ⟨_, rfl⟩
            rw [hvv] at HE ⊢
            have hg := grown_set' (grown_refl wr (w.heap.size + 3)) 0 vo
            have kE : Blk (wr.setCell ⟨w.heap.size + 3, 0, none⟩ vo) (w.heap.size + 3) 31 #[vo] := heap_setCell_same _ _ 0 _ _ _ HE.out.2.2
            have hlt1 := HA.out.2.2.2.2.2.2
            (try simp only [Exit.inBlock, Exit.then])
            refine bodyPost_ret (ret_slots (u := vo) rfl rfl kE) rfl ⟨vo, rfl, ?_, ?_⟩
            · exact OwR.mono ⟨HE.out.1.1, World.ownsRow.kept HE.out.1.2 hg (own_far HE.out.1.2 (by omega))⟩ HA.out.2.1.size
            · exact (HA.out.2.1.trans (HE.out.2.1.mono HA.out.2.1.size)).setCell (p := ⟨w.heap.size + 3, 0, none⟩) (by simp) _
end Go.Proofs.Ytcfnhilcpfiocaa
