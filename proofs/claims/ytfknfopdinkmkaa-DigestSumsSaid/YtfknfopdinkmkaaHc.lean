/- digest: padded, of any bytes. -/
import Derived.Test.YtfknfopdinkmkaaHb
import Derived.Test.YtfknfopdinkmkaaHn
namespace Go.Proofs.Ytfknfopdinkmkaa
open Go.RowKit Go.Shelf
/-- The bytes, and what comes behind them. -/
def pdB (N : Nat) (g : Nat → Nat) (i : Nat) : Nat := if i < N then g i else (if i = N then 1 else 0) + (if i + 1 = 136 * (N / 136 + 1) then 128 else 0)
theorem pdB_lt {N : Nat} {g : Nat → Nat} (hg : ∀ i, g i < 256) (i : Nat) : pdB N g i < 256 := by
  unfold pdB
  by_cases h : i < N
  · rw [if_pos h]; exact hg i
  · rw [if_neg h]; split <;> split <;> omega
theorem pad_full {N : Nat} {g : Nat → Nat} {k : Nat} (hk : 136 * k + 136 ≤ N) : Bc 136 (pcF N g k) = Bc 136 (fun p => pdB N g (136 * k + p)) :=
  Bc_congr fun p hp => by unfold pcF pdB; rw [if_pos (by omega), if_pos (by omega)]
theorem Bc_setv (n o v : Nat) (g : Nat → Nat) : (Bc n g).setIfInBounds o (.int .u8 (v : Nat)) = Bc n (fun p => if p = o then v else g p) := by
  refine Array.ext_getElem? fun p => ?_
  rw [Array.getElem?_setIfInBounds, Bc_size]
  by_cases hp : p < n
  · rw [Bc_get n (fun p => if p = o then v else g p) p hp]
    by_cases e : o = p
    · subst e; rw [if_pos rfl, if_pos hp, if_pos rfl]
    · rw [if_neg e, if_neg (fun h => e h.symm), Bc_get n g p hp]
  · have h1 : (Bc n g)[p]? = none := Array.getElem?_eq_none (by rw [Bc_size]; omega)
    have h2 : (Bc n (fun p => if p = o then v else g p))[p]? = none := Array.getElem?_eq_none (by rw [Bc_size]; omega)
    rw [h1, h2]
    split
    · rename_i e; subst e; rw [if_neg hp]
    · rfl
theorem pad_last {N : Nat} {g : Nat → Nat} {k f v : Nat} (hk : N = 136 * k + f) (hf : f < 136) (hv : v = (if f = 135 then 129 else 128)) :
    ((Bc 136 (pcF N g k)).setIfInBounds f (.int .u8 1)).setIfInBounds 135 (.int .u8 (v : Nat)) = Bc 136 (fun p => pdB N g (136 * k + p)) := by
  show ((Bc 136 (pcF N g k)).setIfInBounds f (.int .u8 ((1 : Nat) : Int))).setIfInBounds 135 (.int .u8 (v : Nat)) = _
  rw [Bc_setv, Bc_setv]
  refine Bc_congr fun p hp => ?_
  have hq : N / 136 = k := by omega
  unfold pcF pdB
  rw [hq]
  by_cases h1 : p = 135
  · subst h1
    have e1 : ¬ 136 * k + 135 < N := by omega
    have e2 : 136 * k + 135 + 1 = 136 * (k + 1) := by omega
    rw [if_pos rfl, if_neg e1, if_pos e2]
    by_cases h2 : f = 135
    · rw [if_pos h2] at hv; rw [if_pos (show 136 * k + 135 = N by omega), hv]
    · rw [if_neg h2] at hv; rw [if_neg (show ¬ 136 * k + 135 = N by omega), hv]
  · have e2 : ¬ 136 * k + p + 1 = 136 * (k + 1) := by omega
    rw [if_neg h1, if_neg e2]
    by_cases h2 : p = f
    · have e3 : ¬ 136 * k + p < N := by omega
      rw [if_pos h2, if_neg e3, if_pos (show 136 * k + p = N by omega)]
    · rw [if_neg h2]
      by_cases h3 : 136 * k + p < N
      · rw [if_pos h3, if_pos h3]
      · rw [if_neg h3, if_neg h3, if_neg (show ¬ 136 * k + p = N by omega)]
theorem pcF_out {N : Nat} {g : Nat → Nat} {k p : Nat} (h : ¬ 136 * k + p < N) : pcF N g k p = 0 := by unfold pcF; rw [if_neg h]
attribute [local go_sem] Oper.semAt_some
attribute [local irreducible] Bc Fc pcF jn tot pdB blP
set_option maxRecDepth 100000 in
set_option maxHeartbeats 4000000 in
theorem padded_in (n : Nat) (hn : 4 ≤ n) (l A n₀ : Nat) (ls : List Sl) (x0 : Option Addr) (cap0 : Nat) (hls : ls.length ≤ 1000000) (hT : tot ls ≤ 4611686018427387904) (hg8 : ∀ i, jn ls i < 256) (J Jx : List Nat → World → Prop) (w : World) (hn₀ : n₀ ≤ w.heap.size)
    (hA : Blk w A 45 #[.slice x0 ls.length cap0]) (hJ : Abide w.heap.size J) (hJx : Abide w.heap.size Jx) (hBd : ∀ pre X, J pre X → LsAt X x0 ls)
    (hY : ∀ pre (x : Nat) X, (pre = List.range x ∧ x ≤ tot ls / 136) → J pre X → YieldAt Fence.wide 0 Try.prog l #[.int .i64 (x : Nat), .agg (Fc 17 (blP (fun p => pdB (tot ls) (jn ls) (136 * x + p)) 136))] X fun e Y => (e = .returned (.bool true) ∧ J (pre ++ [x]) Y ∧ Kept w.heap.size X Y ∧ Below n₀ X Y) ∨ (e = .returned (.bool false) ∧ Jx (pre ++ [x]) Y ∧ Kept w.heap.size X Y))
    (h0 : J [] w) :
    CallsIn Fence.wide n Try.prog 30 #[.func (.yield l) #[] #[], .pointer (some ⟨A, 0, none⟩)] w fun e Y => (∃ v, e = .returned v) ∧
      ((∃ xs, xs = List.range (tot ls / 136 + 1) ∧ J xs Y) ∨ (∃ pre, (∃ k, pre = List.range (k + 1) ∧ k ≤ tot ls / 136) ∧ Jx pre Y)) := by
  refine callsIn_of_wp_marks Try.func30 rfl trivial ?_ rfl
  simp only [Try.ntmps30, List.size_toArray, List.length_cons, List.length_nil, Nat.reduceAdd, Nat.reduceSub, Array.replicate_succ, Array.replicate_zero, List.push_toArray, List.append_toArray, List.nil_append, List.cons_append]
  have c0 : w.cell? ⟨A, 0, none⟩ = some (.slice x0 ls.length cap0) := cell_of_row w _ 0 _ _ _ hA
  have hlA := hA.lt
  have HY := Lib.hid hY
  have HBD := Lib.hid hBd
  clear hY hBd
  gi_wp2_with fail
  refine (wpIn_wide (n := n)).2 (wp_scope_straight ((wpIn_wide (n := n)).1 ?_))
  gi_wp2_with fail
  refine wpIn_label ?_
  have hbox : Blk ((w.alloc (.cells #[.func (.yield l) #[] #[]] 62)).alloc (.cells #[.int .i64 0] 3)) w.heap.size 62 #[.func (.yield l) #[] #[]] := (Blk.new w _ _).alloc _
  have hat : Blk ((w.alloc (.cells #[.func (.yield l) #[] #[]] 62)).alloc (.cells #[.int .i64 0] 3)) (w.heap.size + 1) 3 #[.int .i64 0] := Blk.newS w _ _ _
  have hA2 := (hA.alloc (.cells #[.func (.yield l) #[] #[]] 62)).alloc (.cells #[.int .i64 0] 3)
  have hW := balloc (balloc (Below.refl w.heap.size w) (.cells #[.func (.yield l) #[] #[]] 62)) (.cells #[.int .i64 0] 3)
  have hj0 := hJ.alloc (.cells #[.int .i64 0] 3) (hJ.alloc (.cells #[.func (.yield l) #[] #[]] 62) h0)
  obtain ⟨w1, hw1⟩ : ∃ w1, ((w.alloc (.cells #[.func (.yield l) #[] #[]] 62)).alloc (.cells #[.int .i64 0] 3)) = w1 := ⟨_, rfl⟩
  rw [hw1] at hbox hat hA2 hW hj0 ⊢
  have c0 : w1.cell? ⟨A, 0, none⟩ = some (.slice x0 ls.length cap0) := cell_of_row w1 _ 0 _ _ _ hA2
  have HX := Lib.hid (And.intro hbox (And.intro hat (And.intro hW hj0)))
  clear hbox hat hA2 hW hj0 hw1 hA h0
  gi_wp2_with fail
  refine ⟨trivial, fun _ => by omega, ?_⟩
  refine (callsIn_wide.2 (pieces_any x0 ls.length cap0 _)).mono ?_
  rintro e V ⟨rfl, rfl⟩
  obtain ⟨hbox, hat, hW, hj0⟩ := HX.out
  clear HX c0
  have hbox2 := hbox.alloc (.cells #[.slice x0 ls.length cap0] 45)
  have hat2 := hat.alloc (.cells #[.slice x0 ls.length cap0] 45)
  have hS := Blk.new w1 45 #[.slice x0 ls.length cap0]
  have hW2 := balloc hW (.cells #[.slice x0 ls.length cap0] 45)
  have hj2 := hJ.alloc (.cells #[.slice x0 ls.length cap0] 45) hj0
  have hlt := hat.lt
  clear hbox hat hW hj0
  obtain ⟨W0, hW0⟩ : ∃ W0, w1.alloc (.cells #[.slice x0 ls.length cap0] 45) = W0 := ⟨_, rfl⟩
  rw [hW0] at hbox2 hat2 hS hW2 hj2 ⊢
  clear hW0
  generalize w1.heap.size = gs at hS hlt ⊢
  gi_wp2_with fail
  refine wpIn_rangeNW (n := n) (by omega) (gf := 39) (lb := #[.pointer (some ⟨gs, 0, none⟩)]) rfl (enters_of Try.func39 (by kernel_rfl) rfl)
    (pieces_seq (n - 1) n₀ gs ls x0 cap0 (by omega) hls W0 hS) (Below.refl _ _) (Nat.le_trans hn₀ hW2.size) (fun _ => rfl)
    (fun pre X => (J pre X ∧ Blk X w.heap.size 62 #[.func (.yield l) #[] #[]]) ∧ Blk X (w.heap.size + 1) 3 #[.int .i64 (pre.length : Nat)] ∧ W0.heap.size ≤ X.heap.size)
    (fun c pre X => c = .exit 0 ∧ Jx pre X)
    (((hJ.mono (by have := hW2.size; omega)).and (Abide.blk hbox2.lt _ (fun _ => _))).and ((Abide.blk hat2.lt _ (fun pre => #[Value.int .i64 ((List.length pre : Nat) : Int)])).and (Abide.size _ _)))
    (fun c => (Abide.pure _ (fun _ => c = .exit 0)).and (hJx.mono (by have := hW2.size; omega)))
    (fun pre X h => HBD.out pre X h.1.1)
    ⟨⟨hj2, hbox2⟩, hat2, Nat.le_refl _⟩
    (fun N x a' X => ∃ gp, Blk X gp 66 (Bc 136 (pcF (tot ls) (jn ls) x)) ∧ N ≤ gp ∧ a' = { tmps := #[.func (.yield l) #[] #[], .pointer (some ⟨A, 0, none⟩), .pointer (some ⟨w.heap.size, 0, none⟩), .pointer (some ⟨w.heap.size + 1, 0, none⟩), .int .i64 (pcL (tot ls) x : Nat), .pointer (some ⟨gp, 0, none⟩), .slice x0 ls.length cap0, .func (.func 39) #[] #[.pointer (some ⟨gs, 0, none⟩)], .int .i64 (pcL (tot ls) x : Nat), .agg (Bc 136 (pcF (tot ls) (jn ls) x)), undef, undef, undef, undef, undef, undef, undef, undef, undef, undef, undef, undef, undef, undef, undef, undef, undef, undef, undef], defers := [] })
    (fun N x a' _ X Y row hs hg hr => by obtain ⟨gp, h1, h2⟩ := hs; exact ⟨gp, blk_cells' h1 hg (fun r e => (hr r e).2), h2⟩)
    ?assign ?body ?done ?stop
  case assign =>
    rintro l2 pre x X K _ hi hK
    gi_wp2_with fail
    simp only [zero71, Result.andThen_ok, Oper.uponIn_value]
    rename_i K1 hK1
    refine hK1 _ _ ?_
    clear hK1 K1
    refine wpListIn_plain rfl fun K1 hK1 => ?_
    refine wpIn_store_rowF (fun _ => trivial) 66 (.tmp 5) (.tmp 9) rfl X.heap.size (Bc 136 (pcF (tot ls) (jn ls) x)) rfl rfl 66 (Bc 136 (fun _ => 0)) (Blk.new X _ _) (by rw [info71, Bc_size]) (by rw [Bc_size, Bc_size]) (Bc_one _ _) ?_
    rw [World.setRow_alloc_new]
    refine hK1 _ _ ?_
    clear hK1 K1
    refine wpListIn_nil ?_
    exact hK _ _ (Kept.alloc _ _ _) ((Below.refl n₀ X).alloc (Nat.le_trans hn₀ (Nat.le_trans hW2.size hi.2.2)) _) ⟨⟨hJ.alloc _ hi.1.1, hi.1.2.alloc _⟩, hi.2.1.alloc _, Nat.le_trans hi.2.2 (by simp)⟩ ⟨X.heap.size, Blk.new X _ _, Nat.le_refl _, rfl⟩
  case body =>
    rintro l2 M pre x a' X hl2 ⟨rfl, hxK⟩ hlo hWM hMX ⟨⟨hj, hbx⟩, hat, hle⟩ ⟨gp, hP, hgp, rfl⟩
    rw [List.length_range] at hat
    have hne0 : w.heap.size ≠ gp := by have := hbox2.lt; omega
    have hne1 : w.heap.size + 1 ≠ gp := by have := hat2.lt; omega
    have hgw : w.heap.size ≤ gp := by have := hW2.size; omega
    have hgn : n₀ ≤ gp := by omega
    have hXn : n₀ ≤ X.heap.size := by have := hW2.size; omega
    obtain ⟨PB, hPB⟩ : ∃ PB, (fun p => pdB (tot ls) (jn ls) (136 * x + p)) = PB := ⟨_, rfl⟩
    have hPB8 : ∀ k, k < 136 → PB k < 256 := fun k _ => by rw [← hPB]; exact pdB_lt hg8 _
    have HP0 := Lib.hid (And.intro hP (And.intro hj (And.intro hbx hat)))
    clear hP hj hbx hat
    obtain ⟨c, hc⟩ : ∃ c, pcL (tot ls) x = c := ⟨_, rfl⟩
    rw [hc]
    · obtain ⟨hP, hj, hbx, hat⟩ := HP0.out
      by_cases hfull : 136 * x + 136 ≤ tot ls
      · have hcI : ¬ (c : Int) < 136 := by unfold pcL at hc; omega
        have hP2 : Blk X gp 66 (Bc 136 PB) := by rw [← hPB, ← pad_full hfull]; exact hP
        have HX := Lib.hid (And.intro hP2 (And.intro hj (And.intro hbx (And.intro hat (And.intro (KeptN.refl W0.heap.size M X) (Below.refl n₀ X))))))
        clear hP2 hP hj hbx hat
        gi_wp2_with fail
        obtain ⟨V, hV⟩ : ∃ V, X = V := ⟨_, rfl⟩
        have HX : Hid (Blk V gp 66 (Bc 136 PB) ∧ J (List.range x) V ∧ Blk V w.heap.size 62 #[.func (.yield l) #[] #[]] ∧ Blk V (w.heap.size + 1) 3 #[.int .i64 (x : Nat)] ∧ KeptN W0.heap.size M X V ∧ Below n₀ X V) := by rw [← hV]; exact HX
        rw [show Code.wpIn _ _ _ _ _ _ X = Code.wpIn _ _ _ _ _ _ V by rw [hV]]
        clear hV hcI
        refine wpIn_region_round l2 (by kernel_rfl) (by kernel_rfl) ?_
        have hP := HX.out.1.drew'
        have cb : V.drew.cell? ⟨w.heap.size, 0, none⟩ = some (.func (.yield l) #[] #[]) := cell_of_row _ _ 0 _ _ _ HX.out.2.2.1.drew'
        have ca : V.drew.cell? ⟨w.heap.size + 1, 0, none⟩ = some (.int .i64 (x : Nat)) := cell_of_row _ _ 0 _ _ _ HX.out.2.2.2.1.drew'
        refine join_all (T := ?TK) (fun key => ?mk) ?kk
        case mk =>
          refine wpAnyIn_ready (rs := [0, 1, 2]) (by kernel_rfl) (by simp) ?_
          refine AllReadyIn.cons rfl (fun K hK => ?_) (AllReadyIn.cons rfl (fun K hK => ?_) (AllReadyIn.cons rfl (fun K hK => ?_) AllReadyIn.nil))
          · go_simp
            refine hK _ _ ?_
            clear hK K
            refine wpAnyIn_ready (rs := [1, 2]) (by kernel_rfl) (by simp) ?_
            refine AllReadyIn.cons rfl (fun K hK => ?_) (AllReadyIn.cons rfl (fun K hK => ?_) AllReadyIn.nil)
            · go_simp
              refine hK _ _ ?_
              clear hK K
              refine wpAnyIn_ready (rs := [2]) (by kernel_rfl) (by simp) ?_
              refine AllReadyIn.cons rfl (fun K hK => ?_) AllReadyIn.nil
              · refine wpIn_load_rowA (fun _ => trivial) 66 (.tmp 5) rfl gp 0 rfl (Bc 136 PB) _ hP.rangeAt und71 rfl (by rw [info71, Bc_size]) ?_
                refine hK _ _ ?_
                clear hK K
                refine wpAnyIn_ready (rs := [3]) (by kernel_rfl) (by simp) ?_
                refine AllReadyIn.cons rfl (fun K hK => ?_) AllReadyIn.nil
                · go_simp
                  refine ⟨trivial, fun _ => by omega, (callsIn_wide.2 (dread_any PB hPB8 _)).mono ?_⟩
                  rintro e wk ⟨rfl, hwk⟩
                  refine hK _ _ ?_
                  clear hK K
                  have cb := (hwk.cell (p := ⟨w.heap.size, 0, none⟩) (by have := HX.out.2.2.1.lt; exact this)).trans cb
                  have ca := (hwk.cell (p := ⟨w.heap.size + 1, 0, none⟩) (by have := HX.out.2.2.2.1.lt; exact this)).trans ca
                  clear cb ca
                  revert hwk
                  revert wk
                  exact key.out
            · refine wpIn_load_rowA (fun _ => trivial) 66 (.tmp 5) rfl gp 0 rfl (Bc 136 PB) _ hP.rangeAt und71 rfl (by rw [info71, Bc_size]) ?_
              refine hK _ _ ?_
              clear hK K
              refine wpAnyIn_ready (rs := [1, 3]) (by kernel_rfl) (by simp) ?_
              refine AllReadyIn.cons rfl (fun K hK => ?_) (AllReadyIn.cons rfl (fun K hK => ?_) AllReadyIn.nil)
              · go_simp
                refine hK _ _ ?_
                clear hK K
                refine wpAnyIn_ready (rs := [3]) (by kernel_rfl) (by simp) ?_
                refine AllReadyIn.cons rfl (fun K hK => ?_) AllReadyIn.nil
                · go_simp
                  refine ⟨trivial, fun _ => by omega, (callsIn_wide.2 (dread_any PB hPB8 _)).mono ?_⟩
                  rintro e wk ⟨rfl, hwk⟩
                  refine hK _ _ ?_
                  clear hK K
                  have cb := (hwk.cell (p := ⟨w.heap.size, 0, none⟩) (by have := HX.out.2.2.1.lt; exact this)).trans cb
                  have ca := (hwk.cell (p := ⟨w.heap.size + 1, 0, none⟩) (by have := HX.out.2.2.2.1.lt; exact this)).trans ca
                  clear cb ca
                  revert hwk
                  revert wk
                  exact key.out
              · go_simp
                refine ⟨trivial, fun _ => by omega, (callsIn_wide.2 (dread_any PB hPB8 _)).mono ?_⟩
                rintro e wk ⟨rfl, hwk⟩
                refine hK _ _ ?_
                clear hK K
                have cb := (hwk.cell (p := ⟨w.heap.size, 0, none⟩) (by have := HX.out.2.2.1.lt; exact this)).trans cb
                have ca := (hwk.cell (p := ⟨w.heap.size + 1, 0, none⟩) (by have := HX.out.2.2.2.1.lt; exact this)).trans ca
                refine wpAnyIn_ready (rs := [1]) (by kernel_rfl) (by simp) ?_
                refine AllReadyIn.cons rfl (fun K hK => ?_) AllReadyIn.nil
                · go_simp
                  refine hK _ _ ?_
                  clear hK K
                  clear cb ca
                  revert hwk
                  revert wk
                  exact key.out
          · go_simp
            refine hK _ _ ?_
            clear hK K
            refine wpAnyIn_ready (rs := [0, 2]) (by kernel_rfl) (by simp) ?_
            refine AllReadyIn.cons rfl (fun K hK => ?_) (AllReadyIn.cons rfl (fun K hK => ?_) AllReadyIn.nil)
            · go_simp
              refine hK _ _ ?_
              clear hK K
              refine wpAnyIn_ready (rs := [2]) (by kernel_rfl) (by simp) ?_
              refine AllReadyIn.cons rfl (fun K hK => ?_) AllReadyIn.nil
              · refine wpIn_load_rowA (fun _ => trivial) 66 (.tmp 5) rfl gp 0 rfl (Bc 136 PB) _ hP.rangeAt und71 rfl (by rw [info71, Bc_size]) ?_
                refine hK _ _ ?_
                clear hK K
                refine wpAnyIn_ready (rs := [3]) (by kernel_rfl) (by simp) ?_
                refine AllReadyIn.cons rfl (fun K hK => ?_) AllReadyIn.nil
                · go_simp
                  refine ⟨trivial, fun _ => by omega, (callsIn_wide.2 (dread_any PB hPB8 _)).mono ?_⟩
                  rintro e wk ⟨rfl, hwk⟩
                  refine hK _ _ ?_
                  clear hK K
                  have cb := (hwk.cell (p := ⟨w.heap.size, 0, none⟩) (by have := HX.out.2.2.1.lt; exact this)).trans cb
                  have ca := (hwk.cell (p := ⟨w.heap.size + 1, 0, none⟩) (by have := HX.out.2.2.2.1.lt; exact this)).trans ca
                  clear cb ca
                  revert hwk
                  revert wk
                  exact key.out
            · refine wpIn_load_rowA (fun _ => trivial) 66 (.tmp 5) rfl gp 0 rfl (Bc 136 PB) _ hP.rangeAt und71 rfl (by rw [info71, Bc_size]) ?_
              refine hK _ _ ?_
              clear hK K
              refine wpAnyIn_ready (rs := [0, 3]) (by kernel_rfl) (by simp) ?_
              refine AllReadyIn.cons rfl (fun K hK => ?_) (AllReadyIn.cons rfl (fun K hK => ?_) AllReadyIn.nil)
              · go_simp
                refine hK _ _ ?_
                clear hK K
                refine wpAnyIn_ready (rs := [3]) (by kernel_rfl) (by simp) ?_
                refine AllReadyIn.cons rfl (fun K hK => ?_) AllReadyIn.nil
                · go_simp
                  refine ⟨trivial, fun _ => by omega, (callsIn_wide.2 (dread_any PB hPB8 _)).mono ?_⟩
                  rintro e wk ⟨rfl, hwk⟩
                  refine hK _ _ ?_
                  clear hK K
                  have cb := (hwk.cell (p := ⟨w.heap.size, 0, none⟩) (by have := HX.out.2.2.1.lt; exact this)).trans cb
                  have ca := (hwk.cell (p := ⟨w.heap.size + 1, 0, none⟩) (by have := HX.out.2.2.2.1.lt; exact this)).trans ca
                  clear cb ca
                  revert hwk
                  revert wk
                  exact key.out
              · go_simp
                refine ⟨trivial, fun _ => by omega, (callsIn_wide.2 (dread_any PB hPB8 _)).mono ?_⟩
                rintro e wk ⟨rfl, hwk⟩
                refine hK _ _ ?_
                clear hK K
                have cb := (hwk.cell (p := ⟨w.heap.size, 0, none⟩) (by have := HX.out.2.2.1.lt; exact this)).trans cb
                have ca := (hwk.cell (p := ⟨w.heap.size + 1, 0, none⟩) (by have := HX.out.2.2.2.1.lt; exact this)).trans ca
                refine wpAnyIn_ready (rs := [0]) (by kernel_rfl) (by simp) ?_
                refine AllReadyIn.cons rfl (fun K hK => ?_) AllReadyIn.nil
                · go_simp
                  refine hK _ _ ?_
                  clear hK K
                  clear cb ca
                  revert hwk
                  revert wk
                  exact key.out
          · refine wpIn_load_rowA (fun _ => trivial) 66 (.tmp 5) rfl gp 0 rfl (Bc 136 PB) _ hP.rangeAt und71 rfl (by rw [info71, Bc_size]) ?_
            refine hK _ _ ?_
            clear hK K
            refine wpAnyIn_ready (rs := [0, 1, 3]) (by kernel_rfl) (by simp) ?_
            refine AllReadyIn.cons rfl (fun K hK => ?_) (AllReadyIn.cons rfl (fun K hK => ?_) (AllReadyIn.cons rfl (fun K hK => ?_) AllReadyIn.nil))
            · go_simp
              refine hK _ _ ?_
              clear hK K
              refine wpAnyIn_ready (rs := [1, 3]) (by kernel_rfl) (by simp) ?_
              refine AllReadyIn.cons rfl (fun K hK => ?_) (AllReadyIn.cons rfl (fun K hK => ?_) AllReadyIn.nil)
              · go_simp
                refine hK _ _ ?_
                clear hK K
                refine wpAnyIn_ready (rs := [3]) (by kernel_rfl) (by simp) ?_
                refine AllReadyIn.cons rfl (fun K hK => ?_) AllReadyIn.nil
                · go_simp
                  refine ⟨trivial, fun _ => by omega, (callsIn_wide.2 (dread_any PB hPB8 _)).mono ?_⟩
                  rintro e wk ⟨rfl, hwk⟩
                  refine hK _ _ ?_
                  clear hK K
                  have cb := (hwk.cell (p := ⟨w.heap.size, 0, none⟩) (by have := HX.out.2.2.1.lt; exact this)).trans cb
                  have ca := (hwk.cell (p := ⟨w.heap.size + 1, 0, none⟩) (by have := HX.out.2.2.2.1.lt; exact this)).trans ca
                  clear cb ca
                  revert hwk
                  revert wk
                  exact key.out
              · go_simp
                refine ⟨trivial, fun _ => by omega, (callsIn_wide.2 (dread_any PB hPB8 _)).mono ?_⟩
                rintro e wk ⟨rfl, hwk⟩
                refine hK _ _ ?_
                clear hK K
                have cb := (hwk.cell (p := ⟨w.heap.size, 0, none⟩) (by have := HX.out.2.2.1.lt; exact this)).trans cb
                have ca := (hwk.cell (p := ⟨w.heap.size + 1, 0, none⟩) (by have := HX.out.2.2.2.1.lt; exact this)).trans ca
                refine wpAnyIn_ready (rs := [1]) (by kernel_rfl) (by simp) ?_
                refine AllReadyIn.cons rfl (fun K hK => ?_) AllReadyIn.nil
                · go_simp
                  refine hK _ _ ?_
                  clear hK K
                  clear cb ca
                  revert hwk
                  revert wk
                  exact key.out
            · go_simp
              refine hK _ _ ?_
              clear hK K
              refine wpAnyIn_ready (rs := [0, 3]) (by kernel_rfl) (by simp) ?_
              refine AllReadyIn.cons rfl (fun K hK => ?_) (AllReadyIn.cons rfl (fun K hK => ?_) AllReadyIn.nil)
              · go_simp
                refine hK _ _ ?_
                clear hK K
                refine wpAnyIn_ready (rs := [3]) (by kernel_rfl) (by simp) ?_
                refine AllReadyIn.cons rfl (fun K hK => ?_) AllReadyIn.nil
                · go_simp
                  refine ⟨trivial, fun _ => by omega, (callsIn_wide.2 (dread_any PB hPB8 _)).mono ?_⟩
                  rintro e wk ⟨rfl, hwk⟩
                  refine hK _ _ ?_
                  clear hK K
                  have cb := (hwk.cell (p := ⟨w.heap.size, 0, none⟩) (by have := HX.out.2.2.1.lt; exact this)).trans cb
                  have ca := (hwk.cell (p := ⟨w.heap.size + 1, 0, none⟩) (by have := HX.out.2.2.2.1.lt; exact this)).trans ca
                  clear cb ca
                  revert hwk
                  revert wk
                  exact key.out
              · go_simp
                refine ⟨trivial, fun _ => by omega, (callsIn_wide.2 (dread_any PB hPB8 _)).mono ?_⟩
                rintro e wk ⟨rfl, hwk⟩
                refine hK _ _ ?_
                clear hK K
                have cb := (hwk.cell (p := ⟨w.heap.size, 0, none⟩) (by have := HX.out.2.2.1.lt; exact this)).trans cb
                have ca := (hwk.cell (p := ⟨w.heap.size + 1, 0, none⟩) (by have := HX.out.2.2.2.1.lt; exact this)).trans ca
                refine wpAnyIn_ready (rs := [0]) (by kernel_rfl) (by simp) ?_
                refine AllReadyIn.cons rfl (fun K hK => ?_) AllReadyIn.nil
                · go_simp
                  refine hK _ _ ?_
                  clear hK K
                  clear cb ca
                  revert hwk
                  revert wk
                  exact key.out
            · go_simp
              refine ⟨trivial, fun _ => by omega, (callsIn_wide.2 (dread_any PB hPB8 _)).mono ?_⟩
              rintro e wk ⟨rfl, hwk⟩
              refine hK _ _ ?_
              clear hK K
              have cb := (hwk.cell (p := ⟨w.heap.size, 0, none⟩) (by have := HX.out.2.2.1.lt; exact this)).trans cb
              have ca := (hwk.cell (p := ⟨w.heap.size + 1, 0, none⟩) (by have := HX.out.2.2.2.1.lt; exact this)).trans ca
              refine wpAnyIn_ready (rs := [0, 1]) (by kernel_rfl) (by simp) ?_
              refine AllReadyIn.cons rfl (fun K hK => ?_) (AllReadyIn.cons rfl (fun K hK => ?_) AllReadyIn.nil)
              · go_simp
                refine hK _ _ ?_
                clear hK K
                refine wpAnyIn_ready (rs := [1]) (by kernel_rfl) (by simp) ?_
                refine AllReadyIn.cons rfl (fun K hK => ?_) AllReadyIn.nil
                · go_simp
                  refine hK _ _ ?_
                  clear hK K
                  clear cb ca
                  revert hwk
                  revert wk
                  exact key.out
              · go_simp
                refine hK _ _ ?_
                clear hK K
                refine wpAnyIn_ready (rs := [0]) (by kernel_rfl) (by simp) ?_
                refine AllReadyIn.cons rfl (fun K hK => ?_) AllReadyIn.nil
                · go_simp
                  refine hK _ _ ?_
                  clear hK K
                  clear cb ca
                  revert hwk
                  revert wk
                  exact key.out
        case kk =>
          intro wk hwk
          obtain ⟨_, hj, hbx, hat, hkp, hbl⟩ := HX.out
          have hjd : J (List.range x) V.drew := hJ _ _ _ none hj (grown_drew ⟨rfl, rfl, rfl, Nat.le_refl _, fun _ _ _ => rfl⟩) (fun _ e => by cases e)
          have hjk : J (List.range x) wk := hJ.new hjd hwk
          have hbxk := hbx.drew'.keep hwk
          have hatk := hat.drew'.keep hwk
          have hkw : KeptN W0.heap.size M X wk := hkp.trans (KeptN.of (Nat.le_trans hMX hkp.1) (show Kept W0.heap.size V wk from Kept.below (X := V.drew) _ hwk))
          have hblk : Below n₀ X wk := hbl.trans ((Below.refl n₀ V).drew.trans (hwk.mono (by have := hkp.1; show n₀ ≤ V.heap.size; omega)))
          have hY1 := HY.out (List.range x) x wk ⟨rfl, hxK⟩ hjk
          rw [hPB] at hY1
          obtain ⟨fn, tmps, assign, body, hy, hR⟩ := YieldAt.wide (m' := n - 1 - 1 - 1) hY1
          have HZ := Lib.hid (And.intro hbxk (And.intro hatk (And.intro hkw hblk)))
          have hNw : M ≤ wk.heap.size := Nat.le_trans hMX hkw.1
          clear hj hbx hat hkp hbl hjd hjk hbxk hatk hkw hblk HX hP cb ca hwk hY1
          refine wpAnyIn_ready (rs := [4]) (by kernel_rfl) (by simp) ?_
          refine AllReadyIn.cons rfl (fun K hK => ?_) AllReadyIn.nil
          go_simp
          first
          | refine RoundIn.mono hR ?_
          | refine ⟨fun _ => by omega, RoundIn.mono hR ?_⟩
          rintro e Y (⟨rfl, h1, h2, h3⟩ | ⟨rfl, h1, h2⟩)
          · refine hK _ _ ?_
            clear hK K hR hy
            refine wpAnyIn_take (i := 5) (v := ?vq7) rfl rfl (by kernel_rfl) (by kernel_rfl) (by kernel_rfl) (fun _ _ _ h => h) ⟨Or.inl ⟨by rfl, ?yq7⟩, fun _ => rfl⟩ ?rq7
            case yq7 => (intro w; go_simp <;> with_reducible rfl)
            refine wpAnyIn_done (by kernel_rfl) ?_ _
            simp only [Act.put, List.getElem_toArray, List.getElem_cons_succ, List.getElem_cons_zero, List.setIfInBounds_toArray, List.set_cons_zero, List.set_cons_succ]
            obtain ⟨hbx, hat, hkw, hbl⟩ := HZ.out
            have hbxY : Blk Y w.heap.size 62 #[.func (.yield l) #[] #[]] := (h2.2 _ (Nat.le_refl _) hbx.lt).trans hbx
            have hatY : Blk Y (w.heap.size + 1) 3 #[.int .i64 (x : Nat)] := (h2.2 _ (by omega) hat.lt).trans hat
            have ca := cell_of_row _ _ 0 _ _ _ hatY
            have fa := frozen_of_row _ _ 0 _ _ hatY
            have hl1 := hat2.lt
            have hw1 : IntKind.i64.wrap ((x : Int) + 1) = (x : Int) + 1 := IntWalk.i64_in _ (by omega)
            have hG := grown_set' (grown_refl Y (w.heap.size + 1)) 0 (.int .i64 ((x : Int) + 1))
            have hle2 : (((List.range x ++ [x]).length : Nat) : Int) = (x : Int) + 1 := by simp
            have hE := Lib.hid (show KeptN W0.heap.size M X (Y.setCell ⟨w.heap.size + 1, 0, none⟩ (.int .i64 ((x : Int) + 1))) ∧ Below n₀ X (Y.setCell ⟨w.heap.size + 1, 0, none⟩ (.int .i64 ((x : Int) + 1))) ∧ ((J (List.range x ++ [x]) (Y.setCell ⟨w.heap.size + 1, 0, none⟩ (.int .i64 ((x : Int) + 1))) ∧ Blk (Y.setCell ⟨w.heap.size + 1, 0, none⟩ (.int .i64 ((x : Int) + 1))) w.heap.size 62 #[.func (.yield l) #[] #[]]) ∧ Blk (Y.setCell ⟨w.heap.size + 1, 0, none⟩ (.int .i64 ((x : Int) + 1))) (w.heap.size + 1) 3 #[.int .i64 ((List.range x ++ [x]).length : Nat)] ∧ W0.heap.size ≤ (Y.setCell ⟨w.heap.size + 1, 0, none⟩ (.int .i64 ((x : Int) + 1))).heap.size) from by
              have hk3 : KeptN W0.heap.size M X Y := hkw.trans (KeptN.of hNw (h2.mono (by omega)))
              have hsz : (Y.setCell ⟨w.heap.size + 1, 0, none⟩ (.int .i64 ((x : Int) + 1))).heap.size = Y.heap.size := by simp [World.setCell]
              exact ⟨hk3.trans (KeptN.grown (Nat.le_trans hMX hk3.1) hG (fun r e => by cases e; exact .inl hl1)), (hbl.trans h3).grown hG (by have := hk3.1; omega) (fun k e => by cases e; omega), ⟨hJ.set 0 _ h1 (by omega), hbxY.kept hG (fun e => by injection e; omega)⟩, by rw [hle2]; exact heap_setCell_same Y _ 0 _ _ _ hatY, by rw [hsz]; have := hk3.1; omega⟩)
            clear hbx hat hkw hbl hbxY hatY hG h1 h2 h3 HZ hle2
            gi_wp2_with fail
            exact hE.out
          · refine hK _ _ ?_
            clear hK K hR hy
            refine wpAnyIn_take (i := 5) (v := ?vq8) rfl rfl (by kernel_rfl) (by kernel_rfl) (by kernel_rfl) (fun _ _ _ h => h) ⟨Or.inl ⟨by rfl, ?yq8⟩, fun _ => rfl⟩ ?rq8
            case yq8 => (intro w; go_simp <;> with_reducible rfl)
            refine wpAnyIn_done (by kernel_rfl) ?_ _
            simp only [Act.put, List.getElem_toArray, List.getElem_cons_succ, List.getElem_cons_zero, List.setIfInBounds_toArray, List.set_cons_zero, List.set_cons_succ]
            obtain ⟨hbx, hat, hkw, hbl⟩ := HZ.out
            have hE := Lib.hid (show KeptN W0.heap.size M X Y ∧ Jx (List.range x ++ [x]) Y from ⟨hkw.trans (KeptN.of hNw (h2.mono (by have := hat2.lt; omega))), h1⟩)
            clear hbx hat hkw hbl h1 h2 HZ
            gi_wp2_with fail
            exact ⟨hE.out.1, rfl, hE.out.2⟩
      · have hf136 : c < 136 := by unfold pcL at hc; omega
        have hNf : tot ls = 136 * x + c := by unfold pcL at hc; omega
        have hfI : (c : Int) < 136 := by omega
        have hf0 : (0 : Int) ≤ (c : Int) := by omega
        have d0 := (cell_of_row X _ c _ _ _ hP).trans (Bc_get 136 _ c hf136)
        have hz : pcF (tot ls) (jn ls) x c = 0 := by rw [pcF_out (by omega)]
        rw [hz] at d0
        have f0 := frozen_of_row X _ c _ _ hP
        have g0 : bits .xor .u8 0 1 = 1 := by decide +kernel
        have hS1 := heap_setCell_same X gp c _ _ (.int .u8 1) hP
        have f1 := frozen_of_row _ _ 135 _ _ hS1
        have d1 := cell_of_row _ _ 135 _ _ _ hS1
        obtain ⟨e1, v, he1, hxv, hv⟩ : ∃ e1 v : Nat, ((Bc 136 (pcF (tot ls) (jn ls) x)).setIfInBounds c (.int .u8 1))[135]? = some (.int .u8 (e1 : Nat)) ∧ bits .xor .u8 (e1 : Nat) 128 = ((v : Nat) : Int) ∧ v = (if c = 135 then 129 else 128) := by
          rw [show (Bc 136 (pcF (tot ls) (jn ls) x)).setIfInBounds c (.int .u8 1) = _ from Bc_setv 136 c 1 _]
          by_cases h135 : c = 135
          · exact ⟨1, 129, by rw [Bc_get 136 _ 135 (by omega), if_pos h135.symm], by decide +kernel, by rw [if_pos h135]⟩
          · exact ⟨0, 128, by rw [Bc_get 136 _ 135 (by omega), if_neg (fun h => h135 h.symm), pcF_out (by omega)], by decide +kernel, by rw [if_neg h135]⟩
        rw [he1] at d1
        have hS2 : Blk ((X.setCell ⟨gp, c, none⟩ (.int .u8 1)).setCell ⟨gp, 135, none⟩ (.int .u8 (v : Nat))) gp 66 (Bc 136 PB) := by
          have h := heap_setCell_same _ gp 135 _ _ (.int .u8 (v : Nat)) hS1
          rw [pad_last hNf hf136 hv, hPB] at h
          exact h
        have hG : X.grownBy ((X.setCell ⟨gp, c, none⟩ (.int .u8 1)).setCell ⟨gp, 135, none⟩ (.int .u8 (v : Nat))) (some gp) := grown_set' (grown_set' (grown_refl X gp) c _) 135 _
        have hj3 := hJ _ _ _ _ hj hG (fun r e => by cases e; exact hgw)
        have hbx3 := hbx.kept hG (fun e => hne0 (Option.some.inj e))
        have hat3 := hat.kept hG (fun e => hne1 (Option.some.inj e))
        have hkp : KeptN W0.heap.size M X ((X.setCell ⟨gp, c, none⟩ (.int .u8 1)).setCell ⟨gp, 135, none⟩ (.int .u8 (v : Nat))) := KeptN.grown hMX hG (fun r e => by cases e; exact .inr hgp)
        have hbl : Below n₀ X ((X.setCell ⟨gp, c, none⟩ (.int .u8 1)).setCell ⟨gp, 135, none⟩ (.int .u8 (v : Nat))) := (Below.refl n₀ X).grown hG hXn (fun k e => by cases e; exact hgn)
        have HX := Lib.hid (And.intro hS2 (And.intro hj3 (And.intro hbx3 (And.intro hat3 (And.intro hkp hbl)))))
        clear hS1 hS2 hG hj3 hbx3 hat3 hkp hbl hP hj hbx hat he1 hv hz hNf
        gi_wp2_with fail
        obtain ⟨V, hV⟩ : ∃ V, (X.setCell ⟨gp, c, none⟩ (.int .u8 1)).setCell ⟨gp, 135, none⟩ (.int .u8 (v : Nat)) = V := ⟨_, rfl⟩
        rw [hV] at HX ⊢
        clear hV d0 d1 f0 f1 g0 hxv hfI hf0 hf136
        refine wpIn_region_round l2 (by kernel_rfl) (by kernel_rfl) ?_
        have hP := HX.out.1.drew'
        have cb : V.drew.cell? ⟨w.heap.size, 0, none⟩ = some (.func (.yield l) #[] #[]) := cell_of_row _ _ 0 _ _ _ HX.out.2.2.1.drew'
        have ca : V.drew.cell? ⟨w.heap.size + 1, 0, none⟩ = some (.int .i64 (x : Nat)) := cell_of_row _ _ 0 _ _ _ HX.out.2.2.2.1.drew'
        refine join_all (T := ?TKb) (fun key => ?mkb) ?kkb
        case mkb =>
          refine wpAnyIn_ready (rs := [0, 1, 2]) (by kernel_rfl) (by simp) ?_
          refine AllReadyIn.cons rfl (fun K hK => ?_) (AllReadyIn.cons rfl (fun K hK => ?_) (AllReadyIn.cons rfl (fun K hK => ?_) AllReadyIn.nil))
          · go_simp
            refine hK _ _ ?_
            clear hK K
            refine wpAnyIn_ready (rs := [1, 2]) (by kernel_rfl) (by simp) ?_
            refine AllReadyIn.cons rfl (fun K hK => ?_) (AllReadyIn.cons rfl (fun K hK => ?_) AllReadyIn.nil)
            · go_simp
              refine hK _ _ ?_
              clear hK K
              refine wpAnyIn_ready (rs := [2]) (by kernel_rfl) (by simp) ?_
              refine AllReadyIn.cons rfl (fun K hK => ?_) AllReadyIn.nil
              · refine wpIn_load_rowA (fun _ => trivial) 66 (.tmp 5) rfl gp 0 rfl (Bc 136 PB) _ hP.rangeAt und71 rfl (by rw [info71, Bc_size]) ?_
                refine hK _ _ ?_
                clear hK K
                refine wpAnyIn_ready (rs := [3]) (by kernel_rfl) (by simp) ?_
                refine AllReadyIn.cons rfl (fun K hK => ?_) AllReadyIn.nil
                · go_simp
                  refine ⟨trivial, fun _ => by omega, (callsIn_wide.2 (dread_any PB hPB8 _)).mono ?_⟩
                  rintro e wk ⟨rfl, hwk⟩
                  refine hK _ _ ?_
                  clear hK K
                  have cb := (hwk.cell (p := ⟨w.heap.size, 0, none⟩) (by have := HX.out.2.2.1.lt; exact this)).trans cb
                  have ca := (hwk.cell (p := ⟨w.heap.size + 1, 0, none⟩) (by have := HX.out.2.2.2.1.lt; exact this)).trans ca
                  clear cb ca
                  revert hwk
                  revert wk
                  exact key.out
            · refine wpIn_load_rowA (fun _ => trivial) 66 (.tmp 5) rfl gp 0 rfl (Bc 136 PB) _ hP.rangeAt und71 rfl (by rw [info71, Bc_size]) ?_
              refine hK _ _ ?_
              clear hK K
              refine wpAnyIn_ready (rs := [1, 3]) (by kernel_rfl) (by simp) ?_
              refine AllReadyIn.cons rfl (fun K hK => ?_) (AllReadyIn.cons rfl (fun K hK => ?_) AllReadyIn.nil)
              · go_simp
                refine hK _ _ ?_
                clear hK K
                refine wpAnyIn_ready (rs := [3]) (by kernel_rfl) (by simp) ?_
                refine AllReadyIn.cons rfl (fun K hK => ?_) AllReadyIn.nil
                · go_simp
                  refine ⟨trivial, fun _ => by omega, (callsIn_wide.2 (dread_any PB hPB8 _)).mono ?_⟩
                  rintro e wk ⟨rfl, hwk⟩
                  refine hK _ _ ?_
                  clear hK K
                  have cb := (hwk.cell (p := ⟨w.heap.size, 0, none⟩) (by have := HX.out.2.2.1.lt; exact this)).trans cb
                  have ca := (hwk.cell (p := ⟨w.heap.size + 1, 0, none⟩) (by have := HX.out.2.2.2.1.lt; exact this)).trans ca
                  clear cb ca
                  revert hwk
                  revert wk
                  exact key.out
              · go_simp
                refine ⟨trivial, fun _ => by omega, (callsIn_wide.2 (dread_any PB hPB8 _)).mono ?_⟩
                rintro e wk ⟨rfl, hwk⟩
                refine hK _ _ ?_
                clear hK K
                have cb := (hwk.cell (p := ⟨w.heap.size, 0, none⟩) (by have := HX.out.2.2.1.lt; exact this)).trans cb
                have ca := (hwk.cell (p := ⟨w.heap.size + 1, 0, none⟩) (by have := HX.out.2.2.2.1.lt; exact this)).trans ca
                refine wpAnyIn_ready (rs := [1]) (by kernel_rfl) (by simp) ?_
                refine AllReadyIn.cons rfl (fun K hK => ?_) AllReadyIn.nil
                · go_simp
                  refine hK _ _ ?_
                  clear hK K
                  clear cb ca
                  revert hwk
                  revert wk
                  exact key.out
          · go_simp
            refine hK _ _ ?_
            clear hK K
            refine wpAnyIn_ready (rs := [0, 2]) (by kernel_rfl) (by simp) ?_
            refine AllReadyIn.cons rfl (fun K hK => ?_) (AllReadyIn.cons rfl (fun K hK => ?_) AllReadyIn.nil)
            · go_simp
              refine hK _ _ ?_
              clear hK K
              refine wpAnyIn_ready (rs := [2]) (by kernel_rfl) (by simp) ?_
              refine AllReadyIn.cons rfl (fun K hK => ?_) AllReadyIn.nil
              · refine wpIn_load_rowA (fun _ => trivial) 66 (.tmp 5) rfl gp 0 rfl (Bc 136 PB) _ hP.rangeAt und71 rfl (by rw [info71, Bc_size]) ?_
                refine hK _ _ ?_
                clear hK K
                refine wpAnyIn_ready (rs := [3]) (by kernel_rfl) (by simp) ?_
                refine AllReadyIn.cons rfl (fun K hK => ?_) AllReadyIn.nil
                · go_simp
                  refine ⟨trivial, fun _ => by omega, (callsIn_wide.2 (dread_any PB hPB8 _)).mono ?_⟩
                  rintro e wk ⟨rfl, hwk⟩
                  refine hK _ _ ?_
                  clear hK K
                  have cb := (hwk.cell (p := ⟨w.heap.size, 0, none⟩) (by have := HX.out.2.2.1.lt; exact this)).trans cb
                  have ca := (hwk.cell (p := ⟨w.heap.size + 1, 0, none⟩) (by have := HX.out.2.2.2.1.lt; exact this)).trans ca
                  clear cb ca
                  revert hwk
                  revert wk
                  exact key.out
            · refine wpIn_load_rowA (fun _ => trivial) 66 (.tmp 5) rfl gp 0 rfl (Bc 136 PB) _ hP.rangeAt und71 rfl (by rw [info71, Bc_size]) ?_
              refine hK _ _ ?_
              clear hK K
              refine wpAnyIn_ready (rs := [0, 3]) (by kernel_rfl) (by simp) ?_
              refine AllReadyIn.cons rfl (fun K hK => ?_) (AllReadyIn.cons rfl (fun K hK => ?_) AllReadyIn.nil)
              · go_simp
                refine hK _ _ ?_
                clear hK K
                refine wpAnyIn_ready (rs := [3]) (by kernel_rfl) (by simp) ?_
                refine AllReadyIn.cons rfl (fun K hK => ?_) AllReadyIn.nil
                · go_simp
                  refine ⟨trivial, fun _ => by omega, (callsIn_wide.2 (dread_any PB hPB8 _)).mono ?_⟩
                  rintro e wk ⟨rfl, hwk⟩
                  refine hK _ _ ?_
                  clear hK K
                  have cb := (hwk.cell (p := ⟨w.heap.size, 0, none⟩) (by have := HX.out.2.2.1.lt; exact this)).trans cb
                  have ca := (hwk.cell (p := ⟨w.heap.size + 1, 0, none⟩) (by have := HX.out.2.2.2.1.lt; exact this)).trans ca
                  clear cb ca
                  revert hwk
                  revert wk
                  exact key.out
              · go_simp
                refine ⟨trivial, fun _ => by omega, (callsIn_wide.2 (dread_any PB hPB8 _)).mono ?_⟩
                rintro e wk ⟨rfl, hwk⟩
                refine hK _ _ ?_
                clear hK K
                have cb := (hwk.cell (p := ⟨w.heap.size, 0, none⟩) (by have := HX.out.2.2.1.lt; exact this)).trans cb
                have ca := (hwk.cell (p := ⟨w.heap.size + 1, 0, none⟩) (by have := HX.out.2.2.2.1.lt; exact this)).trans ca
                refine wpAnyIn_ready (rs := [0]) (by kernel_rfl) (by simp) ?_
                refine AllReadyIn.cons rfl (fun K hK => ?_) AllReadyIn.nil
                · go_simp
                  refine hK _ _ ?_
                  clear hK K
                  clear cb ca
                  revert hwk
                  revert wk
                  exact key.out
          · refine wpIn_load_rowA (fun _ => trivial) 66 (.tmp 5) rfl gp 0 rfl (Bc 136 PB) _ hP.rangeAt und71 rfl (by rw [info71, Bc_size]) ?_
            refine hK _ _ ?_
            clear hK K
            refine wpAnyIn_ready (rs := [0, 1, 3]) (by kernel_rfl) (by simp) ?_
            refine AllReadyIn.cons rfl (fun K hK => ?_) (AllReadyIn.cons rfl (fun K hK => ?_) (AllReadyIn.cons rfl (fun K hK => ?_) AllReadyIn.nil))
            · go_simp
              refine hK _ _ ?_
              clear hK K
              refine wpAnyIn_ready (rs := [1, 3]) (by kernel_rfl) (by simp) ?_
              refine AllReadyIn.cons rfl (fun K hK => ?_) (AllReadyIn.cons rfl (fun K hK => ?_) AllReadyIn.nil)
              · go_simp
                refine hK _ _ ?_
                clear hK K
                refine wpAnyIn_ready (rs := [3]) (by kernel_rfl) (by simp) ?_
                refine AllReadyIn.cons rfl (fun K hK => ?_) AllReadyIn.nil
                · go_simp
                  refine ⟨trivial, fun _ => by omega, (callsIn_wide.2 (dread_any PB hPB8 _)).mono ?_⟩
                  rintro e wk ⟨rfl, hwk⟩
                  refine hK _ _ ?_
                  clear hK K
                  have cb := (hwk.cell (p := ⟨w.heap.size, 0, none⟩) (by have := HX.out.2.2.1.lt; exact this)).trans cb
                  have ca := (hwk.cell (p := ⟨w.heap.size + 1, 0, none⟩) (by have := HX.out.2.2.2.1.lt; exact this)).trans ca
                  clear cb ca
                  revert hwk
                  revert wk
                  exact key.out
              · go_simp
                refine ⟨trivial, fun _ => by omega, (callsIn_wide.2 (dread_any PB hPB8 _)).mono ?_⟩
                rintro e wk ⟨rfl, hwk⟩
                refine hK _ _ ?_
                clear hK K
                have cb := (hwk.cell (p := ⟨w.heap.size, 0, none⟩) (by have := HX.out.2.2.1.lt; exact this)).trans cb
                have ca := (hwk.cell (p := ⟨w.heap.size + 1, 0, none⟩) (by have := HX.out.2.2.2.1.lt; exact this)).trans ca
                refine wpAnyIn_ready (rs := [1]) (by kernel_rfl) (by simp) ?_
                refine AllReadyIn.cons rfl (fun K hK => ?_) AllReadyIn.nil
                · go_simp
                  refine hK _ _ ?_
                  clear hK K
                  clear cb ca
                  revert hwk
                  revert wk
                  exact key.out
            · go_simp
              refine hK _ _ ?_
              clear hK K
              refine wpAnyIn_ready (rs := [0, 3]) (by kernel_rfl) (by simp) ?_
              refine AllReadyIn.cons rfl (fun K hK => ?_) (AllReadyIn.cons rfl (fun K hK => ?_) AllReadyIn.nil)
              · go_simp
                refine hK _ _ ?_
                clear hK K
                refine wpAnyIn_ready (rs := [3]) (by kernel_rfl) (by simp) ?_
                refine AllReadyIn.cons rfl (fun K hK => ?_) AllReadyIn.nil
                · go_simp
                  refine ⟨trivial, fun _ => by omega, (callsIn_wide.2 (dread_any PB hPB8 _)).mono ?_⟩
                  rintro e wk ⟨rfl, hwk⟩
                  refine hK _ _ ?_
                  clear hK K
                  have cb := (hwk.cell (p := ⟨w.heap.size, 0, none⟩) (by have := HX.out.2.2.1.lt; exact this)).trans cb
                  have ca := (hwk.cell (p := ⟨w.heap.size + 1, 0, none⟩) (by have := HX.out.2.2.2.1.lt; exact this)).trans ca
                  clear cb ca
                  revert hwk
                  revert wk
                  exact key.out
              · go_simp
                refine ⟨trivial, fun _ => by omega, (callsIn_wide.2 (dread_any PB hPB8 _)).mono ?_⟩
                rintro e wk ⟨rfl, hwk⟩
                refine hK _ _ ?_
                clear hK K
                have cb := (hwk.cell (p := ⟨w.heap.size, 0, none⟩) (by have := HX.out.2.2.1.lt; exact this)).trans cb
                have ca := (hwk.cell (p := ⟨w.heap.size + 1, 0, none⟩) (by have := HX.out.2.2.2.1.lt; exact this)).trans ca
                refine wpAnyIn_ready (rs := [0]) (by kernel_rfl) (by simp) ?_
                refine AllReadyIn.cons rfl (fun K hK => ?_) AllReadyIn.nil
                · go_simp
                  refine hK _ _ ?_
                  clear hK K
                  clear cb ca
                  revert hwk
                  revert wk
                  exact key.out
            · go_simp
              refine ⟨trivial, fun _ => by omega, (callsIn_wide.2 (dread_any PB hPB8 _)).mono ?_⟩
              rintro e wk ⟨rfl, hwk⟩
              refine hK _ _ ?_
              clear hK K
              have cb := (hwk.cell (p := ⟨w.heap.size, 0, none⟩) (by have := HX.out.2.2.1.lt; exact this)).trans cb
              have ca := (hwk.cell (p := ⟨w.heap.size + 1, 0, none⟩) (by have := HX.out.2.2.2.1.lt; exact this)).trans ca
              refine wpAnyIn_ready (rs := [0, 1]) (by kernel_rfl) (by simp) ?_
              refine AllReadyIn.cons rfl (fun K hK => ?_) (AllReadyIn.cons rfl (fun K hK => ?_) AllReadyIn.nil)
              · go_simp
                refine hK _ _ ?_
                clear hK K
                refine wpAnyIn_ready (rs := [1]) (by kernel_rfl) (by simp) ?_
                refine AllReadyIn.cons rfl (fun K hK => ?_) AllReadyIn.nil
                · go_simp
                  refine hK _ _ ?_
                  clear hK K
                  clear cb ca
                  revert hwk
                  revert wk
                  exact key.out
              · go_simp
                refine hK _ _ ?_
                clear hK K
                refine wpAnyIn_ready (rs := [0]) (by kernel_rfl) (by simp) ?_
                refine AllReadyIn.cons rfl (fun K hK => ?_) AllReadyIn.nil
                · go_simp
                  refine hK _ _ ?_
                  clear hK K
                  clear cb ca
                  revert hwk
                  revert wk
                  exact key.out
        case kkb =>
          intro wk hwk
          obtain ⟨_, hj, hbx, hat, hkp, hbl⟩ := HX.out
          have hjd : J (List.range x) V.drew := hJ _ _ _ none hj (grown_drew ⟨rfl, rfl, rfl, Nat.le_refl _, fun _ _ _ => rfl⟩) (fun _ e => by cases e)
          have hjk : J (List.range x) wk := hJ.new hjd hwk
          have hbxk := hbx.drew'.keep hwk
          have hatk := hat.drew'.keep hwk
          have hkw : KeptN W0.heap.size M X wk := hkp.trans (KeptN.of (Nat.le_trans hMX hkp.1) (show Kept W0.heap.size V wk from Kept.below (X := V.drew) _ hwk))
          have hblk : Below n₀ X wk := hbl.trans ((Below.refl n₀ V).drew.trans (hwk.mono (by have := hkp.1; show n₀ ≤ V.heap.size; omega)))
          have hY1 := HY.out (List.range x) x wk ⟨rfl, hxK⟩ hjk
          rw [hPB] at hY1
          obtain ⟨fn, tmps, assign, body, hy, hR⟩ := YieldAt.wide (m' := n - 1 - 1 - 1) hY1
          have HZ := Lib.hid (And.intro hbxk (And.intro hatk (And.intro hkw hblk)))
          have hNw : M ≤ wk.heap.size := Nat.le_trans hMX hkw.1
          clear hj hbx hat hkp hbl hjd hjk hbxk hatk hkw hblk HX hP cb ca hwk hY1
          refine wpAnyIn_ready (rs := [4]) (by kernel_rfl) (by simp) ?_
          refine AllReadyIn.cons rfl (fun K hK => ?_) AllReadyIn.nil
          go_simp
          first
          | refine RoundIn.mono hR ?_
          | refine ⟨fun _ => by omega, RoundIn.mono hR ?_⟩
          rintro e Y (⟨rfl, h1, h2, h3⟩ | ⟨rfl, h1, h2⟩)
          · refine hK _ _ ?_
            clear hK K hR hy
            refine wpAnyIn_take (i := 5) (v := ?vq7b) rfl rfl (by kernel_rfl) (by kernel_rfl) (by kernel_rfl) (fun _ _ _ h => h) ⟨Or.inl ⟨by rfl, ?yq7b⟩, fun _ => rfl⟩ ?rq7b
            case yq7b => (intro w; go_simp <;> with_reducible rfl)
            refine wpAnyIn_done (by kernel_rfl) ?_ _
            simp only [Act.put, List.getElem_toArray, List.getElem_cons_succ, List.getElem_cons_zero, List.setIfInBounds_toArray, List.set_cons_zero, List.set_cons_succ]
            obtain ⟨hbx, hat, hkw, hbl⟩ := HZ.out
            have hbxY : Blk Y w.heap.size 62 #[.func (.yield l) #[] #[]] := (h2.2 _ (Nat.le_refl _) hbx.lt).trans hbx
            have hatY : Blk Y (w.heap.size + 1) 3 #[.int .i64 (x : Nat)] := (h2.2 _ (by omega) hat.lt).trans hat
            have ca := cell_of_row _ _ 0 _ _ _ hatY
            have fa := frozen_of_row _ _ 0 _ _ hatY
            have hl1 := hat2.lt
            have hw1 : IntKind.i64.wrap ((x : Int) + 1) = (x : Int) + 1 := IntWalk.i64_in _ (by omega)
            have hG := grown_set' (grown_refl Y (w.heap.size + 1)) 0 (.int .i64 ((x : Int) + 1))
            have hle2 : (((List.range x ++ [x]).length : Nat) : Int) = (x : Int) + 1 := by simp
            have hE := Lib.hid (show KeptN W0.heap.size M X (Y.setCell ⟨w.heap.size + 1, 0, none⟩ (.int .i64 ((x : Int) + 1))) ∧ Below n₀ X (Y.setCell ⟨w.heap.size + 1, 0, none⟩ (.int .i64 ((x : Int) + 1))) ∧ ((J (List.range x ++ [x]) (Y.setCell ⟨w.heap.size + 1, 0, none⟩ (.int .i64 ((x : Int) + 1))) ∧ Blk (Y.setCell ⟨w.heap.size + 1, 0, none⟩ (.int .i64 ((x : Int) + 1))) w.heap.size 62 #[.func (.yield l) #[] #[]]) ∧ Blk (Y.setCell ⟨w.heap.size + 1, 0, none⟩ (.int .i64 ((x : Int) + 1))) (w.heap.size + 1) 3 #[.int .i64 ((List.range x ++ [x]).length : Nat)] ∧ W0.heap.size ≤ (Y.setCell ⟨w.heap.size + 1, 0, none⟩ (.int .i64 ((x : Int) + 1))).heap.size) from by
              have hk3 : KeptN W0.heap.size M X Y := hkw.trans (KeptN.of hNw (h2.mono (by omega)))
              have hsz : (Y.setCell ⟨w.heap.size + 1, 0, none⟩ (.int .i64 ((x : Int) + 1))).heap.size = Y.heap.size := by simp [World.setCell]
              exact ⟨hk3.trans (KeptN.grown (Nat.le_trans hMX hk3.1) hG (fun r e => by cases e; exact .inl hl1)), (hbl.trans h3).grown hG (by have := hk3.1; omega) (fun k e => by cases e; omega), ⟨hJ.set 0 _ h1 (by omega), hbxY.kept hG (fun e => by injection e; omega)⟩, by rw [hle2]; exact heap_setCell_same Y _ 0 _ _ _ hatY, by rw [hsz]; have := hk3.1; omega⟩)
            clear hbx hat hkw hbl hbxY hatY hG h1 h2 h3 HZ hle2
            gi_wp2_with fail
            exact hE.out
          · refine hK _ _ ?_
            clear hK K hR hy
            refine wpAnyIn_take (i := 5) (v := ?vq8b) rfl rfl (by kernel_rfl) (by kernel_rfl) (by kernel_rfl) (fun _ _ _ h => h) ⟨Or.inl ⟨by rfl, ?yq8b⟩, fun _ => rfl⟩ ?rq8b
            case yq8b => (intro w; go_simp <;> with_reducible rfl)
            refine wpAnyIn_done (by kernel_rfl) ?_ _
            simp only [Act.put, List.getElem_toArray, List.getElem_cons_succ, List.getElem_cons_zero, List.setIfInBounds_toArray, List.set_cons_zero, List.set_cons_succ]
            obtain ⟨hbx, hat, hkw, hbl⟩ := HZ.out
            have hE := Lib.hid (show KeptN W0.heap.size M X Y ∧ Jx (List.range x ++ [x]) Y from ⟨hkw.trans (KeptN.of hNw (h2.mono (by have := hat2.lt; omega))), h1⟩)
            clear hbx hat hkw hbl h1 h2 HZ
            gi_wp2_with fail
            exact ⟨hE.out.1, rfl, hE.out.2⟩
  case done =>
    rintro D xs X hD rfl ⟨⟨hj, _⟩, _, hle⟩ hK
    have hJD : ∀ s, J s X → J s (X.putObj D (.deferred none)) := fun s h => hJ.put _ h (by have := hW2.size; omega)
    clear hS hat2 hbox2 hW2 hj2
    gi_wp2_with fail
    rw [Exit.noGoto_normal]
    refine ⟨by simp, .inl ⟨_, _, rfl, run_takeDeferred hK, ?_⟩⟩
    exact ⟨_, results_none rfl _ _ _, ⟨_, rfl⟩, .inl ⟨_, rfl, hJD _ hj⟩⟩
  case stop =>
    rintro D c pre X hD ⟨k, rfl, hk⟩ ⟨rfl, hL⟩ hK
    have hJxD : ∀ s, Jx s X → Jx s (X.putObj D (.deferred none)) := fun s h => hJx.put _ h (by have := hW2.size; omega)
    clear hS hat2 hbox2 hW2 hj2
    gi_wp2
    rw [Exit.noGoto_normal]
    refine ⟨by simp, .inl ⟨_, _, rfl, run_takeDeferred hK, ?_⟩⟩
    exact ⟨_, results_none rfl _ _ _, ⟨_, rfl⟩, .inr ⟨_, ⟨k, rfl, hk⟩, hJxD _ hL⟩⟩
theorem padded_seq (n n₀ A : Nat) (ls : List Sl) (x0 : Option Addr) (cap0 : Nat) (hn : 4 ≤ n) (hls : ls.length ≤ 1000000) (hT : tot ls ≤ 4611686018427387904) (hg8 : ∀ i, jn ls i < 256) (w : World) (hn₀ : n₀ ≤ w.heap.size) (hA : Blk w A 45 #[.slice x0 ls.length cap0]) :
    SeqW n Try.prog 30 #[.pointer (some ⟨A, 0, none⟩)] (fun x : Nat => #[.int .i64 (x : Nat), .agg (Fc 17 (blP (fun p => pdB (tot ls) (jn ls) (136 * x + p)) 136))]) n₀ (fun _ X => LsAt X x0 ls) (fun pre x => pre = List.range x ∧ x ≤ tot ls / 136) (fun xs => xs = List.range (tot ls / 136 + 1)) (fun pre => ∃ k, pre = List.range (k + 1) ∧ k ≤ tot ls / 136) w := fun l J Jx W hW hJ hJx hBd hY h0 =>
  padded_in n hn l A n₀ ls x0 cap0 hls hT hg8 J Jx W (Nat.le_trans hn₀ hW.size) (hA.keep hW) hJ hJx hBd hY h0
end Go.Proofs.Ytfknfopdinkmkaa
