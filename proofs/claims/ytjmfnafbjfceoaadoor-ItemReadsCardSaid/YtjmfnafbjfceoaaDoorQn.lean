/- Texts laid into one: Qn. -/
import Derived.Test.YtjmfnafbjfceoaaDoorYz
/- item: the reference's read of any bytes. -/
namespace Go.Proofs.YtjmfnafbjfceoaaDoor
open Go.RowKit Go.Shelf
set_option linter.unusedSimpArgs false
attribute [local irreducible] lb wdG byA byC heL nuL
set_option maxRecDepth 100000 in
set_option maxHeartbeats 4000000 in
theorem rread_elist (b o q c f : Nat) (k : Nat) (d : Nat) (w : World) (hd : 1 ≤ d) (c0 : w.cell? ⟨b, o, none⟩ = some (.int .u8 (f : Nat))) (hb : b < w.heap.size) (hq : 0 < q) (hl : q ≤ 4096) (h192 : ¬ f < 192) (hk : k ≤ q) (hc : q ≤ c)
    (hL : ∀ X, Below w.heap.size w X → Calls Tryd.prog 59 #[.slice (some ⟨b, o, none⟩) q c, .int .i64 (192 : Nat)] X (LnP (some (0, k)) X)) :
    Calls Tryd.prog 38 #[.slice (some ⟨b, o, none⟩) q c, .int .i64 d] w (RlP (some []) k w) := by
  have hW := balloc (Below.refl w.heap.size w) (.cells #[.bool false, .slice none 0 0, .slice none 0 0] 25)
  have c1 := (hW.cell (p := ⟨b, o, none⟩) hb).trans c0
  have g0 : ¬ (f : Int) < 128 := by omega
  have g1 : ((q : Int) == 0) = false := by simp; omega
  have g2 : (0 : Int) < (q : Int) := by omega
  have g3 : ¬ (d : Int) < 1 := by omega
  have g4 : (192 : Int) ≤ (f : Int) := by omega
  have g5 : IntKind.i64.wrap (k : Int) = (k : Int) := IntWalk.i64_in _ (by omega)
  have g6 : (k : Int) ≤ (c : Int) := by omega
  have HC := Lib.hid (hL _ hW)
  have hI := Blk.new w 25 #[.bool false, .slice none 0 0, .slice none 0 0]
  have HW := Lib.hid (And.intro hW hI)
  clear hW hq hb hL hI hk hc
  go_enter Tryd.func38, Tryd.ntmps38
  go_wp2_with fail
  refine HC.out.mono ?_
  rintro e w1 ⟨h1, rfl⟩
  have hst := balloc (Below.refl w1.heap.size w1) (.cells #[.bool true, .slice none 0 0, .slice none 0 0] 25)
  have hA := (HW.out.2.keep h1).keep hst
  have a0 := cell_of_row _ _ 0 _ _ _ hA
  have a1 := cell_of_row _ _ 1 _ _ _ hA
  have a2 := cell_of_row _ _ 2 _ _ _ hA
  have f0 := frozen_of_row _ _ 0 _ _ hA
  have f1 := frozen_of_row _ _ 1 _ _ hA
  have f2 := frozen_of_row _ _ 2 _ _ hA
  have hG := grown_set' (grown_set' (grown_set' (grown_refl (w1.alloc (.cells #[.bool true, .slice none 0 0, .slice none 0 0] 25)) w.heap.size) 0 (.bool true)) 1 (.slice none 0 0)) 2 (.slice none 0 0)
  have HE := Lib.hid (step_world (bstep (bstep HW.out.1 h1) hst) hG (Nat.le_refl _) (Nat.le_refl _))
  clear hst hA hG h1 HC HW
  go_wp2_with fail
  all_goals
    refine wp_loop_rounds 1 ?_
    rw [rounds_succ]; go_wp2_with fail
    exact bodyPost_ret (v := .tuple #[itW true none 0 0 none 0 0, .int .i64 (k : Nat), .bool true]) (by simp [results, Tryd.results38, go_sem, a0, a1, a2]) rfl ⟨HE.out, _, _, _, _, _, _, _, rfl, ItP.mk true [] [] (.slice none 0 0) (.slice none 0 0) [] ⟨by simp, none, 0, rfl, by simp, by simp, fun h => (h rfl).elim⟩ ⟨none, 0, rfl, by simp, fun h => (h rfl).elim⟩ rfl (fun i t v a => by simp at a) (fun n c e => by cases e; rfl)⟩
theorem rdS_nil (d : Nat) : rdS d [] = none := rfl
theorem rdS_zero (l : List Nat) : rdS 0 l = none := by
  unfold rdS
  cases cutS l <;> rfl
theorem koL_one (u : Nat) : koL [u] = if u < 128 then 0 else 1 := by
  unfold koL
  by_cases h : u < 128
  · rw [if_pos ⟨rfl, h⟩, if_pos h]
  · rw [if_neg (fun hh => h hh.2), if_neg h]
theorem rdPl_byte (d k : Nat) (body : List Nat) (hk : k ≠ 2) : rdPl (d + 1) k body = if koL body = k then some (.mk false body []) else none := by rw [rdPl, if_neg hk]
theorem rdPl_list (d : Nat) (body : List Nat) : rdPl (d + 1) 2 body = (itsR d body).map (It.mk true []) := by rw [rdPl, if_pos rfl]; rfl
theorem RrP.of_none {l l2 : List Nat} {w : World} {e : Ending} {w' : World} (h : RrP none l w e w') : RrP none l2 w e w' := h
/-- The reference's read of any bytes. -/
theorem rread_all (d : Nat) (hd8 : d ≤ 8) : ∀ (l : List Nat) (v : Value) (B : Nat) (w : World), B ≤ w.heap.size → Bt B w v l → l.length ≤ 4096 → Calls Tryd.prog 38 #[v, .int .i64 (d : Nat)] w (RrP (rdS d l) l w) := by
  induction d with
  | zero =>
    intro l v B w hB hv hl
    rw [rdS_zero]
    obtain ⟨_, x, c, rfl, _⟩ := hv
    cases l with
    | nil => exact (rread_nil x c 0 w)
    | cons f r => exact (rread_zero x _ c (by simp) w).mono fun e w' h => RrP.of_none h
  | succ d ih =>
    intro l v B w hB hv hl
    cases l with
    | nil =>
      obtain ⟨_, x, c, rfl, _⟩ := hv
      exact rread_nil x c _ w
    | cons f r =>
      obtain ⟨q, hq⟩ : ∃ q, (f :: r).length = q := ⟨_, rfl⟩
      have hq0 : 0 < q := by rw [← hq]; simp
      have hv' := hv
      obtain ⟨h256, x, c, rfl, hcq, _, h5⟩ := hv'
      rcases h5 with ⟨_, h, _⟩ | ⟨b, o, rfl, hb, hc⟩
      · cases h
      have c0 : w.cell? ⟨b, o, none⟩ = some (.int .u8 (f : Nat)) := by have := hc 0 f rfl; simpa using this
      have hbw := (hb (by simp)).2
      have hf256 := h256 f (by simp)
      rw [hq] at hcq hl
      have hvq : Bt B w (.slice (some ⟨b, o, none⟩) q c) (f :: r) := by rw [← hq]; exact hv
      have hvX := fun X (hX : Below w.heap.size w X) => hvq.new hX
      rw [hq]
      by_cases hf : f < 128
      · have hcut : cutS (f :: r) = some (0, [f], r) := by rw [cutS_cons, if_pos hf]
        rw [rdS_cut hcut, rdPl_byte d 0 [f] (by omega), koL_one, if_pos hf, if_pos rfl]
        refine (rread_one b o q c f (d + 1) w (by omega) c0 hbw hq0 hf).mono ?_
        rintro e w' ⟨x, c2, rfl, hO, h⟩
        refine ⟨h, _, _, _, _, _, _, _, ?_, ItP.bytes hO (by simp)⟩
        rw [hq, show q - r.length = 1 by rw [← hq]; simp]
        rfl
      have hlen := fun (h : Nat) (hh : h ≤ f) (hh2 : f < h + 64) X (hX : Below w.heap.size w X) => rlength_any B (.slice (some ⟨b, o, none⟩) q c) f h r X (hvX X hX) (by rw [hq]; exact hl) hh hh2
      by_cases h192 : f < 192
      · have hkd : kdN f = 1 := by unfold kdN; rw [if_neg hf, if_pos h192]
        have hhd : hdN 1 = 128 := rfl
        have hL := hlen 128 (by omega) (by omega)
        cases hln : lenR (f - 128) r with
        | none =>
          have hcn : cutS (f :: r) = none := cut_none hf (by rw [hkd, hhd]; exact hln)
          rw [show rdS (d + 1) (f :: r) = none by unfold rdS; rw [hcn]]
          rw [hln] at hL
          exact (rread_not b o q c f 128 (d + 1) w (by omega) c0 hbw hq0 hf (by rw [if_pos h192]) hL).mono fun e w' h => RrP.of_none h
        | some nk =>
          obtain ⟨n, k⟩ := nk
          obtain ⟨hcs, hk1, hkn⟩ := cut_some (r := r) (n := n) (k := k) hf (by rw [hkd, hhd]; exact hln)
          rw [hln] at hL
          rw [hq] at hkn
          rw [rdS_cut hcs, hkd, rdPl_byte d 1 _ (by omega)]
          have hbl : (((f :: r).drop k).take n).length = n := by rw [List.length_take, List.length_drop, hq]; omega
          have hrl : ((f :: r).drop (k + n)).length = q - (k + n) := by rw [List.length_drop, hq]
          have hend : (f :: r).length - ((f :: r).drop (k + n)).length = k + n := by rw [hrl, hq]; omega
          have fin : ∀ {e : Ending} {w' : World} (x : Option Addr) (m c : Nat), koL (((f :: r).drop k).take n) = 1 → e = .returned (.tuple #[itB (.slice x m c), .int .i64 (k + n : Nat), .bool true]) → Ow w' w.heap.size (.slice x m c) (((f :: r).drop k).take n) → Below w.heap.size w w' → RrP ((if koL (((f :: r).drop k).take n) = 1 then some (It.mk false (((f :: r).drop k).take n) []) else none).map fun t => (t, (f :: r).drop (k + n))) (f :: r) w e w' := by
            intro e w' x m c hko he hO h
            rw [if_pos hko]
            refine ⟨h, _, _, _, _, _, _, _, ?_, ItP.bytes hO (by omega)⟩
            rw [he, hend]
          by_cases hn1 : n = 1
          · obtain ⟨u, hu⟩ : ∃ u, ((f :: r).drop k).take n = [u] := List.length_eq_one_iff.1 (by rw [hbl, hn1])
            have hcu : w.cell? ⟨b, o + k, none⟩ = some (.int .u8 (u : Nat)) := by
              refine hc k u ?_
              have : (((f :: r).drop k).take n)[0]? = some u := by rw [hu]; rfl
              rw [List.getElem?_take, if_pos (by omega), List.getElem?_drop] at this
              exact this
            refine (rread_bytes_c B b o q c f (f :: r) n k (k + n) u (d + 1) w (by omega) hvq hq hl c0 hbw hf h192 hk1 rfl hkn hn1 hcu (by omega) hL).mono ?_
            rintro e w' ⟨x, m, c, he, hO, h⟩
            by_cases hu128 : 128 ≤ u
            · rw [show decide ((128 : Int) ≤ (u : Int)) = true from decide_eq_true (by omega)] at he
              exact fin x m c (by rw [hu, koL_one, if_neg (by omega)]) he hO h
            · rw [show decide ((128 : Int) ≤ (u : Int)) = false from decide_eq_false (by omega)] at he
              have hko : ¬ koL (((f :: r).drop k).take n) = 1 := by rw [hu, koL_one, if_pos (by omega)]; omega
              rw [if_neg hko]
              exact ⟨h, _, _, _, _, _, _, _, _, he⟩
          · have hko : koL (((f :: r).drop k).take n) = 1 := by
              unfold koL
              rw [if_neg (fun h => hn1 (by rw [← hbl]; exact h.1))]
            by_cases hck : c = k
            · have hn0 : n = 0 := by omega
              have hqk : q = k := by omega
              subst hn0 hqk hck
              refine (rread_bytes_b B b o f (f :: r) c (d + 1) w (by omega) hvq hq hl c0 hbw hf h192 hk1 hL).mono ?_
              rintro e w' ⟨x, m, c, he, hO, h⟩
              exact fin x m c hko he hO h
            · refine (rread_bytes_a B b o q c f (f :: r) n k (k + n) (d + 1) w (by omega) hvq hq hl c0 hbw hf h192 hk1 rfl hkn hn1 hck hL).mono ?_
              rintro e w' ⟨x, m, c, he, hO, h⟩
              exact fin x m c hko he hO h
      · have hkd : kdN f = 2 := by unfold kdN; rw [if_neg hf, if_neg h192]
        have hhd : hdN 2 = 192 := rfl
        have hL := hlen 192 (by omega) (by omega)
        cases hln : lenR (f - 192) r with
        | none =>
          have hcn : cutS (f :: r) = none := cut_none hf (by rw [hkd, hhd]; exact hln)
          rw [show rdS (d + 1) (f :: r) = none by unfold rdS; rw [hcn]]
          rw [hln] at hL
          exact (rread_not b o q c f 192 (d + 1) w (by omega) c0 hbw hq0 hf (by rw [if_neg h192]) hL).mono fun e w' h => RrP.of_none h
        | some nk =>
          obtain ⟨n, k⟩ := nk
          obtain ⟨hcs, hk1, hkn⟩ := cut_some (r := r) (n := n) (k := k) hf (by rw [hkd, hhd]; exact hln)
          rw [hln] at hL
          rw [hq] at hkn
          rw [rdS_cut hcs, hkd, rdPl_list d _]
          have hrl : ((f :: r).drop (k + n)).length = q - (k + n) := by rw [List.length_drop, hq]
          have hend : (f :: r).length - ((f :: r).drop (k + n)).length = k + n := by rw [hrl, hq]; omega
          have fin : ∀ {e : Ending} {w' : World} (o : Option (List It)), RlP o (k + n) w e w' → RrP ((o.map (It.mk true [])).map fun t => (t, (f :: r).drop (k + n))) (f :: r) w e w' := by
            intro e w' o h
            cases o with
            | none => exact h
            | some ts =>
              obtain ⟨h1, b, x, m, c, y, n, d, he, hI⟩ := h
              refine ⟨h1, b, x, m, c, y, n, d, ?_, hI⟩
              rw [he, hend]
          by_cases hn0 : n = 0
          · subst hn0
            rw [show ((f :: r).drop k).take 0 = [] by simp, itsR_nil]
            exact (rread_elist b o q c f k (d + 1) w (by omega) c0 hbw hq0 hl h192 (by omega) hcq hL).mono fun e w' h => fin (some []) h
          · refine (rread_list B b o q c f (f :: r) _ n k (k + n) d w hB hvq hq hl c0 hbw h192 hk1 rfl hkn (by omega) (by omega) rfl (by omega) hL (fun X v l2 hX hv2 hl2 => ?_)).mono fun e w' h => fin _ h
            exact ih (by omega) l2 v _ X (Nat.le_trans hB hX) hv2 hl2
end Go.Proofs.YtjmfnafbjfceoaaDoor

/- item: the reference's First and Decode of any bytes. -/
namespace Go.Proofs.YtjmfnafbjfceoaaDoor
open Go.RowKit Go.Shelf
set_option linter.unusedSimpArgs false
attribute [local irreducible] lb wdG byA byC heL nuL
set_option maxRecDepth 100000 in
set_option maxHeartbeats 4000000 in
/-- The reference's First of any bytes that are not too many. -/
theorem rfirst_all (B : Nat) (v : Value) (l : List Nat) (w : World) (hv : Bt B w v l) (hB : B ≤ w.heap.size) (hl : l.length ≤ 4096) :
    Calls Tryd.prog 18 #[v] w (FiP (rdS 8 l) l w) := by
  have hA := Blk.new w 25 #[.bool false, .slice none 0 0, .slice none 0 0]
  have hW := balloc (Below.refl w.heap.size w) (.cells #[.bool false, .slice none 0 0, .slice none 0 0] 25)
  have hC := rread_all 8 (by omega) l v B _ (Nat.le_trans hB hW.size) (hv.new hW) hl
  obtain ⟨_, x, c, rfl, _⟩ := hv
  have g : ¬ (4096 : Int) < (l.length : Int) := by omega
  have HX := Lib.hid (And.intro hA hW)
  cases hs : rdS 8 l with
  | none =>
    rw [hs] at hC
    have HC := Lib.hid hC
    obtain ⟨q, hq⟩ : ∃ q, l.length = q := ⟨_, rfl⟩
    rw [hq] at g HC ⊢
    clear hA hW hq hl hs hC hB
    go_enter Tryd.func18, Tryd.ntmps18
    go_wp2_with fail
    refine HC.out.mono ?_
    rintro e w1 ⟨h1, b, x1, m1, c1, y1, n1, d1, k1, rfl⟩
    have hst := balloc (Below.refl w1.heap.size w1) (.cells #[.bool b, .slice x1 m1 c1, .slice y1 n1 d1] 25)
    have hA1 := (HX.out.1.keep h1).keep hst
    have hW1 := bstep (bstep HX.out.2 h1) hst
    have a0 := cell_of_row _ _ 0 _ _ _ hA1
    have a1 := cell_of_row _ _ 1 _ _ _ hA1
    have a2 := cell_of_row _ _ 2 _ _ _ hA1
    have f0 := frozen_of_row _ _ 0 _ _ hA1
    have f1 := frozen_of_row _ _ 1 _ _ hA1
    have f2 := frozen_of_row _ _ 2 _ _ hA1
    have hG := grown_set' (grown_set' (grown_set' (grown_refl (w1.alloc (.cells #[.bool b, .slice x1 m1 c1, .slice y1 n1 d1] 25)) w.heap.size) 0 (.bool false)) 1 (.slice none 0 0)) 2 (.slice none 0 0)
    have HE := Lib.hid (step_world hW1 hG (Nat.le_refl _) (Nat.le_refl _))
    clear hst hA1 hW1 hG h1 HX HC
    go_wp2_with fail
    exact bodyPost_ret (v := .tuple #[itW false none 0 0 none 0 0, .int .i64 0, .int .i64 160]) (by simp [results, Tryd.results18, go_sem, a0, a1, a2]) rfl ⟨HE.out, rfl⟩
  | some tr =>
    obtain ⟨t, r⟩ := tr
    rw [hs] at hC
    obtain ⟨mm, hmm⟩ : ∃ mm, l.length - r.length = mm := ⟨_, rfl⟩
    have HMM := Lib.hid hmm
    have HC := Lib.hid hC
    obtain ⟨q, hq⟩ : ∃ q, l.length = q := ⟨_, rfl⟩
    have HQ := Lib.hid hq
    rw [hq] at g HC ⊢
    clear hA hW hq hl hs hC hB hmm
    go_enter Tryd.func18, Tryd.ntmps18
    go_wp2_with fail
    refine HC.out.mono ?_
    rintro e w1 ⟨h1, b, x1, m1, c1, y1, n1, d1, rfl, hI⟩
    rw [HMM.out]
    have hst := balloc (Below.refl w1.heap.size w1) (.cells #[.bool b, .slice x1 m1 c1, .slice y1 n1 d1] 25)
    have hA1 := (HX.out.1.keep h1).keep hst
    have hW1 := bstep (bstep HX.out.2 h1) hst
    have a0 := cell_of_row _ _ 0 _ _ _ hA1
    have a1 := cell_of_row _ _ 1 _ _ _ hA1
    have a2 := cell_of_row _ _ 2 _ _ _ hA1
    have f0 := frozen_of_row _ _ 0 _ _ hA1
    have f1 := frozen_of_row _ _ 1 _ _ hA1
    have f2 := frozen_of_row _ _ 2 _ _ hA1
    have hG := grown_set' (grown_set' (grown_set' (grown_refl (w1.alloc (.cells #[.bool b, .slice x1 m1 c1, .slice y1 n1 d1] 25)) w.heap.size) 0 (.bool b)) 1 (.slice x1 m1 c1)) 2 (.slice y1 n1 d1)
    have hI2 : ItP (fun b => w.heap.size + 1 ≤ b) _ t (itW b x1 m1 c1 y1 n1 d1) := (hI.new hst).mono (fun b h _ => by simp at h; omega)
    have HE := Lib.hid (show _ ∧ ItP (fun b => w.heap.size ≤ b) _ t (itW b x1 m1 c1 y1 n1 d1) from ⟨step_world hW1 hG (Nat.le_refl _) (Nat.le_refl _), (hI2.grown hG (fun r e h => by cases e; omega)).mono (fun b h _ => by omega)⟩)
    clear hst hA1 hW1 hG h1 HX HC hI hI2
    go_wp2_with fail
    exact bodyPost_ret (v := .tuple #[itW b x1 m1 c1 y1 n1 d1, .int .i64 (mm : Nat), .int .i64 0]) (by simp [results, Tryd.results18, go_sem, a0, a1, a2]) rfl ⟨HE.out.1, b, x1, m1, c1, y1, n1, d1, by rw [HMM.out], HE.out.2⟩
set_option maxRecDepth 100000 in
set_option maxHeartbeats 4000000 in
theorem rdecode_fits (t : It) (y : Option Addr) (q e : Nat) (w : World)
    (hF : ∀ X, Below w.heap.size w X → Calls Tryd.prog 18 #[.slice y q e] X fun e w' => ∃ b x1 m1 c1 x2 m2 c2, e = .returned (.tuple #[itW b x1 m1 c1 x2 m2 c2, .int .i64 q, .int .i64 0]) ∧ ItP (fun b => X.heap.size ≤ b) w' t (itW b x1 m1 c1 x2 m2 c2) ∧ Below X.heap.size X w') :
    Calls Tryd.prog 17 #[.slice y q e] w fun e w' => ∃ b x1 m1 c1 x2 m2 c2, e = .returned (.tuple #[itW b x1 m1 c1 x2 m2 c2, .int .i64 0]) ∧ ItP (fun b => w.heap.size ≤ b) w' t (itW b x1 m1 c1 x2 m2 c2) ∧ Below w.heap.size w w' := by
  have hA := Blk.new w 25 #[.bool false, .slice none 0 0, .slice none 0 0]
  have hW := balloc (Below.refl w.heap.size w) (.cells #[.bool false, .slice none 0 0, .slice none 0 0] 25)
  have HC := Lib.hid (hF _ hW)
  have HX := Lib.hid (And.intro hA hW)
  clear hA hW hF
  go_enter Tryd.func17, Tryd.ntmps17
  go_wp2_with fail
  refine HC.out.mono ?_
  rintro e w1 ⟨b, x1, m1, c1, y1, n1, d1, rfl, hI, h1⟩
  have hst := balloc (Below.refl w1.heap.size w1) (.cells #[.bool b, .slice x1 m1 c1, .slice y1 n1 d1] 25)
  have hA1 := (HX.out.1.keep h1).keep hst
  have hW1 := bstep (bstep HX.out.2 h1) hst
  have a0 := cell_of_row _ _ 0 _ _ _ hA1
  have a1 := cell_of_row _ _ 1 _ _ _ hA1
  have a2 := cell_of_row _ _ 2 _ _ _ hA1
  have f0 := frozen_of_row _ _ 0 _ _ hA1
  have f1 := frozen_of_row _ _ 1 _ _ hA1
  have f2 := frozen_of_row _ _ 2 _ _ hA1
  have hG := grown_set' (grown_set' (grown_set' (grown_refl (w1.alloc (.cells #[.bool b, .slice x1 m1 c1, .slice y1 n1 d1] 25)) w.heap.size) 0 (.bool b)) 1 (.slice x1 m1 c1)) 2 (.slice y1 n1 d1)
  have hI2 : ItP (fun b => w.heap.size + 1 ≤ b) _ t (itW b x1 m1 c1 y1 n1 d1) := (hI.new hst).mono (fun b h _ => by simp at h; omega)
  have HE := Lib.hid (show _ ∧ ItP (fun b => w.heap.size ≤ b) _ t (itW b x1 m1 c1 y1 n1 d1) from ⟨step_world hW1 hG (Nat.le_refl _) (Nat.le_refl _), (hI2.grown hG (fun r e h => by cases e; omega)).mono (fun b h _ => by omega)⟩)
  clear hst hA1 hW1 hG h1 HX HC hI hI2
  go_wp2_with fail
  exact bodyPost_ret (v := .tuple #[itW b x1 m1 c1 y1 n1 d1, .int .i64 0]) (by simp [results, Tryd.results17, go_sem, a0, a1, a2]) rfl ⟨b, x1, m1, c1, y1, n1, d1, rfl, HE.out.2, HE.out.1⟩
/-- The reference's Decode of any bytes that are not too many. -/
theorem rdecode_all (B : Nat) (v : Value) (l : List Nat) (w : World) (hv : Bt B w v l) (hB : B ≤ w.heap.size) (hl : l.length ≤ 4096) :
    Calls Tryd.prog 17 #[v] w (DeP (rdD l) w) := by
  obtain ⟨_, y, c, rfl, _⟩ := id hv
  have hF := fun X (hX : Below w.heap.size w X) => rfirst_all B (.slice y l.length c) l X (hv.new hX) (Nat.le_trans hB hX.size) hl
  unfold rdD
  cases hs : rdS 8 l with
  | none =>
    rw [hs] at hF
    refine (rdecode_not 160 0 y l.length c w (.inl (by omega)) (fun X hX => (hF X hX).mono fun e w' h => ?_)).mono fun e w' h => ⟨h.2, h.1⟩
    exact ⟨_, _, _, _, _, _, _, h.2, h.1⟩
  | some q =>
    obtain ⟨t, r⟩ := q
    rw [hs] at hF
    have hlt := rdS_less hs
    cases r with
    | nil =>
      refine (rdecode_fits t y l.length c w (fun X hX => (hF X hX).mono fun e w' h => ?_)).mono fun e w' h => ?_
      · obtain ⟨q1, b, x, m, c, y, n, d, q2, q3⟩ := h
        exact ⟨b, x, m, c, y, n, d, q2, q3, q1⟩
      · obtain ⟨b, x, m, c, y, n, d, q2, q3, q1⟩ := h
        exact ⟨q1, b, x, m, c, y, n, d, q2, q3⟩
    | cons a r =>
      refine (rdecode_not 0 (l.length - (a :: r).length) y l.length c w (.inr (by simp at hlt ⊢; omega)) (fun X hX => (hF X hX).mono fun e w' h => ?_)).mono fun e w' h => ⟨h.2, h.1⟩
      obtain ⟨q1, b, x, m, c, y, n, d, q2, q3⟩ := h
      exact ⟨b, x, m, c, y, n, d, q2, q1⟩
end Go.Proofs.YtjmfnafbjfceoaaDoor

