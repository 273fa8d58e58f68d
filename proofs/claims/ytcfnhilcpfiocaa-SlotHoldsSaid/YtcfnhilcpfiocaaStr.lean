/- slot's law SlotHolds: the walk. -/
import Derived.Test.YtcfnhilcpfiocaaStq
namespace Go.Proofs.Ytcfnhilcpfiocaa
open Go.RowKit Go.Shelf Go.ChangeMaps Go.MapKept

theorem neqWs (n m : Nat) (hn : n < MM) (hm : m < MM) (w : World) : (binOp .neq 25 (W n) (W m)).run Try.prog w = .ok (.bool (!(n == m))) w := by
  rw [run_neq_struct, show (10000 : Nat) = 9998 + 1 + 1 from rfl, equalIn_word, all4 n m hn hm]; rfl
theorem neqVal_any (v u : Nat × Nat) (hv : okP v) (hu : okP u) (w : World) : (binOp .neq 36 (vP v) (vP u)).run Try.prog w = .ok (.bool (!decide (v = u))) w := by
  have h := eqVal_any v u hv hu w
  rw [run_eql_struct] at h
  rw [run_neq_struct]
  generalize (Op.equalIn 10000 36 (.agg (vA v.1 v.2)) (.agg (vA u.1 u.2))).run Try.prog w = r at h ⊢
  cases r with
  | ok b w' =>
    simp only [Result.andThen_ok, Result.ok.injEq, Value.bool.injEq] at h ⊢
    exact ⟨by rw [h.1], h.2⟩
  | halt x w' => cases h
theorem get_put (g bv bw many : Nat) (fv fw : Nat → Option (Nat × Nat)) (n : Nat) (hn : n < MM) (v : Nat × Nat) (X : World) (h : SlB X g bv bw (upd fv n (putO v (lk fw n))) fw many) : Calls Try.prog 10 #[.pointer (some ⟨g, 0, none⟩), W n] X fun e w' => e = .returned (vP v) ∧ Below X.heap.size X w' := by
  have h1 := get_any g bv bw many _ _ n hn X h
  rw [lk2_put] at h1
  simpa using h1
theorem As.at {B : Nat} {X : World} {v : Value} {l : List (Int × Nat × Nat × Nat)} (h : As B X v l) {k : Nat} {a : Int × Nat × Nat × Nat} (hk : l[k]? = some a) : ∃ b o c, v = .slice (some ⟨b, o, none⟩) l.length c ∧ l.length ≤ c ∧ b < B ∧ b < X.heap.size ∧ okA a ∧ ∀ j, j < 10 → X.cell? ⟨b, o + k * 10 + j, none⟩ = (acC a)[j]? := by
  obtain ⟨h1, x, cap, rfl, h3, _, h5⟩ := h
  obtain ⟨b, o, rfl, hb, hx, hc⟩ := h5 (fun e => by rw [e] at hk; cases hk)
  exact ⟨b, o, cap, rfl, h3, hb, hx, h1 a (List.mem_of_getElem? hk), hc k a hk⟩
/-- Whatever world keeps what was there keeps a call's cells. -/
theorem act_cells {X w' : World} {b o k : Nat} {a : Int × Nat × Nat × Nat} (hb : b < X.heap.size) (h : ∀ j, j < 10 → X.cell? ⟨b, o + k * 10 + j, none⟩ = (acC a)[j]?) (hk : Below X.heap.size X w') (j : Nat) (hj : j < 10) : w'.cell? ⟨b, o + k * 10 + j, none⟩ = (acC a)[j]? :=
  (hk.cell (p := ⟨b, o + k * 10 + j, none⟩) hb).trans (h j hj)
/-- Storage a is put to, call by call; what was put last. -/
def L1I (W1 : World) (ga va wa gb vb wb M0 : Nat) (l : List (Int × Nat × Nat × Nat)) (k : Nat) (wr : World) : Prop := ∃ many, SlB wr ga va wa (fpN (l.take k)) (fun _ => none) many ∧ Cnt (lk2 (fpN (l.take k)) (fun _ => none)) many ∧ many ≤ k ∧ SlB wr gb vb wb (fun _ => none) (fun _ => none) 0 ∧ Mp wr M0 (laN (l.take k)) ∧ Below W1.heap.size W1 wr
/-- The same values are put the other way round. -/
def L2I (W1 : World) (ga va wa gb vb wb M0 : Nat) (l : List (Int × Nat × Nat × Nat)) (k : Nat) (wr : World) : Prop := (∃ many, SlB wr ga va wa (fpN l) (fun _ => none) many ∧ Cnt (lk2 (fpN l) (fun _ => none)) many ∧ many ≤ l.length) ∧ (∃ mb, SlB wr gb vb wb (fbR (laN l) (l.drop k)) (fun _ => none) mb ∧ Cnt (lk2 (fbR (laN l) (l.drop k)) (fun _ => none)) mb ∧ mb + k ≤ l.length) ∧ Mp wr M0 (laN l) ∧ Below W1.heap.size W1 wr
def L3I (z wr : World) : Prop := Below z.heap.size z wr
set_option maxRecDepth 100000 in
set_option maxHeartbeats 4000000 in
theorem sholds_walk (v0 : Value) (l : List (Int × Nat × Nat × Nat)) (n : Nat) (hn : n < MM) (v : Nat × Nat) (hv : okP v) (w : World) (hl : As w.heap.size w v0 l) :
    Calls Try.prog 5 #[v0, W n, vP v] w fun e w' => e = .returned (.bool true) ∧ Below w.heap.size w w' := by
  have hmk : ∀ X : World, (Instr.makeMap 41 none).run Try.prog X = .ok (.map (some X.heap.size)) (X.alloc (.map #[] 0)) := fun X => by simp [Instr.makeMap, go_sem, Result.andThen]
  have hl3 : l.length ≤ 9223372036854775807 := by obtain ⟨_, _, _, _, _, h, _⟩ := hl; exact h
  by_cases hlong : 12 < l.length
  · have hI : ((12 : Int) < (l.length : Int)) := by omega
    obtain ⟨x, c, rfl⟩ := hl.is
    clear hl hl3 hlong hv hn hmk
    go_enter Try.func5, Try.ntmps5
    go_wp2_with (first | (go_at_call 6; refine (sworks_any _).mono ?_; rintro e w1 ⟨rfl, hw⟩; have H1 := Lib.hid hw; clear hw) | fail)
    go_ret
    exact ⟨rfl, bstep (balloc (balloc (Below.refl _ _) _) _) H1.out⟩
  have hI : ¬ ((12 : Int) < (l.length : Int)) := by omega
  obtain ⟨W1, hW1⟩ : ∃ W1, (w.alloc (.cells (Wc n) 25)).alloc (.cells (vA v.1 v.2) 36) = W1 := ⟨_, rfl⟩
  have nK : Blk W1 w.heap.size 25 (Wc n) := by rw [← hW1]; exact (Blk.new _ _ _).alloc _
  have nV : Blk W1 (w.heap.size + 1) 36 (vA v.1 v.2) := by rw [← hW1]; exact Blk.newS _ _ _ _
  have hB1 : Below w.heap.size w W1 := by rw [← hW1]; exact balloc (balloc (Below.refl _ _) _) _
  have HA := Lib.hid (And.intro hl (And.intro hl3 (And.intro hlong (And.intro hn (And.intro hv (And.intro nK (And.intro nV hB1)))))))
  have HW1 := Lib.hid hW1
  obtain ⟨x, c, rfl⟩ := hl.is
  obtain ⟨N, hN⟩ : ∃ N, l.length = N := ⟨_, rfl⟩
  have HN := Lib.hid hN
  rw [hN] at hI HA ⊢
  clear hl hl3 hlong hn hv nK nV hB1 hW1 hN
  go_enter Try.func5, Try.ntmps5
  go_upto_region 1 with fail
  rw [HW1.out]
  go_upto_region 4 with (first
    | (go_at_call 7; with_reducible refine (new_any W1).mono ?_; rintro e w2 ⟨ga, va, wa, rfl, hs, hg, hb1, hb2, hB⟩; have H2 := Lib.hid (And.intro hs (And.intro hg (And.intro hb1 (And.intro hb2 hB)))); clear hs hg hb1 hb2 hB)
    | (go_at_call 7; refine (new_any _).mono ?_; rintro e w3 ⟨gb, vb, wb, rfl, hs, hg, hb1, hb2, hB⟩; have H3 := Lib.hid (And.intro hs (And.intro hg (And.intro hb1 (And.intro hb2 hB)))); clear hs hg hb1 hb2 hB)
    | fail)
  obtain ⟨W4, hW4⟩ : ∃ W4, w3.alloc (.map #[] 0) = W4 := ⟨_, rfl⟩
  have hm4 : Mp W4 w3.heap.size (fun _ => none) := by rw [← hW4]; exact Mp.made w3 0
  have hB4 : Below w3.heap.size w3 W4 := by rw [← hW4]; exact balloc (Below.refl _ _) _
  have s2 := H2.out.1
  have s3 := H3.out.1
  have HD := Lib.hid (show (W1.heap.size ≤ ga ∧ W1.heap.size ≤ va ∧ W1.heap.size ≤ wa) ∧ (ga < w2.heap.size ∧ va < w2.heap.size ∧ wa < w2.heap.size) ∧ (w2.heap.size ≤ gb ∧ w2.heap.size ≤ vb ∧ w2.heap.size ≤ wb) ∧ (gb < w3.heap.size ∧ vb < w3.heap.size ∧ wb < w3.heap.size) ∧ (ga ≠ va ∧ ga ≠ wa ∧ va ≠ wa) ∧ (gb ≠ vb ∧ gb ≠ wb ∧ vb ≠ wb) from
    ⟨⟨H2.out.2.1, H2.out.2.2.1, H2.out.2.2.2.1⟩, ⟨s2.1.lt, s2.2.1.lt, s2.2.2.1.lt⟩, ⟨H3.out.2.1, H3.out.2.2.1, H3.out.2.2.2.1⟩, ⟨s3.1.lt, s3.2.1.lt, s3.2.2.1.lt⟩, ⟨blk_ne_map s2.1 s2.2.1, blk_ne_map s2.1 s2.2.2.1, s2.2.2.2⟩, ⟨blk_ne_map s3.1 s3.2.1, blk_ne_map s3.1 s3.2.2.1, s3.2.2.2⟩⟩)
  have hB13 := bstep (bstep H2.out.2.2.2.2 H3.out.2.2.2.2) hB4
  have hI0 : L1I W1 ga va wa gb vb wb w3.heap.size l 0 W4 := ⟨0, (s2.keep H3.out.2.2.2.2).keep hB4, by show Cnt (fun _ => (0, 0)) 0; exact Cnt.none, Nat.le_refl _, s3.keep hB4, hm4, hB13⟩
  have HI0 := Lib.hid hI0
  have hsz := (bstep H2.out.2.2.2.2 H3.out.2.2.2.2).size
  obtain ⟨M0, hM0⟩ : ∃ M, w3.heap.size = M := ⟨_, rfl⟩
  have hmM : w2.heap.size ≤ w3.heap.size := H3.out.2.2.2.2.size
  rw [hM0] at HI0 HD hmM
  have HMM := Lib.hid hmM
  clear s2 s3 hB13 hI0 hm4 hB4 hsz H2 H3 hmM
  go_wp2_with fail
  (try rw [hW4])
  (try rw [hM0])
  clear hW4 hM0
  go_loopw [10] (fun i wr => ∃ k : Nat, k ≤ N ∧ i = .int .i64 k ∧ L1I W1 ga va wa gb vb wb M0 l k wr) (fun i _ => N - (intOf i).toNat)
  case atStart => exact ⟨0, Nat.zero_le _, rfl, HI0.out⟩
  case round =>
    obtain ⟨k, hk, rfl, many, hsa, hcn, hmk2, hsb, hmm, hbl⟩ := hrel
    by_cases hlt : k < N
    · have hltI : (k : Int) < (N : Int) := by omega
      obtain ⟨a, ha⟩ : ∃ a, l[k]? = some a := ⟨_, List.getElem?_eq_getElem (by rw [HN.out]; exact hlt)⟩
      obtain ⟨b, o, c2, e, hcap, hb0, hbw, hok, hcell⟩ := As.at HA.out.1 ha
      injection e with e1 e2 e3
      subst e1
      have hwW := HA.out.2.2.2.2.2.2.2
      have hcl : ∀ w', Below W1.heap.size W1 w' → ∀ j, j < 10 → w'.cell? ⟨b, o + k * 10 + j, none⟩ = (acC a)[j]? := fun w' hk => act_cells hbw hcell (bstep hwW hk)
      obtain ⟨z, y, u⟩ := a
      have HP := Lib.hid (sput_any ga va wa many _ _ y hok.2.1 u hok.2.2 (by have := HA.out.2.2.1; omega) (hcn.pos y) wr.drew (show SlB wr.drew ga va wa _ _ many from hsa))
      have HF := Lib.hid (And.intro hsa (And.intro hcn (And.intro hmk2 (And.intro hsb (And.intro hmm (And.intro hbl (And.intro ha hok)))))))
      have HCL := Lib.hid hcl
      have cl1 : ∀ w', Below W1.heap.size W1 w' → w'.cell? ⟨b, o + k * 10 + 1, none⟩ = some (.int .u64 (lb y 0)) := fun w' k => hcl w' k 1 (by omega)
      have cl2 : ∀ w', Below W1.heap.size W1 w' → w'.cell? ⟨b, o + k * 10 + 2, none⟩ = some (.int .u64 (lb y 1)) := fun w' k => hcl w' k 2 (by omega)
      have cl3 : ∀ w', Below W1.heap.size W1 w' → w'.cell? ⟨b, o + k * 10 + 3, none⟩ = some (.int .u64 (lb y 2)) := fun w' k => hcl w' k 3 (by omega)
      have cl4 : ∀ w', Below W1.heap.size W1 w' → w'.cell? ⟨b, o + k * 10 + 4, none⟩ = some (.int .u64 (lb y 3)) := fun w' k => hcl w' k 4 (by omega)
      have cl5 : ∀ w', Below W1.heap.size W1 w' → w'.cell? ⟨b, o + k * 10 + 5, none⟩ = some (.int .u64 (lb u.1 0)) := fun w' k => hcl w' k 5 (by omega)
      have cl6 : ∀ w', Below W1.heap.size W1 w' → w'.cell? ⟨b, o + k * 10 + 6, none⟩ = some (.int .u64 (lb u.1 1)) := fun w' k => hcl w' k 6 (by omega)
      have cl7 : ∀ w', Below W1.heap.size W1 w' → w'.cell? ⟨b, o + k * 10 + 7, none⟩ = some (.int .u64 (lb u.1 2)) := fun w' k => hcl w' k 7 (by omega)
      have cl8 : ∀ w', Below W1.heap.size W1 w' → w'.cell? ⟨b, o + k * 10 + 8, none⟩ = some (.int .u64 (lb u.1 3)) := fun w' k => hcl w' k 8 (by omega)
      have cl9 : ∀ w', Below W1.heap.size W1 w' → w'.cell? ⟨b, o + k * 10 + 9, none⟩ = some (.int .u64 (u.2 : Nat)) := fun w' k => hcl w' k 9 (by omega)
      have h0 : Below W1.heap.size W1 wr.drew := hbl.trans (below_drew' (Below.refl _ _))
      clear hsa hcn hmk2 hsb hmm hbl hok hcell hcap hb0 hbw e2 e3 hwW ha hcl
      go_upto_region 8 with fail
      go_region_held3 (fun w' => Below W1.heap.size W1 w') (first | with_reducible assumption) (first
        | (go_at_call 16; refine (HP.out).mono ?_; rintro e zz ⟨rfl, hs, hc⟩; have hH : Below W1.heap.size W1 zz := h0.trans (hc.below h0.size (fun k hk e => by have := HD.out.1; omega)); have HZ := Lib.hid (And.intro hs (And.intro hc hH)); clear hs hc)
        | (go_at_call 15; refine (snum_any _ _).mono ?_; rintro e w6 ⟨rfl, rfl⟩)
        | fail)
      all_goals
        have hH := HZ.out.2.2
        have hbl2 : Mp zz M0 (laN (l.take k)) := HF.out.2.2.2.2.1.chg (show Chg _ wr zz from HZ.out.2.1) (fun e => by have := HD.out; have := HMM.out; omega)
        obtain ⟨Y, hrun, hY, hCY, hsY⟩ := Mp.store (show Mp zz.drew M0 (laN (l.take k)) from hbl2) und_mq y HF.out.2.2.2.2.2.2.2.2.1 u HF.out.2.2.2.2.2.2.2.2.2
        have hd0 : Below W1.heap.size W1 zz.drew := hH.trans (below_drew' (Below.refl _ _))
        have hdY : Below W1.heap.size W1 Y := hd0.trans (hCY.below hd0.size (fun k hk e => by have := HD.out; have := HMM.out; omega))
        have HYY := Lib.hid (And.intro hY (And.intro hCY (And.intro hsY hdY)))
        clear hbl2 hY hCY hsY hH
        go_upto_region 10 with fail
        go_region_held3 (fun w' => Below W1.heap.size W1 w') (first | with_reducible assumption) (fail)
        all_goals
          have g1 : IntKind.i64.wrap ((k : Int) + 1) = ((k + 1 : Nat) : Int) := IntWalk.i64_in _ (by have := HA.out.2.2.1; omega)
          clear hrun hdY hd0 h0
          go_wp2_with fail
          have hsa := HZ.out.1
          have hcn := HF.out.2.1.sput y u
          have e1 := fpN_step HF.out.2.2.2.2.2.2.1
          have e2 := laN_step HF.out.2.2.2.2.2.2.1
          rw [show lk (fun _ => none) y = (0, 0) from rfl] at hsa hcn
          simp only [kyA, vlA] at e1 e2
          have hYm := HYY.out.1
          rw [← e1] at hsa hcn
          rw [← e2] at hYm
          have hd := HD.out
          have hm := HMM.out
          have hsb : SlB Y gb vb wb (fun _ => none) (fun _ => none) 0 := (HF.out.2.2.2.1.chg (show Chg _ wr zz from HZ.out.2.1) (fun e => by omega) (fun e => by omega) (fun e => by omega)).chg (show Chg _ zz Y from HYY.out.2.1) (fun e => by omega) (fun e => by omega) (fun e => by omega)
          exact ⟨⟨k + 1, by omega, rfl, _, hsa.chg (show Chg _ zz Y from HYY.out.2.1) (fun e => by omega) (fun e => by omega) (fun e => by omega), hcn, Nat.le_trans (manyP_le _ _ _) (by have := HF.out.2.2.1; omega), hsb, hYm, HYY.out.2.2.2⟩, by simp [intOf]; omega⟩
    · obtain rfl : k = N := by omega
      have htk : l.take k = l := List.take_of_length_le (by rw [HN.out]; exact Nat.le_refl _)
      rw [htk] at hsa hcn hmm
      have hdr : l.drop k = [] := List.drop_of_length_le (by rw [HN.out]; exact Nat.le_refl _)
      have hI2 : L2I W1 ga va wa gb vb wb M0 l k wr := ⟨⟨many, hsa, hcn, by rw [HN.out]; exact hmk2⟩, ⟨0, by rw [hdr]; exact hsb, by rw [hdr]; show Cnt (fun _ => (0, 0)) 0; exact Cnt.none, by rw [HN.out]; omega⟩, hmm, hbl⟩
      have HI2 := Lib.hid hI2
      have g1 : IntKind.i64.wrap ((k : Int) - 1) = (k : Int) - 1 := IntWalk.i64_in _ (by have := HA.out.2.2.1; omega)
      clear hsa hcn hmk2 hsb hmm hbl htk hdr hI2 HI0
      go_wp2_with fail
      clear g1
      go_loopw [11] (fun i wr => ∃ j : Nat, j ≤ k ∧ i = .int .i64 ((j : Int) - 1) ∧ L2I W1 ga va wa gb vb wb M0 l j wr) (fun i _ => (intOf i + 1).toNat)
      case atStart => exact ⟨k, Nat.le_refl _, rfl, HI2.out⟩
      case round =>
        obtain ⟨j, hj, rfl, ⟨many, hsa, hcn, hmk2⟩, ⟨mb, hsb, hcb, hmb⟩, hmm, hbl⟩ := hrel
        clear HI2
        cases j with
        | succ m =>
          rw [show ((m + 1 : Nat) : Int) - 1 = (m : Int) by omega]
          have hltI : (m : Int) < (k : Int) := by omega
          have hge : (0 : Int) ≤ (m : Int) := by omega
          obtain ⟨a, ha⟩ : ∃ a, l[m]? = some a := ⟨_, List.getElem?_eq_getElem (by rw [HN.out]; omega)⟩
          obtain ⟨b, o, c2, e, hcap, hb0, hbw, hok, hcell⟩ := As.at HA.out.1 ha
          injection e with e1 e2 e3
          subst e1
          have hwW := HA.out.2.2.2.2.2.2.2
          have hcl : ∀ w', Below W1.heap.size W1 w' → ∀ j, j < 10 → w'.cell? ⟨b, o + m * 10 + j, none⟩ = (acC a)[j]? := fun w' hk => act_cells hbw hcell (bstep hwW hk)
          obtain ⟨z, y, u⟩ := a
          have hlk := (show Mp wr.drew M0 (laN l) from hmm).look und_mq y hok.2.1 false
          simp only [Bool.false_eq_true, if_false] at hlk
          have HP := Lib.hid (sput_any gb vb wb mb _ _ y hok.2.1 (lk (laN l) y) (hmm.okL y) (by have := HA.out.2.2.1; have := HN.out; omega) (hcb.pos y) wr.drew (show SlB wr.drew gb vb wb _ _ mb from hsb))
          have HF := Lib.hid (And.intro hsa (And.intro hcn (And.intro hmk2 (And.intro hcb (And.intro hmb (And.intro hmm (And.intro hbl ha)))))))
          have cl1 : ∀ w', Below W1.heap.size W1 w' → w'.cell? ⟨b, o + m * 10 + 1, none⟩ = some (.int .u64 (lb y 0)) := fun w' k => hcl w' k 1 (by omega)
          have cl2 : ∀ w', Below W1.heap.size W1 w' → w'.cell? ⟨b, o + m * 10 + 2, none⟩ = some (.int .u64 (lb y 1)) := fun w' k => hcl w' k 2 (by omega)
          have cl3 : ∀ w', Below W1.heap.size W1 w' → w'.cell? ⟨b, o + m * 10 + 3, none⟩ = some (.int .u64 (lb y 2)) := fun w' k => hcl w' k 3 (by omega)
          have cl4 : ∀ w', Below W1.heap.size W1 w' → w'.cell? ⟨b, o + m * 10 + 4, none⟩ = some (.int .u64 (lb y 3)) := fun w' k => hcl w' k 4 (by omega)
          have cl5 : ∀ w', Below W1.heap.size W1 w' → w'.cell? ⟨b, o + m * 10 + 5, none⟩ = some (.int .u64 (lb u.1 0)) := fun w' k => hcl w' k 5 (by omega)
          have cl6 : ∀ w', Below W1.heap.size W1 w' → w'.cell? ⟨b, o + m * 10 + 6, none⟩ = some (.int .u64 (lb u.1 1)) := fun w' k => hcl w' k 6 (by omega)
          have cl7 : ∀ w', Below W1.heap.size W1 w' → w'.cell? ⟨b, o + m * 10 + 7, none⟩ = some (.int .u64 (lb u.1 2)) := fun w' k => hcl w' k 7 (by omega)
          have cl8 : ∀ w', Below W1.heap.size W1 w' → w'.cell? ⟨b, o + m * 10 + 8, none⟩ = some (.int .u64 (lb u.1 3)) := fun w' k => hcl w' k 8 (by omega)
          have cl9 : ∀ w', Below W1.heap.size W1 w' → w'.cell? ⟨b, o + m * 10 + 9, none⟩ = some (.int .u64 (u.2 : Nat)) := fun w' k => hcl w' k 9 (by omega)
          have h0 : Below W1.heap.size W1 wr.drew := hbl.trans (below_drew' (Below.refl _ _))
          clear hsa hcn hmk2 hsb hcb hmb hmm hbl hok hcell hcap hb0 hbw e2 e3 hwW ha hcl
          go_upto_region 14 with fail
          go_region_held3 (fun w' => Below W1.heap.size W1 w') (first | with_reducible assumption) (first
            | (go_at_call 16; refine (HP.out).mono ?_; rintro e zz ⟨rfl, hs, hc⟩; have hH : Below W1.heap.size W1 zz := h0.trans (hc.below h0.size (fun k hk e => by have := HD.out; omega)); have HZ := Lib.hid (And.intro hs (And.intro hc hH)); clear hs hc)
            | (go_at_call 15; refine (snum_any _ _).mono ?_; rintro e w6 ⟨rfl, rfl⟩)
            | fail)
          all_goals
            have g1 : IntKind.i64.wrap ((m : Int) - 1) = (m : Int) - 1 := IntWalk.i64_in _ (by have := HA.out.2.2.1; omega)
            clear hlk h0
            go_wp2_with fail
            have hsb := HZ.out.1
            have hcb := HF.out.2.2.2.1.sput y (lk (laN l) y)
            have e1 := fbR_step (laN l) HF.out.2.2.2.2.2.2.2
            rw [show lk (fun _ => none) y = (0, 0) from rfl] at hsb hcb
            simp only [kyA] at e1
            rw [← e1] at hsb hcb
            have hd := HD.out
            have hm := HMM.out
            have hmb := HF.out.2.2.2.2.1
            have hpl := manyP_le mb (lk (laN l) y) (lk2 (fbR (laN l) (l.drop (m + 1))) (fun _ => none) y)
            have hcg : Chg (fun k => k = gb ∨ k = vb) wr zz := HZ.out.2.1
            exact ⟨⟨m, by omega, rfl, ⟨many, HF.out.1.chg hcg (fun e => by omega) (fun e => by omega) (fun e => by omega), HF.out.2.1, HF.out.2.2.1⟩, ⟨_, hsb, hcb, by omega⟩, HF.out.2.2.2.2.2.1.chg hcg (fun e => by omega), HZ.out.2.2⟩, by simp [intOf]⟩
        | zero =>
          rw [List.drop_zero, fbR_eq] at hsb hcb
          rw [show ((0 : Nat) : Int) - 1 = -1 from rfl]
          have hneg : ¬ ((0 : Int) ≤ -1) := by decide
          have hAl : AlS (fpN l) (fun _ => none) (fpN l) (fun _ => none) 18446744073709551615 := fun x => by unfold kyB; rw [smP_refl, smP_refl]; rfl
          have HAl := Lib.hid (salike_any ga va wa many gb vb wb mb 18446744073709551615 _ _ _ _ (by decide) wr.drew (show SlB wr.drew ga va wa _ _ many from hsa) (show SlB wr.drew gb vb wb _ _ mb from hsb))
          have hn := HA.out.2.2.2.1
          have hv := HA.out.2.2.2.2.1
          have HPt := Lib.hid (fun X (hX : Below wr.heap.size wr X) => sput_any ga va wa many _ _ n hn v hv (by have := HA.out.2.2.1; have := HN.out; omega) (hcn.pos n) X (hsa.keep hX))
          have nK := (HA.out.2.2.2.2.2.1.keep hbl)
          have nV := (HA.out.2.2.2.2.2.2.1.keep hbl)
          have hnv := neqVal_any v v hv hv
          rw [show (!decide (v = v)) = false by simp] at hnv
          have HF := Lib.hid (And.intro hsa (And.intro hcn (And.intro hmk2 (And.intro hmm (And.intro hbl hAl)))))
          have h0 : Below W1.heap.size W1 wr.drew := hbl.trans (below_drew' (Below.refl _ _))
          have bk0 : ∀ w', Below W1.heap.size W1 w' → w'.cell? ⟨w.heap.size, 0, none⟩ = some (.int .u64 (lb n 0)) := fun w' k => cell_of_row _ _ 0 _ _ _ (HA.out.2.2.2.2.2.1.keep k)
          have bk1 : ∀ w', Below W1.heap.size W1 w' → w'.cell? ⟨w.heap.size, 1, none⟩ = some (.int .u64 (lb n 1)) := fun w' k => cell_of_row _ _ 1 _ _ _ (HA.out.2.2.2.2.2.1.keep k)
          have bk2 : ∀ w', Below W1.heap.size W1 w' → w'.cell? ⟨w.heap.size, 2, none⟩ = some (.int .u64 (lb n 2)) := fun w' k => cell_of_row _ _ 2 _ _ _ (HA.out.2.2.2.2.2.1.keep k)
          have bk3 : ∀ w', Below W1.heap.size W1 w' → w'.cell? ⟨w.heap.size, 3, none⟩ = some (.int .u64 (lb n 3)) := fun w' k => cell_of_row _ _ 3 _ _ _ (HA.out.2.2.2.2.2.1.keep k)
          have bv0 : ∀ w', Below W1.heap.size W1 w' → w'.cell? ⟨w.heap.size + 1, 0, none⟩ = some (.int .u64 (lb v.1 0)) := fun w' k => cell_of_row _ _ 0 _ _ _ (HA.out.2.2.2.2.2.2.1.keep k)
          have bv1 : ∀ w', Below W1.heap.size W1 w' → w'.cell? ⟨w.heap.size + 1, 1, none⟩ = some (.int .u64 (lb v.1 1)) := fun w' k => cell_of_row _ _ 1 _ _ _ (HA.out.2.2.2.2.2.2.1.keep k)
          have bv2 : ∀ w', Below W1.heap.size W1 w' → w'.cell? ⟨w.heap.size + 1, 2, none⟩ = some (.int .u64 (lb v.1 2)) := fun w' k => cell_of_row _ _ 2 _ _ _ (HA.out.2.2.2.2.2.2.1.keep k)
          have bv3 : ∀ w', Below W1.heap.size W1 w' → w'.cell? ⟨w.heap.size + 1, 3, none⟩ = some (.int .u64 (lb v.1 3)) := fun w' k => cell_of_row _ _ 3 _ _ _ (HA.out.2.2.2.2.2.2.1.keep k)
          have bv4 : ∀ w', Below W1.heap.size W1 w' → w'.cell? ⟨w.heap.size + 1, 4, none⟩ = some (.int .u64 (v.2 : Nat)) := fun w' k => cell_of_row _ _ 4 _ _ _ (HA.out.2.2.2.2.2.2.1.keep k)
          clear hsa hcn hmk2 hsb hcb hmb hmm hbl hAl nK nV hn hv
          go_upto_region 16 with fail
          go_region_held3 (fun w' => Below W1.heap.size W1 w') (first | with_reducible assumption) (first
            | (go_at_call 20; refine (HAl.out).mono ?_; rintro e z1 ⟨t, rfl, ht, hz1⟩; obtain rfl : t = true := ht.2 HF.out.2.2.2.2.2; have hW1 : Below wr.heap.size wr z1 := (show Below wr.heap.size wr wr.drew from below_drew' (Below.refl _ _)).trans hz1; have hH : Below W1.heap.size W1 z1 := bstep HF.out.2.2.2.2.1 hW1; have HZ1 := Lib.hid hW1; clear ht hz1 hW1)
            | (go_at_call 16; refine (HPt.out _ (by first | exact HZ1.out | exact below_drew' HZ1.out)).mono ?_; rintro e z2 ⟨rfl, hs, hc⟩; have hH : Below W1.heap.size W1 z2 := (by assumption : Below W1.heap.size W1 _).trans (hc.below (by assumption : Below W1.heap.size W1 _).size (fun k hk e => by have := HD.out; omega)); have HZ2 := Lib.hid (And.intro hs (And.intro hc hH)); clear hs hc)
            | (go_at_call 15; refine (snum_any _ _).mono ?_; rintro e w6 ⟨rfl, rfl⟩)
            | (go_at_call 10; refine (get_put ga va wa _ _ _ n HA.out.2.2.2.1 v _ HZ2.out.1).mono ?_; rintro e z3 ⟨rfl, hz3⟩; have hW3 : Below z2.heap.size z2 z3 := (by first | exact hz3 | exact (show Below z2.heap.size z2 z2.drew from below_drew' (Below.refl _ _)).trans hz3); have hH : Below W1.heap.size W1 z3 := bstep HZ2.out.2.2 hW3; have HZ3 := Lib.hid hW3; clear hz3 hW3)
            | fail)
          all_goals
            have hd := HD.out
            have hm := HMM.out
            have hs3 : SlB z3 ga va wa (upd (fpN l) n (putO v (lk (fun _ => none) n))) (fun _ => none) _ := HZ2.out.1.keep HZ3.out
            have hm3 : Mp z3 M0 (laN l) := ((HF.out.2.2.2.1.keep HZ1.out).chg (show Chg (fun k => k = ga ∨ k = va) z1 z2 from HZ2.out.2.1) (fun e => by omega)).keep HZ3.out
            have H3 := Lib.hid (And.intro hs3 (And.intro hm3 hH))
            clear hs3 hm3 hd hm h0 HPt HAl
            go_wp2_with fail
            go_loopw [12] (fun i wx => ∃ q : Nat, q ≤ k ∧ i = .int .i64 (q : Nat) ∧ L3I z3 wx) (fun i _ => k - (intOf i).toNat)
            case atStart => exact ⟨0, Nat.zero_le _, rfl, (Below.refl _ _ : Below z3.heap.size z3 z3)⟩
            case round =>
              obtain ⟨q, hq, rfl, hbx⟩ := hrel
              have hbx : Below z3.heap.size z3 _ := hbx
              by_cases hlt : q < k
              · have hltI : (q : Int) < (k : Int) := by omega
                obtain ⟨a, ha⟩ : ∃ a, l[q]? = some a := ⟨_, List.getElem?_eq_getElem (by rw [HN.out]; exact hlt)⟩
                obtain ⟨b, o, c2, e, hcap, hb0, hbw, hok, hcell⟩ := As.at HA.out.1 ha
                injection e with e1 e2 e3
                subst e1
                have hwW := HA.out.2.2.2.2.2.2.2
                have hcl : ∀ w', Below wr.heap.size wr w' → ∀ j, j < 10 → w'.cell? ⟨b, o + q * 10 + j, none⟩ = (acC a)[j]? := fun w' hk => act_cells hbw hcell (bstep hwW (bstep H3.out.2.2 (bstep hbx hk)))
                obtain ⟨z, y, u⟩ := a
                have cl1 : ∀ w', Below wr.heap.size wr w' → w'.cell? ⟨b, o + q * 10 + 1, none⟩ = some (.int .u64 (lb y 0)) := fun w' k => hcl w' k 1 (by omega)
                have cl2 : ∀ w', Below wr.heap.size wr w' → w'.cell? ⟨b, o + q * 10 + 2, none⟩ = some (.int .u64 (lb y 1)) := fun w' k => hcl w' k 2 (by omega)
                have cl3 : ∀ w', Below wr.heap.size wr w' → w'.cell? ⟨b, o + q * 10 + 3, none⟩ = some (.int .u64 (lb y 2)) := fun w' k => hcl w' k 3 (by omega)
                have cl4 : ∀ w', Below wr.heap.size wr w' → w'.cell? ⟨b, o + q * 10 + 4, none⟩ = some (.int .u64 (lb y 3)) := fun w' k => hcl w' k 4 (by omega)
                have cl5 : ∀ w', Below wr.heap.size wr w' → w'.cell? ⟨b, o + q * 10 + 5, none⟩ = some (.int .u64 (lb u.1 0)) := fun w' k => hcl w' k 5 (by omega)
                have cl6 : ∀ w', Below wr.heap.size wr w' → w'.cell? ⟨b, o + q * 10 + 6, none⟩ = some (.int .u64 (lb u.1 1)) := fun w' k => hcl w' k 6 (by omega)
                have cl7 : ∀ w', Below wr.heap.size wr w' → w'.cell? ⟨b, o + q * 10 + 7, none⟩ = some (.int .u64 (lb u.1 2)) := fun w' k => hcl w' k 7 (by omega)
                have cl8 : ∀ w', Below wr.heap.size wr w' → w'.cell? ⟨b, o + q * 10 + 8, none⟩ = some (.int .u64 (lb u.1 3)) := fun w' k => hcl w' k 8 (by omega)
                have cl9 : ∀ w', Below wr.heap.size wr w' → w'.cell? ⟨b, o + q * 10 + 9, none⟩ = some (.int .u64 (u.2 : Nat)) := fun w' k => hcl w' k 9 (by omega)
                have kk0 : ∀ w', Below wr.heap.size wr w' → w'.cell? ⟨w.heap.size, 0, none⟩ = some (.int .u64 (lb n 0)) := fun w' hk => bk0 w' (bstep H3.out.2.2 (bstep hbx hk))
                have kk1 : ∀ w', Below wr.heap.size wr w' → w'.cell? ⟨w.heap.size, 1, none⟩ = some (.int .u64 (lb n 1)) := fun w' hk => bk1 w' (bstep H3.out.2.2 (bstep hbx hk))
                have kk2 : ∀ w', Below wr.heap.size wr w' → w'.cell? ⟨w.heap.size, 2, none⟩ = some (.int .u64 (lb n 2)) := fun w' hk => bk2 w' (bstep H3.out.2.2 (bstep hbx hk))
                have kk3 : ∀ w', Below wr.heap.size wr w' → w'.cell? ⟨w.heap.size, 3, none⟩ = some (.int .u64 (lb n 3)) := fun w' hk => bk3 w' (bstep H3.out.2.2 (bstep hbx hk))
                have h0 : Below wr.heap.size wr wr.drew := below_drew' (Below.refl _ _)
                have hlk : ∀ w', Below wr.heap.size wr w' → (Instr.lookup 41 (.map (some M0)) (W y) false).run Try.prog w' = .ok (vP (lk (laN l) y)) w' := fun w' hk => by
                  have h1 := (H3.out.2.1.keep (bstep hbx hk)).look und_mq y hok.2.1 false
                  simpa only [Bool.false_eq_true, if_false] using h1
                have hne0 := fun w' => neqWs y n hok.2.1 HA.out.2.2.2.1 w'
                have hnv0 := fun w' => neqVal_any (lk (laN l) y) (lk (laN l) y) (H3.out.2.1.okL y) (H3.out.2.1.okL y) w'
                rw [show (!decide (lk (laN l) y = lk (laN l) y)) = false by simp] at hnv0
                have HG := Lib.hid (fun X (hX : Below wr.heap.size wr X) => get_any ga va wa _ _ _ y hok.2.1 X (H3.out.1.keep (bstep hbx hX)))
                have HB := Lib.hid (And.intro hbx hok)
                have g1 : IntKind.i64.wrap ((q : Int) + 1) = ((q + 1 : Nat) : Int) := IntWalk.i64_in _ (by have := HA.out.2.2.1; omega)
                clear hbx hok hcell hcap hb0 hbw e2 e3 hwW ha hcl hnv bk0 bk1 bk2 bk3 bv0 bv1 bv2 bv3 bv4
                by_cases hyn : y = n
                · rw [show (!(y == n)) = false by simp [hyn]] at hne0
                  have f1 := cl1 wr.drew h0
                  have f2 := cl2 wr.drew h0
                  have f3 := cl3 wr.drew h0
                  have f4 := cl4 wr.drew h0
                  have i0 := kk0 wr.drew h0
                  have i1 := kk1 wr.drew h0
                  have i2 := kk2 wr.drew h0
                  have i3 := kk3 wr.drew h0
                  have f1' := cl1 wr (Below.refl _ _)
                  have f2' := cl2 wr (Below.refl _ _)
                  have f3' := cl3 wr (Below.refl _ _)
                  have f4' := cl4 wr (Below.refl _ _)
                  have i0' := kk0 wr (Below.refl _ _)
                  have i1' := kk1 wr (Below.refl _ _)
                  have i2' := kk2 wr (Below.refl _ _)
                  have i3' := kk3 wr (Below.refl _ _)
                  clear hlk hnv0 hyn cl1 cl2 cl3 cl4 cl5 cl6 cl7 cl8 cl9 kk0 kk1 kk2 kk3
                  go_upto_region 21 with fail
                  go_quiet (fail)
                  go_wp2_with fail
                  exact ⟨⟨q + 1, by omega, rfl, (by first | exact HB.out.1 | exact bstep HB.out.1 (below_drewN (Below.refl _ _) _))⟩, by simp [intOf]; omega⟩
                · rw [show (!(y == n)) = true by simp [hyn]] at hne0
                  have HG2 : ∀ X, Below wr.heap.size wr X → Calls Try.prog 10 #[.pointer (some ⟨ga, 0, none⟩), W y] X fun e w' => e = .returned (vP (lk (laN l) y)) ∧ Below X.heap.size X w' := fun X hX => by
                    have h1 := HG.out X hX
                    rw [lk2_put] at h1
                    simpa only [if_neg hyn, lk2_fp] using h1
                  have HG2 := Lib.hid HG2
                  clear HG
                  go_upto_region 21 with fail
                  go_region_held3 (fun w' => Below wr.heap.size wr w') (first | with_reducible assumption) (first
                    | (go_at_call 10; refine (HG2.out _ (by with_reducible assumption)).mono ?_; rintro e z4 ⟨rfl, hz4⟩; have hH4 : Below wr.heap.size wr z4 := bstep (by with_reducible assumption) hz4; clear hz4)
                    | fail)
                  all_goals
                    go_wp2_with fail
                    exact ⟨⟨q + 1, by omega, rfl, bstep HB.out.1 (by with_reducible assumption)⟩, by simp [intOf]; omega⟩
              · obtain rfl : q = k := by omega
                have hnl : ¬ ((q : Int) < (q : Int)) := by omega
                go_wp2_with (first | (go_at_call 6; refine (sworks_any _).mono ?_; rintro e w9 ⟨rfl, hw⟩; have H9 := Lib.hid hw; clear hw) | fail)
                go_ret
                exact ⟨rfl, bstep HA.out.2.2.2.2.2.2.2 (bstep H3.out.2.2 (bstep hbx H9.out))⟩

end Go.Proofs.Ytcfnhilcpfiocaa
