/- slot: the keys of two maps, each with what a look tells. -/
import Derived.Test.YtcfnhilcpfiocaaSti
import Derived.Test.YtcfnhilcpfiocaaHk
import Derived.Test.YtcfnhilcpfiocaaTn
import Derived.Laws.EntriesVeiled
namespace Go.Proofs.Ytcfnhilcpfiocaa
open Go.RowKit Go.Shelf Go.ChangeMaps Go.MapKept

/-- What the iterator reads: the maps' slice, and a look into them. -/
def EaB (A1 A2 s c gL b1 b2 : Nat) (f m : Nat → Option (Nat × Nat)) (X : World) : Prop := (Blk X A1 75 #[.slice (some ⟨s, 0, none⟩) 2 c] ∧ X.cell? ⟨s, 0, none⟩ = some (.map (some b1)) ∧ X.cell? ⟨s, 1, none⟩ = some (.map (some b2)) ∧ Blk X A2 40 #[.func (.func 39) #[] #[.pointer (some ⟨gL, 0, none⟩)]] ∧ Lk2 X gL b1 b2) ∧ Mp X b1 f ∧ Mp X b2 m
theorem Lk2.of {X Y : World} {g b d : Nat} (h : Lk2 X g b d) (k : ∀ i, i < X.heap.size → Y.heap[i]? = X.heap[i]?) : Lk2 Y g b d := by
  obtain ⟨s, c, h1, h2, h3⟩ := h
  exact ⟨s, c, (k _ h1.lt).trans h1, (cell_heap (k _ (World.block_lt_of_cell? X _ h2))).trans h2, (cell_heap (k _ (World.block_lt_of_cell? X _ h3))).trans h3⟩
theorem EaB.keep {A1 A2 s c gL b1 b2 : Nat} {f m : Nat → Option (Nat × Nat)} {X Y : World} (h : EaB A1 A2 s c gL b1 b2 f m X) (k : Below X.heap.size X Y) : EaB A1 A2 s c gL b1 b2 f m Y := by
  obtain ⟨⟨h1, h2, h3, h4, h5⟩, h6, h7⟩ := h
  exact ⟨⟨h1.keep k, (k.cell (p := ⟨s, 0, none⟩) (World.block_lt_of_cell? X _ h2)).trans h2, (k.cell (p := ⟨s, 1, none⟩) (World.block_lt_of_cell? X _ h3)).trans h3, h4.keep k, h5.keep k⟩, h6.keep k, h7.keep k⟩
set_option maxRecDepth 100000 in
theorem seach_any (s c b d : Nat) (f m : Nat → Option (Nat × Nat)) (w : World) (h : w.cell? ⟨s, 0, none⟩ = some (.map (some b))) (h2 : w.cell? ⟨s, 1, none⟩ = some (.map (some d))) (hf : Mp w b f) (hm : Mp w d m) :
    Calls Try.prog 45 #[.slice (some ⟨s, 0, none⟩) 2 c] w fun e w' => ∃ A1 A2 gL, e = .returned (.func (.func 52) #[] #[.pointer (some ⟨A1, 0, none⟩), .pointer (some ⟨A2, 0, none⟩)]) ∧ EaB A1 A2 s c gL b d f m w' ∧ w.heap.size ≤ A1 ∧ w.heap.size ≤ A2 ∧ Below w.heap.size w w' := by
  have hmf : ∀ (fn : Fn) (first cap : Array Value) (w : World), (Instr.makeFunc fn first cap).run Try.prog w = .ok (.func fn first cap) w := fun _ _ _ _ => rfl
  have hal := balloc (Below.refl w.heap.size w) (.cells #[.slice (some ⟨s, 0, none⟩) 2 c] 75)
  have hN := Blk.new w 75 #[.slice (some ⟨s, 0, none⟩) 2 c]
  have k1 := (hal.cell (p := ⟨s, 0, none⟩) (World.block_lt_of_cell? w _ h)).trans h
  have k2 := (hal.cell (p := ⟨s, 1, none⟩) (World.block_lt_of_cell? w _ h2)).trans h2
  have HL := Lib.hid (lookAt2 s c b d _ k1 k2)
  have HF := Lib.hid (And.intro hal (And.intro hN (And.intro k1 (And.intro k2 (And.intro (hf.keep hal) (hm.keep hal))))))
  clear hal hN k1 k2 h h2 hf hm
  go_enter Try.func45, Try.ntmps45
  go_wp2_with (first | (go_at_call 27; refine (HL.out).mono ?_; rintro e z ⟨gL, rfl, hLk, hz, _⟩; have HZ := Lib.hid (And.intro hLk hz); clear hLk hz) | fail)
  go_ret
  have hz := HZ.out.2
  have hza := balloc (Below.refl z.heap.size z) (.cells #[.func (.func 39) #[] #[.pointer (some ⟨gL, 0, none⟩)]] 40)
  have hzz := bstep hz hza
  refine ⟨_, _, gL, rfl, ⟨⟨HF.out.2.1.keep hzz, (hzz.cell (p := ⟨s, 0, none⟩) (World.block_lt_of_cell? _ _ HF.out.2.2.1)).trans HF.out.2.2.1, (hzz.cell (p := ⟨s, 1, none⟩) (World.block_lt_of_cell? _ _ HF.out.2.2.2.1)).trans HF.out.2.2.2.1, Blk.new z _ _, HZ.out.1.keep hza⟩, HF.out.2.2.2.2.1.keep hzz, HF.out.2.2.2.2.2.keep hzz⟩, Nat.le_refl _, ?_, bstep HF.out.1 hzz⟩
  have := hz.size
  rw [World.size_alloc] at this
  omega
theorem enters_each : ∀ args w, (callFunc 52 args).run Try.prog w = .ok (.enter 52 args) w := enters_of Try.func52 (by kernel_rfl) rfl
theorem Abide.grow {β : Type} {B : Nat} {J : β → World → Prop} (h : Abide B J) {s : β} {X Y : World} {r : Nat} (hs : J s X) (k : Chg (fun i => i = r) X Y) (hr : B ≤ r) : J s Y := h s X Y (some r) hs k.grown (fun _ e => by cases e; exact hr)
theorem Abide.drew {β : Type} {B : Nat} {J : β → World → Prop} (h : Abide B J) {s : β} {X : World} (hs : J s X) : J s X.drew := h s X _ none hs (grown_drew ⟨rfl, rfl, rfl, Nat.le_refl _, fun _ _ _ => rfl⟩) (fun _ e => by cases e)
def noPanicIn (Q : Exit → Act → World → Prop) : Exit → Act → World → Prop
  | .panic _, _, _ => False
  | e, a, w => Q e a w
theorem wpIn_noPanic {F : Fence} {n : Nat} {P : Program} {c : Code} {Q : Exit → Act → World → Prop} {a : Act} {w : World} (h : c.wpIn F n P (noPanicIn Q) a w) : c.wpIn F n P Q a w :=
  wpIn_mono h fun e a w hq => by cases e with | panic _ => exact hq.elim | _ => exact hq
theorem join_w {G : Prop} {R T : World → Prop} (f : (∀ W, R W → T W) → G) (r : ∀ W, R W → T W) : G := f r
/-- How a yield ends, in one way. -/
def YOut (w : World) (n₀ : Nat) (J Jx : List Nat → World → Prop) (pre : List Nat) (X : World) (b : Bool) (Y : World) : Prop := (b = true → J pre Y ∧ Kept w.heap.size X Y ∧ Below n₀ X Y) ∧ (b = false → Jx pre Y ∧ Kept w.heap.size X Y)
theorem yOut {w X : World} {n₀ : Nat} {J Jx : List Nat → World → Prop} {pre : List Nat} {e : Ending} {Y : World} (h : (e = .returned (.bool true) ∧ J pre Y ∧ Kept w.heap.size X Y ∧ Below n₀ X Y) ∨ (e = .returned (.bool false) ∧ Jx pre Y ∧ Kept w.heap.size X Y)) : ∃ b, e = .returned (.bool b) ∧ YOut w n₀ J Jx pre X b Y := by
  rcases h with ⟨h1, h2⟩ | ⟨h1, h2⟩
  · exact ⟨true, h1, fun _ => h2, fun h => (by cases h)⟩
  · exact ⟨false, h1, fun h => (by cases h), fun _ => h2⟩
/-- Between two keys of one map: the maps gone over ahead of it are covered. -/
def EaL (b R0 : Nat) (mk : Nat → Option (Nat × Nat)) (cov : List Nat → Prop) (J : List Nat → World → Prop) (w2 : World) : Prop := ∃ left c pre2, Rg w2 b R0 mk left c ∧ J pre2 w2 ∧ (∀ x v, mk x = some v → left x = false → x ∈ pre2) ∧ cov pre2 ∧ R0 + 1 ≤ w2.heap.size
/-- Which keys two maps have. -/
def hasK (f m : Nat → Option (Nat × Nat)) (n : Nat) : Prop := f n ≠ none ∨ m n ≠ none
attribute [local go_sem] Oper.semAt_some
set_option maxRecDepth 100000 in
set_option maxHeartbeats 4000000 in
theorem each1_in (n : Nat) (hn : 6 ≤ n) (L A1 A2 s c gL b1 b2 n₀ : Nat) (f m : Nat → Option (Nat × Nat)) (J Jx : List Nat → World → Prop) (w : World) (hb1 : b1 < n₀) (hb2 : b2 < n₀) (hJ : Abide w.heap.size J)
    (hBd : ∀ pre X, J pre X → EaB A1 A2 s c gL b1 b2 f m X)
    (hY : ∀ pre (x : Nat) X, (x < MM ∧ hasK f m x) → J pre X → YieldAt Fence.wide 0 Try.prog L #[W x, vP (lk2 f m x)] X fun e Y => (e = .returned (.bool true) ∧ J (pre ++ [x]) Y ∧ Kept w.heap.size X Y ∧ Below n₀ X Y) ∨ (e = .returned (.bool false) ∧ Jx (pre ++ [x]) Y ∧ Kept w.heap.size X Y))
    (h0 : J [] w) :
    CallsIn Fence.wide n Try.prog 52 #[.func (.yield L) #[] #[], .pointer (some ⟨A1, 0, none⟩), .pointer (some ⟨A2, 0, none⟩)] w fun e Y => (∃ v, e = .returned v) ∧
      ((∃ xs, (∀ k, hasK f m k → k ∈ xs) ∧ J xs Y) ∨ (∃ pre, True ∧ Jx pre Y)) := by
  obtain ⟨⟨hA1, hs0, hs1, hA2, hLk⟩, hmf, hmm⟩ := hBd _ _ h0
  have cA1 := cell_of_row _ _ 0 _ _ _ hA1
  have HJ := Lib.hid (And.intro hJ (And.intro hBd (And.intro hb1 hb2)))
  have HY := Lib.hid hY
  clear hJ hBd hb1 hb2 hA1 hs0 hs1 hA2 hLk hmf hmm hY
  refine callsIn_of_wp_marks Try.func52 rfl trivial ?_ rfl
  simp only [Try.ntmps52, List.size_toArray, List.length_cons, List.length_nil, Nat.reduceAdd, Nat.reduceSub, Array.replicate_succ, Array.replicate_zero, List.push_toArray, List.append_toArray, List.nil_append, List.cons_append]
  gi_wp2_with fail
  gi_loopw [9] (fun i wr => ∃ k : Nat, i = .int .i64 k ∧ k ≤ 2 ∧ ∃ pre, J pre wr ∧ (1 ≤ k → ∀ x, f x ≠ none → x ∈ pre) ∧ (2 ≤ k → ∀ x, m x ≠ none → x ∈ pre) ∧ w.heap.size ≤ wr.heap.size) (fun i _ => 2 - (intOf i).toNat)
  case atStart => exact ⟨0, rfl, by omega, [], h0, fun h => absurd h (by omega), fun h => absurd h (by omega), Nat.le_refl _⟩
  case round =>
    obtain ⟨k, rfl, hk, pre, hj, hc1, hc2, hsz⟩ := hrel
    rcases (show k = 0 ∨ k = 1 ∨ k = 2 by omega) with rfl | rfl | rfl
    · have hE := HJ.out.2.1 _ _ hj
      have cS : wr.cell? ⟨s, 0, none⟩ = some (.map (some b1)) := hE.1.2.1
      obtain ⟨Y, cnt, hrun, hR, hB, hs⟩ := hE.2.1.range und_mp
      have hjY := HJ.out.1.new hj hB
      have HR := Lib.hid (And.intro hR (And.intro hjY (And.intro hc1 (And.intro hsz (And.intro hB hs)))))
      clear hE hj hR hB hs hjY hc1 hc2 hsz cA1
      gi_wp2_with fail
      obtain ⟨R0, hR0⟩ : ∃ R0, wr.heap.size = R0 := ⟨_, rfl⟩
      rw [hR0] at HR ⊢
      clear hR0 hrun cS
      gi_loopw [] (fun w2 => EaL b1 R0 f (fun _ => True) J w2) (fun w2 => w2.rangeLeft b1 R0)
      case atStart => exact ⟨_, _, pre, HR.out.1, HR.out.2.1, fun x v hx hl => absurd hl (by rw [hx]; simp), trivial, by rw [HR.out.2.2.2.2.2]; exact Nat.le_refl _⟩
      case round =>
        obtain ⟨left, c2, pre2, hR, hj, hcov, hprev, hsz⟩ := hrel
        have hwR := HR.out.2.2.2.1
        rcases hR.next with ⟨hc, hdone, hrun⟩ | ⟨x, v, Y1, c3, hx, hv, hxv, hleft, hrun, hR1, hlt, hC1, hs1, hen⟩
        · have HX := Lib.hid (And.intro hj (And.intro hcov (And.intro hdone (And.intro hprev hsz))))
          clear hR hj hcov hdone hprev
          gi_wp2_with fail
          exact ⟨⟨1, by go_num, by omega, pre2, HX.out.1, fun _ x hx => by
            cases hv : f x with
            | none => exact absurd hv hx
            | some v => exact HX.out.2.1 x v hv (HX.out.2.2.1 x v hv), fun h => absurd h (by omega), by omega⟩, by simp [intOf]⟩
        · have hj1 : J pre2 Y1 := HJ.out.1.grow hj hC1 hwR
          have hal := balloc (Below.refl Y1.heap.size Y1) (.cells (Wc x) 25)
          obtain ⟨W2, hW2⟩ : ∃ W2, Y1.alloc (.cells (Wc x) 25) = W2 := ⟨_, rfl⟩
          have hN : Blk W2 Y1.heap.size 25 (Wc x) := by rw [← hW2]; exact Blk.new _ _ _
          rw [hW2] at hal
          rw [hs1] at hN
          have hj2 := HJ.out.1.new hj1 hal
          have hR2 := hR1.keep hal
          have HX := Lib.hid (And.intro hj2 (And.intro hR2 (And.intro hcov (And.intro hN (And.intro (And.intro hx hxv) (And.intro hlt (And.intro hsz (And.intro hR (And.intro hs1 hal)))))))))
          have HPV := Lib.hid hprev
          clear hR hj hcov hleft hj1 hC1 hlt hN hj2 hR1 hR2 hal hv hprev
          have HW2 := Lib.hid hW2
          clear hW2
          gi_wp2_with fail
          rw [HW2.out]
          have HD := Lib.hid (show EaB A1 A2 s c gL b1 b2 f m W2.drew ∧ J pre2 W2.drew from ⟨HJ.out.2.1 _ _ (HJ.out.1.drew HX.out.1), HJ.out.1.drew HX.out.1⟩)
          have kA := cell_of_row _ _ 0 _ _ _ HD.out.1.1.2.2.2.1
          have kN : Blk W2.drew wr.heap.size 25 (Wc x) := HX.out.2.2.2.1
          have k0 := cell_of_row _ _ 0 _ _ _ kN
          have k1 := cell_of_row _ _ 1 _ _ _ kN
          have k2 := cell_of_row _ _ 2 _ _ _ kN
          have k3 := cell_of_row _ _ 3 _ _ _ kN
          have HN := Lib.hid kN
          clear kN
          have HLK := Lib.hid (look2_at gL b1 b2 f m x HX.out.2.2.2.2.1.1 W2.drew HD.out.1.1.2.2.2.2 HD.out.1.2.1 HD.out.1.2.2)
          refine wpIn_noPanic ?_
          refine wpIn_region_any (by kernel_rfl) ?_
          obtain ⟨WD, hWD⟩ : ∃ WD, ({ W2 with drawn := W2.drawn + 1 } : World) = WD := ⟨_, rfl⟩
          have hWD' : W2.drew = WD := hWD
          rw [hWD]
          rw [hWD'] at HD HLK kA k0 k1 k2 k3 HN
          have HWD := Lib.hid hWD'
          clear hWD hWD'
          refine wpAnyIn_take (i := 0) (v := ?vqz0) rfl rfl (by kernel_rfl) (by kernel_rfl) (by kernel_rfl) (fun _ _ _ h => h) ⟨Or.inl ⟨by rfl, ?yqz0⟩, fun _ => rfl⟩ ?rqz0
          case yqz0 => (intro w; go_simp <;> with_reducible rfl)
          refine join_w (R := fun W => Below WD.heap.size WD W) (T := ?TK0) (fun key => ?ways0) ?rest0
          case ways0 =>
            refine wpAnyIn_ready (rs := [1, 2, 3]) (by kernel_rfl) (by simp) ?_
            refine AllReadyIn.cons rfl (fun K hK => ?_) (AllReadyIn.cons rfl (fun K hK => ?_) (AllReadyIn.cons rfl (fun K hK => ?_) (AllReadyIn.nil)))
            · go_simp
              refine hK _ _ ?_
              clear hK K
              refine wpAnyIn_ready (rs := [2, 3]) (by kernel_rfl) (by simp) ?_
              refine AllReadyIn.cons rfl (fun K hK => ?_) (AllReadyIn.cons rfl (fun K hK => ?_) (AllReadyIn.nil))
              · go_simp
                refine hK _ _ ?_
                clear hK K
                refine wpAnyIn_ready (rs := [3]) (by kernel_rfl) (by simp) ?_
                refine AllReadyIn.cons rfl (fun K hK => ?_) (AllReadyIn.nil)
                go_simp
                refine hK _ _ ?_
                clear hK K
                refine wpAnyIn_ready (rs := [4]) (by kernel_rfl) (by simp) ?_
                refine AllReadyIn.cons rfl (fun K hK => ?_) (AllReadyIn.nil)
                go_simp
                refine ⟨trivial, fun _ => (by omega), ?_⟩
                refine (callsIn_wide.2 HLK.out).mono ?_
                rintro e wk ⟨rfl, hz⟩
                have q0 := cell_of_row _ _ 0 _ _ _ (HN.out.keep hz)
                have q1 := cell_of_row _ _ 1 _ _ _ (HN.out.keep hz)
                have q2 := cell_of_row _ _ 2 _ _ _ (HN.out.keep hz)
                have q3 := cell_of_row _ _ 3 _ _ _ (HN.out.keep hz)
                refine hK _ _ ?_
                clear hK K
                exact key wk hz
              · go_simp
                refine hK _ _ ?_
                clear hK K
                refine wpAnyIn_ready (rs := [2]) (by kernel_rfl) (by simp) ?_
                refine AllReadyIn.cons rfl (fun K hK => ?_) (AllReadyIn.nil)
                go_simp
                refine hK _ _ ?_
                clear hK K
                refine wpAnyIn_ready (rs := [4]) (by kernel_rfl) (by simp) ?_
                refine AllReadyIn.cons rfl (fun K hK => ?_) (AllReadyIn.nil)
                go_simp
                refine ⟨trivial, fun _ => (by omega), ?_⟩
                refine (callsIn_wide.2 HLK.out).mono ?_
                rintro e wk ⟨rfl, hz⟩
                have q0 := cell_of_row _ _ 0 _ _ _ (HN.out.keep hz)
                have q1 := cell_of_row _ _ 1 _ _ _ (HN.out.keep hz)
                have q2 := cell_of_row _ _ 2 _ _ _ (HN.out.keep hz)
                have q3 := cell_of_row _ _ 3 _ _ _ (HN.out.keep hz)
                refine hK _ _ ?_
                clear hK K
                exact key wk hz
            · go_simp
              refine hK _ _ ?_
              clear hK K
              refine wpAnyIn_ready (rs := [1, 3]) (by kernel_rfl) (by simp) ?_
              refine AllReadyIn.cons rfl (fun K hK => ?_) (AllReadyIn.cons rfl (fun K hK => ?_) (AllReadyIn.nil))
              · go_simp
                refine hK _ _ ?_
                clear hK K
                refine wpAnyIn_ready (rs := [3]) (by kernel_rfl) (by simp) ?_
                refine AllReadyIn.cons rfl (fun K hK => ?_) (AllReadyIn.nil)
                go_simp
                refine hK _ _ ?_
                clear hK K
                refine wpAnyIn_ready (rs := [4]) (by kernel_rfl) (by simp) ?_
                refine AllReadyIn.cons rfl (fun K hK => ?_) (AllReadyIn.nil)
                go_simp
                refine ⟨trivial, fun _ => (by omega), ?_⟩
                refine (callsIn_wide.2 HLK.out).mono ?_
                rintro e wk ⟨rfl, hz⟩
                have q0 := cell_of_row _ _ 0 _ _ _ (HN.out.keep hz)
                have q1 := cell_of_row _ _ 1 _ _ _ (HN.out.keep hz)
                have q2 := cell_of_row _ _ 2 _ _ _ (HN.out.keep hz)
                have q3 := cell_of_row _ _ 3 _ _ _ (HN.out.keep hz)
                refine hK _ _ ?_
                clear hK K
                exact key wk hz
              · go_simp
                refine hK _ _ ?_
                clear hK K
                refine wpAnyIn_ready (rs := [1, 4]) (by kernel_rfl) (by simp) ?_
                refine AllReadyIn.cons rfl (fun K hK => ?_) (AllReadyIn.cons rfl (fun K hK => ?_) (AllReadyIn.nil))
                · go_simp
                  refine hK _ _ ?_
                  clear hK K
                  refine wpAnyIn_ready (rs := [4]) (by kernel_rfl) (by simp) ?_
                  refine AllReadyIn.cons rfl (fun K hK => ?_) (AllReadyIn.nil)
                  go_simp
                  refine ⟨trivial, fun _ => (by omega), ?_⟩
                  refine (callsIn_wide.2 HLK.out).mono ?_
                  rintro e wk ⟨rfl, hz⟩
                  have q0 := cell_of_row _ _ 0 _ _ _ (HN.out.keep hz)
                  have q1 := cell_of_row _ _ 1 _ _ _ (HN.out.keep hz)
                  have q2 := cell_of_row _ _ 2 _ _ _ (HN.out.keep hz)
                  have q3 := cell_of_row _ _ 3 _ _ _ (HN.out.keep hz)
                  refine hK _ _ ?_
                  clear hK K
                  exact key wk hz
                · go_simp
                  refine ⟨trivial, fun _ => (by omega), ?_⟩
                  refine (callsIn_wide.2 HLK.out).mono ?_
                  rintro e wk ⟨rfl, hz⟩
                  have q0 := cell_of_row _ _ 0 _ _ _ (HN.out.keep hz)
                  have q1 := cell_of_row _ _ 1 _ _ _ (HN.out.keep hz)
                  have q2 := cell_of_row _ _ 2 _ _ _ (HN.out.keep hz)
                  have q3 := cell_of_row _ _ 3 _ _ _ (HN.out.keep hz)
                  refine hK _ _ ?_
                  clear hK K
                  refine wpAnyIn_ready (rs := [1]) (by kernel_rfl) (by simp) ?_
                  refine AllReadyIn.cons rfl (fun K hK => ?_) (AllReadyIn.nil)
                  go_simp
                  refine hK _ _ ?_
                  clear hK K
                  exact key wk hz
            · go_simp
              refine hK _ _ ?_
              clear hK K
              refine wpAnyIn_ready (rs := [1, 2]) (by kernel_rfl) (by simp) ?_
              refine AllReadyIn.cons rfl (fun K hK => ?_) (AllReadyIn.cons rfl (fun K hK => ?_) (AllReadyIn.nil))
              · go_simp
                refine hK _ _ ?_
                clear hK K
                refine wpAnyIn_ready (rs := [2]) (by kernel_rfl) (by simp) ?_
                refine AllReadyIn.cons rfl (fun K hK => ?_) (AllReadyIn.nil)
                go_simp
                refine hK _ _ ?_
                clear hK K
                refine wpAnyIn_ready (rs := [4]) (by kernel_rfl) (by simp) ?_
                refine AllReadyIn.cons rfl (fun K hK => ?_) (AllReadyIn.nil)
                go_simp
                refine ⟨trivial, fun _ => (by omega), ?_⟩
                refine (callsIn_wide.2 HLK.out).mono ?_
                rintro e wk ⟨rfl, hz⟩
                have q0 := cell_of_row _ _ 0 _ _ _ (HN.out.keep hz)
                have q1 := cell_of_row _ _ 1 _ _ _ (HN.out.keep hz)
                have q2 := cell_of_row _ _ 2 _ _ _ (HN.out.keep hz)
                have q3 := cell_of_row _ _ 3 _ _ _ (HN.out.keep hz)
                refine hK _ _ ?_
                clear hK K
                exact key wk hz
              · go_simp
                refine hK _ _ ?_
                clear hK K
                refine wpAnyIn_ready (rs := [1, 4]) (by kernel_rfl) (by simp) ?_
                refine AllReadyIn.cons rfl (fun K hK => ?_) (AllReadyIn.cons rfl (fun K hK => ?_) (AllReadyIn.nil))
                · go_simp
                  refine hK _ _ ?_
                  clear hK K
                  refine wpAnyIn_ready (rs := [4]) (by kernel_rfl) (by simp) ?_
                  refine AllReadyIn.cons rfl (fun K hK => ?_) (AllReadyIn.nil)
                  go_simp
                  refine ⟨trivial, fun _ => (by omega), ?_⟩
                  refine (callsIn_wide.2 HLK.out).mono ?_
                  rintro e wk ⟨rfl, hz⟩
                  have q0 := cell_of_row _ _ 0 _ _ _ (HN.out.keep hz)
                  have q1 := cell_of_row _ _ 1 _ _ _ (HN.out.keep hz)
                  have q2 := cell_of_row _ _ 2 _ _ _ (HN.out.keep hz)
                  have q3 := cell_of_row _ _ 3 _ _ _ (HN.out.keep hz)
                  refine hK _ _ ?_
                  clear hK K
                  exact key wk hz
                · go_simp
                  refine ⟨trivial, fun _ => (by omega), ?_⟩
                  refine (callsIn_wide.2 HLK.out).mono ?_
                  rintro e wk ⟨rfl, hz⟩
                  have q0 := cell_of_row _ _ 0 _ _ _ (HN.out.keep hz)
                  have q1 := cell_of_row _ _ 1 _ _ _ (HN.out.keep hz)
                  have q2 := cell_of_row _ _ 2 _ _ _ (HN.out.keep hz)
                  have q3 := cell_of_row _ _ 3 _ _ _ (HN.out.keep hz)
                  refine hK _ _ ?_
                  clear hK K
                  refine wpAnyIn_ready (rs := [1]) (by kernel_rfl) (by simp) ?_
                  refine AllReadyIn.cons rfl (fun K hK => ?_) (AllReadyIn.nil)
                  go_simp
                  refine hK _ _ ?_
                  clear hK K
                  exact key wk hz
          case rest0 =>
            intro wk hz
            have hjk : J pre2 wk := HJ.out.1.new HD.out.2 hz
            have q0 := cell_of_row _ _ 0 _ _ _ (HN.out.keep hz)
            have q1 := cell_of_row _ _ 1 _ _ _ (HN.out.keep hz)
            have q2 := cell_of_row _ _ 2 _ _ _ (HN.out.keep hz)
            have q3 := cell_of_row _ _ 3 _ _ _ (HN.out.keep hz)
            obtain ⟨fn, tmps, assign, body, hy, hRd⟩ := YieldAt.wide (m' := n - 1) (HY.out pre2 x wk ⟨HX.out.2.2.2.2.1.1, .inl (by rw [HX.out.2.2.2.2.1.2]; simp)⟩ hjk)
            have HRD := Lib.hid hRd
            have HZ := Lib.hid hz
            clear hjk hRd hz
            refine wpAnyIn_ready (rs := [5]) (by kernel_rfl) (by simp) ?_
            refine AllReadyIn.cons rfl (fun K hK => ?_) (AllReadyIn.nil)
            go_simp
            refine ⟨fun _ => by omega, HRD.out.mono ?_⟩
            rintro e Y hye
            obtain ⟨b, rfl, hYb⟩ := yOut hye
            clear hye hy
            refine hK _ _ ?_
            clear hK K
            refine wpAnyIn_take (i := 6) (v := ?vq0r0) rfl rfl (by kernel_rfl) (by kernel_rfl) (by kernel_rfl) (fun _ _ _ h => h) ⟨Or.inl ⟨by rfl, ?yq0r0⟩, fun _ => rfl⟩ ?rq0r0
            case yq0r0 => (intro w; go_simp <;> with_reducible rfl)
            refine wpAnyIn_done (by kernel_rfl) ?_ _
            simp only [Act.put, List.getElem_toArray, List.getElem_cons_succ, List.getElem_cons_zero, List.setIfInBounds_toArray, List.set_cons_zero, List.set_cons_succ]
            simp only [noPanicIn]
            have hRz : Rg wk b1 R0 f (fun i => left i && decide (i ≠ x)) c3 := (show Rg WD b1 R0 f (fun i => left i && decide (i ≠ x)) c3 from by rw [← HWD.out]; exact HX.out.2.1).keep HZ.out
            have hlft := HX.out.2.2.2.2.2.2.2.1.left_eq
            have hw1 := HX.out.2.2.2.2.2.2.1
            have hw2 := HX.out.2.2.2.2.2.2.2.2.2.size
            have hw3 := HX.out.2.2.2.2.2.2.2.2.1
            have hw4 : WD.heap.size = W2.heap.size := by rw [← HWD.out]; rfl
            have hw5 := HZ.out.size
            have hszz : R0 + 1 ≤ wk.heap.size := by omega
            clear hw1 hw2 hw3 hw4 hw5
            cases b with
            | true =>
              obtain ⟨hjY, hkY, hbY⟩ := hYb.1 rfl
              have hRY : Rg Y b1 R0 f (fun i => left i && decide (i ≠ x)) c3 := hRz.of_blocks (hbY.block _ HJ.out.2.2.1) (hkY.2 R0 hwR (by omega))
              have HE := Lib.hid (show EaL b1 R0 f (fun _ => True) J Y ∧ Y.rangeLeft b1 R0 < wr.rangeLeft b1 R0 from ⟨⟨_, _, _, hRY, hjY, fun y v hv hl => by
                  by_cases e : y = x
                  · rw [e]; simp
                  · exact List.mem_append_left _ (HX.out.2.2.1 y v hv (by simpa [e] using hl)), trivial, Nat.le_trans hszz hkY.1⟩, by rw [hRY.left_eq, hlft]; exact HX.out.2.2.2.2.2.1⟩)
              clear hjY hkY hbY hRY hRz hYb hlft hszz q0 q1 q2 q3 k0 k1 k2 k3 kA
              gi_wp2_with fail
              exact ⟨⟨_, _, _, _, _, _, _, _, _, _, _, _, HE.out.1, rfl⟩, HE.out.2⟩
            | false =>
              have HE := Lib.hid (hYb.2 rfl).1
              clear hRz hYb hlft hszz q0 q1 q2 q3 k0 k1 k2 k3 kA
              gi_wp2_with fail
              exact ⟨_, results_none rfl _ _ _, ⟨_, rfl⟩, .inr ⟨_, trivial, HE.out⟩⟩
    · have hE := HJ.out.2.1 _ _ hj
      have cS : wr.cell? ⟨s, 1, none⟩ = some (.map (some b2)) := hE.1.2.2.1
      obtain ⟨Y, cnt, hrun, hR, hB, hs⟩ := hE.2.2.range und_mp
      have hjY := HJ.out.1.new hj hB
      have HR := Lib.hid (And.intro hR (And.intro hjY (And.intro hc1 (And.intro hsz (And.intro hB hs)))))
      clear hE hj hR hB hs hjY hc1 hc2 hsz cA1
      gi_wp2_with fail
      obtain ⟨R0, hR0⟩ : ∃ R0, wr.heap.size = R0 := ⟨_, rfl⟩
      rw [hR0] at HR ⊢
      clear hR0 hrun cS
      gi_loopw [] (fun w2 => EaL b2 R0 m (fun p => ∀ x, f x ≠ none → x ∈ p) J w2) (fun w2 => w2.rangeLeft b2 R0)
      case atStart => exact ⟨_, _, pre, HR.out.1, HR.out.2.1, fun x v hx hl => absurd hl (by rw [hx]; simp), HR.out.2.2.1 (by omega), by rw [HR.out.2.2.2.2.2]; exact Nat.le_refl _⟩
      case round =>
        obtain ⟨left, c2, pre2, hR, hj, hcov, hprev, hsz⟩ := hrel
        have hwR := HR.out.2.2.2.1
        rcases hR.next with ⟨hc, hdone, hrun⟩ | ⟨x, v, Y1, c3, hx, hv, hxv, hleft, hrun, hR1, hlt, hC1, hs1, hen⟩
        · have HX := Lib.hid (And.intro hj (And.intro hcov (And.intro hdone (And.intro hprev hsz))))
          clear hR hj hcov hdone hprev
          gi_wp2_with fail
          exact ⟨⟨2, by go_num, by omega, pre2, HX.out.1, fun _ => HX.out.2.2.2.1, fun _ x hx => by
            cases hv : m x with
            | none => exact absurd hv hx
            | some v => exact HX.out.2.1 x v hv (HX.out.2.2.1 x v hv), by omega⟩, by simp [intOf]⟩
        · have hj1 : J pre2 Y1 := HJ.out.1.grow hj hC1 hwR
          have hal := balloc (Below.refl Y1.heap.size Y1) (.cells (Wc x) 25)
          obtain ⟨W2, hW2⟩ : ∃ W2, Y1.alloc (.cells (Wc x) 25) = W2 := ⟨_, rfl⟩
          have hN : Blk W2 Y1.heap.size 25 (Wc x) := by rw [← hW2]; exact Blk.new _ _ _
          rw [hW2] at hal
          rw [hs1] at hN
          have hj2 := HJ.out.1.new hj1 hal
          have hR2 := hR1.keep hal
          have HX := Lib.hid (And.intro hj2 (And.intro hR2 (And.intro hcov (And.intro hN (And.intro (And.intro hx hxv) (And.intro hlt (And.intro hsz (And.intro hR (And.intro hs1 hal)))))))))
          have HPV := Lib.hid hprev
          clear hR hj hcov hleft hj1 hC1 hlt hN hj2 hR1 hR2 hal hv hprev
          have HW2 := Lib.hid hW2
          clear hW2
          gi_wp2_with fail
          rw [HW2.out]
          have HD := Lib.hid (show EaB A1 A2 s c gL b1 b2 f m W2.drew ∧ J pre2 W2.drew from ⟨HJ.out.2.1 _ _ (HJ.out.1.drew HX.out.1), HJ.out.1.drew HX.out.1⟩)
          have kA := cell_of_row _ _ 0 _ _ _ HD.out.1.1.2.2.2.1
          have kN : Blk W2.drew wr.heap.size 25 (Wc x) := HX.out.2.2.2.1
          have k0 := cell_of_row _ _ 0 _ _ _ kN
          have k1 := cell_of_row _ _ 1 _ _ _ kN
          have k2 := cell_of_row _ _ 2 _ _ _ kN
          have k3 := cell_of_row _ _ 3 _ _ _ kN
          have HN := Lib.hid kN
          clear kN
          have HLK := Lib.hid (look2_at gL b1 b2 f m x HX.out.2.2.2.2.1.1 W2.drew HD.out.1.1.2.2.2.2 HD.out.1.2.1 HD.out.1.2.2)
          refine wpIn_noPanic ?_
          refine wpIn_region_any (by kernel_rfl) ?_
          obtain ⟨WD, hWD⟩ : ∃ WD, ({ W2 with drawn := W2.drawn + 1 } : World) = WD := ⟨_, rfl⟩
          have hWD' : W2.drew = WD := hWD
          rw [hWD]
          rw [hWD'] at HD HLK kA k0 k1 k2 k3 HN
          have HWD := Lib.hid hWD'
          clear hWD hWD'
          refine wpAnyIn_take (i := 0) (v := ?vqz1) rfl rfl (by kernel_rfl) (by kernel_rfl) (by kernel_rfl) (fun _ _ _ h => h) ⟨Or.inl ⟨by rfl, ?yqz1⟩, fun _ => rfl⟩ ?rqz1
          case yqz1 => (intro w; go_simp <;> with_reducible rfl)
          refine join_w (R := fun W => Below WD.heap.size WD W) (T := ?TK1) (fun key => ?ways1) ?rest1
          case ways1 =>
            refine wpAnyIn_ready (rs := [1, 2, 3]) (by kernel_rfl) (by simp) ?_
            refine AllReadyIn.cons rfl (fun K hK => ?_) (AllReadyIn.cons rfl (fun K hK => ?_) (AllReadyIn.cons rfl (fun K hK => ?_) (AllReadyIn.nil)))
            · go_simp
              refine hK _ _ ?_
              clear hK K
              refine wpAnyIn_ready (rs := [2, 3]) (by kernel_rfl) (by simp) ?_
              refine AllReadyIn.cons rfl (fun K hK => ?_) (AllReadyIn.cons rfl (fun K hK => ?_) (AllReadyIn.nil))
              · go_simp
                refine hK _ _ ?_
                clear hK K
                refine wpAnyIn_ready (rs := [3]) (by kernel_rfl) (by simp) ?_
                refine AllReadyIn.cons rfl (fun K hK => ?_) (AllReadyIn.nil)
                go_simp
                refine hK _ _ ?_
                clear hK K
                refine wpAnyIn_ready (rs := [4]) (by kernel_rfl) (by simp) ?_
                refine AllReadyIn.cons rfl (fun K hK => ?_) (AllReadyIn.nil)
                go_simp
                refine ⟨trivial, fun _ => (by omega), ?_⟩
                refine (callsIn_wide.2 HLK.out).mono ?_
                rintro e wk ⟨rfl, hz⟩
                have q0 := cell_of_row _ _ 0 _ _ _ (HN.out.keep hz)
                have q1 := cell_of_row _ _ 1 _ _ _ (HN.out.keep hz)
                have q2 := cell_of_row _ _ 2 _ _ _ (HN.out.keep hz)
                have q3 := cell_of_row _ _ 3 _ _ _ (HN.out.keep hz)
                refine hK _ _ ?_
                clear hK K
                exact key wk hz
              · go_simp
                refine hK _ _ ?_
                clear hK K
                refine wpAnyIn_ready (rs := [2]) (by kernel_rfl) (by simp) ?_
                refine AllReadyIn.cons rfl (fun K hK => ?_) (AllReadyIn.nil)
                go_simp
                refine hK _ _ ?_
                clear hK K
                refine wpAnyIn_ready (rs := [4]) (by kernel_rfl) (by simp) ?_
                refine AllReadyIn.cons rfl (fun K hK => ?_) (AllReadyIn.nil)
                go_simp
                refine ⟨trivial, fun _ => (by omega), ?_⟩
                refine (callsIn_wide.2 HLK.out).mono ?_
                rintro e wk ⟨rfl, hz⟩
                have q0 := cell_of_row _ _ 0 _ _ _ (HN.out.keep hz)
                have q1 := cell_of_row _ _ 1 _ _ _ (HN.out.keep hz)
                have q2 := cell_of_row _ _ 2 _ _ _ (HN.out.keep hz)
                have q3 := cell_of_row _ _ 3 _ _ _ (HN.out.keep hz)
                refine hK _ _ ?_
                clear hK K
                exact key wk hz
            · go_simp
              refine hK _ _ ?_
              clear hK K
              refine wpAnyIn_ready (rs := [1, 3]) (by kernel_rfl) (by simp) ?_
              refine AllReadyIn.cons rfl (fun K hK => ?_) (AllReadyIn.cons rfl (fun K hK => ?_) (AllReadyIn.nil))
              · go_simp
                refine hK _ _ ?_
                clear hK K
                refine wpAnyIn_ready (rs := [3]) (by kernel_rfl) (by simp) ?_
                refine AllReadyIn.cons rfl (fun K hK => ?_) (AllReadyIn.nil)
                go_simp
                refine hK _ _ ?_
                clear hK K
                refine wpAnyIn_ready (rs := [4]) (by kernel_rfl) (by simp) ?_
                refine AllReadyIn.cons rfl (fun K hK => ?_) (AllReadyIn.nil)
                go_simp
                refine ⟨trivial, fun _ => (by omega), ?_⟩
                refine (callsIn_wide.2 HLK.out).mono ?_
                rintro e wk ⟨rfl, hz⟩
                have q0 := cell_of_row _ _ 0 _ _ _ (HN.out.keep hz)
                have q1 := cell_of_row _ _ 1 _ _ _ (HN.out.keep hz)
                have q2 := cell_of_row _ _ 2 _ _ _ (HN.out.keep hz)
                have q3 := cell_of_row _ _ 3 _ _ _ (HN.out.keep hz)
                refine hK _ _ ?_
                clear hK K
                exact key wk hz
              · go_simp
                refine hK _ _ ?_
                clear hK K
                refine wpAnyIn_ready (rs := [1, 4]) (by kernel_rfl) (by simp) ?_
                refine AllReadyIn.cons rfl (fun K hK => ?_) (AllReadyIn.cons rfl (fun K hK => ?_) (AllReadyIn.nil))
                · go_simp
                  refine hK _ _ ?_
                  clear hK K
                  refine wpAnyIn_ready (rs := [4]) (by kernel_rfl) (by simp) ?_
                  refine AllReadyIn.cons rfl (fun K hK => ?_) (AllReadyIn.nil)
                  go_simp
                  refine ⟨trivial, fun _ => (by omega), ?_⟩
                  refine (callsIn_wide.2 HLK.out).mono ?_
                  rintro e wk ⟨rfl, hz⟩
                  have q0 := cell_of_row _ _ 0 _ _ _ (HN.out.keep hz)
                  have q1 := cell_of_row _ _ 1 _ _ _ (HN.out.keep hz)
                  have q2 := cell_of_row _ _ 2 _ _ _ (HN.out.keep hz)
                  have q3 := cell_of_row _ _ 3 _ _ _ (HN.out.keep hz)
                  refine hK _ _ ?_
                  clear hK K
                  exact key wk hz
                · go_simp
                  refine ⟨trivial, fun _ => (by omega), ?_⟩
                  refine (callsIn_wide.2 HLK.out).mono ?_
                  rintro e wk ⟨rfl, hz⟩
                  have q0 := cell_of_row _ _ 0 _ _ _ (HN.out.keep hz)
                  have q1 := cell_of_row _ _ 1 _ _ _ (HN.out.keep hz)
                  have q2 := cell_of_row _ _ 2 _ _ _ (HN.out.keep hz)
                  have q3 := cell_of_row _ _ 3 _ _ _ (HN.out.keep hz)
                  refine hK _ _ ?_
                  clear hK K
                  refine wpAnyIn_ready (rs := [1]) (by kernel_rfl) (by simp) ?_
                  refine AllReadyIn.cons rfl (fun K hK => ?_) (AllReadyIn.nil)
                  go_simp
                  refine hK _ _ ?_
                  clear hK K
                  exact key wk hz
            · go_simp
              refine hK _ _ ?_
              clear hK K
              refine wpAnyIn_ready (rs := [1, 2]) (by kernel_rfl) (by simp) ?_
              refine AllReadyIn.cons rfl (fun K hK => ?_) (AllReadyIn.cons rfl (fun K hK => ?_) (AllReadyIn.nil))
              · go_simp
                refine hK _ _ ?_
                clear hK K
                refine wpAnyIn_ready (rs := [2]) (by kernel_rfl) (by simp) ?_
                refine AllReadyIn.cons rfl (fun K hK => ?_) (AllReadyIn.nil)
                go_simp
                refine hK _ _ ?_
                clear hK K
                refine wpAnyIn_ready (rs := [4]) (by kernel_rfl) (by simp) ?_
                refine AllReadyIn.cons rfl (fun K hK => ?_) (AllReadyIn.nil)
                go_simp
                refine ⟨trivial, fun _ => (by omega), ?_⟩
                refine (callsIn_wide.2 HLK.out).mono ?_
                rintro e wk ⟨rfl, hz⟩
                have q0 := cell_of_row _ _ 0 _ _ _ (HN.out.keep hz)
                have q1 := cell_of_row _ _ 1 _ _ _ (HN.out.keep hz)
                have q2 := cell_of_row _ _ 2 _ _ _ (HN.out.keep hz)
                have q3 := cell_of_row _ _ 3 _ _ _ (HN.out.keep hz)
                refine hK _ _ ?_
                clear hK K
                exact key wk hz
              · go_simp
                refine hK _ _ ?_
                clear hK K
                refine wpAnyIn_ready (rs := [1, 4]) (by kernel_rfl) (by simp) ?_
                refine AllReadyIn.cons rfl (fun K hK => ?_) (AllReadyIn.cons rfl (fun K hK => ?_) (AllReadyIn.nil))
                · go_simp
                  refine hK _ _ ?_
                  clear hK K
                  refine wpAnyIn_ready (rs := [4]) (by kernel_rfl) (by simp) ?_
                  refine AllReadyIn.cons rfl (fun K hK => ?_) (AllReadyIn.nil)
                  go_simp
                  refine ⟨trivial, fun _ => (by omega), ?_⟩
                  refine (callsIn_wide.2 HLK.out).mono ?_
                  rintro e wk ⟨rfl, hz⟩
                  have q0 := cell_of_row _ _ 0 _ _ _ (HN.out.keep hz)
                  have q1 := cell_of_row _ _ 1 _ _ _ (HN.out.keep hz)
                  have q2 := cell_of_row _ _ 2 _ _ _ (HN.out.keep hz)
                  have q3 := cell_of_row _ _ 3 _ _ _ (HN.out.keep hz)
                  refine hK _ _ ?_
                  clear hK K
                  exact key wk hz
                · go_simp
                  refine ⟨trivial, fun _ => (by omega), ?_⟩
                  refine (callsIn_wide.2 HLK.out).mono ?_
                  rintro e wk ⟨rfl, hz⟩
                  have q0 := cell_of_row _ _ 0 _ _ _ (HN.out.keep hz)
                  have q1 := cell_of_row _ _ 1 _ _ _ (HN.out.keep hz)
                  have q2 := cell_of_row _ _ 2 _ _ _ (HN.out.keep hz)
                  have q3 := cell_of_row _ _ 3 _ _ _ (HN.out.keep hz)
                  refine hK _ _ ?_
                  clear hK K
                  refine wpAnyIn_ready (rs := [1]) (by kernel_rfl) (by simp) ?_
                  refine AllReadyIn.cons rfl (fun K hK => ?_) (AllReadyIn.nil)
                  go_simp
                  refine hK _ _ ?_
                  clear hK K
                  exact key wk hz
          case rest1 =>
            intro wk hz
            have hjk : J pre2 wk := HJ.out.1.new HD.out.2 hz
            have q0 := cell_of_row _ _ 0 _ _ _ (HN.out.keep hz)
            have q1 := cell_of_row _ _ 1 _ _ _ (HN.out.keep hz)
            have q2 := cell_of_row _ _ 2 _ _ _ (HN.out.keep hz)
            have q3 := cell_of_row _ _ 3 _ _ _ (HN.out.keep hz)
            obtain ⟨fn, tmps, assign, body, hy, hRd⟩ := YieldAt.wide (m' := n - 1) (HY.out pre2 x wk ⟨HX.out.2.2.2.2.1.1, .inr (by rw [HX.out.2.2.2.2.1.2]; simp)⟩ hjk)
            have HRD := Lib.hid hRd
            have HZ := Lib.hid hz
            clear hjk hRd hz
            refine wpAnyIn_ready (rs := [5]) (by kernel_rfl) (by simp) ?_
            refine AllReadyIn.cons rfl (fun K hK => ?_) (AllReadyIn.nil)
            go_simp
            refine ⟨fun _ => by omega, HRD.out.mono ?_⟩
            rintro e Y hye
            obtain ⟨b, rfl, hYb⟩ := yOut hye
            clear hye hy
            refine hK _ _ ?_
            clear hK K
            refine wpAnyIn_take (i := 6) (v := ?vq0r1) rfl rfl (by kernel_rfl) (by kernel_rfl) (by kernel_rfl) (fun _ _ _ h => h) ⟨Or.inl ⟨by rfl, ?yq0r1⟩, fun _ => rfl⟩ ?rq0r1
            case yq0r1 => (intro w; go_simp <;> with_reducible rfl)
            refine wpAnyIn_done (by kernel_rfl) ?_ _
            simp only [Act.put, List.getElem_toArray, List.getElem_cons_succ, List.getElem_cons_zero, List.setIfInBounds_toArray, List.set_cons_zero, List.set_cons_succ]
            simp only [noPanicIn]
            have hRz : Rg wk b2 R0 m (fun i => left i && decide (i ≠ x)) c3 := (show Rg WD b2 R0 m (fun i => left i && decide (i ≠ x)) c3 from by rw [← HWD.out]; exact HX.out.2.1).keep HZ.out
            have hlft := HX.out.2.2.2.2.2.2.2.1.left_eq
            have hw1 := HX.out.2.2.2.2.2.2.1
            have hw2 := HX.out.2.2.2.2.2.2.2.2.2.size
            have hw3 := HX.out.2.2.2.2.2.2.2.2.1
            have hw4 : WD.heap.size = W2.heap.size := by rw [← HWD.out]; rfl
            have hw5 := HZ.out.size
            have hszz : R0 + 1 ≤ wk.heap.size := by omega
            clear hw1 hw2 hw3 hw4 hw5
            cases b with
            | true =>
              obtain ⟨hjY, hkY, hbY⟩ := hYb.1 rfl
              have hRY : Rg Y b2 R0 m (fun i => left i && decide (i ≠ x)) c3 := hRz.of_blocks (hbY.block _ HJ.out.2.2.2) (hkY.2 R0 hwR (by omega))
              have HE := Lib.hid (show EaL b2 R0 m (fun p => ∀ x, f x ≠ none → x ∈ p) J Y ∧ Y.rangeLeft b2 R0 < wr.rangeLeft b2 R0 from ⟨⟨_, _, _, hRY, hjY, fun y v hv hl => by
                  by_cases e : y = x
                  · rw [e]; simp
                  · exact List.mem_append_left _ (HX.out.2.2.1 y v hv (by simpa [e] using hl)), fun y hy => List.mem_append_left _ (HPV.out y hy), Nat.le_trans hszz hkY.1⟩, by rw [hRY.left_eq, hlft]; exact HX.out.2.2.2.2.2.1⟩)
              clear hjY hkY hbY hRY hRz hYb hlft hszz q0 q1 q2 q3 k0 k1 k2 k3 kA
              gi_wp2_with fail
              exact ⟨⟨_, _, _, _, _, _, _, _, _, _, _, _, HE.out.1, rfl⟩, HE.out.2⟩
            | false =>
              have HE := Lib.hid (hYb.2 rfl).1
              clear hRz hYb hlft hszz q0 q1 q2 q3 k0 k1 k2 k3 kA
              gi_wp2_with fail
              exact ⟨_, results_none rfl _ _ _, ⟨_, rfl⟩, .inr ⟨_, trivial, HE.out⟩⟩
    · have HX := Lib.hid (And.intro hj (And.intro (hc1 (by omega)) (hc2 (by omega))))
      clear hj hc1 hc2 hsz cA1
      gi_wp2_with fail
      exact ⟨_, results_none rfl _ _ _, ⟨_, rfl⟩, .inl ⟨_, fun x hx => hx.elim (HX.out.2.1 x) (HX.out.2.2 x), HX.out.1⟩⟩
/-- The keys of two maps, each as often as it may be, with what a look tells. -/
theorem each_seq2 (n : Nat) (hn : 6 ≤ n) (A1 A2 s c gL b1 b2 n₀ : Nat) (f m : Nat → Option (Nat × Nat)) (hb1 : b1 < n₀) (hb2 : b2 < n₀) (w : World) :
    SeqW (α := Nat) n Try.prog 52 #[.pointer (some ⟨A1, 0, none⟩), .pointer (some ⟨A2, 0, none⟩)] (fun x => #[W x, vP (lk2 f m x)]) n₀ (fun _ X => EaB A1 A2 s c gL b1 b2 f m X) (fun _ x => x < MM ∧ hasK f m x) (fun xs => ∀ k, hasK f m k → k ∈ xs) (fun _ => True) w :=
  fun l J Jx W _ hJ _ hBd hY h0 => each1_in n hn l A1 A2 s c gL b1 b2 n₀ f m J Jx W hb1 hb2 hJ hBd hY h0

end Go.Proofs.Ytcfnhilcpfiocaa
