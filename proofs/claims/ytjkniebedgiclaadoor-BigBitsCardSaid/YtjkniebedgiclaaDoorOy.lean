/- big's laws: BigBits: the walk. -/
import Derived.Test.YtjkniebedgiclaaDoorQa
namespace Go.Proofs.YtjkniebedgiclaaDoor
open Go.RowKit Go.Shelf
attribute [local go_sem] Oper.semAt_some
/-- A slice that reads as a list of bits, its block below B. -/
def BlsB (B : Nat) (X : World) (v : Value) (l : List Bool) : Prop := ∃ x c, v = .slice x l.length c ∧ (l ≠ [] → ∃ g, x = some ⟨g, 0, none⟩ ∧ g < B ∧ g < X.heap.size ∧ ∀ k u, l[k]? = some u → X.cell? ⟨g, k, none⟩ = some (.bool u))
theorem Bls.blsB {X : World} {v : Value} {l : List Bool} (h : Bls X v l) : BlsB X.heap.size X v l := by
  obtain ⟨x, c, e, h⟩ := h
  exact ⟨x, c, e, fun hne => by obtain ⟨g, h1, h2, h3⟩ := h hne; exact ⟨g, h1, h2, h2, h3⟩⟩
theorem Abide.blsB {β : Type} {B : Nat} (v : Value) (l : List Bool) : Abide B (fun (_ : β) X => BlsB B X v l) := fun _ X Y row hs hg hr => by
  obtain ⟨x, c, e, h⟩ := hs
  refine ⟨x, c, e, fun hne => ?_⟩
  obtain ⟨g, h1, h2, h3, h4⟩ := h hne
  refine ⟨g, h1, h2, Nat.lt_of_lt_of_le h3 hg.size, fun k u hk => ?_⟩
  rw [cell_heap (p := ⟨g, k, none⟩) (hg.block g h3 (fun e => by have := hr g e.symm; omega))]
  exact h4 k u hk
theorem em_app (s t : List Bool) (h : em s ≠ []) : em (s ++ t) = em s ++ t := by
  unfold em at *
  induction s with
  | nil => exact (h rfl).elim
  | cons x s ih =>
    cases x
    · rw [List.cons_append, List.dropWhile_cons, if_pos (by rfl)]
      rw [List.dropWhile_cons, if_pos (by rfl)] at h ⊢
      exact ih h
    · rfl
theorem em_b8 : ∀ b : Fin 256, (em (b8 b.val)).length = l8 b.val ∧ (b.val ≠ 0 → em (b8 b.val) ≠ []) := by decide +kernel
def CI (t k : Nat) (n : Int) : Prop := t = 0 → k = 0 ∨ (k : Int) < n
def CX (c : Code) (t k : Nat) (n : Int) : Prop := c = .exit 2 ∧ t = 0 ∧ n ≤ k ∧ (k = 1 ∨ (k : Int) - 1 < n)
/-- What stands in the law's boxes all the while. -/
def EFx (n : Int) (w : World) (gw L : Nat) (xw : Option Addr) (cw : Nat) (T : List Bool) (Bw K : Nat) (x0 : Option Addr) (c0 : Nat) (r : List Nat) (Bk : Nat) (X : World) : Prop :=
  ((((Blk X w.heap.size 3 #[.int .i64 n] ∧ Blk X (w.heap.size + 1) 4 #[.bool false]) ∧ Blk X gw 34 #[.slice xw L cw]) ∧ BlsB Bw X (.slice xw L cw) T) ∧ (Blk X K 22 #[.slice x0 r.length c0] ∧ Bto Bk X (.slice x0 r.length c0) r)) ∧ Below w.heap.size w X
theorem EFx.abide {β : Type} {n : Int} {w : World} {gw L : Nat} {xw : Option Addr} {cw : Nat} {T : List Bool} {Bw K : Nat} {x0 : Option Addr} {c0 : Nat} {r : List Nat} {Bk q : Nat} (h1 : w.heap.size + 1 < q) (h2 : gw < q) (h3 : Bw ≤ q) (h4 : K < q) (h5 : Bk ≤ q) : Abide q (fun (_ : β) X => EFx n w gw L xw cw T Bw K x0 c0 r Bk X) :=
  (((((Abide.blk (by omega) _ (fun _ => _)).and (Abide.blk h1 _ (fun _ => _))).and (Abide.blk h2 _ (fun _ => _))).and ((Abide.blsB _ _).mono h3)).and ((Abide.blk h4 _ (fun _ => _)).and ((Abide.bto _ _).mono h5))).and (Abide.below (Nat.le_refl _) (by omega))
theorem EFx.alloc {n : Int} {w : World} {gw L : Nat} {xw : Option Addr} {cw : Nat} {T : List Bool} {Bw K : Nat} {x0 : Option Addr} {c0 : Nat} {r : List Nat} {Bk q : Nat} {X : World} (h : EFx n w gw L xw cw T Bw K x0 c0 r Bk X) (o : Obj) (hA : Abide q (fun (_ : List Bool) X => EFx n w gw L xw cw T Bw K x0 c0 r Bk X)) : EFx n w gw L xw cw T Bw K x0 c0 r Bk (X.alloc o) := hA.alloc (s := []) o h
/-- How many bits a number has. -/
theorem blen_em (l : List Nat) (hl : ∀ x ∈ l, x < 256) : blen l = (em (fb l)).length := by
  rw [em_fb_dz]
  have hm := dz_mem l
  have hi := dz_idem l
  unfold blen
  cases e : dz l with
  | nil => rw [if_pos rfl]; rfl
  | cons x r =>
    rw [e] at hm hi
    have hx : x < 256 := hl x (hm x (by simp))
    have hx0 : x ≠ 0 := by
      intro e0
      subst e0
      have h3 := dz_le r
      have h4 : dz (0 :: r) = dz r := rfl
      rw [h4] at hi
      have := congrArg List.length hi
      simp only [List.length_cons] at this
      omega
    obtain ⟨b1, b2⟩ := em_b8 ⟨x, hx⟩
    have h1 : fb (x :: r) = b8 x ++ fb r := rfl
    rw [if_neg (by simp), h1, em_app _ _ (b2 hx0), List.length_append, fb_len, b1]
    simp
    omega

set_option maxRecDepth 100000 in
set_option maxHeartbeats 4000000 in
set_option pp.deepTerms true in
set_option pp.maxSteps 10000000 in
theorem bits_walk (al bl : List Nat) (n : Int) (x1 x2 : Option Addr) (c1 c2 : Nat) (w : World) (h1 : al.length ≤ 150) (h2 : bl.length ≤ 150) (ha : Bto w.heap.size w (.slice x1 al.length c1) al) (hb : Bto w.heap.size w (.slice x2 bl.length c2) bl) :
    Calls Tryd.prog 4 #[.slice x1 al.length c1, .slice x2 bl.length c2, .int .i64 n] w fun e w' => e = .returned (.bool true) ∧ Below w.heap.size w w' := by
  obtain ⟨W0, hW0⟩ : ∃ W0, (w.alloc (.cells #[.int .i64 n] 3)).alloc (.cells #[.bool false] 4) = W0 := ⟨_, rfl⟩
  have hB0 : Below w.heap.size w W0 := by rw [← hW0]; exact balloc (balloc (Below.refl _ _) _) _
  have b1 : Blk W0 w.heap.size 3 #[.int .i64 n] := by rw [← hW0]; exact (Blk.new w _ _).alloc _
  have b2 : Blk W0 (w.heap.size + 1) 4 #[.bool false] := by rw [← hW0]; exact Blk.newS w _ _ _
  have hW0s : W0.heap.size = w.heap.size + 2 := by rw [← hW0]; simp
  have hR := rbits_any _ _ al W0 (ha.new hB0) (by omega)
  have hBi : ∀ Y, Below W0.heap.size W0 Y → Calls Tryd.prog 15 #[.slice x1 al.length c1] Y _ := fun Y hY => bits_any _ _ al Y ((ha.new hB0).new hY) (by omega)
  have hO1 : ∀ Y, Below W0.heap.size W0 Y → Calls Tryd.prog 16 #[.slice x1 al.length c1, .slice x2 bl.length c2] Y _ := fun Y hY => order_any _ _ _ al bl Y (by omega) (by omega) ((ha.new hB0).new hY) ((hb.new hB0).new hY)
  have hO2 : ∀ Y, Below W0.heap.size W0 Y → Calls Tryd.prog 17 #[.slice x1 al.length c1, .slice x2 bl.length c2] Y _ := fun Y hY => rorder_any _ _ _ al bl Y (by omega) (by omega) ((ha.new hB0).new hY) ((hb.new hB0).new hY)
  have hLe : ∀ Y, Below W0.heap.size W0 Y → Calls Tryd.prog 18 #[.slice x1 al.length c1] Y _ := fun Y hY => len_any _ _ al Y (by omega) ((ha.new hB0).new hY)
  have hbe := blen_em al ha.1
  obtain ⟨T, hT⟩ : ∃ T, em (fb al) = T := ⟨_, rfl⟩
  obtain ⟨L, hL⟩ : ∃ L, T.length = L := ⟨_, rfl⟩
  obtain ⟨o, ho⟩ : ∃ o, ordN (bv al) (bv bl) = o := ⟨_, rfl⟩
  rw [hT] at hR hbe
  rw [hL] at hbe
  rw [hbe] at hLe
  rw [ho] at hO1 hO2
  have hLl : L ≤ 1200 := by rw [← hL, ← hT]; have := em_len (fb al); rw [fb_len] at this; omega
  obtain ⟨r, hr⟩ : ∃ r, dz al = r := ⟨_, rfl⟩
  have hre : em (fb r) = T := by rw [← hr, ← em_fb_dz, hT]
  have hrb : ∀ x ∈ r, x < 256 := fun x hx => ha.1 x (dz_mem al x (by rw [hr]; exact hx))
  have hrl : r.length ≤ 150 := by rw [← hr]; have := dz_le al; omega
  rw [hr] at hBi
  have kl1 : ¬ (150 : Int) < (al.length : Int) := by omega
  have kl2 : ¬ (150 : Int) < (bl.length : Int) := by omega
  obtain ⟨na, hna⟩ : ∃ k, al.length = k := ⟨_, rfl⟩
  obtain ⟨nb, hnb⟩ : ∃ k, bl.length = k := ⟨_, rfl⟩
  rw [hna] at hR hBi hO1 hO2 hLe kl1 ⊢
  rw [hnb] at hO1 hO2 kl2 ⊢
  have HX := Lib.hid hW0
  have HL := Lib.hid hL
  have HB := Lib.hid (And.intro b1 (And.intro b2 (And.intro hB0 hW0s)))
  have HC := Lib.hid (And.intro hO1 (And.intro hO2 hLe))
  have HR := Lib.hid (And.intro hR hBi)
  have HM := Lib.hid (And.intro hre (And.intro hrb (And.intro hrl hLl)))
  have f1 := frozen_of_row _ _ 0 _ _ b2
  have kb := cell_of_row _ _ 0 _ _ _ b2
  clear hW0 hB0 b1 b2 hW0s hR hBi hO1 hO2 hLe hbe hT hL ho hLl hr hre hrb hrl h1 h2 ha hb hna hnb
  have hnil : ∀ (p : Value) w, (binOp .eql 37 (.func (.func 28) #[] #[p]) .nilFunc).run Tryd.prog w = .ok (.bool false) w := fun _ _ => by kernel_rfl
  refine (callsIn_wide (n := 20)).1 ?_
  refine callsIn_of_wp_marks Tryd.func4 rfl trivial ?_ rfl
  simp only [Tryd.ntmps4, List.size_toArray, List.length_nil, List.length_cons, Nat.reduceAdd, Nat.reduceSub, Array.replicate_succ, Array.replicate_zero, List.push_toArray, List.append_toArray, List.nil_append, List.cons_append]
  refine (wpIn_wide (n := 20)).2 ?_
  go_wp2_with fail
  rw [HX.out]
  refine HR.out.1.mono ?_
  rintro e w1 ⟨⟨vw, rfl, hvw⟩, hb1⟩
  obtain ⟨xw, cw, rfl⟩ := hvw.is
  rw [HL.out]
  go_wp2_with fail
  obtain ⟨W2, hW2⟩ : ∃ W2, w1.alloc (.cells #[.slice xw L cw] 34) = W2 := ⟨_, rfl⟩
  rw [hW2]
  have hb2 : Below w1.heap.size w1 W2 := by rw [← hW2]; exact balloc (Below.refl _ w1) _
  have bw : Blk W2 w1.heap.size 34 #[.slice xw L cw] := by rw [← hW2]; exact Blk.new w1 _ _
  have hb02 : Below W0.heap.size W0 W2 := hb1.trans (hb2.mono hb1.size)
  have hvB := (hvw.bls.new hb2).blsB
  rw [HL.out] at hvB
  refine (HR.out.2 W2 hb02).mono ?_
  rintro e w3 ⟨K, x0, c0, rfl, hK, hKb, hO, hb3⟩
  have hb03 := hb02.trans (hb3.mono hb02.size)
  have HW3 := Lib.hid (And.intro hb03 (And.intro (bw.keep hb3) (And.intro ((Abide.blsB (β := Unit) _ _).new (s := ()) hvB hb3) (And.intro hKb (And.intro (show Bto w3.heap.size w3 _ _ from hO.bto) (And.intro (show W2.heap.size ≤ K from hK) (And.intro hb3.size (And.intro bw.lt (And.intro hb1.size (show ∀ b o', x0 = some ⟨b, o', none⟩ → r ≠ [] → W2.heap.size ≤ b from fun b o' e hne => by
    rcases hO.2.2 with ⟨hv, hn⟩ | ⟨gg, cap, cur, hv, hbg, _⟩
    · exact (hne (List.eq_nil_of_length_eq_zero hn)).elim
    · injection hv with e1 e2 e3
      rw [e] at e1
      injection e1 with e1
      injection e1 with e1
      omega))))))))))
  have kw := cell_of_row _ _ 0 _ _ _ (bw.keep hb3)
  clear hW2 hb1 hb2 bw hb02 hvB hvw hK hKb hO hb3 hb03 f1 kb HR
  go_upto_region 5 with fail
  --REG5
  refine wp_noPanic ?_
  have hS0 : Below w3.heap.size w3 w3.drew ∧ w3.drew.cell? ⟨w1.heap.size, 0, none⟩ = some (.slice xw L cw) := ⟨⟨rfl, rfl, rfl, Nat.le_refl _, fun _ _ => rfl⟩, kw⟩
  have HS0 := Lib.hid hS0
  refine wp_region_held_drew (S := fun w' => Below w3.heap.size w3 w' ∧ w'.cell? ⟨w1.heap.size, 0, none⟩ = some (.slice xw L cw)) (by as_aux_lemma => kernel_rfl) hS0 (fun hHeld => ?_)
  simp only [List.size_toArray, List.length_cons, List.length_nil, Nat.reduceAdd, Array.replicate_succ, Array.replicate_zero, List.push_toArray, List.nil_append, List.cons_append]
  refine wpAnyH_take (i := 0) (oi := { dst := some 25, op := Op.move (Operand.tmp 0), type := 22, pos := "law.go:69", after := #[], guard := none }) (v := ?vq0) rfl (by as_aux_lemma => kernel_rfl) (by as_aux_lemma => kernel_rfl) (by as_aux_lemma => kernel_rfl) (fun _ _ _ h => h) (Or.inl ⟨by rfl, ?yq0⟩) (by assumption) ?rq0
  case yq0 => (intro w hSw; (try dsimp only at hSw); obtain ⟨hq1, hq2⟩ := hSw; go_simp <;> with_reducible rfl)
  simp only [Act.put, List.setIfInBounds_toArray, List.set_cons_zero, List.set_cons_succ]
  refine wpAnyH_take (i := 1) (oi := { dst := some 26, op := Op.move (Operand.tmp 1), type := 22, pos := "law.go:69", after := #[], guard := none }) (v := ?vq1) rfl (by as_aux_lemma => kernel_rfl) (by as_aux_lemma => kernel_rfl) (by as_aux_lemma => kernel_rfl) (fun _ _ _ h => h) (Or.inl ⟨by rfl, ?yq1⟩) (by assumption) ?rq1
  case yq1 => (intro w hSw; (try dsimp only at hSw); obtain ⟨hq1, hq2⟩ := hSw; go_simp <;> with_reducible rfl)
  simp only [Act.put, List.setIfInBounds_toArray, List.set_cons_zero, List.set_cons_succ]
  refine wpAnyH_take (i := 3) (oi := { dst := some 28, op := Op.move (Operand.tmp 0), type := 22, pos := "law.go:69", after := #[], guard := none }) (v := ?vq2) rfl (by as_aux_lemma => kernel_rfl) (by as_aux_lemma => kernel_rfl) (by as_aux_lemma => kernel_rfl) (fun _ _ _ h => h) (Or.inl ⟨by rfl, ?yq2⟩) (by assumption) ?rq2
  case yq2 => (intro w hSw; (try dsimp only at hSw); obtain ⟨hq1, hq2⟩ := hSw; go_simp <;> with_reducible rfl)
  simp only [Act.put, List.setIfInBounds_toArray, List.set_cons_zero, List.set_cons_succ]
  refine wpAnyH_take (i := 4) (oi := { dst := some 29, op := Op.move (Operand.tmp 1), type := 22, pos := "law.go:69", after := #[], guard := none }) (v := ?vq3) rfl (by as_aux_lemma => kernel_rfl) (by as_aux_lemma => kernel_rfl) (by as_aux_lemma => kernel_rfl) (fun _ _ _ h => h) (Or.inl ⟨by rfl, ?yq3⟩) (by assumption) ?rq3
  case yq3 => (intro w hSw; (try dsimp only at hSw); obtain ⟨hq1, hq2⟩ := hSw; go_simp <;> with_reducible rfl)
  simp only [Act.put, List.setIfInBounds_toArray, List.set_cons_zero, List.set_cons_succ]
  refine wpAnyH_ready (rs := [2]) (by as_aux_lemma => kernel_rfl) (by simp) ?_
  refine AllReadyH.cons (o := { dst := some 27, op := Op.call { callee := Callee.value (Operand.func 16), args := #[Operand.tmp 25, Operand.tmp 26], argTypes := #[22, 22] }, type := 3, pos := "law.go:69", after := #[{ on := 0, ground := Ground.data }, { on := 1, ground := Ground.data }], guard := none }) rfl (fun K hK => ?_) (by exact AllReadyH.nil)
  rw [if_pos (by rfl)]
  go_simp
  (go_at_call 16; refine (HC.out.1 _ (HW3.out.1.trans (HS0.out.1.mono HW3.out.1.size))).mono ?_; rintro e w4 ⟨rfl, hb4⟩)
  have hb34 := HS0.out.1.trans (hb4.mono HS0.out.1.size)
  have HB4 := Lib.hid (show Below w3.heap.size w3 w4 ∧ w4.cell? ⟨w1.heap.size, 0, none⟩ = some (.slice xw L cw) from ⟨hb34, cell_of_row _ _ 0 _ _ _ (HW3.out.2.1.keep hb34)⟩)
  clear hb34 hb4
  refine hK.out _ _ (by (try dsimp only); (first | exact HS0.out | exact HB4.out)) (fun hHeld => ?_)
  clear hK K
  simp only [List.setIfInBounds_toArray, List.set_cons_zero, List.set_cons_succ]
  refine wpAnyH_ready (rs := [5]) (by as_aux_lemma => kernel_rfl) (by simp) ?_
  refine AllReadyH.cons (o := { dst := some 30, op := Op.call { callee := Callee.value (Operand.func 17), args := #[Operand.tmp 28, Operand.tmp 29], argTypes := #[22, 22] }, type := 3, pos := "law.go:69", after := #[{ on := 3, ground := Ground.data }, { on := 4, ground := Ground.data }, { on := 2, ground := Ground.chain }], guard := none }) rfl (fun K hK => ?_) (by exact AllReadyH.nil)
  rw [if_pos (by rfl)]
  go_simp
  (go_at_call 17; refine (HC.out.2.1 _ (HW3.out.1.trans (HB4.out.1.mono HW3.out.1.size))).mono ?_; rintro e w5 ⟨rfl, rfl⟩)
  refine hK.out _ _ (by (try dsimp only); (first | exact HS0.out | exact HB4.out)) (fun hHeld => ?_)
  clear hK K
  simp only [List.setIfInBounds_toArray, List.set_cons_zero, List.set_cons_succ]
  refine wpAnyH_take (i := 6) (oi := { dst := some 31, op := Op.binOp BinOp.neq 3 (Operand.tmp 27) (Operand.tmp 30) 3, type := 4, pos := "law.go:69", after := #[{ on := 2, ground := Ground.data }, { on := 5, ground := Ground.data }], guard := none }) (v := ?vq6) rfl (by as_aux_lemma => kernel_rfl) (by as_aux_lemma => kernel_rfl) (by as_aux_lemma => kernel_rfl) (fun _ _ _ h => h) (Or.inl ⟨by rfl, ?yq6⟩) (by assumption) ?rq6
  case yq6 => (intro w hSw; (try dsimp only at hSw); obtain ⟨hq1, hq2⟩ := hSw; go_simp <;> with_reducible rfl)
  simp only [Act.put, List.setIfInBounds_toArray, List.set_cons_zero, List.set_cons_succ]
  refine wpAnyH_take (i := 7) (oi := { dst := some 32, op := Op.move (Operand.tmp 31), type := 4, pos := "law.go:69", after := #[{ on := 6, ground := Ground.data }, { on := 5, ground := Ground.chain }], guard := none }) (v := ?vq7) rfl (by as_aux_lemma => kernel_rfl) (by as_aux_lemma => kernel_rfl) (by as_aux_lemma => kernel_rfl) (fun _ _ _ h => h) (Or.inl ⟨by rfl, ?yq7⟩) (by assumption) ?rq7
  case yq7 => (intro w hSw; (try dsimp only at hSw); obtain ⟨hq1, hq2⟩ := hSw; go_simp <;> with_reducible rfl)
  simp only [Act.put, List.setIfInBounds_toArray, List.set_cons_zero, List.set_cons_succ]
  refine wpAnyH_take (i := 8) (oi := { dst := some 33, op := Op.move (Operand.tmp 0), type := 22, pos := "law.go:69", after := #[{ on := 7, ground := Ground.guard }], guard := some (7, false) }) (v := ?vq8) rfl (by as_aux_lemma => kernel_rfl) (by as_aux_lemma => kernel_rfl) (by as_aux_lemma => kernel_rfl) (fun _ _ _ h => h) (Or.inl ⟨by rfl, ?yq8⟩) (by assumption) ?rq8
  case yq8 => (intro w hSw; (try dsimp only at hSw); obtain ⟨hq1, hq2⟩ := hSw; go_simp <;> with_reducible rfl)
  simp only [Act.put, List.setIfInBounds_toArray, List.set_cons_zero, List.set_cons_succ]
  refine wpAnyH_take (i := 10) (oi := { dst := some 35, op := Op.load 34 (Operand.tmp 7), type := 34, pos := "law.go:69", after := #[{ on := 7, ground := Ground.guard }], guard := some (7, false) }) (v := ?vq9) rfl (by as_aux_lemma => kernel_rfl) (by as_aux_lemma => kernel_rfl) (by as_aux_lemma => kernel_rfl) (fun _ _ _ h => h) (Or.inl ⟨by rfl, ?yq9⟩) (by assumption) ?rq9
  case yq9 => (intro w hSw; (try dsimp only at hSw); obtain ⟨hq1, hq2⟩ := hSw; go_simp <;> with_reducible rfl)
  simp only [Act.put, List.setIfInBounds_toArray, List.set_cons_zero, List.set_cons_succ]
  refine wpAnyH_take (i := 11) (oi := { dst := some 36, op := Op.call { callee := Callee.builtin Builtin.len, args := #[Operand.tmp 35], argTypes := #[34] }, type := 3, pos := "law.go:69", after := #[{ on := 10, ground := Ground.data }, { on := 7, ground := Ground.guard }], guard := some (7, false) }) (v := ?vq10) rfl (by as_aux_lemma => kernel_rfl) (by as_aux_lemma => kernel_rfl) (by as_aux_lemma => kernel_rfl) (fun _ _ _ h => h) (Or.inl ⟨by rfl, ?yq10⟩) (by assumption) ?rq10
  case yq10 => (intro w hSw; (try dsimp only at hSw); obtain ⟨hq1, hq2⟩ := hSw; go_simp <;> with_reducible rfl)
  simp only [Act.put, List.setIfInBounds_toArray, List.set_cons_zero, List.set_cons_succ]
  refine wpAnyH_ready (rs := [9]) (by as_aux_lemma => kernel_rfl) (by simp) ?_
  refine AllReadyH.cons (o := { dst := some 34, op := Op.call { callee := Callee.value (Operand.func 18), args := #[Operand.tmp 33], argTypes := #[22] }, type := 3, pos := "law.go:69", after := #[{ on := 8, ground := Ground.data }, { on := 7, ground := Ground.chain }, { on := 7, ground := Ground.guard }], guard := some (7, false) }) rfl (fun K hK => ?_) (by exact AllReadyH.nil)
  rw [if_pos (by rfl)]
  go_simp
  (go_at_call 18; refine (HC.out.2.2 _ (HW3.out.1.trans (HB4.out.1.mono HW3.out.1.size))).mono ?_; rintro e w6 ⟨rfl, rfl⟩)
  refine hK.out _ _ (by (try dsimp only); (first | exact HS0.out | exact HB4.out)) (fun hHeld => ?_)
  clear hK K
  simp only [List.setIfInBounds_toArray, List.set_cons_zero, List.set_cons_succ]
  refine wpAnyH_take (i := 12) (oi := { dst := some 37, op := Op.binOp BinOp.neq 3 (Operand.tmp 34) (Operand.tmp 36) 3, type := 4, pos := "law.go:69", after := #[{ on := 9, ground := Ground.data }, { on := 11, ground := Ground.data }, { on := 7, ground := Ground.guard }], guard := some (7, false) }) (v := ?vq12) rfl (by as_aux_lemma => kernel_rfl) (by as_aux_lemma => kernel_rfl) (by as_aux_lemma => kernel_rfl) (fun _ _ _ h => h) (Or.inl ⟨by rfl, ?yq12⟩) (by assumption) ?rq12
  case yq12 => (intro w hSw; (try dsimp only at hSw); obtain ⟨hq1, hq2⟩ := hSw; go_simp <;> with_reducible rfl)
  simp only [Act.put, List.setIfInBounds_toArray, List.set_cons_zero, List.set_cons_succ]
  refine wpAnyH_take (i := 13) (oi := { dst := some 38, op := Op.pick (Operand.tmp 32) (Operand.const (Value.bool true)) (Operand.tmp 37), type := 4, pos := "law.go:69", after := #[{ on := 7, ground := Ground.data }, { on := 12, ground := Ground.data }], guard := none }) (v := ?vq13) rfl (by as_aux_lemma => kernel_rfl) (by as_aux_lemma => kernel_rfl) (by as_aux_lemma => kernel_rfl) (fun _ _ _ h => h) (Or.inl ⟨by rfl, ?yq13⟩) (by assumption) ?rq13
  case yq13 => (intro w hSw; (try dsimp only at hSw); obtain ⟨hq1, hq2⟩ := hSw; go_simp <;> with_reducible rfl)
  simp only [Act.put, List.setIfInBounds_toArray, List.set_cons_zero, List.set_cons_succ]
  refine wpAnyH_take (i := 14) (oi := { dst := some 39, op := Op.move (Operand.tmp 38), type := 4, pos := "law.go:69", after := #[{ on := 13, ground := Ground.data }, { on := 9, ground := Ground.chain }], guard := none }) (v := ?vq14) rfl (by as_aux_lemma => kernel_rfl) (by as_aux_lemma => kernel_rfl) (by as_aux_lemma => kernel_rfl) (fun _ _ _ h => h) (Or.inl ⟨by rfl, ?yq14⟩) (by assumption) ?rq14
  case yq14 => (intro w hSw; (try dsimp only at hSw); obtain ⟨hq1, hq2⟩ := hSw; go_simp <;> with_reducible rfl)
  simp only [Act.put, List.setIfInBounds_toArray, List.set_cons_zero, List.set_cons_succ]
  refine wpAnyH_take (i := 15) (oi := { dst := some 40, op := Op.move (Operand.tmp 8), type := 37, pos := "law.go:69", after := #[{ on := 14, ground := Ground.guard }], guard := some (14, false) }) (v := ?vq15) rfl (by as_aux_lemma => kernel_rfl) (by as_aux_lemma => kernel_rfl) (by as_aux_lemma => kernel_rfl) (fun _ _ _ h => h) (Or.inl ⟨by rfl, ?yq15⟩) (by assumption) ?rq15
  case yq15 => (intro w hSw; (try dsimp only at hSw); obtain ⟨hq1, hq2⟩ := hSw; go_simp <;> with_reducible rfl)
  simp only [Act.put, List.setIfInBounds_toArray, List.set_cons_zero, List.set_cons_succ]
  refine wpAnyH_take (i := 16) (oi := { dst := some 41, op := Op.binOp BinOp.eql 37 (Operand.tmp 40) (Operand.const Value.nilFunc) 37, type := 4, pos := "law.go:69", after := #[{ on := 15, ground := Ground.data }, { on := 14, ground := Ground.guard }], guard := some (14, false) }) (v := ?vq16) rfl (by as_aux_lemma => kernel_rfl) (by as_aux_lemma => kernel_rfl) (by as_aux_lemma => kernel_rfl) (fun _ _ _ h => h) (Or.inl ⟨by rfl, ?yq16⟩) (by assumption) ?rq16
  case yq16 => (intro w hSw; (try dsimp only at hSw); obtain ⟨hq1, hq2⟩ := hSw; go_simp <;> with_reducible rfl)
  simp only [Act.put, List.setIfInBounds_toArray, List.set_cons_zero, List.set_cons_succ]
  refine wpAnyH_take (i := 17) (oi := { dst := some 42, op := Op.pick (Operand.tmp 39) (Operand.const (Value.bool true)) (Operand.tmp 41), type := 4, pos := "law.go:69", after := #[{ on := 14, ground := Ground.data }, { on := 16, ground := Ground.data }], guard := none }) (v := ?vq17) rfl (by as_aux_lemma => kernel_rfl) (by as_aux_lemma => kernel_rfl) (by as_aux_lemma => kernel_rfl) (fun _ _ _ h => h) (Or.inl ⟨by rfl, ?yq17⟩) (by assumption) ?rq17
  case yq17 => (intro w hSw; (try dsimp only at hSw); obtain ⟨hq1, hq2⟩ := hSw; go_simp <;> with_reducible rfl)
  simp only [Act.put, List.setIfInBounds_toArray, List.set_cons_zero, List.set_cons_succ]
  refine wpAnyH_done (by as_aux_lemma => kernel_rfl) ?_ _
  simp only [noPanic]
  clear hHeld hS0
  go_wp2_with fail
  obtain ⟨hb03, bw, hvB, hKb, hrB, hK2, h23, hw12, h01, hx0⟩ := HW3.out
  have hb34 := HB4.out.1
  have h34 := hb34.size
  obtain ⟨b1, b2, hB0, hW0s⟩ := HB.out
  have hKl := hKb.lt
  have hb04 := hb03.trans (hb34.mono hb03.size)
  have hE4 : EFx n w w1.heap.size L xw cw T W2.heap.size K x0 c0 r w3.heap.size w4 := ⟨⟨⟨⟨⟨b1.keep hb04, b2.keep hb04⟩, bw.keep hb34⟩, (Abide.blsB (β := Unit) _ _).new (s := ()) hvB hb34⟩, hKb.keep hb34, hrB.new hb34⟩, hB0.trans (hb04.mono hB0.size)⟩
  have hAB : ∀ q, w4.heap.size ≤ q → Abide q (fun (_ : List Bool) X => EFx n w w1.heap.size L xw cw T W2.heap.size K x0 c0 r w3.heap.size X) := fun q hq => EFx.abide (by omega) (by omega) (by omega) (by omega) (by omega)
  have hQ0 : w.heap.size + 1 < w4.heap.size := by omega
  have bT := Blk.new w4 3 #[.int .i64 (0 : Nat)]
  have hE5 := hE4.alloc (.cells #[.int .i64 (0 : Nat)] 3) (hAB _ (Nat.le_refl _))
  have hs5 : w4.heap.size ≤ (w4.alloc (.cells #[.int .i64 (0 : Nat)] 3)).heap.size := by simp
  clear hb03 bw hvB hKb hrB hK2 h23 hw12 h01 hx0 hb34 h34 b1 b2 hB0 hW0s hKl hb04 hE4 kw HC HB HW3 HB4 HS0
  have HL2 := Lib.hid (And.intro hAB hQ0)
  clear hAB hQ0
  generalize w1.heap.size = gw at hE5 HL2 ⊢
  obtain ⟨q0, hq0⟩ : ∃ q, w4.heap.size = q := ⟨_, rfl⟩
  rw [hq0] at HL2 hs5 bT ⊢
  refine (wpIn_wide (n := 20)).1 ?_
  refine wpIn_loop_ghost_k (fun g a wr => ∃ (t : Nat) (ds : List Nat) (gT : Nat) (u10 u11 u43 u44 u45 u46 u47 u48 u49 u50 u51 u52 u53 u54 u55 u56 u57 u58 u59 u60 u61 u62 u63 u64 u65 u66 u67 u68 u69 u70 u71 u72 u73 u74 u75 u76 u77 u78 u79 u80 u81 u82 u83 u84 u85 u86 u87 u88 u89 u90 u91 u92 : Value), g + t = 2 ∧ a = { tmps := #[Value.slice x1 na c1, Value.slice x2 nb c2, Value.int IntKind.i64 n, undef, undef, Value.pointer (some { block := w.heap.size, off := 0 }), Value.pointer (some { block := w.heap.size + 1, off := 0 }), Value.pointer (some { block := gw, off := 0 }), Value.func (.func 28) #[] #[Value.pointer (some { block := K, off := 0 })], Value.pointer (some { block := gT, off := 0 }), u10, u11, Value.slice x1 na c1, Value.int IntKind.i64 (na : Nat), Value.bool false, Value.bool false, Value.slice x2 nb c2, Value.int IntKind.i64 (nb : Nat), Value.bool false, Value.bool false, undef, Value.slice x1 na c1, Value.slice xw L cw, Value.slice x1 na c1, Value.func (.func 28) #[] #[Value.pointer (some { block := K, off := 0 })], Value.slice x1 na c1, Value.slice x2 nb c2, Value.int IntKind.i64 o, Value.slice x1 na c1, Value.slice x2 nb c2, Value.int IntKind.i64 o, Value.bool false, Value.bool false, Value.slice x1 na c1, Value.int IntKind.i64 (L : Nat), Value.slice xw L cw, Value.int IntKind.i64 (L : Nat), Value.bool false, Value.bool false, Value.bool false, Value.func (.func 28) #[] #[Value.pointer (some { block := K, off := 0 })], Value.bool false, Value.bool false, u43, u44, u45, u46, u47, u48, u49, u50, u51, u52, u53, u54, u55, u56, u57, u58, u59, u60, u61, u62, u63, u64, u65, u66, u67, u68, u69, u70, u71, u72, u73, u74, u75, u76, u77, u78, u79, u80, u81, u82, u83, u84, u85, u86, u87, u88, u89, u90, u91, u92], defers := marks ds } ∧ EFx n w gw L xw cw T W2.heap.size K x0 c0 r w3.heap.size wr ∧ Blk wr gT 3 #[.int .i64 (t : Nat)] ∧ q0 ≤ gT ∧ q0 ≤ wr.heap.size ∧ ds.Nodup ∧ (∀ D ∈ ds, q0 ≤ D ∧ wr.heap[D]? = some (.deferred (some [])))) 2 ⟨0, [], _, _, _, _, _, _, _, _, _, _, _, _, _, _, _, _, _, _, _, _, _, _, _, _, _, _, _, _, _, _, _, _, _, _, _, _, _, _, _, _, _, _, _, _, _, _, _, _, _, _, _, _, _, rfl, rfl, hE5, bT, Nat.le_refl _, hs5, List.nodup_nil, fun D hD => (by cases hD)⟩ ?_
  clear hE5 hs5 bT hq0
  rintro g a wr ⟨t, ds, gT, u10, u11, u43, u44, u45, u46, u47, u48, u49, u50, u51, u52, u53, u54, u55, u56, u57, u58, u59, u60, u61, u62, u63, u64, u65, u66, u67, u68, u69, u70, u71, u72, u73, u74, u75, u76, u77, u78, u79, u80, u81, u82, u83, u84, u85, u86, u87, u88, u89, u90, u91, u92, hg, rfl, hE, hbT, hgT, hqs, hnd, hds⟩ J' K' hJ' hK'
  by_cases hlt : t < 2
  · have k0 := cell_of_row _ _ 0 _ _ _ hbT
    have g0 : (t : Int) < 2 := by omega
    gi_wp2_with fail
    obtain ⟨V, hV⟩ : ∃ V, wr.alloc (.cells #[.int .i64 0] 3) = V := ⟨_, rfl⟩
    rw [hV]
    have bN : Blk V wr.heap.size 3 #[.int .i64 0] := by rw [← hV]; exact Blk.new wr _ _
    have hEV : EFx n w gw L xw cw T W2.heap.size K x0 c0 r w3.heap.size V := by rw [← hV]; exact hE.alloc _ (HL2.out.1 _ (Nat.le_refl _))
    have bTV : Blk V gT 3 #[.int .i64 (t : Nat)] := by rw [← hV]; exact hbT.alloc _
    have hdV : ∀ D ∈ ds, V.heap[D]? = some (.deferred (some [])) := fun D hD => by rw [← hV]; exact (Below.heap_alloc wr _ D (Array.getElem?_eq_some_iff.1 (hds D hD).2).1).trans (hds D hD).2
    have hdl : ∀ D ∈ ds, D < V.heap.size := fun D hD => (Array.getElem?_eq_some_iff.1 (hdV D hD)).1
    have hVs : V.heap.size = wr.heap.size + 1 := by rw [← hV]; simp
    have hgTl := hbT.lt
    have hds' : ∀ D ∈ ds, q0 ≤ D := fun D hD => (hds D hD).1
    clear hV hE hbT hds k0
    generalize wr.heap.size = gN at bN hVs hqs hgTl ⊢
    have HH := Lib.hid (And.intro hnd (And.intro hds' (And.intro hdl (And.intro hgT (And.intro hqs (And.intro hVs hgTl))))))
    have hAT : Abide V.heap.size (fun (_ : List Bool) X => Blk X gT 3 #[.int .i64 (t : Nat)]) := Abide.blk (by omega) _ (fun _ => _)
    refine wpIn_rangeW (n := 20) (by omega) (gf := 28) (lb := #[.pointer (some ⟨K, 0, none⟩)]) rfl (enters_of Tryd.func28 (by kernel_rfl) rfl)
      (bits_seq (20 - 1) 0 K w3.heap.size x0 c0 r (by omega) (by have := HM.out.2.2.1; omega) HM.out.2.1 V (by omega)) (Below.refl _ _) (by omega) (fun _ => rfl)
      (fun (pre : List Bool) X => (((EFx n w gw L xw cw T W2.heap.size K x0 c0 r w3.heap.size X ∧ Blk X gT 3 #[.int .i64 (t : Nat)]) ∧ Blk X gN 3 #[.int .i64 (pre.length : Nat)]) ∧ ∀ D ∈ ds, X.heap[D]? = some (.deferred (some []))) ∧ CI t pre.length n)
      (fun c (pre : List Bool) X => (((EFx n w gw L xw cw T W2.heap.size K x0 c0 r w3.heap.size X ∧ Blk X gT 3 #[.int .i64 (t : Nat)]) ∧ Blk X gN 3 #[.int .i64 (pre.length : Nat)]) ∧ ∀ D ∈ ds, X.heap[D]? = some (.deferred (some []))) ∧ CX c t pre.length n)
      (((((HL2.out.1 _ (by omega)).and hAT).and (Abide.blk (by omega) _ (fun (pre : List Bool) => #[Value.int .i64 (pre.length : Nat)]))).and (def_abide ds hdl)).and (fun _ _ _ _ hs _ _ => hs))
      (fun _ => ((((HL2.out.1 _ (by omega)).and hAT).and (Abide.blk (by omega) _ (fun (pre : List Bool) => #[Value.int .i64 (pre.length : Nat)]))).and (def_abide ds hdl)).and (fun _ _ _ _ hs _ _ => hs))
      (fun pre X h => h.1.1.1.1.1.2)
      ⟨⟨⟨⟨hEV, bTV⟩, bN⟩, hdV⟩, fun _ => .inl rfl⟩
      (fun x a' _ => a' = { tmps := #[Value.slice x1 na c1, Value.slice x2 nb c2, Value.int IntKind.i64 n, undef, undef, Value.pointer (some { block := w.heap.size, off := 0 }), Value.pointer (some { block := w.heap.size + 1, off := 0 }), Value.pointer (some { block := gw, off := 0 }), Value.func (.func 28) #[] #[Value.pointer (some { block := K, off := 0 })], Value.pointer (some { block := gT, off := 0 }), Value.pointer (some { block := gN, off := 0 }), Value.bool x, Value.slice x1 na c1, Value.int IntKind.i64 (na : Nat), Value.bool false, Value.bool false, Value.slice x2 nb c2, Value.int IntKind.i64 (nb : Nat), Value.bool false, Value.bool false, undef, Value.slice x1 na c1, Value.slice xw L cw, Value.slice x1 na c1, Value.func (.func 28) #[] #[Value.pointer (some { block := K, off := 0 })], Value.slice x1 na c1, Value.slice x2 nb c2, Value.int IntKind.i64 o, Value.slice x1 na c1, Value.slice x2 nb c2, Value.int IntKind.i64 o, Value.bool false, Value.bool false, Value.slice x1 na c1, Value.int IntKind.i64 (L : Nat), Value.slice xw L cw, Value.int IntKind.i64 (L : Nat), Value.bool false, Value.bool false, Value.bool false, Value.func (.func 28) #[] #[Value.pointer (some { block := K, off := 0 })], Value.bool false, Value.bool false, Value.int IntKind.i64 (t : Nat), Value.bool true, u45, u46, Value.func (.func 28) #[] #[Value.pointer (some { block := K, off := 0 })], Value.bool x, u49, u50, u51, u52, u53, u54, u55, u56, u57, u58, u59, u60, u61, u62, u63, u64, u65, u66, u67, u68, u69, u70, u71, u72, u73, u74, u75, u76, u77, u78, u79, u80, u81, u82, u83, u84, u85, u86, u87, u88, u89, u90, u91, u92], defers := [] })
      (fun x a' _ X Y row hs hg hr => hs)
      ?assign ?body ?done ?stop
    case assign =>
      rintro l2 pre x X K2 _ hi hK2
      have HI := Lib.hid hi
      clear hi hEV bTV bN hdV hdl hds' hJ' hK'
      gi_wp2
      exact hK2 _ _ (Kept.refl _ _) (Below.refl _ _) HI.out rfl
    case body =>
      rintro l2 pre x a' X hl2 hpre _ ⟨⟨⟨⟨hE, hT2⟩, hN2⟩, hdd⟩, hcond⟩ rfl
      obtain ⟨r8, hr8⟩ := hpre
      rw [HM.out.1] at hr8
      have hTx : T[pre.length]? = some x := by rw [hr8, List.append_assoc, List.getElem?_append_right (Nat.le_refl _)]; simp
      have hkL : pre.length < L := by rw [← HL.out]; exact (List.getElem?_eq_some_iff.1 hTx).1
      have hLl := HM.out.2.2.2
      obtain ⟨xw', cw', hv, hcell⟩ := (show EFx n w gw L xw cw T W2.heap.size K x0 c0 r w3.heap.size X from hE).1.1.2
      obtain ⟨gx, hgx, _, _, hc⟩ := hcell (fun e => by rw [e] at hTx; cases hTx)
      injection hv with e1 e2 e3
      rw [← e1] at hgx
      subst hgx
      have kx := hc _ x hTx
      have hb := (show EFx n w gw L (some ⟨gx, 0, none⟩) cw T W2.heap.size K x0 c0 r w3.heap.size X from hE).1.1.1.1
      have cM := cell_of_row _ _ 0 _ _ _ hb.1
      have cW := cell_of_row _ _ 0 _ _ _ (show EFx n w gw L (some ⟨gx, 0, none⟩) cw T W2.heap.size K x0 c0 r w3.heap.size X from hE).1.1.1.2
      have cN := cell_of_row _ _ 0 _ _ _ hN2
      have fN := frozen_of_row _ _ 0 _ _ hN2
      have cT := cell_of_row _ _ 0 _ _ _ hT2
      obtain ⟨k, hk⟩ : ∃ k, pre.length = k := ⟨_, rfl⟩
      rw [hk] at cN hkL hcond kx
      have hk1 : (pre ++ [x]).length = k + 1 := by rw [List.length_append, hk]; rfl
      have w1 : IntKind.i64.wrap ((k : Int) + 1) = ((k + 1 : Nat) : Int) := IntWalk.i64_in _ (by omega)
      obtain ⟨k', hk'⟩ : ∃ k', k + 1 = k' := ⟨_, rfl⟩
      rw [hk'] at w1
      rw [hk'] at hk1
      have i1 : (k : Int) < (L : Int) := by omega
      have i2 : (0 : Int) ≤ (k : Int) := by omega
      have i3 : ¬ (L : Int) ≤ (k : Int) := by omega
      obtain ⟨Z, hZ⟩ : ∃ Z, X.setCell ⟨gN, 0, none⟩ (.int .i64 (k' : Nat)) = Z := ⟨_, rfl⟩
      have hG : X.grownBy Z (some gN) := by rw [← hZ]; exact grown_set' (grown_refl X gN) 0 _
      have hEZ := HL2.out.1 q0 (Nat.le_refl _) [] X Z (some gN) hE hG (fun r e => by cases e; exact HH.out.2.2.2.2.1)
      have hTZ := hT2.kept hG (fun e => by injection e with e; have := HH.out.2.2.2.2.2.2; omega)
      have hNZ : Blk Z gN 3 #[.int .i64 (k' : Nat)] := by rw [← hZ]; exact heap_setCell_same X gN 0 _ _ (.int .i64 (k' : Nat)) hN2
      have hdZ : ∀ D ∈ ds, Z.heap[D]? = some (.deferred (some [])) := fun D hD => (hG.block D (Array.getElem?_eq_some_iff.1 (hdd D hD)).1 (fun e => by injection e with e; have h1 := hdd D hD; rw [e, show X.heap[gN]? = _ from hN2] at h1; cases h1)).trans (hdd D hD)
      have cNZ := cell_of_row _ _ 0 _ _ _ hNZ
      have cTZ := cell_of_row _ _ 0 _ _ _ hTZ
      have cMZ := cell_of_row _ _ 0 _ _ _ (show EFx n w gw L (some ⟨gx, 0, none⟩) cw T W2.heap.size K x0 c0 r w3.heap.size Z from hEZ).1.1.1.1.1
      have hKZ : Kept V.heap.size X Z := by rw [← hZ]; exact Kept.set X (p := ⟨gN, 0, none⟩) (by show gN < _; have := HH.out.2.2.2.2.2.1; omega) _
      have hBZ : Below 0 X Z := by rw [← hZ]; exact (Below.refl _ X).setCell (p := ⟨gN, 0, none⟩) (Nat.zero_le _) _
      rw [← hZ] at cNZ cTZ cMZ
      have HZ := Lib.hid hZ
      have HR := Lib.hid (And.intro hKZ (And.intro hBZ (And.intro (And.intro (And.intro (And.intro hEZ hTZ) (show Blk Z gN 3 #[.int .i64 ((pre ++ [x]).length : Nat)] by rw [hk1]; exact hNZ)) hdZ) (And.intro hcond (And.intro hk' hk1)))))
      clear hEV bTV bN hdV hdl hds' hJ' hK' hE hT2 hN2 hdd hcond hr8 hTx hkL hLl hcell hc e1 e2 e3 hb hk hk1 hk' hG hEZ hTZ hNZ hdZ hKZ hBZ hZ hVs
      have hxx : (x != x) = false := by simp
      rcases (show t = 0 ∨ t = 1 by omega) with rfl | rfl
      · by_cases hnk : n ≤ (k' : Int)
        · have hnb : decide (n ≤ (k' : Int)) = true := decide_eq_true hnk
          gi_wp2_with fail
          rw [HZ.out]
          obtain ⟨r1, r2, r3, r4, r5, r6⟩ := HR.out
          refine ⟨r1, r3, ?_⟩
          rw [r6]
          refine ⟨rfl, rfl, hnk, ?_⟩
          rcases r4 rfl with h | h
          · exact .inl (by omega)
          · exact .inr (by omega)
        · have hnb : decide (n ≤ (k' : Int)) = false := decide_eq_false hnk
          gi_wp2_with fail
          rw [HZ.out]
          obtain ⟨r1, r2, r3, r4, r5, r6⟩ := HR.out
          refine ⟨r1, r2, r3, ?_⟩
          rw [r6]
          exact fun _ => .inr (by omega)
      · gi_wp2_with fail
        rw [HZ.out]
        obtain ⟨r1, r2, r3, r4, r5, r6⟩ := HR.out
        exact ⟨r1, r2, r3, fun h => by cases h⟩
    case done =>
      rintro D xs X hD hxs ⟨⟨⟨⟨hE, hT2⟩, hN2⟩, hdd⟩, hcond⟩ hKD
      have hxl : xs.length = L := by rw [hxs, HM.out.1]; exact HL.out
      rw [hxl] at hN2 hcond
      have hVq : q0 ≤ V.heap.size := by omega
      have cM := cell_of_row _ _ 0 _ _ _ (show EFx n w gw L xw cw T W2.heap.size K x0 c0 r w3.heap.size X from hE).1.1.1.1.1
      have cW := cell_of_row _ _ 0 _ _ _ (show EFx n w gw L xw cw T W2.heap.size K x0 c0 r w3.heap.size X from hE).1.1.1.2
      have cN := cell_of_row _ _ 0 _ _ _ hN2
      have cT := cell_of_row _ _ 0 _ _ _ hT2
      have hnd2 : (D :: ds).Nodup := List.nodup_cons.2 ⟨fun h => by have := hdl D h; omega, hnd⟩
      have hdef : ∀ E ∈ D :: ds, q0 ≤ E ∧ X.heap[E]? = some (.deferred (some [])) := fun E hE => by
        rcases List.mem_cons.1 hE with rfl | hE
        · exact ⟨by omega, hKD⟩
        · exact ⟨hds' E hE, hdd E hE⟩
      have HF := Lib.hid (And.intro hE (And.intro hnd2 hdef))
      rcases (show t = 0 ∨ t = 1 by omega) with rfl | rfl
      · have hc := hcond rfl
        obtain ⟨mx, hmx⟩ : ∃ m, max 1 n = m := ⟨_, rfl⟩
        have hmn : min (L : Int) mx = (L : Int) := by omega
        clear hcond hc hxs hxl hE hT2 hN2 hdd hKD hnd2 hdef hEV bTV bN hdV hdl hds' hVs hnd hVq
        gi_wp2_with fail
        obtain ⟨hE, hnd2, hdef⟩ := HF.out
        exact Handed.intro (g - 1) (show g - 1 < g by omega) (hJ' _ _ _ ⟨1, D :: ds, X.heap.size, _, _, _, _, _, _, _, _, _, _, _, _, _, _, _, _, _, _, _, _, _, _, _, _, _, _, _, _, _, _, _, _, _, _, _, _, _, _, _, _, _, _, _, _, _, _, _, _, _, _, _, _, by omega, rfl, hE.alloc _ (HL2.out.1 _ (Nat.le_refl _)), Blk.new X _ _, by have := HH.out.2.2.2.2.2.1; have := (Array.getElem?_eq_some_iff.1 (hdef D (by simp)).2).1; omega, by have := HH.out.2.2.2.2.2.1; have := (Array.getElem?_eq_some_iff.1 (hdef D (by simp)).2).1; rw [World.size_alloc]; omega, hnd2, fun E hE2 => ⟨(hdef E hE2).1, (Below.heap_alloc X _ E (Array.getElem?_eq_some_iff.1 (hdef E hE2).2).1).trans (hdef E hE2).2⟩⟩)
      · clear hcond hxs hxl hE hT2 hN2 hdd hKD hnd2 hdef hEV bTV bN hdV hdl hds' hVs hnd hVq
        gi_wp2_with fail
        obtain ⟨hE, hnd2, hdef⟩ := HF.out
        exact Handed.intro (g - 1) (show g - 1 < g by omega) (hJ' _ _ _ ⟨2, D :: ds, X.heap.size, _, _, _, _, _, _, _, _, _, _, _, _, _, _, _, _, _, _, _, _, _, _, _, _, _, _, _, _, _, _, _, _, _, _, _, _, _, _, _, _, _, _, _, _, _, _, _, _, _, _, _, _, by omega, rfl, hE.alloc _ (HL2.out.1 _ (Nat.le_refl _)), Blk.new X _ _, by have := HH.out.2.2.2.2.2.1; have := (Array.getElem?_eq_some_iff.1 (hdef D (by simp)).2).1; omega, by have := HH.out.2.2.2.2.2.1; have := (Array.getElem?_eq_some_iff.1 (hdef D (by simp)).2).1; rw [World.size_alloc]; omega, hnd2, fun E hE2 => ⟨(hdef E hE2).1, (Below.heap_alloc X _ E (Array.getElem?_eq_some_iff.1 (hdef E hE2).2).1).trans (hdef E hE2).2⟩⟩)
    case stop =>
      rintro D c pre X hD hSp ⟨⟨⟨⟨hE, hT2⟩, hN2⟩, hdd⟩, hcx⟩ hKD
      obtain ⟨hp1, r8, hp2⟩ := hSp
      rw [HM.out.1] at hp2
      obtain ⟨k, hk⟩ : ∃ k, pre.length = k := ⟨_, rfl⟩
      have hk1 : 1 ≤ k := by rw [← hk]; exact List.length_pos_iff.2 hp1
      have hkL : k ≤ L := by rw [← HL.out, hp2, List.length_append, hk]; omega
      rw [hk] at hN2 hcx
      have hVq : q0 ≤ V.heap.size := by omega
      have cM := cell_of_row _ _ 0 _ _ _ (show EFx n w gw L xw cw T W2.heap.size K x0 c0 r w3.heap.size X from hE).1.1.1.1.1
      have cW := cell_of_row _ _ 0 _ _ _ (show EFx n w gw L xw cw T W2.heap.size K x0 c0 r w3.heap.size X from hE).1.1.1.2
      have cN := cell_of_row _ _ 0 _ _ _ hN2
      have cT := cell_of_row _ _ 0 _ _ _ hT2
      have hnd2 : (D :: ds).Nodup := List.nodup_cons.2 ⟨fun h => by have := hdl D h; omega, hnd⟩
      have hdef : ∀ E ∈ D :: ds, q0 ≤ E ∧ X.heap[E]? = some (.deferred (some [])) := fun E hE => by
        rcases List.mem_cons.1 hE with rfl | hE
        · exact ⟨by omega, hKD⟩
        · exact ⟨hds' E hE, hdd E hE⟩
      have HF := Lib.hid (And.intro hE (And.intro hnd2 hdef))
      obtain ⟨rfl, rfl, hn1, hn2⟩ := hcx
      have hmx : max 1 n = (k : Int) := by omega
      have hmn : min (L : Int) (k : Int) = (k : Int) := by omega
      clear hn1 hn2 hp1 hp2 hk hk1 hkL hE hT2 hN2 hdd hKD hnd2 hdef hEV bTV bN hdV hdl hds' hVs hnd hVq
      gi_wp2_with fail
      obtain ⟨hE, hnd2, hdef⟩ := HF.out
      exact Handed.intro (g - 1) (show g - 1 < g by omega) (hJ' _ _ _ ⟨1, D :: ds, X.heap.size, _, _, _, _, _, _, _, _, _, _, _, _, _, _, _, _, _, _, _, _, _, _, _, _, _, _, _, _, _, _, _, _, _, _, _, _, _, _, _, _, _, _, _, _, _, _, _, _, _, _, _, _, by omega, rfl, hE.alloc _ (HL2.out.1 _ (Nat.le_refl _)), Blk.new X _ _, by have := HH.out.2.2.2.2.2.1; have := (Array.getElem?_eq_some_iff.1 (hdef D (by simp)).2).1; omega, by have := HH.out.2.2.2.2.2.1; have := (Array.getElem?_eq_some_iff.1 (hdef D (by simp)).2).1; rw [World.size_alloc]; omega, hnd2, fun E hE2 => ⟨(hdef E hE2).1, (Below.heap_alloc X _ E (Array.getElem?_eq_some_iff.1 (hdef E hE2).2).1).trans (hdef E hE2).2⟩⟩)
  · obtain rfl : t = 2 := by omega
    have k0 := cell_of_row _ _ 0 _ _ _ hbT
    have HE := Lib.hid (And.intro hE (And.intro hnd hds))
    clear hE hbT hnd hds hJ' hK'
    refine (wpIn_wide (n := 20)).2 ?_
    go_wp2_with (first | (go_at_call 8; refine (works_any _).mono ?_; rintro e X4 ⟨rfl, h4⟩; have hE4 := (HL2.out.1 _ (Nat.le_refl _)).new (s := ([] : List Bool)) HE.out.1 h4; have cR := cell_of_row _ _ 0 _ _ _ (show EFx n w gw L xw cw T W2.heap.size K x0 c0 r w3.heap.size X4 from hE4).1.1.1.1.2; have fR := frozen_of_row _ _ 0 _ _ (show EFx n w gw L xw cw T W2.heap.size K x0 c0 r w3.heap.size X4 from hE4).1.1.1.1.2; have H4 := Lib.hid (And.intro hE4 h4); clear hE4 h4) | fail)
    obtain ⟨hE0, hnd, hds⟩ := HE.out
    obtain ⟨hE4, h4⟩ := H4.out
    have hbR := (show EFx n w gw L xw cw T W2.heap.size K x0 c0 r w3.heap.size X4 from hE4).1.1.1.1.2
    have hbB := (show EFx n w gw L xw cw T W2.heap.size K x0 c0 r w3.heap.size X4 from hE4).2
    have hwq := HL2.out.2
    have hY : Blk (X4.setCell ⟨w.heap.size + 1, 0, none⟩ (.bool true)) (w.heap.size + 1) 4 #[.bool true] := heap_setCell_same X4 (w.heap.size + 1) 0 _ _ (.bool true) hbR
    have hBY : Below w.heap.size w (X4.setCell ⟨w.heap.size + 1, 0, none⟩ (.bool true)) := hbB.setCell (p := ⟨w.heap.size + 1, 0, none⟩) (by show w.heap.size ≤ w.heap.size + 1; omega) _
    have hdY : ∀ D ∈ ds, (X4.setCell ⟨w.heap.size + 1, 0, none⟩ (.bool true)).heap[D]? = some (.deferred (some [])) := fun D hD => (Below.heap_setCell X4 ⟨w.heap.size + 1, 0, none⟩ _ D (by have := (hds D hD).1; simp; omega)).trans ((h4.block D (Array.getElem?_eq_some_iff.1 (hds D hD).2).1).trans (hds D hD).2)
    exact leaves_keep (by simp) (fun X => Blk X (w.heap.size + 1) 4 #[.bool true] ∧ Below w.heap.size w X) ds _ hnd hdY (fun X D hD h => ⟨h.1.kept (grownBy_putObj' X D _) (fun e => by injection e with e; have := (hds D hD).1; omega), h.2.trans (below_put X _ (by have := (hds D hD).1; omega))⟩) ⟨hY, hBY⟩ (fun X h => ⟨.bool true, by simp [results, Tryd.results4, go_sem, cell_of_row _ _ 0 _ _ _ h.1], rfl, h.2⟩)
end Go.Proofs.YtjkniebedgiclaaDoor
